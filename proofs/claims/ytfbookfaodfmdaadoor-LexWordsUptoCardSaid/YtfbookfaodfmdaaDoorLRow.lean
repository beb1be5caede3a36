import Derived.Test.YtfbookfaodfmdaaDoorRow
import Derived.Test.YtfbookfaodfmdaaDoorLF1
import Derived.Test.YtfbookfaodfmdaaDoorLC
import Derived.Test.YtfbookfaodfmdaaDoorRows
import Derived.SliceStrings
import Derived.ChangeMaps5
import Derived.ChangeSame
import Derived.ChangeVars
import Derived.JoinedOf
import Derived.RowKit
set_option linter.unusedVariables false
namespace Go.Proofs.YtfbookfaodfmdaaDoor
open Go.ChangeShapes Go.WideShapes Go.ChangeAt Go.RowKit Go.Deep

theorem Tryd.cellsI : Tryd.prog.cellsOf 3 = 1 := by kernel_rfl
theorem Tryd.cellsS : Tryd.prog.cellsOf 9 = 1 := by kernel_rfl
theorem Tryd.bytesI : Tryd.prog.bytesOf 3 = 8 := by kernel_rfl
theorem reach_num : reachBytes = 140737488351232 := by decide

section
variable {H : Type} {enc : TypeId × Value → H} {w : World} {sp : Nat → Bool} {d : DataW H} {p : List MemPlace} {A : Option Addr} {len cap : Nat}
/-- A '[]int' is opened: its cells, and its datum, as much as its size wants. -/
theorem open_iv (hd : DataW.Trod enc Tryd.prog w 0 sp true 22 (.slice A len cap) d p) :
    ∃ zs : List Int, len = zs.length ∧ Rd w w.heap.size A (iv zs) ∧ (∀ x ∈ zs, InR x) ∧ len ≤ cap ∧ cap ≤ maxLen ∧ ((len = 0 ∧ d = .nil) ∨ ∃ es rs, d = .slice es rs ∧ es.length = len) := by
  obtain ⟨fuel, hf⟩ := hd
  rcases open_ints Tryd.underlying22 Tryd.underlying3 Tryd.cellsI hf with ⟨hcs, hx⟩ | ⟨a, l, c, zs, hcs, _, hl, hm, hz, hx, hcell, hwz⟩
  · simp [Value.cells] at hcs
    obtain ⟨rfl, rfl, rfl⟩ := hcs
    exact ⟨[], rfl, Rd.nil _ _ _, by simp, Nat.le_refl _, by simp [maxLen], .inl ⟨rfl, by cases hx; rfl⟩⟩
  · simp [Value.cells] at hcs
    obtain ⟨rfl, rfl, rfl⟩ := hcs
    have hzl : len ≤ zs.length := by rw [hz]; split <;> omega
    refine ⟨zs.take len, by simp; omega, rd_of_cells ?_, ?_, hl, hm, .inr ⟨lits .i64 (zs.take len), lits .i64 (zs.drop len), by cases hx; rfl, by simp [lits]; omega⟩⟩
    · intro j u hu
      have hj : j < len := by have := (List.getElem?_eq_some_iff.1 hu).1; simp [iv] at this; omega
      rw [hcell j (by omega)]
      simp only [iv, List.getElem?_map, List.getElem?_take, hj, if_true, List.getElem?_eq_getElem (show j < zs.length by omega), Option.map_some, Option.some.injEq] at hu
      rw [← hu]
      simp [List.getD, List.getElem?_eq_getElem (show j < zs.length by omega)]
    · intro x hx
      have := bounds_i64 (hwz x (List.mem_of_mem_take hx))
      exact ⟨by omega, by omega⟩
/-- A '[]string' is opened. -/
theorem open_ss (hd : DataW.Trod enc Tryd.prog w 0 sp true 26 (.slice A len cap) d p) :
    ∃ zs : List ByteArray, len = zs.length ∧ Rd w w.heap.size A (ss zs) ∧ (∀ x ∈ zs, x.size ≤ maxLen) ∧ len ≤ cap ∧ cap ≤ maxLen ∧ ((len = 0 ∧ d = .nil) ∨ ∃ rs, d = .slice (strs zs) rs) := by
  obtain ⟨fuel, hf⟩ := hd
  rcases open_strings Tryd.underlying26 Tryd.underlying9 Tryd.cellsS hf with ⟨hcs, hx⟩ | ⟨a, l, c, zs, hcs, _, hl, hm, hz, hx, hcell, hwz⟩
  · simp [Value.cells] at hcs
    obtain ⟨rfl, rfl, rfl⟩ := hcs
    exact ⟨[], rfl, Rd.nil _ _ _, by simp, Nat.le_refl _, by simp [maxLen], .inl ⟨rfl, by cases hx; rfl⟩⟩
  · simp [Value.cells] at hcs
    obtain ⟨rfl, rfl, rfl⟩ := hcs
    have hzl : len ≤ zs.length := by rw [hz]; split <;> omega
    refine ⟨zs.take len, by simp; omega, rd_of_cells ?_, fun x hx => hwz x (List.mem_of_mem_take hx), hl, hm, .inr ⟨strs (zs.drop len), by cases hx; rfl⟩⟩
    intro j u hu
    have hj : j < len := by have := (List.getElem?_eq_some_iff.1 hu).1; simp [ss] at this; omega
    rw [hcell j (by omega)]
    simp only [ss, List.getElem?_map, List.getElem?_take, hj, if_true, List.getElem?_eq_getElem (show j < zs.length by omega), Option.map_some, Option.some.injEq] at hu
    rw [← hu]
    simp [List.getD, List.getElem?_eq_getElem (show j < zs.length by omega)]
end

/-! ### The two tables. -/
theorem int_of_trod {H : Type} {enc : TypeId × Value → H} {P : Program} {w : World} {base : Nat} {sp : Nat → Bool} {held : Bool} {fuel : Nat} {t : TypeId} {k : IntKind} {c : Value} {y : DataW H × List MemPlace}
    (ht : P.underlying t = some (.int k)) (h : DataW.trod enc P w base sp held fuel t [c] = some y) : ∃ n, c = .int k n ∧ y = (.lit (.int k n), []) := by
  cases fuel with
  | zero => simp [DataW.trod] at h
  | succ fuel =>
    cases c <;> simp [DataW.trod, ht] at h
    rename_i k' n
    obtain ⟨⟨rfl, _⟩, rfl⟩ := h
    exact ⟨n, rfl, rfl⟩
theorem mapM_get {α β : Type} (f : α → Option β) : ∀ (l : List α) (ys : List β), l.mapM f = some ys → ∀ (j : Nat) (x : α), l[j]? = some x → ∃ y, ys[j]? = some y ∧ f x = some y
  | [], ys, h, j, x, hx => by simp at hx
  | a :: r, ys, h, j, x, hx => by
    simp only [List.mapM_cons, Option.bind_eq_bind, Option.bind_eq_some_iff, Option.pure_def, Option.some.injEq] at h
    obtain ⟨y, hy, zs, hz, rfl⟩ := h
    cases j with
    | zero => simp at hx; subst hx; exact ⟨y, rfl, hy⟩
    | succ j => exact mapM_get f r zs hz j x (by simpa using hx)
/-- A table of integers that reads as listed: its cells. -/
theorem ints_of_trod {H : Type} {enc : TypeId × Value → H} {P : Program} {w : World} {base : Nat} {sp : Nat → Bool} {held : Bool} {fuel n : Nat} {t e : TypeId} {k : IntKind} {l : List Value} {ks : List Nat} {p : List MemPlace}
    (ht : P.underlying t = some (.array n e)) (he : P.underlying e = some (.int k)) (hc : P.cellsOf t = n) (hc1 : P.cellsOf e = 1) (hn : ks.length = n)
    (h : DataW.trod enc P w base sp held fuel t l = some (.agg (ks.map fun (x : Nat) => .lit (.int k (x : Int))), p)) : ∀ (j x : Nat), ks[j]? = some x → l[j]? = some (.int k (x : Int)) := by
  cases fuel with
  | zero => simp [DataW.trod] at h
  | succ fuel =>
    simp only [DataW.trod, ht, hc, hc1] at h
    split at h
    · rename_i hl
      obtain ⟨ys, hys, hag⟩ := Option.map_eq_some_iff.1 h
      have h1 : ys.map (fun x => x.fst) = ks.map fun (x : Nat) => (.lit (.int k (x : Int)) : DataW H) := by
        have := congrArg Prod.fst hag
        simpa using this
      intro j x hx
      have hj : j < n := by rw [← hn]; exact (List.getElem?_eq_some_iff.1 hx).1
      obtain ⟨y, hy, hf⟩ := mapM_get _ _ _ hys j j (by rw [List.getElem?_range hj])
      have hjl : j < l.length := by omega
      rw [Nat.mul_one, List.drop_eq_getElem_cons hjl, List.take_succ_cons, List.take_zero] at hf
      obtain ⟨m, hm, rfl⟩ := int_of_trod he hf
      have h2 := congrArg (fun q => q[j]?) h1
      simp only [List.getElem?_map, hy, hx, Option.map_some, Option.some.injEq, DataW.lit.injEq, Lit.int.injEq] at h2
      rw [List.getElem?_eq_getElem hjl, hm]
      simp at h2
      rw [h2]
    · cases h
theorem str_of_trod {H : Type} {enc : TypeId × Value → H} {P : Program} {w : World} {base : Nat} {sp : Nat → Bool} {held : Bool} {fuel : Nat} {t : TypeId} {c : Value} {y : DataW H × List MemPlace}
    (ht : P.underlying t = some .string) (h : DataW.trod enc P w base sp held fuel t [c] = some y) : ∃ s : ByteArray, c = .string s ∧ y = (.lit (.string s.data.toList), []) := by
  cases fuel with
  | zero => simp [DataW.trod] at h
  | succ fuel =>
    cases c <;> simp [DataW.trod, ht] at h
    rename_i s
    obtain ⟨_, rfl⟩ := h
    exact ⟨s, rfl, rfl⟩
/-- A table of strings that reads as listed: its cells. -/
theorem strs_of_trod {H : Type} {enc : TypeId × Value → H} {P : Program} {w : World} {base : Nat} {sp : Nat → Bool} {held : Bool} {fuel n : Nat} {t e : TypeId} {l : List Value} {ks : List (List Nat)} {p : List MemPlace}
    (ht : P.underlying t = some (.array n e)) (he : P.underlying e = some .string) (hc : P.cellsOf t = n) (hc1 : P.cellsOf e = 1) (hn : ks.length = n)
    (h : DataW.trod enc P w base sp held fuel t l = some (.agg (ks.map fun (x : List Nat) => .lit (.string (mkS x).data.toList)), p)) : ∀ (j : Nat) (x : List Nat), ks[j]? = some x → l[j]? = some (.string (mkS x)) := by
  cases fuel with
  | zero => simp [DataW.trod] at h
  | succ fuel =>
    simp only [DataW.trod, ht, hc, hc1] at h
    split at h
    · rename_i hl
      obtain ⟨ys, hys, hag⟩ := Option.map_eq_some_iff.1 h
      have h1 : ys.map (fun x => x.fst) = ks.map fun (x : List Nat) => (.lit (.string (mkS x).data.toList) : DataW H) := by
        have := congrArg Prod.fst hag
        simpa using this
      intro j x hx
      have hj : j < n := by rw [← hn]; exact (List.getElem?_eq_some_iff.1 hx).1
      obtain ⟨y, hy, hf⟩ := mapM_get _ _ _ hys j j (by rw [List.getElem?_range hj])
      have hjl : j < l.length := by omega
      rw [Nat.mul_one, List.drop_eq_getElem_cons hjl, List.take_succ_cons, List.take_zero] at hf
      obtain ⟨m, hm, rfl⟩ := str_of_trod he hf
      have h2 := congrArg (fun q => q[j]?) h1
      simp only [List.getElem?_map, hy, hx, Option.map_some, Option.some.injEq, DataW.lit.injEq, Lit.string.injEq] at h2
      rw [List.getElem?_eq_getElem hjl, hm]
      have h3 : m = mkS x := by
        apply ByteArray.ext
        exact Array.toList_inj.1 h2
      rw [h3]
    · cases h
theorem glob_kinds : Tryd.prog.globalNamed "splicery/lex.kinds" = some 0 := by kernel_rfl
theorem type_kinds : (Tryd.prog.globals[(0 : Nat)]?).map (·.type) = some 68 := by kernel_rfl
theorem glob_signs : Tryd.prog.globalNamed "splicery/lex.signs" = some 1 := by kernel_rfl
theorem type_signs : (Tryd.prog.globals[(1 : Nat)]?).map (·.type) = some 70 := by kernel_rfl
theorem cells_126 : Tryd.prog.cellsOf 68 = 126 := by kernel_rfl
theorem cells_18 : Tryd.prog.cellsOf 70 = 18 := by kernel_rfl
set_option maxRecDepth 100000 in
theorem laid_kinds_eq {H : Type} : (Rows.laid_splicery_lex_kinds : DataW H) = .agg (kt.map fun (x : Nat) => .lit (.int .u8 (x : Int))) := rfl
set_option maxRecDepth 100000 in
theorem laid_signs_eq {H : Type} : (Rows.laid_splicery_lex_signs : DataW H) = .agg (sg.map fun (x : List Nat) => .lit (.string (mkS x).data.toList)) := rfl
abbrev LAIDX : List (String × DataW Unit) := [("splicery/lex.kinds", Rows.laid_splicery_lex_kinds), ("splicery/lex.signs", Rows.laid_splicery_lex_signs)]
set_option maxRecDepth 100000 in
theorem Kx_of_laid {W : World} (h : laidMet Tryd.prog LAIDX W) : Kx W := by
  obtain ⟨ps, ⟨g, t, cs, fuel, p, q, hg, ht, hvar, hd, ⟨g2, t2, cs2, fuel2, p2, q2, hg2, ht2, hvar2, hd2, _, _⟩, _⟩, _⟩ := h
  obtain rfl := Option.some.inj (glob_kinds.symm.trans hg)
  obtain rfl := Option.some.inj (type_kinds.symm.trans ht)
  obtain rfl := Option.some.inj (glob_signs.symm.trans hg2)
  obtain rfl := Option.some.inj (type_signs.symm.trans ht2)
  rw [laid_kinds_eq] at hd
  rw [laid_signs_eq] at hd2
  have hall := ints_of_trod Tryd.underlying68 Tryd.underlying5 cells_126 Tryd.cellsB kt_len hd
  have hall2 := strs_of_trod Tryd.underlying70 Tryd.underlying9 cells_18 Tryd.cellsS rfl hd2
  have hcell : ∀ (j x : Nat), kt[j]? = some x → W.cell? ⟨0, j, none⟩ = some (.int .u8 (x : Int)) := fun j x hx => by
    have h1 := World.var?_cell glob_kinds hvar j
    rw [h1]
    have h2 := hall j x hx
    simpa using h2
  have hcell2 : ∀ (j : Nat) (x : List Nat), sg[j]? = some x → W.cell? ⟨1, j, none⟩ = some (.string (mkS x)) := fun j x hx => by
    have h1 := World.var?_cell glob_signs hvar2 j
    rw [h1]
    have h2 := hall2 j x hx
    simpa using h2
  have h2 : 2 ≤ W.heap.size := by
    have h0 := World.block_lt_of_cell? W _ (hcell2 0 [61, 61] rfl)
    simp at h0
    omega
  exact ⟨h2, hcell, hcell2⟩
theorem strs_weights {H : Type} {y : ByteArray} {e : TypeId} : ∀ {z : List ByteArray}, y ∈ z → y.size ∈ DataW.weightsAll Tryd.prog e (strs (H := H) z)
  | x :: z, h => by
    simp only [strs, List.map_cons, DataW.weightsAll, List.mem_append]
    rcases List.mem_cons.1 h with rfl | h
    · exact .inl (by simp [DataW.weights])
    · exact .inr (strs_weights h)
end Go.Proofs.YtfbookfaodfmdaaDoor
