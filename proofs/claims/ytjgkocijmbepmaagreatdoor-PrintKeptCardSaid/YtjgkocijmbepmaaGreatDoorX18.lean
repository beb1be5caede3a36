/-
  Rows of strings as they come in, tables as they are laid.
-/
import Derived.Test.YtjgkocijmbepmaaGreatDoorRow
import Derived.Test.YtjgkocijmbepmaaGreatDoorRows
import Derived.SliceStrings
import Derived.ChangeMaps5
import Derived.ChangeSame
import Derived.ChangeVars
import Derived.JoinedOf
import Derived.RowKit
set_option linter.unusedVariables false
section
set_option linter.unusedVariables false
namespace Go.Proofs.YtjgkocijmbepmaaGreatDoor
open Go.ChangeShapes Go.WideShapes Go.ChangeAt Go.RowKit Go.Deep
theorem Tryz.cellsS : Tryz.prog.cellsOf 9 = 1 := by kernel_rfl
def ssv (l : List ByteArray) : List Value := l.map fun s => .string s
section
variable {H : Type} {enc : TypeId × Value → H} {w : World} {sp : Nat → Bool} {d : DataW H} {p : List MemPlace} {A : Option Addr} {len cap : Nat}
theorem open_ss (hd : DataW.Trod enc Tryz.prog w 0 sp true 22 (.slice A len cap) d p) :
    ∃ zs : List ByteArray, len = zs.length ∧ Rd w w.heap.size A (ssv zs) ∧ (∀ x ∈ zs, x.size ≤ maxLen) ∧ len ≤ cap ∧ cap ≤ maxLen ∧ ((len = 0 ∧ d = .nil) ∨ ∃ rs, d = .slice (strs zs) rs) := by
  obtain ⟨fuel, hf⟩ := hd
  rcases open_strings Tryz.underlying22 Tryz.underlying9 Tryz.cellsS hf with ⟨hcs, hx⟩ | ⟨a, l, c, zs, hcs, _, hl, hm, hz, hx, hcell, hwz⟩
  · simp [Value.cells] at hcs
    obtain ⟨rfl, rfl, rfl⟩ := hcs
    exact ⟨[], rfl, Rd.nil _ _ _, by simp, Nat.le_refl _, by simp [maxLen], .inl ⟨rfl, by cases hx; rfl⟩⟩
  · simp [Value.cells] at hcs
    obtain ⟨rfl, rfl, rfl⟩ := hcs
    have hzl : len ≤ zs.length := by rw [hz]; split <;> omega
    refine ⟨zs.take len, by simp; omega, rd_of_cells ?_, fun x hx => hwz x (List.mem_of_mem_take hx), hl, hm, .inr ⟨strs (zs.drop len), by cases hx; rfl⟩⟩
    intro j u hu
    have hj : j < len := by have := (List.getElem?_eq_some_iff.1 hu).1; simp [ssv] at this; omega
    rw [hcell j (by omega)]
    simp only [ssv, List.getElem?_map, List.getElem?_take, hj, if_true, List.getElem?_eq_getElem (show j < zs.length by omega), Option.map_some, Option.some.injEq] at hu
    rw [← hu]
    simp [List.getD, List.getElem?_eq_getElem (show j < zs.length by omega)]
end
theorem int_of_trod {H : Type} {enc : TypeId × Value → H} {P : Program} {w : World} {base : Nat} {sp : Nat → Bool} {held : Bool} {fuel : Nat} {t : TypeId} {k : IntKind} {c : Value} {y : DataW H × List MemPlace}
    (ht : P.underlying t = some (.int k)) (h : DataW.trod enc P w base sp held fuel t [c] = some y) : ∃ n, c = .int k n ∧ y = (.lit (.int k n), []) := by
  cases fuel with
  | zero => simp [DataW.trod] at h
  | succ fuel =>
    cases c <;> simp [DataW.trod, ht] at h
    rename_i k' n
    obtain ⟨⟨rfl, _⟩, rfl⟩ := h
    exact ⟨n, rfl, rfl⟩
theorem mapM_get {α β : Type} (f : α → Option β) : ∀ (l : List α) (ys : List β), l.mapM f = some ys → ∀ (j : Nat) (x : α), l[j]? = some x → ∃ y, ys[j]? = some y ∧ f x = some y
  | [], ys, h, j, x, hx => by simp at hx
  | a :: r, ys, h, j, x, hx => by
    simp only [List.mapM_cons, Option.bind_eq_bind, Option.bind_eq_some_iff, Option.pure_def, Option.some.injEq] at h
    obtain ⟨y, hy, zs, hz, rfl⟩ := h
    cases j with
    | zero => simp at hx; subst hx; exact ⟨y, rfl, hy⟩
    | succ j => exact mapM_get f r zs hz j x (by simpa using hx)
theorem ints_of_trod {H : Type} {enc : TypeId × Value → H} {P : Program} {w : World} {base : Nat} {sp : Nat → Bool} {held : Bool} {fuel n : Nat} {t e : TypeId} {k : IntKind} {l : List Value} {ks : List Nat} {p : List MemPlace}
    (ht : P.underlying t = some (.array n e)) (he : P.underlying e = some (.int k)) (hc : P.cellsOf t = n) (hc1 : P.cellsOf e = 1) (hn : ks.length = n)
    (h : DataW.trod enc P w base sp held fuel t l = some (.agg (ks.map fun (x : Nat) => .lit (.int k (x : Int))), p)) : ∀ (j x : Nat), ks[j]? = some x → l[j]? = some (.int k (x : Int)) := by
  cases fuel with
  | zero => simp [DataW.trod] at h
  | succ fuel =>
    simp only [DataW.trod, ht, hc, hc1] at h
    split at h
    · rename_i hl
      obtain ⟨ys, hys, hag⟩ := Option.map_eq_some_iff.1 h
      have h1 : ys.map (fun x => x.fst) = ks.map fun (x : Nat) => (.lit (.int k (x : Int)) : DataW H) := by
        have := congrArg Prod.fst hag
        simpa using this
      intro j x hx
      have hj : j < n := by rw [← hn]; exact (List.getElem?_eq_some_iff.1 hx).1
      obtain ⟨y, hy, hf⟩ := mapM_get _ _ _ hys j j (by rw [List.getElem?_range hj])
      have hjl : j < l.length := by omega
      rw [Nat.mul_one, List.drop_eq_getElem_cons hjl, List.take_succ_cons, List.take_zero] at hf
      obtain ⟨m, hm, rfl⟩ := int_of_trod he hf
      have h2 := congrArg (fun q => q[j]?) h1
      simp only [List.getElem?_map, hy, hx, Option.map_some, Option.some.injEq, DataW.lit.injEq, Lit.int.injEq] at h2
      rw [List.getElem?_eq_getElem hjl, hm]
      simp at h2
      rw [h2]
    · cases h
theorem str_of_trod {H : Type} {enc : TypeId × Value → H} {P : Program} {w : World} {base : Nat} {sp : Nat → Bool} {held : Bool} {fuel : Nat} {t : TypeId} {c : Value} {y : DataW H × List MemPlace}
    (ht : P.underlying t = some .string) (h : DataW.trod enc P w base sp held fuel t [c] = some y) : ∃ s : ByteArray, c = .string s ∧ y = (.lit (.string s.data.toList), []) := by
  cases fuel with
  | zero => simp [DataW.trod] at h
  | succ fuel =>
    cases c <;> simp [DataW.trod, ht] at h
    rename_i s
    obtain ⟨_, rfl⟩ := h
    exact ⟨s, rfl, rfl⟩
theorem strs_of_trod {H : Type} {enc : TypeId × Value → H} {P : Program} {w : World} {base : Nat} {sp : Nat → Bool} {held : Bool} {fuel n : Nat} {t e : TypeId} {l : List Value} {ks : List ByteArray} {p : List MemPlace}
    (ht : P.underlying t = some (.array n e)) (he : P.underlying e = some .string) (hc : P.cellsOf t = n) (hc1 : P.cellsOf e = 1) (hn : ks.length = n)
    (h : DataW.trod enc P w base sp held fuel t l = some (.agg (ks.map fun (x : ByteArray) => .lit (.string x.data.toList)), p)) : ∀ (j : Nat) (x : ByteArray), ks[j]? = some x → l[j]? = some (.string x) := by
  cases fuel with
  | zero => simp [DataW.trod] at h
  | succ fuel =>
    simp only [DataW.trod, ht, hc, hc1] at h
    split at h
    · rename_i hl
      obtain ⟨ys, hys, hag⟩ := Option.map_eq_some_iff.1 h
      have h1 : ys.map (fun x => x.fst) = ks.map fun (x : ByteArray) => (.lit (.string x.data.toList) : DataW H) := by
        have := congrArg Prod.fst hag
        simpa using this
      intro j x hx
      have hj : j < n := by rw [← hn]; exact (List.getElem?_eq_some_iff.1 hx).1
      obtain ⟨y, hy, hf⟩ := mapM_get _ _ _ hys j j (by rw [List.getElem?_range hj])
      have hjl : j < l.length := by omega
      rw [Nat.mul_one, List.drop_eq_getElem_cons hjl, List.take_succ_cons, List.take_zero] at hf
      obtain ⟨m, hm, rfl⟩ := str_of_trod he hf
      have h2 := congrArg (fun q => q[j]?) h1
      simp only [List.getElem?_map, hy, hx, Option.map_some, Option.some.injEq, DataW.lit.injEq, Lit.string.injEq] at h2
      rw [List.getElem?_eq_getElem hjl, hm]
      have h3 : m = x := by
        apply ByteArray.ext
        exact Array.toList_inj.1 h2
      rw [h3]
    · cases h
def kN : List Nat := [0, 0, 0, 0, 0, 0, 0, 0, 0, 0, 1, 0, 0, 0, 0, 0, 0, 0, 0, 0, 0, 0, 0, 0, 0, 0, 0, 0, 0, 0, 0, 0, 1, 0, 0, 2, 0, 5, 0, 0, 5, 5, 5, 5, 5, 5, 5, 5, 3, 3, 3, 3, 3, 3, 3, 3, 3, 3, 5, 0, 5, 5, 0, 0, 0, 4, 4, 4, 4, 4, 4, 4, 4, 4, 4, 4, 4, 4, 4, 4, 4, 4, 4, 4, 4, 4, 4, 4, 4, 4, 4, 5, 0, 5, 0, 0, 0, 4, 4, 4, 4, 4, 4, 4, 4, 4, 4, 4, 4, 4, 4, 4, 4, 4, 4, 4, 4, 4, 4, 4, 4, 4, 4, 5, 0, 5]
def sB : List ByteArray := [⟨#[61, 61]⟩, ⟨#[45, 62]⟩, ⟨#[40]⟩, ⟨#[41]⟩, ⟨#[123]⟩, ⟨#[125]⟩, ⟨#[91]⟩, ⟨#[93]⟩, ⟨#[44]⟩, ⟨#[58]⟩, ⟨#[46]⟩, ⟨#[61]⟩, ⟨#[43]⟩, ⟨#[45]⟩, ⟨#[42]⟩, ⟨#[47]⟩, ⟨#[37]⟩, ⟨#[60]⟩]
def wB : List ByteArray := [⟨#[114, 101, 99]⟩, ⟨#[99, 97, 115, 101]⟩, ⟨#[102, 117, 110]⟩, ⟨#[111, 110]⟩, ⟨#[116, 101, 115, 116]⟩, ⟨#[99, 111, 110, 118]⟩]
theorem glob_kinds : Tryz.prog.globalNamed "splicery/lex.kinds" = some 0 := by kernel_rfl
theorem type_kinds : (Tryz.prog.globals[(0 : Nat)]?).map (·.type) = some 107 := by kernel_rfl
theorem glob_signs : Tryz.prog.globalNamed "splicery/lex.signs" = some 1 := by kernel_rfl
theorem type_signs : (Tryz.prog.globals[(1 : Nat)]?).map (·.type) = some 109 := by kernel_rfl
theorem glob_keys : Tryz.prog.globalNamed "splicery/syntax.keywords" = some 2 := by kernel_rfl
theorem type_keys : (Tryz.prog.globals[(2 : Nat)]?).map (·.type) = some 121 := by kernel_rfl
theorem cells_126 : Tryz.prog.cellsOf 107 = 126 := by kernel_rfl
theorem cells_18 : Tryz.prog.cellsOf 109 = 18 := by kernel_rfl
theorem cells_6 : Tryz.prog.cellsOf 121 = 6 := by kernel_rfl
set_option maxRecDepth 100000 in
theorem laid_kinds_eq {H : Type} : (Rows.laid_splicery_lex_kinds : DataW H) = .agg (kN.map fun (x : Nat) => .lit (.int .u8 (x : Int))) := rfl
set_option maxRecDepth 100000 in
theorem laid_signs_eq {H : Type} : (Rows.laid_splicery_lex_signs : DataW H) = .agg (sB.map fun (x : ByteArray) => .lit (.string x.data.toList)) := rfl
set_option maxRecDepth 100000 in
theorem laid_keys_eq {H : Type} : (Rows.laid_splicery_syntax_keywords : DataW H) = .agg (wB.map fun (x : ByteArray) => .lit (.string x.data.toList)) := rfl
abbrev LAIDP : List (String × DataW Unit) := Rows.printKeptRow.laid
def Tabs (W : World) : Prop := (∀ (j x : Nat), kN[j]? = some x → W.cell? ⟨0, j, none⟩ = some (.int .u8 (x : Int))) ∧ (∀ (j : Nat) (x : ByteArray), sB[j]? = some x → W.cell? ⟨1, j, none⟩ = some (.string x)) ∧ (∀ (j : Nat) (x : ByteArray), wB[j]? = some x → W.cell? ⟨2, j, none⟩ = some (.string x))
set_option maxRecDepth 100000 in
theorem tabs_of_laid {W : World} (h : laidMet Tryz.prog LAIDP W) : Tabs W := by
  obtain ⟨ps, ⟨_, _, _, _, _, _, _, _, _, _, ⟨_, _, _, _, _, _, _, _, _, _, ⟨_, _, _, _, _, _, _, _, _, _, ⟨_, _, _, _, _, _, _, _, _, _, ⟨_, _, _, _, _, _, _, _, _, _, ⟨g, t, cs, fuel, p, q, hg, ht, hvar, hd, ⟨g2, t2, cs2, fuel2, p2, q2, hg2, ht2, hvar2, hd2, ⟨g3, t3, cs3, fuel3, p3, q3, hg3, ht3, hvar3, hd3, _, _⟩, _⟩, _⟩, _⟩, _⟩, _⟩, _⟩, _⟩, _⟩ := h
  obtain rfl := Option.some.inj (glob_kinds.symm.trans hg)
  obtain rfl := Option.some.inj (type_kinds.symm.trans ht)
  obtain rfl := Option.some.inj (glob_signs.symm.trans hg2)
  obtain rfl := Option.some.inj (type_signs.symm.trans ht2)
  obtain rfl := Option.some.inj (glob_keys.symm.trans hg3)
  obtain rfl := Option.some.inj (type_keys.symm.trans ht3)
  rw [laid_kinds_eq] at hd
  rw [laid_signs_eq] at hd2
  rw [laid_keys_eq] at hd3
  have hall := ints_of_trod Tryz.underlying107 Tryz.underlying5 cells_126 Tryz.cellsB rfl hd
  have hall2 := strs_of_trod Tryz.underlying109 Tryz.underlying9 cells_18 Tryz.cellsS rfl hd2
  have hall3 := strs_of_trod Tryz.underlying121 Tryz.underlying9 cells_6 Tryz.cellsS rfl hd3
  refine ⟨fun j x hx => ?_, fun j x hx => ?_, fun j x hx => ?_⟩
  · rw [World.var?_cell glob_kinds hvar j]
    simpa using hall j x hx
  · rw [World.var?_cell glob_signs hvar2 j]
    simpa using hall2 j x hx
  · rw [World.var?_cell glob_keys hvar3 j]
    simpa using hall3 j x hx
end Go.Proofs.YtjgkocijmbepmaaGreatDoor
end
