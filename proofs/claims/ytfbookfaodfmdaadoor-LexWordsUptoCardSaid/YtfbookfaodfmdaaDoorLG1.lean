import Derived.Test.YtfbookfaodfmdaaDoorLF2
set_option linter.unusedVariables false
set_option linter.unusedSimpArgs false
namespace Go.Proofs.YtfbookfaodfmdaaDoor
open Go.RowKit

/-- 'make([]T, n)', T of one cell. -/
theorem wpList_makeV {P : Program} {w : World} {ops : Array Oper} {rest : List Oper} {o : Oper} {a : Act} {Q : Exit → Act → World → Prop} {t e : TypeId} {z : Value} {bytes n : Nat} {kl kc : IntKind} {L C : Int}
    (h1 : P.underlying t = some (.slice e)) (hi : (P.info? e).map (fun i => (i.zero, i.size, i.bytes)) = some (some z, 1, bytes)) (hz : z.cells = #[z]) (b2 : bytes * n ≤ 281474976710656) (b3 : n ≤ maxLen)
    (hg : o.guard = none) (l c : Operand) (hop : o.op = Op.makeSlice t l c) (hl : a.eval l = .int kl L) (hc : a.eval c = .int kc C) (hL : L = (n : Int)) (hC : C = (n : Int))
    (hK : ∀ w', w'.ownsRow w.heap.size e 1 (.slice (some ⟨w.heap.size, 0, none⟩) n n) n (List.replicate n z) → Below w.heap.size w w' → w.heap.size < w'.heap.size → wpList P ops Q rest (a.put o.dst (.slice (some ⟨w.heap.size, 0, none⟩) n n)) w') :
    wpList P ops Q (o :: rest) a w := by
  obtain ⟨i0, hi0, hz0, hz1, hz2⟩ := info_parts hi
  refine wpList_make_full w hg l c t hop w.heap.size e i0 z 1 h1 hi0 hz0 hz1 kl kc L C n hl hc hL hC (by rw [hz2]; exact b2) b3 (Nat.le_refl _) ?_
  intro w' h2 h3
  rw [hz, Nat.mul_one, toList_madeCells_one] at h2
  exact hK w' h2 ((Below.refl _ w).grown h3 (Nat.le_refl _) (fun k h => by cases h)) (World.ownsRow.lt h2 w.heap.size rfl).2

/-- What stands before each token in the usual layout. -/
def usl (l : List ByteArray) : List ByteArray := (List.range (l.length + 1)).map fun i => if 1 ≤ i ∧ i < l.length ∧ jBeh (l.getD (i - 1) ⟨#[]⟩) = false ∧ jBef (l.getD i ⟨#[]⟩) = false then ⟨#[32]⟩ else ⟨#[]⟩
theorem usl_len (l : List ByteArray) : (usl l).length = l.length + 1 := by simp [usl]
/-- .. the first j of them, the others empty. -/
def uslJ (l : List ByteArray) (j : Nat) : List ByteArray := (List.range (l.length + 1)).map fun i => if i < j ∧ 1 ≤ i ∧ i < l.length ∧ jBeh (l.getD (i - 1) ⟨#[]⟩) = false ∧ jBef (l.getD i ⟨#[]⟩) = false then ⟨#[32]⟩ else ⟨#[]⟩
theorem uslJ_one (l : List ByteArray) : uslJ l 1 = List.replicate (l.length + 1) ⟨#[]⟩ := by
  apply List.ext_getElem
  · simp [uslJ]
  · intro i h1 h2
    simp only [uslJ, List.getElem_map, List.getElem_range, List.getElem_replicate]
    rw [if_neg (by omega)]
theorem uslJ_one' {l : List ByteArray} {m : Nat} (h : m = l.length) : ss (uslJ l 1) = List.replicate (m + 1) (Value.string ⟨#[]⟩) := by
  rw [uslJ_one, h]; simp [ss]
theorem uslJ_end (l : List ByteArray) (j : Nat) (h : l.length ≤ j) : uslJ l j = usl l := by
  unfold uslJ usl
  refine List.map_congr_left fun i hi => ?_
  by_cases h1 : 1 ≤ i ∧ i < l.length ∧ jBeh (l.getD (i - 1) ⟨#[]⟩) = false ∧ jBef (l.getD i ⟨#[]⟩) = false
  · rw [if_pos ⟨by omega, h1⟩, if_pos h1]
  · rw [if_neg (fun h2 => h1 h2.2), if_neg h1]
theorem uslJ_no (l : List ByteArray) (j : Nat) (h : ¬ (jBeh (l.getD (j - 1) ⟨#[]⟩) = false ∧ jBef (l.getD j ⟨#[]⟩) = false)) : uslJ l (j + 1) = uslJ l j := by
  unfold uslJ
  refine List.map_congr_left fun i hi => ?_
  by_cases e : i = j
  · subst e
    rw [if_neg (fun h2 => h h2.2.2.2), if_neg (fun h2 => h h2.2.2.2)]
  · by_cases h1 : i < j ∧ 1 ≤ i ∧ i < l.length ∧ jBeh (l.getD (i - 1) ⟨#[]⟩) = false ∧ jBef (l.getD i ⟨#[]⟩) = false
    · rw [if_pos ⟨by omega, h1.2⟩, if_pos h1]
    · rw [if_neg (fun h2 => h1 ⟨by omega, h2.2⟩), if_neg h1]
theorem uslJ_yes (l : List ByteArray) (j : Nat) (h0 : 1 ≤ j) (h1 : j < l.length) (h2 : jBeh (l.getD (j - 1) ⟨#[]⟩) = false) (h3 : jBef (l.getD j ⟨#[]⟩) = false) : uslJ l (j + 1) = (uslJ l j).set j ⟨#[32]⟩ := by
  apply List.ext_getElem
  · simp [uslJ]
  · intro i hi1 hi2
    rw [List.getElem_set]
    by_cases e : j = i
    · subst e
      rw [if_pos rfl]
      simp only [uslJ, List.getElem_map, List.getElem_range]
      rw [if_pos ⟨by omega, h0, h1, h2, h3⟩]
    · rw [if_neg e]
      simp only [uslJ, List.getElem_map, List.getElem_range]
      by_cases h4 : i < j ∧ 1 ≤ i ∧ i < l.length ∧ jBeh (l.getD (i - 1) ⟨#[]⟩) = false ∧ jBef (l.getD i ⟨#[]⟩) = false
      · rw [if_pos ⟨by omega, h4.2⟩, if_pos h4]
      · rw [if_neg (fun h5 => h4 ⟨by omega, h5.2⟩), if_neg h4]
theorem ss_set (l : List ByteArray) (j : Nat) (x : ByteArray) : (ss l).set j (.string x) = ss (l.set j x) := by unfold ss; rw [List.map_set]

set_option maxHeartbeats 2000000 in
set_option maxRecDepth 100000 in
theorem Usual_any (m cap : Nat) (A : Option Addr) (l : List ByteArray) (w : World) (hm : m = l.length) (hm2 : m ≤ 1000) (hr : Rd w w.heap.size A (ss l)) :
    Calls Tryd.prog 25 #[.slice A m cap] w fun e w' => e = .returned (.slice (some ⟨w.heap.size, 0, none⟩) (m + 1) (m + 1)) ∧ w'.ownsRow w.heap.size 9 1 (.slice (some ⟨w.heap.size, 0, none⟩) (m + 1) (m + 1)) (m + 1) (ss (usl l)) ∧ Below w.heap.size w w' := by
  have HM := Lib.hid hm
  have HR := Lib.hid hr
  have HB := Lib.hid fun (s : ByteArray) (W : World) => joinsBehind_any s W
  have HF := Lib.hid fun (s : ByteArray) (W : World) => joinsBefore_any s W
  have hmi : (m : Int) ≤ 1000 := by omega
  clear hm hr
  go_enter Tryd.func25, Tryd.ntmps25
  go_wp2_with (refine wpList_makeV (n := m + 1) Tryd.underlying26 info_strs rfl ?_ ?_ rfl _ _ rfl rfl rfl ?_ ?_ ?_; (omega); (simp only [maxLen]; omega); (omega); (omega); intro w1 h1 h2 h3)
  rw [← uslJ_one' HM.out] at h1
  have A1 : Arr w1 w.heap.size (m + 1) 9 (ss (uslJ l 1)) := h1
  clear h1 h3
  go_loopw [4] (fun i W => ∃ j : Nat, 1 ≤ j ∧ (j ≤ m ∨ j = 1) ∧ i = .int .i64 (j : Int) ∧ Arr W w.heap.size (m + 1) 9 (ss (uslJ l j)) ∧ Below w.heap.size w W) (fun i _ => m - (intOf i).toNat)
  case atStart => exact ⟨1, by omega, .inr rfl, rfl, A1, h2⟩
  case round =>
    obtain ⟨j, hj1, hj2, rfl, A2, hb⟩ := hrel
    clear A1 h2
    by_cases hlt : j < m
    · have hjl : j < l.length := by have := HM.out; omega
      have hji : (j : Int) < (m : Int) := by omega
      have hji1 : (j : Int) < (m : Int) + 1 := by omega
      have hj0 : (0 : Int) ≤ (j : Int) := by omega
      obtain ⟨p, hp⟩ : ∃ p, j = p + 1 := ⟨j - 1, by omega⟩
      have hjp : (j : Int) - 1 = (p : Int) := by omega
      have hp0 : (0 : Int) ≤ (p : Int) := by omega
      have hpm : (p : Int) < (m : Int) := by omega
      have hpl : p < l.length := by omega
      obtain ⟨b, o, rfl, hbB, hc⟩ := HR.out.at_ (by intro e; have h9 := congrArg List.length e; simp [ss] at h9; subst h9; simp at hjl)
      have hx := (hb.cell (p := ⟨b, o + p, none⟩) hbB).trans (hc p (.string l[p]) (by simp [ss, List.getElem?_eq_getElem hpl]))
      have hy := (hb.cell (p := ⟨b, o + j, none⟩) hbB).trans (hc j (.string l[j]) (by simp [ss, List.getElem?_eq_getElem hjl]))
      have HNO := Lib.hid (uslJ_no l j)
      have HYES := Lib.hid (uslJ_yes l j hj1 hjl)
      have ep : j - 1 = p := by omega
      rw [ep] at HNO HYES
      rw [List.getD_eq_getElem?_getD, List.getD_eq_getElem?_getD, List.getElem?_eq_getElem hpl, List.getElem?_eq_getElem hjl, Option.getD_some, Option.getD_some] at HNO HYES
      have HBX := Lib.hid fun W => HB.out l[p] W
      have HFY := Lib.hid fun W => HF.out l[j] W
      generalize l[p] = X at hx HNO HYES HBX
      generalize l[j] = Y at hy HNO HYES HFY
      generalize jBeh X = bx at HNO HYES HBX
      generalize jBef Y = by_ at HNO HYES HFY
      have HA := Lib.hid A2
      have hfr := A2.free j
      have hcj : ∃ v, wr.cell? ⟨w.heap.size, j, none⟩ = some v := ⟨_, A2.cell (List.getElem?_eq_getElem (by simp [ss, uslJ]; omega))⟩
      obtain ⟨vj, hvj⟩ := hcj
      have hk2 : (j : Int) + 1 ≤ 1000 := by omega
      clear A2 hc hp ep hpl hjl
      cases bx with
      | true =>
        have HN := Lib.hid (HNO.out (by simp))
        go_wp2_with (first
          | (go_at_call 39; (with_reducible refine (HBX.out _).mono ?_); rintro e w' ⟨rfl, hw⟩; rw [hw]; clear hw)
          | (go_at_call 40; (with_reducible refine (HFY.out _).mono ?_); rintro e w'' ⟨rfl, hw⟩; rw [hw]; clear hw))
        go_roundw
        case rel => exact ⟨j + 1, by omega, by omega, by go_num, by rw [HN.out]; exact HA.out, hb⟩
        case measure => simp [intOf]; omega
      | false =>
        cases by_ with
        | true =>
          have HN := Lib.hid (HNO.out (by simp))
          go_wp2_with (first
            | (go_at_call 39; (with_reducible refine (HBX.out _).mono ?_); rintro e w' ⟨rfl, hw⟩; rw [hw]; clear hw)
            | (go_at_call 40; (with_reducible refine (HFY.out _).mono ?_); rintro e w'' ⟨rfl, hw⟩; rw [hw]; clear hw))
          go_roundw
          case rel => exact ⟨j + 1, by omega, by omega, by go_num, by rw [HN.out]; exact HA.out, hb⟩
          case measure => simp [intOf]; omega
        | false =>
          have HN := Lib.hid (HYES.out rfl rfl)
          go_wp2_with (first
            | (go_at_call 39; (with_reducible refine (HBX.out _).mono ?_); rintro e w' ⟨rfl, hw⟩; rw [hw]; clear hw)
            | (go_at_call 40; (with_reducible refine (HFY.out _).mono ?_); rintro e w'' ⟨rfl, hw⟩; rw [hw]; clear hw))
          go_roundw
          case rel => exact ⟨j + 1, by omega, by omega, by go_num, by rw [HN.out, ← ss_set]; exact HA.out.set_ _ _, hb.setCell (Nat.le_refl _) _⟩
          case measure => simp [intOf]; omega
    · have hji : (m : Int) ≤ (j : Int) := by omega
      rw [uslJ_end l j (by have := HM.out; omega)] at A2
      go_wp2_with fail
      go_ret
      exact ⟨rfl, A2, hb⟩

/-- What Word says. -/
def wrd (s : ByteArray) : Bool := decide (0 < s.size ∧ s.size ≤ 16 ∧ kd ((sb s).headD 0) = 4 ∧ wsz (sb s) = s.size) && !isKw s
end Go.Proofs.YtfbookfaodfmdaaDoor
