import Derived.Test.YtecfhhnmokdkiaaF
set_option linter.unusedVariables false
namespace Go.Proofs.Ytecfhhnmokdkiaa
open Go.RowKit

/-- Integers as values. -/
def is (l : List Int) : List Value := l.map (Value.int .i64)
theorem is_get (l : List Int) (j : Nat) (h : j < l.length) : (is l)[j]? = some (.int .i64 (l[j]?.getD 0)) := by
  simp [is, List.getElem?_map, List.getElem?_eq_getElem h]

def InR (n : Int) : Prop := -9223372036854775808 ≤ n ∧ n ≤ 9223372036854775807

set_option maxHeartbeats 400000 in
set_option maxRecDepth 100000 in
theorem Ints_any (A : Option Addr) (m cap : Nat) (l : List Int) (w : World) (hm : m = l.length) (hr : Rd w w.heap.size A (is l)) (hin : ∀ n ∈ l, InR n) (hl : m ≤ 100000) :
    Calls Try.prog 12 #[.slice A m cap] w fun e w' => ∃ v', e = .returned v' ∧ OwnB w' w.heap.size v' (encL enc l) ∧ Below w.heap.size w w' := by
  have hpl : ∀ k, (part enc l k).length ≤ 9 + 9 * m := fun k => by rw [hm]; exact part_len_le enc 9 l k (fun x hx => (enc_len x (hin x hx)).2) (by omega)
  have hp0 := part_zero enc l
  have hpa := part_all enc l
  have hps := part_succ enc l
  rw [← hm] at hp0 hpa
  have HPL := Lib.hid hpl
  have HP0 := Lib.hid hp0
  have HPA := Lib.hid hpa
  have HPS := Lib.hid hps
  have HIN := Lib.hid hin
  have HM := Lib.hid hm
  clear hpl hp0 hpa hps hin hm
  go_enter Try.func12, Try.ntmps12
  go_wp2_with (go_at_call 8; refine (Int_any _ _ (by omega) (by omega)).mono ?_; rintro e w1 ⟨v1, rfl, hown1, hbel1⟩)
  go_loopw [3, 5, 11] (fun b _ i wr => ∃ k : Nat, k ≤ m ∧ i = .int .i64 (k : Int) ∧ OwnB wr w.heap.size b (part enc l k) ∧ Below w.heap.size w wr) (fun _ _ i _ => m - (intOf i).toNat)
  case atStart => exact ⟨0, Nat.zero_le _, rfl, by rw [HP0.out]; exact hown1, hbel1⟩
  case round =>
    obtain ⟨k, hk, rfl, hown2, hbel2⟩ := hrel
    clear hown1 hbel1
    have hbw := hbel2.size
    by_cases hlt : k < m
    · have hlt' : k < l.length := by have := HM.out; omega
      have hr2 := hr.below hbel2
      obtain ⟨b, o, rfl, _, hc⟩ := hr2.at_ (by intro h; have := congrArg List.length h; simp [is] at this; subst this; simp at hlt')
      have hcell := hc k _ (is_get l k hlt')
      have hin := HIN.out l[k] (List.getElem_mem hlt')
      have hN1 := hin.1
      have hN2 := hin.2
      have hpl := HPL.out k
      have HH := Lib.hid (HPS.out k hlt')
      clear hc hr hr2 hin
      rw [List.getElem?_eq_getElem hlt', Option.getD_some] at hcell
      generalize l[k] = N at hcell hN1 hN2 HH
      go_wp2_with (go_at_call 31; refine (appendInt_any w.heap.size _ _ N _ hbw hN1 hN2 (by omega) hown2).mono ?_; rintro e w3 ⟨v3, rfl, hown3, hbel3⟩)
      go_roundw
      case rel => exact ⟨k + 1, by omega, by go_num, by rw [HH.out]; exact hown3, hbel2.trans hbel3⟩
      case measure => simp [intOf]; omega
    · have hkm : k = m := by omega
      subst hkm
      rw [HPA.out] at hown2
      go_wp2
      go_ret
      exact ⟨_, rfl, hown2, hbel2⟩
/-- Strings as values. -/
def ss (l : List ByteArray) : List Value := l.map Value.string
theorem ss_get (l : List ByteArray) (j : Nat) (h : j < l.length) : (ss l)[j]? = some (.string (l[j]?.getD ByteArray.empty)) := by
  simp [ss, List.getElem?_map, List.getElem?_eq_getElem h]
/-- P1.3. -/
def encS (s : ByteArray) : List Nat := enc s.size ++ sb s
theorem encS_len (s : ByteArray) (h : s.size ≤ 100000) : (encS s).length ≤ 100009 := by
  have := (enc_len s.size (by omega)).2
  unfold encS; rw [List.length_append, sb_len]; omega

set_option maxHeartbeats 400000 in
set_option maxRecDepth 100000 in
theorem Strings_any (A : Option Addr) (m cap : Nat) (l : List ByteArray) (w : World) (hm : m = l.length) (hr : Rd w w.heap.size A (ss l)) (hin : ∀ s ∈ l, s.size ≤ 100000) (hl : m ≤ 100000) :
    Calls Try.prog 14 #[.slice A m cap] w fun e w' => ∃ v', e = .returned v' ∧ OwnB w' w.heap.size v' (encL encS l) ∧ Below w.heap.size w w' := by
  have hpl : ∀ k, (part encS l k).length ≤ 9 + 100009 * m := fun k => by rw [hm]; exact part_len_le encS 100009 l k (fun x hx => encS_len x (hin x hx)) (by omega)
  have hp0 := part_zero encS l
  have hpa := part_all encS l
  have hps := part_succ encS l
  rw [← hm] at hp0 hpa
  have HPL := Lib.hid hpl
  have HP0 := Lib.hid hp0
  have HPA := Lib.hid hpa
  have HPS := Lib.hid hps
  have HIN := Lib.hid hin
  have HM := Lib.hid hm
  clear hpl hp0 hpa hps hin hm
  go_enter Try.func14, Try.ntmps14
  go_wp2_with (go_at_call 8; refine (Int_any _ _ (by omega) (by omega)).mono ?_; rintro e w1 ⟨v1, rfl, hown1, hbel1⟩)
  go_loopw [3, 5, 11] (fun b _ i wr => ∃ k : Nat, k ≤ m ∧ i = .int .i64 (k : Int) ∧ OwnB wr w.heap.size b (part encS l k) ∧ Below w.heap.size w wr) (fun _ _ i _ => m - (intOf i).toNat)
  case atStart => exact ⟨0, Nat.zero_le _, rfl, by rw [HP0.out]; exact hown1, hbel1⟩
  case round =>
    obtain ⟨k, hk, rfl, hown2, hbel2⟩ := hrel
    clear hown1 hbel1
    have hbw := hbel2.size
    by_cases hlt : k < m
    · have hlt' : k < l.length := by have := HM.out; omega
      have hr2 := hr.below hbel2
      obtain ⟨b, o, rfl, _, hc⟩ := hr2.at_ (by intro h; have := congrArg List.length h; simp [ss] at this; subst this; simp at hlt')
      have hcell := hc k _ (ss_get l k hlt')
      have hin := HIN.out l[k] (List.getElem_mem hlt')
      have hpl := HPL.out k
      have HH := Lib.hid (HPS.out k hlt')
      clear hc hr hr2
      rw [List.getElem?_eq_getElem hlt', Option.getD_some] at hcell
      generalize l[k] = N at hcell hin HH
      go_wp2_with (go_at_call 32; refine (appendBytes_any w.heap.size _ _ N _ hbw (by omega) (by omega) hown2).mono ?_; rintro e w3 ⟨v3, rfl, hown3, hbel3⟩)
      go_roundw
      case rel => exact ⟨k + 1, by omega, by go_num, by rw [HH.out]; exact hown3, hbel2.trans hbel3⟩
      case measure => simp [intOf]; omega
    · have hkm : k = m := by omega
      subst hkm
      rw [HPA.out] at hown2
      go_wp2
      go_ret
      exact ⟨_, rfl, hown2, hbel2⟩
end Go.Proofs.Ytecfhhnmokdkiaa
