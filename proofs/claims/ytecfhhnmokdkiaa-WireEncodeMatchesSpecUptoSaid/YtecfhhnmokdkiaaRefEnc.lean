import Derived.Test.YtecfhhnmokdkiaaRefInt
set_option linter.unusedVariables false
namespace Go.Proofs.Ytecfhhnmokdkiaa
open Go.RowKit

set_option maxHeartbeats 400000 in
set_option maxRecDepth 100000 in
theorem refInts_any (A : Option Addr) (m cap : Nat) (l : List Int) (w : World) (hm : m = l.length) (hr : Rd w w.heap.size A (is l)) (hin : ∀ n ∈ l, InR n) (hl : m ≤ 100000) :
    Calls Try.prog 13 #[.slice A m cap] w fun e w' => ∃ v', e = .returned v' ∧ OwnB w' w.heap.size v' (encL enc l) ∧ Below w.heap.size w w' := by
  have hpl : ∀ k, (part enc l k).length ≤ 9 + 9 * m := fun k => by rw [hm]; exact part_len_le enc 9 l k (fun x hx => (enc_len x (hin x hx)).2) (by omega)
  have hp0 := part_zero enc l
  have hpa := part_all enc l
  have hps := part_succ enc l
  rw [← hm] at hp0 hpa
  have HPL := Lib.hid hpl
  have HP0 := Lib.hid hp0
  have HPA := Lib.hid hpa
  have HPS := Lib.hid hps
  have HIN := Lib.hid hin
  have HM := Lib.hid hm
  clear hpl hp0 hpa hps hin hm
  go_enter Try.func13, Try.ntmps13
  go_wp2_with (go_at_call 9; refine (refInt_any _ _ ⟨by omega, by omega⟩).mono ?_; rintro e w1 ⟨v1, rfl, hown1, hbel1⟩)
  go_loopw [3, 4] (fun b i wr => ∃ k : Nat, k ≤ m ∧ i = .int .i64 (k : Int) ∧ OwnB wr w.heap.size b (part enc l k) ∧ Below w.heap.size w wr) (fun _ i _ => m - (intOf i).toNat)
  case atStart => exact ⟨0, Nat.zero_le _, rfl, by rw [HP0.out]; exact hown1, hbel1⟩
  case round =>
    obtain ⟨k, hk, rfl, hown2, hbel2⟩ := hrel
    clear hown1 hbel1
    have hbw := hbel2.size
    by_cases hlt : k < m
    · have hlt' : k < l.length := by have := HM.out; omega
      have hr2 := hr.below hbel2
      obtain ⟨b, o, rfl, _, hc⟩ := hr2.at_ (by intro h; have := congrArg List.length h; simp [is] at this; subst this; simp at hlt')
      have hcell := hc k _ (is_get l k hlt')
      have hin := HIN.out l[k] (List.getElem_mem hlt')
      have hpl := HPL.out k
      have HH := Lib.hid (HPS.out k hlt')
      clear hc hr hr2
      rw [List.getElem?_eq_getElem hlt', Option.getD_some] at hcell
      generalize l[k] = N at hcell hin HH
      have hN := enc_len N hin
      have hkm : (k : Int) < (m : Int) := by omega
      go_wp2_with (first
        | (go_at_call 9; refine (refInt_any N _ hin).mono ?_; rintro e w3 ⟨v3, rfl, hown3, hbel3⟩; obtain ⟨g3, c3, rfl, _, _, hc1, hc2⟩ := hown3.some_ (by omega); have hown2' := hown2.below hbel3; have hbel4 := hbel2.trans (hbel3.mono hbw))
        | (at_builtin; refine wpList_putL hown2' hown3.rd rfl hbel4.size (by omega) rfl _ _ rfl rfl rfl ?_; intro v5 w5 hown5 hbel5))
      go_roundw
      case rel => exact ⟨k + 1, by omega, by go_num, by rw [HH.out]; exact hown5, hbel4.trans hbel5⟩
      case measure => simp [intOf]; omega
    · have hkm : k = m := by omega
      subst hkm
      rw [HPA.out] at hown2
      go_wp2
      go_ret
      exact ⟨_, rfl, hown2, hbel2⟩
end Go.Proofs.Ytecfhhnmokdkiaa
