import Derived.Test.YtecfhhnmokdkiaaGen
set_option linter.unusedVariables false
namespace Go.Proofs.Ytecfhhnmokdkiaa
open Go.RowKit

set_option maxHeartbeats 400000 in
set_option maxRecDepth 100000 in
theorem few_any (A : Option Addr) (m c B : Nat) (l : List ByteArray) (w : World) (hm : m = l.length) (hr : Rd w B A (ss l)) (ht : m + tot l ≤ 9223372036854775807) :
    Calls Try.prog 5 #[.slice A m c] w (BoolRes w (decide (m + tot l ≤ 2000))) := by
  have HM := Lib.hid hm
  have hend : tot (l.take m) = tot l := by rw [hm, List.take_length]
  have HE := Lib.hid hend
  clear hm hend
  go_enter Try.func5, Try.ntmps5
  go_wp2
  go_loopw [3, 10] (fun n i wr => ∃ k q : Nat, k ≤ m ∧ i = .int .i64 (k : Int) ∧ wr = w.drewN q ∧ n = .int .i64 ((m + tot (l.take k) : Nat) : Int)) (fun _ i _ => m - (intOf i).toNat)
  case atStart => exact ⟨0, 0, Nat.zero_le _, rfl, rfl, by simp [tot]⟩
  case round =>
    obtain ⟨k, q, hk, rfl, rfl, rfl⟩ := hrel
    by_cases hlt : k < m
    · have hx : k < l.length := by have := HM.out; omega
      obtain ⟨b, o, rfl, _, hc⟩ := hr.at_ (by intro h; have := congrArg List.length h; simp only [ss, List.length_map] at this; simp at this; subst this; simp at hx)
      have hcx := hc k _ (ss_get l k hx)
      rw [List.getElem?_eq_getElem hx, Option.getD_some] at hcx
      have hsum := tot_take hx
      have hle := tot_le (l := l) (k + 1)
      have hnext : m + tot (l.take k) + l[k].size = m + tot (l.take (k + 1)) := by omega
      have hbd : m + tot (l.take k) + l[k].size ≤ 9223372036854775807 := by omega
      have HN := Lib.hid hnext
      clear hc hr hsum hle hnext
      generalize l[k] = x at hcx HN hbd
      generalize m + tot (l.take k) = T at hbd HN ⊢
      generalize hT' : m + tot (l.take (k + 1)) = T' at HN
      go_wp2_with fail
      go_roundw
      case rel => exact ⟨k + 1, q, by omega, by go_num, rfl, by rw [hT', ← HN.out]; simp⟩
      case measure => simp [intOf]; omega
    · have hkm : k = m := by omega
      subst hkm
      rw [HE.out]
      generalize hT : k + tot l = T at *
      go_wp2_with fail
      go_ret
      exact BoolRes.mk (by apply decide_eq_decide.2; omega)
end Go.Proofs.Ytecfhhnmokdkiaa
