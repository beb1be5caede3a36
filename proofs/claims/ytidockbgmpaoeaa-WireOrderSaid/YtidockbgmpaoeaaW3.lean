import Derived.Test.YtidockbgmpaoeaaW1
import Derived.Test.YtidockbgmpaoeaaPure5
import Derived.Deep.RegionWith
import Derived.Deep.RegionHeld3
set_option linter.unusedVariables false
namespace Go.Proofs.Ytidockbgmpaoeaa
open Go.RowKit

/-- An integer is encoded, and what comes back is turned into a string. -/
def IntStr (X : List Nat) (w : World) (e : Ending) (w' : World) : Prop := ∃ A c, e = .returned (.slice A X.length c) ∧ Below w.heap.size w w' ∧ Rd w' w'.heap.size A (bs X)
theorem Int_str (n : Int) (w : World) (hn : InR n) : Calls Try.prog 14 #[.int .i64 n] w (IntStr (enc n) w) := by
  refine (Int_any n w hn.1 hn.2).mono fun e w' ⟨v, h1, h2, h3⟩ => ?_
  have := enc_len n hn
  obtain ⟨g, c, rfl, _, _, hc1, hc2⟩ := h2.some_ (by omega)
  exact ⟨_, c, h1, h3, h2.rd⟩

set_option maxHeartbeats 1000000 in
set_option maxRecDepth 100000 in
theorem WireOrder_any (m n : Int) (w : World) (hm : InR m) (hn : InR n) :
    Calls Try.prog 5 #[.int .i64 m, .int .i64 n] w (LawRes w) := by
  have hlm := enc_len m hm
  have hln := enc_len n hn
  have hM := fun W => Int_str m W hm
  have hN := fun W => Int_str n W hn
  obtain ⟨hf1, hf2, hf3⟩ := order_facts hm hn
  have hdec : decide (m = n) = (m == n) := by by_cases h : m = n <;> simp [h]
  rw [hdec] at hf2 hf3
  clear hdec
  generalize enc m = X at *
  generalize enc n = Y at *
  go_enter Try.func5, Try.ntmps5
  go_upto_region 1 with fail
  go_cut [5, 6] from 8 to 14 (fun v5 v6 wx => v5 = .string (mkS X) ∧ v6 = .string (mkS Y) ∧ Below w.heap.size w wx)
  case first =>
    go_region_with (first
      | (go_at_call_of 14 (Value.int IntKind.i64 m); refine (hM _).mono ?_; rintro e w1 ⟨A1, c1, rfl, hb1, hr1⟩; have hcv1 := run_conv _ _ c1 A1 X w1 rfl hr1)
      | (go_at_call_of 14 (Value.int IntKind.i64 n); refine (hN _).mono ?_; rintro e w2 ⟨A2, c2, rfl, hb2, hr2⟩; have hcv2 := run_conv _ _ c2 A2 Y w2 rfl hr2; have hcv1' := run_conv _ _ c1 A1 X w2 rfl (hr1.later hb2)))
    all_goals (go_wp2_with fail; go_meet; exact ⟨rfl, rfl, later (later (below_drewN (Below.refl _ w) 1) hb1) hb2⟩)
  case rest =>
    obtain ⟨rfl, rfl, hbw⟩ := hcut
    have hz1 : (mkS X).size = X.length := mkS_size X
    have hz2 : (mkS Y).size = Y.length := mkS_size Y
    go_upto_region 3 with fail
    have hkk : (if Y.length < X.length then (Y.length : Int) else (X.length : Int)) = ((min X.length Y.length : Nat) : Int) := by split <;> omega
    rw [hkk]
    have hk1 : min X.length Y.length ≤ X.length := Nat.min_le_left _ _
    have hk2 : min X.length Y.length ≤ Y.length := Nat.min_le_right _ _
    clear hkk
    generalize min X.length Y.length = k at *
    rw [← extract_mkS, ← extract_mkS] at hf3
    have hk1' : (k : Int) ≤ ((mkS X).size : Int) := by omega
    have hk2' : (k : Int) ≤ ((mkS Y).size : Int) := by omega
    have hd1 : (decide (m < n) == decide (m < n)) = true := by simp
    have hd2 : ((m == n) == (m == n)) = true := by simp
    go_region_held3 (fun _ => True) (first | exact trivial) ((go_at_call 12; refine (sanity_any _).mono ?_; rintro e w4 ⟨rfl, hb4⟩))
    all_goals (go_wp2_with fail; go_ret)
    all_goals (exact ⟨rfl, later (later hbw (below_drewN (Below.refl _ wc) 1)) hb4⟩)
end Go.Proofs.Ytidockbgmpaoeaa
