import Derived.Test.YtoopilemlgamkaaDoorH17
import Derived.Test.YtoopilemlgamkaaDoorG8
set_option linter.unusedVariables false
namespace Go.Proofs.YtoopilemlgamkaaDoor
open Go.RowKit

set_option maxHeartbeats 2000000 in
set_option maxRecDepth 100000 in
theorem hmm_long1 (a b : ByteArray) (w : World) (SA : Hid (Calls Tryd.prog 13 #[] w fun e w' => e = .returned (.bool true) ∧ Below w.heap.size w w')) (hc : (400 : Int) < (a.size : Int)) :
    Calls Tryd.prog 5 #[.string a, .string b] w (LawRes w) := by
  go_enter Tryd.func5, Tryd.ntmps5
  go_wp2_with (go_at_call 13; with_reducible refine SA.out.mono ?_; rintro e w1 ⟨rfl, hb1⟩)
  go_ret
  exact ⟨rfl, hb1⟩
set_option maxHeartbeats 2000000 in
set_option maxRecDepth 100000 in
theorem hmm_long2 (a b : ByteArray) (w : World) (SA : Hid (Calls Tryd.prog 13 #[] w fun e w' => e = .returned (.bool true) ∧ Below w.heap.size w w')) (hc : ¬ (400 : Int) < (a.size : Int)) (hc2 : (400 : Int) < (b.size : Int)) :
    Calls Tryd.prog 5 #[.string a, .string b] w (LawRes w) := by
  go_enter Tryd.func5, Tryd.ntmps5
  go_wp2_with (go_at_call 13; with_reducible refine SA.out.mono ?_; rintro e w1 ⟨rfl, hb1⟩)
  go_ret
  exact ⟨rfl, hb1⟩
set_option maxHeartbeats 2000000 in
set_option maxRecDepth 100000 in
theorem hmk_long1 (a b : ByteArray) (w : World) (SA : Hid (Calls Tryd.prog 13 #[] w fun e w' => e = .returned (.bool true) ∧ Below w.heap.size w w')) (hc : (400 : Int) < (a.size : Int)) :
    Calls Tryd.prog 6 #[.string a, .string b] w (LawRes w) := by
  go_enter Tryd.func6, Tryd.ntmps6
  go_wp2_with (go_at_call 13; with_reducible refine SA.out.mono ?_; rintro e w1 ⟨rfl, hb1⟩)
  go_ret
  exact ⟨rfl, hb1⟩
set_option maxHeartbeats 2000000 in
set_option maxRecDepth 100000 in
theorem hmk_long2 (a b : ByteArray) (w : World) (SA : Hid (Calls Tryd.prog 13 #[] w fun e w' => e = .returned (.bool true) ∧ Below w.heap.size w w')) (hc : ¬ (400 : Int) < (a.size : Int)) (hc2 : (400 : Int) < (b.size : Int)) :
    Calls Tryd.prog 6 #[.string a, .string b] w (LawRes w) := by
  go_enter Tryd.func6, Tryd.ntmps6
  go_wp2_with (go_at_call 13; with_reducible refine SA.out.mono ?_; rintro e w1 ⟨rfl, hb1⟩)
  go_ret
  exact ⟨rfl, hb1⟩
set_option maxHeartbeats 2000000 in
set_option maxRecDepth 100000 in
theorem hmm_main (a b S : ByteArray) (w : World) (SA : Hid (Calls Tryd.prog 13 #[] w fun e w' => e = .returned (.bool true) ∧ Below w.heap.size w w')) (hc : ¬ (400 : Int) < (a.size : Int)) (hc2 : ¬ (400 : Int) < (b.size : Int)) (hS : (S.toList == S.toList) = true)
    (E1 : Hid (∀ W, Below w.heap.size w W → Calls Tryd.prog 21 #[.string a, .string b] W fun e w' => e = .returned (.string S) ∧ Below W.heap.size W w'))
    (E2 : Hid (∀ W, Below w.heap.size w W → Calls Tryd.prog 22 #[.string a, .string b] W fun e w' => e = .returned (.string S) ∧ Below W.heap.size W w')) :
    Calls Tryd.prog 5 #[.string a, .string b] w (LawRes w) := by
  go_enter Tryd.func5, Tryd.ntmps5
  go_wp2_with (first
    | (go_at_call 13; with_reducible refine SA.out.mono ?_; rintro e w1 ⟨rfl, hb1⟩; have U := hb1; have SZ := hb1; clear hb1 SA)
    | (go_at_call 21; with_reducible refine (E1.out _ U).mono ?_; rintro e w2 ⟨rfl, hb2⟩; replace U := later U hb2; clear hb2 E1)
    | (go_at_call 22; with_reducible refine (E2.out _ U).mono ?_; rintro e w3 ⟨rfl, hb3⟩; replace U := later U hb3; clear hb3 E2))
  go_ret
  exact ⟨rfl, U⟩
theorem HashMacMatchesSpec_any (a b : ByteArray) (w : World) (hk : Kc w) (hr : Kr w) :
    Calls Tryd.prog 5 #[.string a, .string b] w (LawRes w) := by
  have SA := Lib.hid (sanity_any w hk)
  by_cases ha : 400 < a.size
  · exact hmm_long1 a b w SA (by omega)
  · by_cases hb : 400 < b.size
    · exact hmm_long2 a b w SA (by omega) (by omega)
    · exact hmm_main a b (mkS (mac (sb a) (sb b))) w SA (by omega) (by omega) (beq_self_eq_true _) (fun W hW => mac_any a b W (hk.later hW) (by omega) (by omega)) (fun W hW => rmac_any a b W (hr.later hW) (by omega) (by omega))

theorem key64_sha (k : List Nat) (h : 64 < k.length) : key64 (sha k) = key64 k := by
  unfold key64
  simp only [if_pos h, if_neg (show ¬ 64 < (sha k).length by rw [sha_len]; omega)]
theorem key64_zero (k : List Nat) (h : k.length < 64) : key64 (k ++ [0]) = key64 k := by
  unfold key64
  have h1 : (k ++ [0]).length = k.length + 1 := by simp
  simp only [if_neg (show ¬ 64 < k.length by omega), h1, if_neg (show ¬ 64 < k.length + 1 by omega)]
  rw [show 64 - k.length = (64 - (k.length + 1)) + 1 by omega, List.replicate_succ, List.append_assoc]
  rfl
theorem mac_key {k k' : List Nat} (t : List Nat) (h : key64 k' = key64 k) : mac k' t = mac k t := by unfold mac; rw [h]
set_option maxHeartbeats 2000000 in
set_option maxRecDepth 100000 in
theorem hmk_gt (a b S T : ByteArray) (Z : List Nat) (w : World) (SA : Hid (Calls Tryd.prog 13 #[] w fun e w' => e = .returned (.bool true) ∧ Below w.heap.size w w')) (hc : ¬ (400 : Int) < (a.size : Int)) (hc2 : ¬ (400 : Int) < (b.size : Int)) (hc3 : (64 : Int) < (a.size : Int)) (hS : (S.toList == S.toList) = true)
    (E1 : Hid (∀ W, Below w.heap.size w W → Calls Tryd.prog 21 #[.string a, .string b] W fun e w' => e = .returned (.string S) ∧ Below W.heap.size W w'))
    (E2 : Hid (∀ W c, Below w.heap.size w W → Calls Tryd.prog 14 #[.slice (some ⟨W.heap.size, 0, none⟩) a.size c] (Lib.bytesWorld W 5 a) fun e w' => e = .returned (.agg (bs Z).toArray) ∧ Below (Lib.bytesWorld W 5 a).heap.size (Lib.bytesWorld W 5 a) w'))
    (E3 : Hid (∀ W, Calls Tryd.prog 23 #[.agg (bs Z).toArray] W fun e w' => e = .returned (.string T) ∧ Below W.heap.size W w'))
    (E4 : Hid (∀ W, Below w.heap.size w W → Calls Tryd.prog 21 #[.string T, .string b] W fun e w' => e = .returned (.string S) ∧ Below W.heap.size W w')) :
    Calls Tryd.prog 6 #[.string a, .string b] w (LawRes w) := by
  have hcv := fun (W : World) => Lib.run_convert_string_bytes (P := Tryd.prog) W 9 22 5 a Tryd.underlying9 Tryd.underlying22 Tryd.underlying5
  generalize bs Z = BZ at E2 E3
  go_enter Tryd.func6, Tryd.ntmps6
  go_wp2_with (first
    | (go_at_call 13; with_reducible refine SA.out.mono ?_; rintro e w1 ⟨rfl, hb1⟩; have U := hb1; have SZ := hb1; clear hb1 SA)
    | (go_at_call 21; with_reducible refine (E1.out _ U).mono ?_; rintro e w2 ⟨rfl, hb2⟩; replace U := later U hb2; clear hb2 E1)
    | (go_at_call 14; with_reducible refine (E2.out _ _ U).mono ?_; rintro e w3 ⟨rfl, hb3⟩; replace U := later (later U (below_bytes _ _ a)) hb3; clear hb3 E2)
    | (go_at_call 23; with_reducible refine (E3.out _).mono ?_; rintro e w4 ⟨rfl, hb4⟩; replace U := later U hb4; clear hb4 E3)
    | (go_at_call 21; with_reducible refine (E4.out _ U).mono ?_; rintro e w5 ⟨rfl, hb5⟩; replace U := later U hb5; clear hb5 E4))
  go_ret
  exact ⟨rfl, U⟩
set_option maxHeartbeats 2000000 in
set_option maxRecDepth 100000 in
theorem hmk_lt (a b c S : ByteArray) (w : World) (SA : Hid (Calls Tryd.prog 13 #[] w fun e w' => e = .returned (.bool true) ∧ Below w.heap.size w w')) (hc2 : ¬ (400 : Int) < (b.size : Int)) (hc3 : (a.size : Int) < 64) (hS : (S.toList == S.toList) = true) (hac : a ++ (⟨#[0]⟩ : ByteArray) = c)
    (E1 : Hid (∀ W, Below w.heap.size w W → Calls Tryd.prog 21 #[.string a, .string b] W fun e w' => e = .returned (.string S) ∧ Below W.heap.size W w'))
    (E4 : Hid (∀ W, Below w.heap.size w W → Calls Tryd.prog 21 #[.string c, .string b] W fun e w' => e = .returned (.string S) ∧ Below W.heap.size W w')) :
    Calls Tryd.prog 6 #[.string a, .string b] w (LawRes w) := by
  have hc : ¬ (400 : Int) < (a.size : Int) := by omega
  have hc4 : ¬ (64 : Int) < (a.size : Int) := by omega
  go_enter Tryd.func6, Tryd.ntmps6
  go_wp2_with (first
    | (go_at_call 13; with_reducible refine SA.out.mono ?_; rintro e w1 ⟨rfl, hb1⟩; have U := hb1; have SZ := hb1; clear hb1 SA)
    | (go_at_call 21; with_reducible refine (E1.out _ U).mono ?_; rintro e w2 ⟨rfl, hb2⟩; replace U := later U hb2; clear hb2 E1)
    | (go_at_call 21; with_reducible refine (E4.out _ U).mono ?_; rintro e w5 ⟨rfl, hb5⟩; replace U := later U hb5; clear hb5 E4))
  go_ret
  exact ⟨rfl, U⟩
set_option maxHeartbeats 2000000 in
set_option maxRecDepth 100000 in
theorem hmk_eq (a b S : ByteArray) (w : World) (SA : Hid (Calls Tryd.prog 13 #[] w fun e w' => e = .returned (.bool true) ∧ Below w.heap.size w w')) (hc2 : ¬ (400 : Int) < (b.size : Int)) (hc3 : (a.size : Int) = 64) (hS : S.size = 32)
    (E1 : Hid (∀ W, Below w.heap.size w W → Calls Tryd.prog 21 #[.string a, .string b] W fun e w' => e = .returned (.string S) ∧ Below W.heap.size W w')) :
    Calls Tryd.prog 6 #[.string a, .string b] w (LawRes w) := by
  go_enter Tryd.func6, Tryd.ntmps6
  go_wp2_with (first
    | (go_at_call 13; with_reducible refine SA.out.mono ?_; rintro e w1 ⟨rfl, hb1⟩; have U := hb1; have SZ := hb1; clear hb1 SA)
    | (go_at_call 21; with_reducible refine (E1.out _ U).mono ?_; rintro e w2 ⟨rfl, hb2⟩; replace U := later U hb2; clear hb2 E1))
  go_ret
  exact ⟨rfl, U⟩
theorem HashMacKeys_any (a b : ByteArray) (w : World) (hk : Kc w) :
    Calls Tryd.prog 6 #[.string a, .string b] w (LawRes w) := by
  have SA := Lib.hid (sanity_any w hk)
  by_cases ha : 400 < a.size
  · exact hmk_long1 a b w SA (by omega)
  · by_cases hb : 400 < b.size
    · exact hmk_long2 a b w SA (by omega) (by omega)
    · have E1 : Hid (∀ W, Below w.heap.size w W → Calls Tryd.prog 21 #[.string a, .string b] W fun e w' => e = .returned (.string (mkS (mac (sb a) (sb b)))) ∧ Below W.heap.size W w') := Lib.hid fun W hW => mac_any a b W (hk.later hW) (by omega) (by omega)
      have hml : (mkS (mac (sb a) (sb b))).size = 32 := by rw [mkS_size]; unfold mac; exact sha_len _
      by_cases h1 : 64 < a.size
      · obtain ⟨Z, hZ⟩ : ∃ Z, sha (sb a) = Z := ⟨_, rfl⟩
        have hZl : Z.length = 32 := by rw [← hZ]; exact sha_len _
        have hZa : AllB Z := by rw [← hZ]; exact sha_all _
        have hT : sb (mkS Z) = Z := sb_mkS Z hZa
        refine hmk_gt a b _ (mkS Z) Z w SA (by omega) (by omega) (by omega) (beq_self_eq_true _) E1 ?_ (Lib.hid fun W => bytes32_any Z hZl W) ?_
        · refine Lib.hid fun W c hW => ?_
          have hr := rd_bytes W 5 a
          have hk2 := (hk.later hW).later (below_bytes W 5 a)
          generalize Lib.bytesWorld W 5 a = W2 at hr hk2 ⊢
          rw [← hZ]
          exact sum_any _ a.size c (sb a) W2 (sb_len a).symm hr (sb_lt a) hk2 (by rw [sb_len]; omega)
        · refine Lib.hid fun W hW => ?_
          have h := mac_any (mkS Z) b W (hk.later hW) (by rw [mkS_size, hZl]; decide) (by omega)
          rw [hT, ← hZ, mac_key _ (key64_sha (sb a) (by rw [sb_len]; exact h1)), hZ] at h
          exact h
      · by_cases h2 : a.size < 64
        · obtain ⟨c, hac⟩ : ∃ c, a ++ (⟨#[0]⟩ : ByteArray) = c := ⟨_, rfl⟩
          have hsc : sb c = sb a ++ [0] := by rw [← hac, sb_app]; rfl
          have hcs : c.size = a.size + 1 := by rw [← sb_len, hsc, List.length_append, sb_len]; rfl
          refine hmk_lt a b c _ w SA (by omega) (by omega) (beq_self_eq_true _) hac E1 ?_
          refine Lib.hid fun W hW => ?_
          have h := mac_any c b W (hk.later hW) (by omega) (by omega)
          rw [hsc, mac_key _ (key64_zero (sb a) (by rw [sb_len]; exact h2))] at h
          exact h
        · exact hmk_eq a b _ w SA (by omega) (by omega) hml E1
end Go.Proofs.YtoopilemlgamkaaDoor
