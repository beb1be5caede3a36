import Derived.Test.YtbfoajfpnfkfnaaDoorH8
import Derived.Test.YtbfoajfpnfkfnaaDoorH9
import Derived.Test.YtbfoajfpnfkfnaaDoorH12
set_option linter.unusedVariables false
namespace Go.Proofs.YtbfoajfpnfkfnaaDoor
open Go.RowKit

theorem key64_len (k : List Nat) : (key64 k).length = 64 := by
  unfold key64
  by_cases h : 64 < k.length
  · simp only [if_pos h]; rw [List.length_append, sha_len, List.length_replicate]
  · simp only [if_neg h]; rw [List.length_append, List.length_replicate]; omega
theorem key64_all {k : List Nat} (h : AllB k) : AllB (key64 k) := by
  unfold key64
  by_cases h' : 64 < k.length
  · simp only [if_pos h']; exact AllB.app (sha_all k) (fun d hd => by rw [(List.mem_replicate.1 hd).2]; decide)
  · simp only [if_neg h']; exact AllB.app h (fun d hd => by rw [(List.mem_replicate.1 hd).2]; decide)
theorem xorL_len (K : List Nat) (x : Nat) : (xorL K x).length = K.length := by simp [xorL]

set_option maxHeartbeats 4000000 in
set_option maxRecDepth 100000 in
theorem mac_aux (key text : ByteArray) (K X1 X2 S0 S1 S2 : List Nat) (w : World) (hk : Kc w) (hks : key.size ≤ 1000000) (hts : text.size ≤ 1000000)
    (HKK : Hid (key64 (sb key) = K)) (HX1 : Hid (xorL K 54 = X1)) (HX2 : Hid (xorL K 92 = X2)) (HS0 : Hid (sha (sb key) = S0)) (HS1 : Hid (sha (X1 ++ sb text) = S1)) (HS2 : Hid (sha (X2 ++ S1) = S2)) :
    Calls Tryd.prog 21 #[.string key, .string text] w fun e w' => e = .returned (.string (mkS S2)) ∧ Below w.heap.size w w' := by
  have hKl : K.length = 64 := by rw [← HKK.out]; exact key64_len _
  have hKB : AllB K := by rw [← HKK.out]; exact key64_all (sb_lt key)
  have h1B : AllB X1 := by rw [← HX1.out]; exact xorL_all hKB (by decide)
  have h2B : AllB X2 := by rw [← HX2.out]; exact xorL_all hKB (by decide)
  have h1l : X1.length = 64 := by rw [← HX1.out, xorL_len, hKl]
  have h2l : X2.length = 64 := by rw [← HX2.out, xorL_len, hKl]
  have hS1B : AllB S1 := by rw [← HS1.out]; exact sha_all _
  have hS1l : S1.length = 32 := by rw [← HS1.out]; exact sha_len _
  have hS0B : AllB S0 := by rw [← HS0.out]; exact sha_all _
  have hS0l : S0.length = 32 := by rw [← HS0.out]; exact sha_len _
  have hS2l : S2.length = 32 := by rw [← HS2.out]; exact sha_len _
  have K0 : ∀ W, Below w.heap.size w W → Kc W := fun W hW => hk.later hW
  have FM1 : Hid (∀ (key' : ByteArray), key'.size ≤ 64 → sb key' ++ List.replicate (64 - key'.size) 0 = K → ∀ W, Calls Tryd.prog 42 #[.string key', .int .u8 54] W fun e w' => e = .returned (.string (mkS X1)) ∧ Below W.heap.size W w') := fun key' h1 h2 W => by
    rw [← HX1.out]; exact mask_aux key' 54 K (by decide) h1 W h2 hKl hKB
  have FM2 : Hid (∀ (key' : ByteArray), key'.size ≤ 64 → sb key' ++ List.replicate (64 - key'.size) 0 = K → ∀ W, Calls Tryd.prog 42 #[.string key', .int .u8 92] W fun e w' => e = .returned (.string (mkS X2)) ∧ Below W.heap.size W w') := fun key' h1 h2 W => by
    rw [← HX2.out]; exact mask_aux key' 92 K (by decide) h1 W h2 hKl hKB
  have FA0 : Hid (∀ W, Below w.heap.size w W → Calls Tryd.prog 18 #[.agg (stm []).toArray, .string key] W fun e w' => e = .returned (.agg (stm (sb key)).toArray) ∧ Below W.heap.size W w') := fun W hW => add_any [] (fun d hd => by cases hd) key W (K0 W hW) (by simp; omega)
  have FU0 : Hid (∀ W, Below w.heap.size w W → Calls Tryd.prog 20 #[.agg (stm (sb key)).toArray] W fun e w' => e = .returned (.agg (bs S0).toArray) ∧ Below W.heap.size W w') := fun W hW => by rw [← HS0.out]; exact ssum_any (sb key) (sb_lt key) W (K0 W hW) (by rw [sb_len]; omega)
  have FT0 : Hid (∀ W, Calls Tryd.prog 41 #[.agg (bs S0).toArray] W fun e w' => e = .returned (.string (mkS S0)) ∧ Below W.heap.size W w') := fun W => asText_any S0 hS0l W
  have FA1 : Hid (∀ W, Below w.heap.size w W → Calls Tryd.prog 18 #[.agg (stm []).toArray, .string (mkS X1)] W fun e w' => e = .returned (.agg (stm X1).toArray) ∧ Below W.heap.size W w') := fun W hW => add_call [] X1 (fun d hd => by cases hd) h1B W (K0 W hW) (by simp; omega)
  have FA2 : Hid (∀ W, Below w.heap.size w W → Calls Tryd.prog 18 #[.agg (stm X1).toArray, .string text] W fun e w' => e = .returned (.agg (stm (X1 ++ sb text)).toArray) ∧ Below W.heap.size W w') := fun W hW => add_any X1 h1B text W (K0 W hW) (by omega)
  have FU1 : Hid (∀ W, Below w.heap.size w W → Calls Tryd.prog 20 #[.agg (stm (X1 ++ sb text)).toArray] W fun e w' => e = .returned (.agg (bs S1).toArray) ∧ Below W.heap.size W w') := fun W hW => by rw [← HS1.out]; exact ssum_any (X1 ++ sb text) (AllB.app h1B (sb_lt text)) W (K0 W hW) (by rw [List.length_append, sb_len]; omega)
  have FA3 : Hid (∀ W, Below w.heap.size w W → Calls Tryd.prog 18 #[.agg (stm []).toArray, .string (mkS X2)] W fun e w' => e = .returned (.agg (stm X2).toArray) ∧ Below W.heap.size W w') := fun W hW => add_call [] X2 (fun d hd => by cases hd) h2B W (K0 W hW) (by simp; omega)
  have FT1 : Hid (∀ W, Calls Tryd.prog 41 #[.agg (bs S1).toArray] W fun e w' => e = .returned (.string (mkS S1)) ∧ Below W.heap.size W w') := fun W => asText_any S1 hS1l W
  have FA4 : Hid (∀ W, Below w.heap.size w W → Calls Tryd.prog 18 #[.agg (stm X2).toArray, .string (mkS S1)] W fun e w' => e = .returned (.agg (stm (X2 ++ S1)).toArray) ∧ Below W.heap.size W w') := fun W hW => add_call X2 S1 h2B hS1B W (K0 W hW) (by omega)
  have FU2 : Hid (∀ W, Below w.heap.size w W → Calls Tryd.prog 20 #[.agg (stm (X2 ++ S1)).toArray] W fun e w' => e = .returned (.agg (bs S2).toArray) ∧ Below W.heap.size W w') := fun W hW => by rw [← HS2.out]; exact ssum_any (X2 ++ S1) (AllB.app h2B hS1B) W (K0 W hW) (by rw [List.length_append]; omega)
  have FT2 : Hid (∀ W, Calls Tryd.prog 41 #[.agg (bs S2).toArray] W fun e w' => e = .returned (.string (mkS S2)) ∧ Below W.heap.size W w') := fun W => asText_any S2 hS2l W
  have HBL : Hid ((bs S1).length = 32) := by show (bs S1).length = 32; rw [bs_len, hS1l]
  have HS0K : Hid (64 < key.size → (mkS S0).size ≤ 64 ∧ sb (mkS S0) ++ List.replicate (64 - (mkS S0).size) 0 = K) := fun h => by
    refine ⟨by rw [mkS_size]; omega, ?_⟩
    rw [sb_mkS S0 hS0B, mkS_size, ← HKK.out, ← HS0.out]
    unfold key64
    simp only [if_pos (show 64 < (sb key).length by rw [sb_len]; exact h)]
  have HKS : Hid (¬ 64 < key.size → key.size ≤ 64 ∧ sb key ++ List.replicate (64 - key.size) 0 = K) := fun h => by
    refine ⟨by omega, ?_⟩
    rw [← HKK.out]
    unfold key64
    have hn : ¬ 64 < (sb key).length := by rw [sb_len]; exact h
    simp only [if_neg hn]
    rw [sb_len]
  clear HKK HX1 HX2 HS0 HS1 HS2 hKl hKB h1B h2B h1l h2l hS1B hS1l hS0B hS0l hS2l K0 hk
  go_enter Tryd.func21, Tryd.ntmps21
  have V0 : Below w.heap.size w w := Below.refl _ w
  go_upto_if 8 with fail
  go_cut [0] (fun v W => ∃ key' : ByteArray, v = .string key' ∧ key'.size ≤ 64 ∧ sb key' ++ List.replicate (64 - key'.size) 0 = K ∧ Below w.heap.size w W)
  case first =>
    by_cases h64 : 64 < key.size
    · have h64' : (64 : Int) < (key.size : Int) := by omega
      go_wp2_with (first
        | (go_at_call 17; refine (begin_stm _).mono ?_; rintro e w1 ⟨rfl, hb1⟩; have V1 := later V0 hb1)
        | (go_at_call 18; refine (FA0.out _ V1).mono ?_; rintro e w2 ⟨rfl, hb2⟩; have V2 := later V1 hb2)
        | (go_at_call 20; refine (FU0.out _ V2).mono ?_; rintro e w3 ⟨rfl, hb3⟩; have V3 := later V2 hb3)
        | (go_at_call 41; refine (FT0.out _).mono ?_; rintro e w4 ⟨rfl, hb4⟩; have V4 := later V3 hb4))
      go_meet
      exact ⟨mkS S0, rfl, (HS0K.out h64).1, (HS0K.out h64).2, V4⟩
    · have h64' : ¬ (64 : Int) < (key.size : Int) := by omega
      go_wp2_with fail
      go_meet
      exact ⟨key, rfl, (HKS.out h64).1, (HKS.out h64).2, V0⟩
  case rest =>
    obtain ⟨key', rfl, hk1, hk2, U0⟩ := hcut
    have G1 := Lib.hid (FM1.out key' hk1 hk2)
    have G2 := Lib.hid (FM2.out key' hk1 hk2)
    have hu24 := Tryd.underlying24
    have hi24 : (Tryd.prog.info? 24).map (·.size) = some (bs S1).length := by rw [HBL.out]; exact info_sum
    clear hk2 FM1 FM2 FA0 FU0 FT0 HS0K HKS V0
    go_upto_region 4 with (first
      | (go_at_call 17; refine (begin_stm _).mono ?_; rintro e w1 ⟨rfl, hb1⟩; have U1 := later U0 hb1; clear U0 hb1)
      | (go_at_call 42; ((with_reducible refine (G1.out _).mono ?_); rintro e w2 ⟨rfl, hb2⟩; have U2 := later U1 hb2; clear U1 hb2))
      | (go_at_call 18; ((with_reducible refine (FA1.out _ U2).mono ?_); rintro e w3 ⟨rfl, hb3⟩; have U3 := later U2 hb3; clear U2 hb3))
      | (go_at_call 18; ((with_reducible refine (FA2.out _ U3).mono ?_); rintro e w4 ⟨rfl, hb4⟩; have U4 := later U3 hb4; clear U3 hb4))
      | (go_at_call 20; ((with_reducible refine (FU1.out _ U4).mono ?_); rintro e w5 ⟨rfl, hb5⟩; have U5 := later U4 hb5; clear U4 hb5))
      | (refine wpList_store_new rfl _ (.tmp 5) (.tmp 20) rfl rfl rfl info_sum HBL.out rfl (all_oneCell_toArray (bs_cell _)) ?_; intro w6 hbel6 hrow6 hsz6; have U6 := later U5 hbel6; have A6 : Arr w6 w5.heap.size 32 24 (bs S1) := Arr.of_row hrow6 HBL.out (by decide)))
    obtain ⟨g5, hg5⟩ : ∃ g5, w5.heap.size = g5 := ⟨_, rfl⟩
    rw [hg5] at A6 ⊢
    clear hg5 hrow6 hbel6 hsz6 U5
    have U6d : Below w.heap.size w w6.drew := below_drew U6
    have A6d : Arr w6.drew g5 32 24 (bs S1) := A6
    go_region_held3 (fun W => W.rangeAt g5 0 (bs S1)) (first | exact A6d.range | exact A7.range | exact A8.range | exact A9.range | exact A10.range | exact A11.range | exact A12.range | exact A13.range)
      (first
      | (go_at_call 17; refine (begin_stm _).mono ?_; rintro e w7 ⟨rfl, hb7⟩; have U7 := later U6d hb7; have A7 := A6d.later hb7)
      | (go_at_call 42; refine (G2.out _).mono ?_; rintro e w8 ⟨rfl, hb8⟩; have U8 := later U7 hb8; have A8 := A7.later hb8)
      | (go_at_call 18; ((with_reducible refine (FA3.out _ U8).mono ?_); rintro e w9 ⟨rfl, hb9⟩; have U9 := later U8 hb9; have A9 := A8.later hb9))
      | (go_at_call 41; ((with_reducible refine (FT1.out _).mono ?_); rintro e w10 ⟨rfl, hb10⟩; have U10 := later U9 hb10; have A10 := A9.later hb10))
      | (go_at_call 18; ((with_reducible refine (FA4.out _ U10).mono ?_); rintro e w11 ⟨rfl, hb11⟩; have U11 := later U10 hb11; have A11 := A10.later hb11))
      | (go_at_call 20; ((with_reducible refine (FU2.out _ U11).mono ?_); rintro e w12 ⟨rfl, hb12⟩; have U12 := later U11 hb12; have A12 := A11.later hb12))
      | (go_at_call 41; ((with_reducible refine (FT2.out _).mono ?_); rintro e w13 ⟨rfl, hb13⟩; have U13 := later U12 hb13; have A13 := A12.later hb13)))
    all_goals (go_wp2_with fail; go_ret; exact ⟨rfl, U13⟩)
theorem mac_any (key text : ByteArray) (w : World) (hk : Kc w) (hks : key.size ≤ 1000000) (hts : text.size ≤ 1000000) :
    Calls Tryd.prog 21 #[.string key, .string text] w fun e w' => e = .returned (.string (mkS (mac (sb key) (sb text)))) ∧ Below w.heap.size w w' :=
  mac_aux key text _ _ _ _ _ _ w hk hks hts (Lib.hid rfl) (Lib.hid rfl) (Lib.hid rfl) (Lib.hid rfl) (Lib.hid rfl) (Lib.hid rfl)
end Go.Proofs.YtbfoajfpnfkfnaaDoor
