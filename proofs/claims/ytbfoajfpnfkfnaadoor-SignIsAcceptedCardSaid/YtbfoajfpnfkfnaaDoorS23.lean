import Derived.Test.YtbfoajfpnfkfnaaDoorS20
set_option linter.unusedVariables false
set_option linter.unusedSimpArgs false
namespace Go.Proofs.YtbfoajfpnfkfnaaDoor
open Go.RowKit

theorem sigL_len (sd M : List Nat) (h i : Nat) : (sigL sd h i M).length = (enc (i : Int)).length + 1088 + 16 * h := by
  unfold sigL
  rw [List.length_append, List.length_append, climbL_len _ _ _ (startL_len _ _), flatten_len _ (besL_16 _ _ _), besL_len]
theorem sigL_all (sd M : List Nat) (h i : Nat) (hi : i ≤ 1000000) : AllB (sigL sd h i M) := by
  refine AllB.app (AllB.app (enc_lt _ (by omega)) (climbL_all _ _ _ (startL_all _ _))) ?_
  intro d hd
  obtain ⟨x, hx, hd⟩ := List.mem_flatten.1 hd
  exact besL_all _ _ _ x hx d hd
/-- A longer signature. -/
theorem Verify_long (P sd M : List Nat) (S : ByteArray) (h i : Nat) (w : World) (hP : P.length = 16) (hh : h ≤ 6) (hi : i < 2 ^ h) (hi2 : i ≤ 1000000) (hS : S.size ≤ 1000) :
    Calls Tryd.prog 34 #[.agg (bs P).toArray, .int .i64 (h : Int), .string S, .string (mkS (sigL sd h i M) ++ ⟨#[120]⟩)] w fun e w' => e = .returned (.tuple #[.int .i64 0, .int .i64 2]) ∧ Below w.heap.size w w' := by
  have hl := sigL_len sd M h i
  have he := enc_len (i : Int) (by omega)
  have h1 := Verify_form P (sb S) (sigL sd h i M ++ [120]) h i ((enc (i : Int)).length + 1088 + 16 * h + 1) (enc (i : Int)).length w hP hh hi (by rw [sb_len]; exact hS) (AllB.app (sigL_all _ _ _ _ hi2) (by unfold AllB; decide)) (by rw [List.length_append, hl]; rfl) (by omega)
    (by unfold sigL; rw [List.append_assoc, List.append_assoc]; exact dec_enc (i : Int) (by omega) (by omega) _) (by omega) (by omega)
  rw [mkS_sb] at h1
  rw [show (⟨#[120]⟩ : ByteArray) = mkS [120] from rfl, mkS_app]
  exact h1
/-- A shorter one. -/
theorem Verify_less (P sd M : List Nat) (S : ByteArray) (h i k : Nat) (w : World) (hP : P.length = 16) (hh : h ≤ 6) (hi : i < 2 ^ h) (hi2 : i ≤ 1000000) (hS : S.size ≤ 1000) (hk : k + 1 = (sigL sd h i M).length) :
    Calls Tryd.prog 34 #[.agg (bs P).toArray, .int .i64 (h : Int), .string S, .string ((mkS (sigL sd h i M)).extract 0 k)] w fun e w' => e = .returned (.tuple #[.int .i64 0, .int .i64 2]) ∧ Below w.heap.size w w' := by
  have hl := sigL_len sd M h i
  have he := enc_len (i : Int) (by omega)
  have h1 := Verify_form P (sb S) ((sigL sd h i M).take k) h i k (enc (i : Int)).length w hP hh hi (by rw [sb_len]; exact hS) ((sigL_all _ _ _ _ hi2).take k) (by rw [List.length_take]; omega) (by omega)
    (by unfold sigL; rw [List.append_assoc, List.take_append, List.take_of_length_le (by omega)]; exact dec_enc (i : Int) (by omega) (by omega) _) (by omega) (by omega)
  rw [mkS_sb] at h1
  rw [ext_mkS]
  exact h1

set_option maxHeartbeats 1000000 in
set_option maxRecDepth 100000 in
theorem acc_long (a0 a1 a2 : Nat) (S : ByteArray) (w : World) (hc : (200 : Int) < (S.size : Int))
    (HSA : Hid (∀ W, Below w.heap.size w W → Calls Tryd.prog 28 #[] W fun e w' => e = .returned (.bool true) ∧ Below W.heap.size W w')) :
    Calls Tryd.prog 11 #[.int .u8 (a0 : Int), .int .u8 (a1 : Int), .int .u8 (a2 : Int), .string S] w (SRes w) := by
  have V0 := Below.refl w.heap.size w
  go_enter Tryd.func11, Tryd.ntmps11
  go_wp2_with (go_at_call 28; (with_reducible refine (HSA.out _ V0).mono ?_); rintro e w1 ⟨rfl, hb1⟩)
  go_ret
  exact ⟨rfl, hb1⟩

set_option maxHeartbeats 8000000 in
set_option maxRecDepth 100000 in
theorem acc_main (a0 a1 a2 H I N K : Nat) (D SD SIG : List Nat) (S : ByteArray) (w : World) (hc : ¬ (200 : Int) < (S.size : Int)) (h0 : a0 < 256) (h1 : a1 < 256) (h2 : a2 < 256)
    (hH : a1 % 3 = H) (hN : 2 ^ H = N) (hI : a2 % N = I) (HK : Hid (K + 1 = SIG.length)) (HSL : Hid (2 ≤ SIG.length ∧ SIG.length ≤ 100000)) (HDL : Hid (D.length = 16))
    (HSA : Hid (∀ W, Below w.heap.size w W → Calls Tryd.prog 28 #[] W fun e w' => e = .returned (.bool true) ∧ Below W.heap.size W w'))
    (HSD : Hid (∀ W, Calls Tryd.prog 32 #[.int .u8 (a0 : Int)] W fun e w' => e = .returned (.string (mkS SD)) ∧ Below W.heap.size W w'))
    (HPU : Hid (∀ W, Below w.heap.size w W → Calls Tryd.prog 31 #[.string (mkS SD), .int .i64 (H : Int)] W fun e w' => e = .returned (.tuple #[.agg (bs D).toArray, .int .i64 0]) ∧ Below W.heap.size W w'))
    (HSG : Hid (∀ W, Below w.heap.size w W → Calls Tryd.prog 33 #[.string (mkS SD), .int .i64 (H : Int), .int .i64 (I : Int), .string S] W fun e w' => e = .returned (.tuple #[.string (mkS SIG), .int .i64 0]) ∧ Below W.heap.size W w'))
    (HVM : Hid (∀ W, Below w.heap.size w W → Calls Tryd.prog 34 #[.agg (bs D).toArray, .int .i64 (H : Int), .string S, .string (mkS SIG)] W fun e w' => e = .returned (.tuple #[.int .i64 (I : Int), .int .i64 0]) ∧ Below W.heap.size W w'))
    (HVL : Hid (∀ W, Calls Tryd.prog 34 #[.agg (bs D).toArray, .int .i64 (H : Int), .string S, .string (mkS SIG ++ ⟨#[120]⟩)] W fun e w' => e = .returned (.tuple #[.int .i64 0, .int .i64 2]) ∧ Below W.heap.size W w'))
    (HVS : Hid (∀ W, Calls Tryd.prog 34 #[.agg (bs D).toArray, .int .i64 (H : Int), .string S, .string ((mkS SIG).extract 0 K)] W fun e w' => e = .returned (.tuple #[.int .i64 0, .int .i64 2]) ∧ Below W.heap.size W w')) :
    Calls Tryd.prog 11 #[.int .u8 (a0 : Int), .int .u8 (a1 : Int), .int .u8 (a2 : Int), .string S] w (SRes w) := by
  have V0 := Below.refl w.heap.size w
  have hH3 : H < 3 := by clear hN hI; omega
  have hm1 : (a1 : Int) % 3 = (H : Int) := by clear hN hI; omega
  have hN0 : 0 < N := by rw [← hN]; exact Nat.pow_pos (by decide)
  have hN0I : (0 : Int) < (N : Int) := Int.natCast_pos.2 hN0
  have hN0B : ((N : Int) == 0) = false := beq_eq_false_iff_ne.2 (Int.ne_of_gt hN0I)
  have hA1 : (0 : Int) ≤ (a1 : Int) := Int.natCast_nonneg _
  have hA2 : (0 : Int) ≤ (a2 : Int) := Int.natCast_nonneg _
  have hH0 : (0 : Int) ≤ (H : Int) := Int.natCast_nonneg _
  have HDB : Hid ((bs D).length = 16) := Lib.hid (by rw [bs_len, HDL.out])
  have HID : Hid ((Tryd.prog.info? 44).map (·.size) = some (bs D).length) := Lib.hid (by rw [HDB.out]; exact info_dig)
  have hu' := Tryd.underlying44
  have hsz0 : (mkS SIG).size = K + 1 := by rw [mkS_size, HK.out]
  have HSZ := Lib.hid hsz0
  have HSLT : Hid (¬ ((K : Int) + 1 < 2)) := Lib.hid (by clear hN hI hm1; have := HSL.out; have := HK.out; omega)
  have HSUM : Hid (¬ 9223372036854775807 < (mkS SIG).size + 1) := Lib.hid (by clear hN hI hm1; have := HSL.out; have := HK.out; rw [hsz0]; omega)
  have HKB : Hid (K ≤ 100000) := Lib.hid (by clear hN hI hm1; have := HSL.out; have := HK.out; omega)
  clear hsz0
  have hm2 : (a2 : Int) % (N : Int) = (I : Int) := by rw [← hI]; exact (Int.natCast_emod a2 N).symm
  have hw64 : wrap64 (2 ^ H) = (N : Int) := by rw [w64_pow H (by clear hm2 hN0B hN0I hm1; omega), hN]
  clear hH hN hI
  go_enter Tryd.func11, Tryd.ntmps11
  go_upto_region 6 with (go_at_call 28; (with_reducible refine (HSA.out _ V0).mono ?_); rintro e w1 ⟨rfl, hb1⟩; have V1 := later V0 hb1)
  rw [hm1, hm2]
  clear V0 HSA hb1 hw64 hm2 hm1 hN0B hN0I hA1 hA2 hN0 h0 h1 h2 hc
  go_upto_region 9 with (first
    | (go_at_call 32; (with_reducible refine (HSD.out _).mono ?_); rintro e w2 ⟨rfl, hb2⟩; have V2 := later V1 hb2)
    | (go_at_call 31; (with_reducible refine (HPU.out _ V2).mono ?_); rintro e w3 ⟨rfl, hb3⟩; have V3 := later V2 hb3; clear V1 V2 hb2 hb3)
    | (refine wpList_store_new rfl _ (.tmp 12) (.tmp 40) rfl rfl rfl info_dig HDB.out rfl (all_oneCell_toArray (bs_cell D)) ?_; intro w4 hbel4 hrow4 hsz4; have T4 : Arr w4 w3.heap.size 16 44 (bs D) := Arr.of_row hrow4 HDB.out (by decide); have V4 := later V3 hbel4; clear hrow4 V3 hbel4)
    | (go_at_call 32; (with_reducible refine (HSD.out _).mono ?_); rintro e w5 ⟨rfl, hb5⟩; have V5 := later V4 hb5; have T5 := T4.later hb5; clear T4 V4 hb5)
    | (go_at_call 33; (with_reducible refine (HSG.out _ V5).mono ?_); rintro e w6 ⟨rfl, hb6⟩; have V6 := later V5 hb6; have T6 := T5.later hb6; clear T5 V5 hb6)
    | (with_reducible refine wpList_load_mid rfl _ (.tmp 12) rfl w3.heap.size 0 rfl (bs D) _ T6.range Tryd.underlying44 rfl HID.out ?_)
    | (go_at_call 34; (with_reducible refine (HVM.out _ V6).mono ?_); rintro e w7 ⟨rfl, hb7⟩; have V7 := later V6 hb7; have T7 := T6.later hb7; clear T6 V6 hb7))
  clear HSD HPU HSG HVM
  have hsz := HSZ.out
  have hsl := HSLT.out
  have hsum := HSUM.out
  go_upto_region 12 with (first
    | (with_reducible refine wpList_load_mid rfl _ (.tmp 12) rfl w3.heap.size 0 rfl (bs D) _ T7.range Tryd.underlying44 rfl HID.out ?_)
    | (go_at_call 34; (with_reducible refine (HVL.out _).mono ?_); rintro e w8 ⟨rfl, hb8⟩; have V8 := later V7 hb8; have T8 := T7.later hb8; clear T7 V7 hb8))
  clear HVL
  have T8d : Arr w8.drew w3.heap.size 16 44 (bs D) := T8
  have V8d : Below w.heap.size w w8.drew := below_drew V8
  clear T8 V8
  have hkb := HKB.out
  have hwr : IntKind.i64.wrap (((mkS SIG).size : Int) - 1) = (K : Int) := by rw [HSZ.out, Int.natCast_add, show ((1 : Nat) : Int) = 1 from rfl, Int.add_sub_cancel]; exact IntWalk.i64_in _ (by omega)
  have hk0 : (0 : Int) ≤ (K : Int) := Int.natCast_nonneg _
  have hk1 : (K : Int) ≤ ((mkS SIG).size : Int) := by rw [HSZ.out]; clear hwr; omega
  have hkt : (K : Int).toNat = K := rfl
  clear hsz hsl hsum
  have hsl1 : ∀ W, (Instr.slice 9 (.string (mkS SIG)) none (some (.int .i64 (K : Int))) none).run Tryd.prog W = .ok (.string ((mkS SIG).extract 0 K)) W := fun W => by
    rw [run_slice_string_h _ _ _ Tryd.underlying9 _ _ (Int.natCast_nonneg _) (by rw [HSZ.out]; omega)]
    rfl
  have hsl2 : ∀ W, (Instr.sliceAt 9 (.string (mkS SIG)) none (some (.int .i64 (K : Int))) none).run Tryd.prog W = .ok (.string ((mkS SIG).extract 0 K)) W := fun W => by
    rw [run_sliceAt_string _ _ _ _ _ _ Tryd.underlying9]; exact hsl1 W
  go_region_held3 (fun X => X.rangeAt w3.heap.size 0 (bs D)) (first | exact T8d.range | exact T9.range)
    (first
    | (go_at_call 34; (with_reducible refine (HVS.out _).mono ?_); rintro e w9 ⟨rfl, hb9⟩; have V9 := later V8d hb9; have T9 := T8d.later hb9))
  go_wp2_with fail
  go_ret
  exact ⟨rfl, V9⟩
theorem SignIsAccepted_any (a0 a1 a2 : Nat) (S : ByteArray) (w : World) (h0 : a0 < 256) (h1 : a1 < 256) (h2 : a2 < 256) (hk : Kc w) :
    Calls Tryd.prog 11 #[.int .u8 (a0 : Int), .int .u8 (a1 : Int), .int .u8 (a2 : Int), .string S] w (SRes w) := by
  have hsan : ∀ W, Below w.heap.size w W → Calls Tryd.prog 28 #[] W fun e w' => e = .returned (.bool true) ∧ Below W.heap.size W w' := fun W hW => ssanity_any W (hk.later hW)
  by_cases hc : (200 : Int) < (S.size : Int)
  · exact acc_long a0 a1 a2 S w hc (Lib.hid hsan)
  · have hS : S.size ≤ 200 := by omega
    have hH : a1 % 3 < 3 := Nat.mod_lt _ (by decide)
    generalize hHe : a1 % 3 = H at hH
    have hpos : 0 < 2 ^ H := Nat.pow_pos (by decide)
    have hp4 : 2 ^ H ≤ 4 := Nat.le_trans (Nat.pow_le_pow_right (by decide) (by omega : H ≤ 2)) (by decide)
    generalize hNe : 2 ^ H = N at hpos hp4
    have hI : a2 % N < N := Nat.mod_lt _ hpos
    generalize hIe : a2 % N = I at hI
    have hI2 : I < 2 ^ H := by rw [hNe]; exact hI
    have hI3 : I ≤ 1000000 := by omega
    have hsd : AllB (List.replicate 32 a0) := fun x hx => by rw [List.eq_of_mem_replicate hx]; exact h0
    have hsl : (List.replicate 32 a0).length = 32 := List.length_replicate
    have hl := sigL_len (List.replicate 32 a0) (sb S) H I
    have he := enc_len (I : Int) (by omega)
    have hM : AllB (sb S) := sb_lt S
    have hMl : (sb S).length ≤ 1000 := by rw [sb_len]; omega
    have hHb : H ≤ 6 := by omega
    refine acc_main a0 a1 a2 H I N ((sigL (List.replicate 32 a0) H I (sb S)).length - 1) (nodeL (List.replicate 32 a0) H 0) (List.replicate 32 a0) (sigL (List.replicate 32 a0) H I (sb S)) S w hc h0 h1 h2 hHe hNe hIe
      (Lib.hid (by omega)) (Lib.hid (by omega)) (Lib.hid (nodeL_len _ _ _)) (Lib.hid hsan)
      (Lib.hid fun W => seed_any a0 h0 W) (Lib.hid fun W hW => Public_any H _ W hHb hsd hsl (hk.later hW)) (Lib.hid fun W hW => ?_) (Lib.hid fun W hW => ?_)
      (Lib.hid fun W => Verify_long _ _ _ S H I W (nodeL_len _ _ _) hHb hI2 hI3 (by omega)) (Lib.hid fun W => Verify_less _ _ _ S H I _ W (nodeL_len _ _ _) hHb hI2 hI3 (by omega) (by omega))
    · have h3 := Sign_any H I (List.replicate 32 a0) (sb S) W hHb hI2 hsd hsl hM hMl (hk.later hW)
      rw [mkS_sb] at h3
      exact h3
    · have h3 := Verify_sig (List.replicate 32 a0) (sb S) H I W hHb hI2 hM hMl (hk.later hW)
      rw [mkS_sb] at h3
      exact h3
end Go.Proofs.YtbfoajfpnfkfnaaDoor
