import Derived.Test.YtoopilemlgamkaaDoorG4
import Derived.Test.YtoopilemlgamkaaDoorH13
import Derived.Test.YtoopilemlgamkaaDoorHRefB
set_option linter.unusedVariables false
namespace Go.Proofs.YtoopilemlgamkaaDoor
open Go.RowKit

theorem xorL_take (K : List Nat) (x j : Nat) (hj : j < K.length) : (xorL K x).take (j + 1) = (xorL K x).take j ++ [K.getD j 0 ^^^ x] := by
  have hl : j < (xorL K x).length := by rw [xorL_len]; exact hj
  rw [List.take_succ_eq_append_getElem hl]
  have hg : (xorL K x)[j] = K.getD j 0 ^^^ x := by simp [xorL, List.getD_eq_getElem?_getD, List.getElem?_eq_getElem hj]
  rw [hg]
theorem pad_in (q : List Nat) (j : Nat) (h : j < q.length) : (q ++ List.replicate (64 - q.length) 0).getD j 0 = q.getD j 0 := by
  rw [List.getD_eq_getElem?_getD, List.getD_eq_getElem?_getD, List.getElem?_append_left h]
theorem pad_out (q : List Nat) (j : Nat) (h : q.length ≤ j) : (q ++ List.replicate (64 - q.length) 0).getD j 0 = 0 := by
  rw [List.getD_eq_getElem?_getD, List.getElem?_append_right h, List.getElem?_replicate]
  split <;> rfl
theorem Kr.drew {w : World} (h : Kr w) : Kr w.drew := h

set_option maxHeartbeats 1000000 in
set_option maxRecDepth 100000 in
theorem rpadKey_short (key : ByteArray) (x : Nat) (K : List Nat) (w : World) (hx : x < 256) (hks : key.size ≤ 64) (HK2 : Hid (sb key ++ List.replicate (64 - (sb key).length) 0 = K)) (HKL : Hid (K.length = 64)) (HKB : Hid (AllB K)) :
    Calls Tryd.prog 43 #[.string key, .int .u8 (x : Int)] w fun e w' => ∃ v', e = .returned v' ∧ OwnB w' w.heap.size v' (xorL K x) ∧ Below w.heap.size w w' := by
  have hc : ¬ (64 : Int) < (key.size : Int) := by omega
  go_enter Tryd.func43, Tryd.ntmps43
  go_wp2_with fail
  go_loopw [6, 7] (fun v i W => ∃ j : Nat, j ≤ 64 ∧ i = .int .i64 (j : Int) ∧ OwnB W w.heap.size v ((xorL K x).take j) ∧ Below w.heap.size w W) (fun _ i _ => 64 - (intOf i).toNat)
  case atStart => exact ⟨0, by omega, rfl, OwnB.nil _ _, Below.refl _ _⟩
  case round =>
    obtain ⟨j, hj, rfl, hown, hb⟩ := hrel
    have hbs := hb.size
    by_cases hlt : j < 64
    · have HT := Lib.hid (xorL_take K x j (by rw [HKL.out]; exact hlt))
      have hl : ((xorL K x).take j).length ≤ 64 := by rw [List.length_take]; omega
      have hC := getD_lt HKB.out (by decide) j
      have hji : (j : Int) < 64 := by omega
      by_cases hin : j < key.size
      · have hg : K.getD j 0 = (sb key).getD j 0 := by rw [← HK2.out]; exact pad_in _ j (by rw [sb_len]; exact hin)
        have hix := fun W => run_index_str W key .i64 j hin
        rw [← hg] at hix
        clear hg
        generalize K.getD j 0 = C at hC HT hix
        have hxr := u8_xor_nat C x hC hx
        have hj2 : (j : Int) < (key.size : Int) := by omega
        go_wp2_with (at_builtin; refine wpList_putB (x := C ^^^ x) hown rfl hbs (by omega) rfl _ _ rfl rfl rfl ?_; intro v5 w5 hown5 hbel5)
        go_roundw
        case rel => exact ⟨j + 1, by omega, by go_num, by rw [HT.out]; exact hown5, hb.trans hbel5⟩
        case measure => simp [intOf]; omega
      · have hg : K.getD j 0 = 0 := by rw [← HK2.out]; exact pad_out _ j (by rw [sb_len]; omega)
        rw [hg, Nat.zero_xor] at HT
        have hxr : bits .xor .u8 0 (x : Int) = (x : Int) := by
          have h := u8_xor_nat 0 x (by decide) hx
          rw [Nat.zero_xor] at h
          exact h
        have hj2 : ¬ (j : Int) < (key.size : Int) := by omega
        clear hg
        go_wp2_with (at_builtin; refine wpList_putB (x := x) hown rfl hbs (by omega) rfl _ _ rfl rfl rfl ?_; intro v5 w5 hown5 hbel5)
        go_roundw
        case rel => exact ⟨j + 1, by omega, by go_num, by rw [HT.out]; exact hown5, hb.trans hbel5⟩
        case measure => simp [intOf]; omega
    · have hj64 : j = 64 := by omega
      subst hj64
      rw [List.take_of_length_le (by rw [xorL_len, HKL.out]; exact Nat.le_refl _)] at hown
      go_wp2_with fail
      go_ret
      exact ⟨_, rfl, hown, hb⟩
set_option maxHeartbeats 1000000 in
set_option maxRecDepth 100000 in
theorem rpadKey_long (key ks : ByteArray) (x : Nat) (K : List Nat) (w : World) (hx : x < 256) (hks : 64 < key.size) (hkz : key.size ≤ 1000000) (hkk : ks.size = 32) (Z : List Nat) (HZ : Hid (sha (sb key) = Z)) (HSM : Hid (∀ W, Calls Tryd.prog 23 #[.agg (bs Z).toArray] W fun e w' => e = .returned (.string ks) ∧ Below W.heap.size W w')) (hk : Kr w) (HK2 : Hid (sb ks ++ List.replicate (64 - (sb ks).length) 0 = K)) (HKL : Hid (K.length = 64)) (HKB : Hid (AllB K)) :
    Calls Tryd.prog 43 #[.string key, .int .u8 (x : Int)] w fun e w' => ∃ v', e = .returned v' ∧ OwnB w' w.heap.size v' (xorL K x) ∧ Below w.heap.size w w' := by
  have hc : (64 : Int) < (key.size : Int) := by omega
  have hcv := fun (W : World) => Lib.run_convert_string_bytes (P := Tryd.prog) W 9 22 5 key Tryd.underlying9 Tryd.underlying22 Tryd.underlying5
  have HS : Hid (∀ c W, Kr W → Calls Tryd.prog 15 #[.slice (some ⟨W.heap.size, 0, none⟩) key.size c] (Lib.bytesWorld W 5 key) fun e w' => e = .returned (.agg (bs Z).toArray) ∧ Below (Lib.bytesWorld W 5 key).heap.size (Lib.bytesWorld W 5 key) w') := fun c W hW => by
    rw [← HZ.out]
    have hr := rd_bytes W 5 key
    have hk2 := hW.later (below_bytes W 5 key)
    generalize Lib.bytesWorld W 5 key = W2 at hr hk2 ⊢
    exact rsum_any _ key.size c (sb key) W2 (sb_len key).symm hr (sb_lt key) (by rw [sb_len]; exact hkz) hk2
  have HKR := Lib.hid hk
  clear hk
  generalize bs Z = BZ at HS HSM
  go_enter Tryd.func43, Tryd.ntmps43
  go_wp2_with (first
    | (go_at_call 15; with_reducible refine (HS.out _ w HKR.out).mono ?_; rintro e w1 ⟨rfl, hb1⟩; have V1 := later (below_bytes w _ key) hb1; clear hb1 HS hcv)
    | (go_at_call 23; with_reducible refine (HSM.out _).mono ?_; rintro e w2 ⟨rfl, hb2⟩; have V2 := later V1 hb2; clear hb2 HSM V1))
  go_loopw [6, 7] (fun v i W => ∃ j : Nat, j ≤ 64 ∧ i = .int .i64 (j : Int) ∧ OwnB W w.heap.size v ((xorL K x).take j) ∧ Below w.heap.size w W) (fun _ i _ => 64 - (intOf i).toNat)
  case atStart => exact ⟨0, by omega, rfl, OwnB.nil _ _, V2⟩
  case round =>
    obtain ⟨j, hj, rfl, hown, hb⟩ := hrel
    have hbs := hb.size
    by_cases hlt : j < 64
    · have HT := Lib.hid (xorL_take K x j (by rw [HKL.out]; exact hlt))
      have hl : ((xorL K x).take j).length ≤ 64 := by rw [List.length_take]; omega
      have hC := getD_lt HKB.out (by decide) j
      have hji : (j : Int) < 64 := by omega
      by_cases hin : j < ks.size
      · have hg : K.getD j 0 = (sb ks).getD j 0 := by rw [← HK2.out]; exact pad_in _ j (by rw [sb_len]; exact hin)
        have hix := fun W => run_index_str W ks .i64 j hin
        rw [← hg] at hix
        clear hg
        generalize K.getD j 0 = C at hC HT hix
        have hxr := u8_xor_nat C x hC hx
        have hj2 : (j : Int) < (ks.size : Int) := by omega
        go_wp2_with (at_builtin; refine wpList_putB (x := C ^^^ x) hown rfl hbs (by omega) rfl _ _ rfl rfl rfl ?_; intro v5 w5 hown5 hbel5)
        go_roundw
        case rel => exact ⟨j + 1, by omega, by go_num, by rw [HT.out]; exact hown5, hb.trans hbel5⟩
        case measure => simp [intOf]; omega
      · have hg : K.getD j 0 = 0 := by rw [← HK2.out]; exact pad_out _ j (by rw [sb_len]; omega)
        rw [hg, Nat.zero_xor] at HT
        have hxr : bits .xor .u8 0 (x : Int) = (x : Int) := by
          have h := u8_xor_nat 0 x (by decide) hx
          rw [Nat.zero_xor] at h
          exact h
        have hj2 : ¬ (j : Int) < (ks.size : Int) := by omega
        clear hg
        go_wp2_with (at_builtin; refine wpList_putB (x := x) hown rfl hbs (by omega) rfl _ _ rfl rfl rfl ?_; intro v5 w5 hown5 hbel5)
        go_roundw
        case rel => exact ⟨j + 1, by omega, by go_num, by rw [HT.out]; exact hown5, hb.trans hbel5⟩
        case measure => simp [intOf]; omega
    · have hj64 : j = 64 := by omega
      subst hj64
      rw [List.take_of_length_le (by rw [xorL_len, HKL.out]; exact Nat.le_refl _)] at hown
      go_wp2_with fail
      go_ret
      exact ⟨_, rfl, hown, hb⟩
theorem rpadKey_any (key : ByteArray) (x : Nat) (w : World) (hx : x < 256) (hkz : key.size ≤ 1000000) (hk : Kr w) :
    Calls Tryd.prog 43 #[.string key, .int .u8 (x : Int)] w fun e w' => ∃ v', e = .returned v' ∧ OwnB w' w.heap.size v' (xorL (key64 (sb key)) x) ∧ Below w.heap.size w w' := by
  by_cases h : 64 < key.size
  · have hl : (sha (sb key)).length = 32 := sha_len _
    refine rpadKey_long key (mkS (sha (sb key))) x (key64 (sb key)) w hx h hkz (by rw [mkS_size, hl]) _ (Lib.hid rfl) (fun W => bytes32_any _ hl W) hk ?_ (Lib.hid (key64_len _)) (Lib.hid (key64_all (sb_lt key)))
    refine Lib.hid ?_
    unfold key64
    rw [sb_mkS _ (sha_all _)]
    simp only [if_pos (show 64 < (sb key).length by rw [sb_len]; exact h)]
  · refine rpadKey_short key x (key64 (sb key)) w hx (by omega) ?_ (Lib.hid (key64_len _)) (Lib.hid (key64_all (sb_lt key)))
    refine Lib.hid ?_
    unfold key64
    simp only [if_neg (show ¬ 64 < (sb key).length by rw [sb_len]; exact h)]
end Go.Proofs.YtoopilemlgamkaaDoor
