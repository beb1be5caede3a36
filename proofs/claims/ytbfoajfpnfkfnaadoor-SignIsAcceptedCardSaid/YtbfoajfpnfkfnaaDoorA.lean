import Derived.Test.YtbfoajfpnfkfnaaDoorWords
set_option linter.unusedVariables false
namespace Go.Proofs.YtbfoajfpnfkfnaaDoor
open Go.RowKit

theorem set_mid (xs ds : List Nat) (z x : Nat) : (xs ++ z :: ds).set xs.length x = xs ++ x :: ds := by
  rw [List.set_append_right _ _ (Nat.le_refl _)]; simp

set_option maxHeartbeats 400000 in
set_option maxRecDepth 100000 in
theorem appendInt_pos (base : Nat) (v : Value) (xs : List Nat) (n : Nat) (w : World) (hb : base ≤ w.heap.size) (hn : n ≤ 9223372036854775807) (hlen : xs.length + 16 ≤ 140737488355328)
    (hown : OwnB w base v xs) :
    Calls Tryd.prog 70 #[v, .int .i64 (n : Int)] w fun e w' => ∃ v', e = .returned v' ∧ OwnB w' base v' (xs ++ enc n) ∧ Below base w w' := by
  obtain ⟨A, cap, rfl, hcap1, hcap2⟩ := hown.shape
  have hneg : decide ((n : Int) < 0) = false := by simp
  go_enter Tryd.func70, Tryd.ntmps70
  go_wp2
  go_step3
  go_wp2_with (at_builtin; refine wpList_putB (x := 0) hown (by omega) hb (by omega) rfl _ _ rfl rfl rfl ?_; intro v1 w1 hown1 hbel1)
  go_step3
  go_wp2
  go_loopw [0, 7] (fun b s wr => ∃ (j : Nat) (ys : List Nat), j ≤ 8 ∧ s = .int .i64 (8 * (j : Int) - 8) ∧ OwnB wr base b ys ∧ Below base w wr ∧ ys = xs ++ 0 :: digs (n / 2 ^ (8 * j))) (fun _ s _ => (intOf s + 8).toNat)
  case atStart =>
    refine ⟨8, _, Nat.le_refl _, rfl, hown1, hbel1, ?_⟩
    rw [digs_top hn]
  case round =>
    obtain ⟨j, ys, hj, rfl, hown2, hbel2, hys⟩ := hrel
    clear hown1 hbel1 hown
    have hbw := hbel2.size
    have hlj := digs_len8' hn j
    have hyl : ys.length = xs.length + 1 + (digs (n / 2 ^ (8 * j))).length := by rw [hys]; simp; omega
    have HY := Lib.hid hys
    clear hys
    match j, hj with
    | 0, hj =>
      have e0 : n / 2 ^ (8 * 0) = n := by simp
      rw [e0] at HY hyl hlj
      clear e0
      obtain ⟨g, cap2, rfl, hg, _, hcap3, hcap4⟩ := hown2.some_ (by omega)
      have hcell := hown2.cell xs.length (by omega)
      have hfr := hown2.free xs.length
      obtain ⟨k, hk⟩ : ∃ k, k = (digs n).length := ⟨_, rfl⟩
      rw [← hk] at hyl hlj
      have HK := Lib.hid hk
      have hy1 : ys.length ≤ xs.length + 1 + k := by omega
      have hy2 : xs.length + 1 + k ≤ ys.length := by omega
      clear hk hyl
      go_wp2
      rw [Exit.noGoto_ret]
      go_ret
      refine ⟨_, rfl, ?_, hbel2.setCell hg _⟩
      have h2 := hown2.set_ xs.length (128 + k) (X := 128 + ((ys.length : Int) - xs.length - 1)) (by omega)
      have e : ys.set xs.length (128 + k) = xs ++ enc n := by rw [HY.out, set_mid, HK.out, enc_pos]
      rw [e] at h2
      exact h2
    | i + 1, hj =>
      have e : (8 * ((i + 1 : Nat) : Int) - 8) = ((8 * i : Nat) : Int) := by omega
      rw [e]
      clear e
      have hi7 : i ≤ 7 := by omega
      clear hj
      have hq := dig_cast n i
      generalize hD : n / 2 ^ (8 * i) % 256 = D at hq
      have HD := Lib.hid hD
      clear hD
      obtain ⟨A2, cap2, rfl, hcap3, hcap4⟩ := hown2.shape
      by_cases hz : n / 2 ^ (8 * i) = 0
      · obtain ⟨e1, e2⟩ := digs_skip hz
        rw [e1] at HY hyl
        have hD0 : D = 0 := by rw [← HD.out, hz]
        subst hD0
        have HZ := Lib.hid e2
        have hy1 : ((ys.length : Int) == (xs.length : Int) + 1) = true := by simp at hyl ⊢; omega
        have hy2 : ys.length ≤ xs.length + 9 := by simp at hyl; omega
        clear e1 e2 hz HD hlj hyl
        go_wp2_with fail
        go_roundw
        case rel => exact ⟨i, ys, by omega, by go_num, hown2, hbel2, by rw [HZ.out]; exact HY.out⟩
        case measure => simp [intOf]; omega
      · have e1 := digs_more hz
        have hne := digs_more0 hz
        rw [HD.out] at e1 hne
        have hpos : D = 0 → xs.length + 1 < ys.length := fun h => by have := List.length_pos_iff.2 (hne h); omega
        clear hne
        have hy2 : ys.length ≤ xs.length + 9 := by omega
        have HE := Lib.hid e1
        clear e1 hz HD hlj hyl
        by_cases h0 : D = 0
        · have hd : (((D : Nat) : Int) == 0) = true := by simp [h0]
          have hf1 : ((ys.length : Int) == (xs.length : Int) + 1) = false := by have := hpos h0; simp; omega
          clear h0 hpos
          go_wp2_with (at_builtin; refine wpList_putB (x := D) hown2 (by omega) (by omega) (by omega) rfl _ _ rfl rfl rfl ?_; intro v3 w3 hown3 hbel3)
          go_roundw
          case rel => exact ⟨i, _, by omega, by go_num, hown3, hbel2.trans hbel3, by rw [HE.out, HY.out]; simp⟩
          case measure => simp [intOf]; omega
        · have hd : (((D : Nat) : Int) == 0) = false := by simp [h0]
          clear h0 hpos
          go_wp2_with (at_builtin; refine wpList_putB (x := D) hown2 (by omega) (by omega) (by omega) rfl _ _ rfl rfl rfl ?_; intro v3 w3 hown3 hbel3)
          go_roundw
          case rel => exact ⟨i, _, by omega, by go_num, hown3, hbel2.trans hbel3, by rw [HE.out, HY.out]; simp⟩
          case measure => simp [intOf]; omega
set_option maxHeartbeats 400000 in
set_option maxRecDepth 100000 in
theorem appendInt_neg (base : Nat) (v : Value) (xs : List Nat) (n : Nat) (N : Int) (hN : -1 - N = (n : Int)) (w : World) (hb : base ≤ w.heap.size) (hn : n ≤ 9223372036854775807) (hlen : xs.length + 16 ≤ 140737488355328)
    (hown : OwnB w base v xs) :
    Calls Tryd.prog 70 #[v, .int .i64 N] w fun e w' => ∃ v', e = .returned v' ∧ OwnB w' base v' (xs ++ enc N) ∧ Below base w w' := by
  obtain ⟨A, cap, rfl, hcap1, hcap2⟩ := hown.shape
  have hneg : decide (N < 0) = true := by simp; omega
  have hN1 : -9223372036854775808 ≤ N := by omega
  have hN2 : N < 0 := by omega
  have HN := Lib.hid hN
  clear hN
  go_enter Tryd.func70, Tryd.ntmps70
  go_wp2
  go_step3
  go_wp2_with (at_builtin; refine wpList_putB (x := 0) hown (by omega) hb (by omega) rfl _ _ rfl rfl rfl ?_; intro v1 w1 hown1 hbel1)
  go_step3
  go_wp2
  go_loopw [0, 7] (fun b s wr => ∃ (j : Nat) (ys : List Nat), j ≤ 8 ∧ s = .int .i64 (8 * (j : Int) - 8) ∧ OwnB wr base b ys ∧ Below base w wr ∧ ys = xs ++ 0 :: (digs (n / 2 ^ (8 * j))).map (255 - ·)) (fun _ s _ => (intOf s + 8).toNat)
  case atStart =>
    refine ⟨8, _, Nat.le_refl _, rfl, hown1, hbel1, ?_⟩
    rw [digs_top hn]; rfl
  case round =>
    obtain ⟨j, ys, hj, rfl, hown2, hbel2, hys⟩ := hrel
    clear hown1 hbel1 hown
    have hbw := hbel2.size
    have hlj := digs_len8' hn j
    have hyl : ys.length = xs.length + 1 + (digs (n / 2 ^ (8 * j))).length := by rw [hys]; simp; omega
    have HY := Lib.hid hys
    clear hys
    match j, hj with
    | 0, hj =>
      have e0 : n / 2 ^ (8 * 0) = n := by simp
      rw [e0] at HY hyl hlj
      clear e0
      obtain ⟨g, cap2, rfl, hg, _, hcap3, hcap4⟩ := hown2.some_ (by omega)
      have hcell := hown2.cell xs.length (by omega)
      have hfr := hown2.free xs.length
      obtain ⟨k, hk⟩ : ∃ k, k = (digs n).length := ⟨_, rfl⟩
      rw [← hk] at hyl hlj
      have HK := Lib.hid hk
      have hy1 : ys.length ≤ xs.length + 1 + k := by omega
      have hy2 : xs.length + 1 + k ≤ ys.length := by omega
      clear hk hyl
      go_wp2
      rw [Exit.noGoto_ret]
      go_ret
      refine ⟨_, rfl, ?_, (hbel2.setCell hg _).setCell hg _⟩
      have h2 := (hown2.set_ xs.length (128 + k) (X := 128 + ((ys.length : Int) - xs.length - 1)) (by omega)).set_ xs.length (127 - k) (X := 127 - ((ys.length : Int) - xs.length - 1)) (by omega)
      have e : (ys.set xs.length (128 + k)).set xs.length (127 - k) = xs ++ enc N := by rw [HY.out, set_mid, set_mid, HK.out, show N = -1 - (n : Int) from by have := HN.out; omega, enc_neg]
      rw [e] at h2
      exact h2
    | i + 1, hj =>
      have e : (8 * ((i + 1 : Nat) : Int) - 8) = ((8 * i : Nat) : Int) := by omega
      rw [e]
      clear e
      have hi7 : i ≤ 7 := by omega
      clear hj
      have hq := dig_cast n i
      rw [← HN.out] at hq
      generalize hD : n / 2 ^ (8 * i) % 256 = D at hq
      have HD := Lib.hid hD
      clear hD
      obtain ⟨A2, cap2, rfl, hcap3, hcap4⟩ := hown2.shape
      by_cases hz : n / 2 ^ (8 * i) = 0
      · obtain ⟨e1, e2⟩ := digs_skip hz
        rw [e1] at HY hyl
        have hD0 : D = 0 := by rw [← HD.out, hz]
        subst hD0
        have HZ := Lib.hid e2
        have hy1 : ((ys.length : Int) == (xs.length : Int) + 1) = true := by simp at hyl ⊢; omega
        have hy2 : ys.length ≤ xs.length + 9 := by simp at hyl; omega
        clear e1 e2 hz HD hlj hyl
        go_wp2_with fail
        go_roundw
        case rel => exact ⟨i, ys, by omega, by go_num, hown2, hbel2, by rw [HZ.out]; exact HY.out⟩
        case measure => simp [intOf]; omega
      · have e1 := digs_more hz
        have hne := digs_more0 hz
        rw [HD.out] at e1 hne
        have hpos : D = 0 → xs.length + 1 < ys.length := fun h => by have := List.length_pos_iff.2 (hne h); omega
        clear hne
        have hy2 : ys.length ≤ xs.length + 9 := by omega
        have HE := Lib.hid e1
        clear e1 hz HD hlj hyl
        by_cases h0 : D = 0
        · have hd : (((D : Nat) : Int) == 0) = true := by simp [h0]
          have hf1 : ((ys.length : Int) == (xs.length : Int) + 1) = false := by have := hpos h0; simp; omega
          clear h0 hpos
          go_wp2_with (at_builtin; refine wpList_putB (x := 255 - D) hown2 (by omega) (by omega) (by omega) rfl _ _ rfl rfl rfl ?_; intro v3 w3 hown3 hbel3)
          go_roundw
          case rel => exact ⟨i, _, by omega, by go_num, hown3, hbel2.trans hbel3, by rw [HE.out, HY.out]; simp⟩
          case measure => simp [intOf]; omega
        · have hd : (((D : Nat) : Int) == 0) = false := by simp [h0]
          clear h0 hpos
          go_wp2_with (at_builtin; refine wpList_putB (x := 255 - D) hown2 (by omega) (by omega) (by omega) rfl _ _ rfl rfl rfl ?_; intro v3 w3 hown3 hbel3)
          go_roundw
          case rel => exact ⟨i, _, by omega, by go_num, hown3, hbel2.trans hbel3, by rw [HE.out, HY.out]; simp⟩
          case measure => simp [intOf]; omega
end Go.Proofs.YtbfoajfpnfkfnaaDoor
