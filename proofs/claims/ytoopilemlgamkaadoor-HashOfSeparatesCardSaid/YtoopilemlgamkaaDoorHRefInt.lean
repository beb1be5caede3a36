import Derived.Test.YtoopilemlgamkaaDoorBase
set_option linter.unusedVariables false
namespace Go.Proofs.YtoopilemlgamkaaDoor
open Go.RowKit

theorem rdigs_next {m : Nat} (h : m ≠ 0) : (digs m).reverse = m % 256 :: (digs (m / 256)).reverse := by rw [digs_pos h]; simp

/-- The digits, the least first, as the document's own text makes them. -/
theorem rdigs_len {n m : Nat} {xs : List Nat} (h : xs ++ (digs m).reverse = (digs n).reverse) (hn : n ≤ 9223372036854775807) : xs.length ≤ 8 := by
  have h1 := digs_len8 hn
  have h2 := congrArg List.length h
  simp at h2; omega

set_option maxHeartbeats 400000 in
set_option maxRecDepth 100000 in
theorem refIntPos_any (n : Nat) (w : World) (hn : n ≤ 9223372036854775807) :
    Calls Tryd.prog 62 #[.int .i64 (n : Int)] w fun e w' => ∃ v', e = .returned v' ∧ OwnB w' w.heap.size v' (enc n) ∧ Below w.heap.size w w' := by
  have hn0 : (0 : Int) ≤ (n : Int) := by omega
  have hn1 : ¬ (n : Int) < 0 := by omega
  go_enter Tryd.func62, Tryd.ntmps62
  go_wp2
  go_loopw [3, 4] (fun m d wr => ∃ (M : Nat) (xs : List Nat), M ≤ n ∧ m = .int .i64 (M : Int) ∧ OwnB wr w.heap.size d xs ∧ xs ++ (digs M).reverse = (digs n).reverse ∧ Below w.heap.size w wr) (fun m _ _ => (intOf m).toNat)
  case atStart => exact ⟨n, [], Nat.le_refl _, rfl, OwnB.nil _ _, by simp, Below.refl _ _⟩
  case round =>
    obtain ⟨M, xs, hM, rfl, hown, hx, hb⟩ := hrel
    have hl := rdigs_len hx hn
    have hbs := hb.size
    by_cases h0 : 0 < M
    · have h0' : (0 : Int) < (M : Int) := by omega
      have hmod : (M : Int).tmod 256 = ((M % 256 : Nat) : Int) := rfl
      have hm1 : (0 : Int) ≤ (M : Int).tmod 256 ∧ (M : Int).tmod 256 < 256 := by rw [hmod]; omega
      have hdiv : (M : Int).tdiv 256 = ((M / 256 : Nat) : Int) := rfl
      have hx2 : (xs ++ [M % 256]) ++ (digs (M / 256)).reverse = (digs n).reverse := by rw [← hx, rdigs_next (m := M) (by omega)]; simp
      have hlt : M % 256 < 256 := Nat.mod_lt _ (by decide)
      have HX := Lib.hid hx2
      have hM2 : M / 256 < M := Nat.div_lt_self h0 (by decide)
      clear hx hx2
      go_wp2_with (at_builtin; refine wpList_putB (x := M % 256) hown (by first | exact hmod | (simp; omega)) (by omega) (by omega) rfl _ _ rfl rfl rfl ?_; intro v3 w3 hown3 hbel3)
      go_roundw
      case rel => exact ⟨M / 256, _, by omega, rfl, hown3, HX.out, hb.trans hbel3⟩
      case measure => simp only [intOf]; omega
    · have hM0 : M = 0 := by omega
      subst hM0
      have hd : xs = (digs n).reverse := by simpa [digs_zero] using hx
      subst hd
      obtain ⟨A, c, rfl, hc1, hc2⟩ := hown.shape
      have hwr : w.heap.size ≤ wr.heap.size := hbs
      have hK : (digs n).reverse.length = (digs n).length := List.length_reverse
      have hK8 := digs_len8 hn
      have henc := Lib.hid (enc_pos n)
      have hrd := hown.rd
      rw [hK] at hc1 ⊢
      clear hx h0 hl hK hown
      generalize hD : digs n = D at *
      clear hD
      go_wp2_with (at_builtin; refine wpList_putB (base := wr.heap.size) (x := 128 + D.length) (OwnB.nil _ _) (by omega) (Nat.le_refl _) (by simp) rfl _ _ rfl rfl rfl ?_; intro v4 w4 hown4 hbel4)
      have hb4 : Below w.heap.size w w4 := hb.trans (hbel4.mono hwr)
      have hrd4 := hrd.below hbel4
      go_loopw [6, 7] (fun o i wr2 => ∃ k : Nat, k ≤ D.length ∧ i = .int .i64 ((k : Int) - 1) ∧ OwnB wr2 wr.heap.size o ((128 + D.length) :: D.take (D.length - k)) ∧ Below wr.heap.size wr wr2) (fun _ i _ => (intOf i + 1).toNat)
      case atStart => exact ⟨D.length, Nat.le_refl _, rfl, by simpa using hown4, hbel4⟩
      case round =>
        obtain ⟨k, hk, rfl, hown5, hb5⟩ := hrel
        cases k with
        | zero =>
          have hend : (128 + D.length) :: D.take (D.length - 0) = enc (n : Int) := by rw [henc.out]; simp
          rw [hend] at hown5
          go_wp2_with fail
          go_ret
          exact ⟨_, rfl, hown5.less hwr, hb.trans (hb5.mono hwr)⟩
        | succ k =>
          have hi : ((k + 1 : Nat) : Int) - 1 = (k : Int) := by omega
          rw [hi]
          obtain ⟨b, o, rfl, _, hc⟩ := (hrd.below hb5).at_ (by intro h; have := congrArg List.length h; simp [bs] at this; subst this; simp at hk)
          have hkl : k < D.reverse.length := by simp; omega
          have hcell := hc k _ (bs_get D.reverse k hkl)
          have hget : D.reverse[k]?.getD 0 = D[D.length - (k + 1)]'(by omega) := by
            rw [List.getElem?_eq_getElem hkl, Option.getD_some, List.getElem_reverse]
            congr 1; omega
          rw [hget] at hcell
          have htake : D.take (D.length - k) = D.take (D.length - (k + 1)) ++ [D[D.length - (k + 1)]'(by omega)] := by
            rw [show D.length - k = D.length - (k + 1) + 1 by omega, List.take_succ_eq_append_getElem (by omega)]
          have HT := Lib.hid htake
          have hkD : (k : Int) < (D.length : Int) := by omega
          have hb5s := hb5.size
          have hlen5 : ((128 + D.length) :: D.take (D.length - (k + 1))).length ≤ 10 := by simp; omega
          clear hc hget htake
          generalize D[D.length - (k + 1)]'(by omega) = X at hcell HT
          go_wp2_with (at_builtin; refine wpList_putB (x := X) hown5 rfl hb5s (by omega) rfl _ _ rfl rfl rfl ?_; intro v6 w6 hown6 hbel6)
          go_roundw
          case rel => exact ⟨k, by omega, rfl, by rw [HT.out]; simpa using hown6, hb5.trans hbel6⟩
          case measure => simp [intOf]
set_option maxHeartbeats 400000 in
set_option maxRecDepth 100000 in
theorem refIntNeg_any (n : Nat) (N : Int) (hN : N = -1 - (n : Int)) (w : World) (hn : n ≤ 9223372036854775807) :
    Calls Tryd.prog 62 #[.int .i64 N] w fun e w' => ∃ v', e = .returned v' ∧ OwnB w' w.heap.size v' (enc N) ∧ Below w.heap.size w w' := by
  have hn0 : N < 0 := by omega
  have hn1 : ¬ 0 ≤ N := by omega
  have hn2 : -1 - N = (n : Int) := by omega
  have hn3 : -9223372036854775808 ≤ N := by omega
  have HN := Lib.hid hN
  clear hN
  go_enter Tryd.func62, Tryd.ntmps62
  go_wp2
  go_loopw [3, 4] (fun m d wr => ∃ (M : Nat) (xs : List Nat), M ≤ n ∧ m = .int .i64 (M : Int) ∧ OwnB wr w.heap.size d xs ∧ xs ++ (digs M).reverse = (digs n).reverse ∧ Below w.heap.size w wr) (fun m _ _ => (intOf m).toNat)
  case atStart => exact ⟨n, [], Nat.le_refl _, rfl, OwnB.nil _ _, by simp, Below.refl _ _⟩
  case round =>
    obtain ⟨M, xs, hM, rfl, hown, hx, hb⟩ := hrel
    have hl := rdigs_len hx hn
    have hbs := hb.size
    by_cases h0 : 0 < M
    · have h0' : (0 : Int) < (M : Int) := by omega
      have hmod : (M : Int).tmod 256 = ((M % 256 : Nat) : Int) := rfl
      have hm1 : (0 : Int) ≤ (M : Int).tmod 256 ∧ (M : Int).tmod 256 < 256 := by rw [hmod]; omega
      have hdiv : (M : Int).tdiv 256 = ((M / 256 : Nat) : Int) := rfl
      have hx2 : (xs ++ [M % 256]) ++ (digs (M / 256)).reverse = (digs n).reverse := by rw [← hx, rdigs_next (m := M) (by omega)]; simp
      have hlt : M % 256 < 256 := Nat.mod_lt _ (by decide)
      have HX := Lib.hid hx2
      have hM2 : M / 256 < M := Nat.div_lt_self h0 (by decide)
      clear hx hx2
      go_wp2_with (at_builtin; refine wpList_putB (x := M % 256) hown (by first | exact hmod | (simp; omega)) (by omega) (by omega) rfl _ _ rfl rfl rfl ?_; intro v3 w3 hown3 hbel3)
      go_roundw
      case rel => exact ⟨M / 256, _, by omega, rfl, hown3, HX.out, hb.trans hbel3⟩
      case measure => simp only [intOf]; omega
    · have hM0 : M = 0 := by omega
      subst hM0
      have hd : xs = (digs n).reverse := by simpa [digs_zero] using hx
      subst hd
      obtain ⟨A, c, rfl, hc1, hc2⟩ := hown.shape
      have hwr : w.heap.size ≤ wr.heap.size := hbs
      have hK : (digs n).reverse.length = (digs n).length := List.length_reverse
      have hK8 := digs_len8 hn
      have henc := Lib.hid (show enc N = (127 - (digs n).length) :: (digs n).map (255 - ·) by rw [HN.out]; exact enc_neg n)
      have hlt := digs_lt n
      have hrd := hown.rd
      rw [hK] at hc1 ⊢
      clear hx h0 hl hK hown
      generalize hD : digs n = D at *
      clear hD
      go_wp2_with (at_builtin; refine wpList_putB (base := wr.heap.size) (x := 127 - D.length) (OwnB.nil _ _) (by omega) (Nat.le_refl _) (by simp) rfl _ _ rfl rfl rfl ?_; intro v4 w4 hown4 hbel4)
      have hb4 : Below w.heap.size w w4 := hb.trans (hbel4.mono hwr)
      have hrd4 := hrd.below hbel4
      go_loopw [6, 7] (fun o i wr2 => ∃ k : Nat, k ≤ D.length ∧ i = .int .i64 ((k : Int) - 1) ∧ OwnB wr2 wr.heap.size o ((127 - D.length) :: (D.map (255 - ·)).take (D.length - k)) ∧ Below wr.heap.size wr wr2) (fun _ i _ => (intOf i + 1).toNat)
      case atStart => exact ⟨D.length, Nat.le_refl _, rfl, by simpa using hown4, hbel4⟩
      case round =>
        obtain ⟨k, hk, rfl, hown5, hb5⟩ := hrel
        cases k with
        | zero =>
          have hend : (127 - D.length) :: (D.map (255 - ·)).take (D.length - 0) = enc N := by rw [henc.out, List.take_of_length_le (by simp)]
          rw [hend] at hown5
          go_wp2_with fail
          go_ret
          exact ⟨_, rfl, hown5.less hwr, hb.trans (hb5.mono hwr)⟩
        | succ k =>
          have hi : ((k + 1 : Nat) : Int) - 1 = (k : Int) := by omega
          rw [hi]
          obtain ⟨b, o, rfl, _, hc⟩ := (hrd.below hb5).at_ (by intro h; have := congrArg List.length h; simp [bs] at this; subst this; simp at hk)
          have hkl : k < D.reverse.length := by simp; omega
          have hcell := hc k _ (bs_get D.reverse k hkl)
          have hget : D.reverse[k]?.getD 0 = D[D.length - (k + 1)]'(by omega) := by
            rw [List.getElem?_eq_getElem hkl, Option.getD_some, List.getElem_reverse]
            congr 1; omega
          rw [hget] at hcell
          have htake : (D.map (255 - ·)).take (D.length - k) = (D.map (255 - ·)).take (D.length - (k + 1)) ++ [255 - D[D.length - (k + 1)]'(by omega)] := by
            rw [show D.length - k = D.length - (k + 1) + 1 by omega, List.take_succ_eq_append_getElem (by simp; omega), List.getElem_map]
          have hX := hlt _ (List.getElem_mem (show D.length - (k + 1) < D.length by omega))
          have HT := Lib.hid htake
          have hkD : (k : Int) < (D.length : Int) := by omega
          have hb5s := hb5.size
          have hlen5 : ((127 - D.length) :: (D.map (255 - ·)).take (D.length - (k + 1))).length ≤ 10 := by simp; omega
          clear hc hget htake
          generalize D[D.length - (k + 1)]'(by omega) = X at hcell HT hX
          go_wp2_with (at_builtin; refine wpList_putB (x := 255 - X) hown5 (by omega) hb5s (by omega) rfl _ _ rfl rfl rfl ?_; intro v6 w6 hown6 hbel6)
          go_roundw
          case rel => exact ⟨k, by omega, rfl, by rw [HT.out]; simpa using hown6, hb5.trans hbel6⟩
          case measure => simp [intOf]
theorem refInt_any (n : Int) (w : World) (hn : InR n) :
    Calls Tryd.prog 62 #[.int .i64 n] w fun e w' => ∃ v', e = .returned v' ∧ OwnB w' w.heap.size v' (enc n) ∧ Below w.heap.size w w' := by
  unfold InR at hn
  rcases Int.lt_or_le n 0 with h | h
  · exact refIntNeg_any (-1 - n).toNat n (by omega) w (by omega)
  · obtain ⟨N, rfl⟩ := Int.eq_ofNat_of_zero_le h
    exact refIntPos_any N w (by omega)
end Go.Proofs.YtoopilemlgamkaaDoor
