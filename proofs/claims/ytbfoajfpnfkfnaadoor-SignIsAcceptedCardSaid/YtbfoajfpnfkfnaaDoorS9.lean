import Derived.Test.YtbfoajfpnfkfnaaDoorS8
set_option linter.unusedVariables false
namespace Go.Proofs.YtbfoajfpnfkfnaaDoor
open Go.RowKit

theorem IsBld.below {W W' : World} {B b C : Nat} {X : List Nat} (h : IsBld W B b X) (hb : Below C W W') (hl : W.heap.size ≤ C) : IsBld W' B b X := h.later (hb.mono hl)
theorem trio_new (w : World) (F T : List Nat) (hF : F.length = 68) (hT : T.length = 68) :
    Arr (((w.alloc (.cells (isv F).toArray 76)).alloc (.cells (isv T).toArray 76)).alloc (.cells #[.pointer none, .slice none 0 0] 98)) w.heap.size 68 76 (isv F) ∧
    Arr (((w.alloc (.cells (isv F).toArray 76)).alloc (.cells (isv T).toArray 76)).alloc (.cells #[.pointer none, .slice none 0 0] 98)) (w.heap.size + 1) 68 76 (isv T) ∧
    IsBld (((w.alloc (.cells (isv F).toArray 76)).alloc (.cells (isv T).toArray 76)).alloc (.cells #[.pointer none, .slice none 0 0] 98)) (w.heap.size + 1 + 1) (w.heap.size + 1 + 1) [] ∧
    Below w.heap.size w (((w.alloc (.cells (isv F).toArray 76)).alloc (.cells (isv T).toArray 76)).alloc (.cells #[.pointer none, .slice none 0 0] 98)) := by
  obtain ⟨a1, a2, hb⟩ := duo_new w 76 76 (isv F).toArray (isv T).toArray (isv F) (isv T) 68 68 rfl rfl (by rw [isv_len, hF]) (by rw [isv_len, hT]) (by decide) (by decide)
  have n := new_later ((w.alloc (.cells (isv F).toArray 76)).alloc (.cells (isv T).toArray 76)) (.cells #[.pointer none, .slice none 0 0] 98)
  have f := IsBld.fresh ((w.alloc (.cells (isv F).toArray 76)).alloc (.cells (isv T).toArray 76))
  have hs : ((w.alloc (.cells (isv F).toArray 76)).alloc (.cells (isv T).toArray 76)).heap.size = w.heap.size + 1 + 1 := by simp
  rw [hs] at f
  exact ⟨a1.later n, a2.later n, f, later hb n⟩
theorem isv_at (l : List Nat) (k : Nat) (h : k < l.length) : (isv l)[k]? = some (.int .i64 ((l.getD k 0 : Nat) : Int)) := by
  refine isv_get ?_
  rw [List.getD_eq_getElem?_getD, List.getElem?_eq_getElem h]; rfl

set_option maxHeartbeats 4000000 in
set_option maxRecDepth 100000 in
theorem climb_any (i : Nat) (V F T : List Nat) (hi : i ≤ 1000000) (hV : V.length = 1088) (hVB : AllB V) (hF : F.length = 68) (hT : T.length = 68) (hF3 : ∀ c, F.getD c 0 ≤ 3) (hT3 : ∀ c, T.getD c 0 ≤ 3) (w : World) (hk : Kc w) :
    Calls Tryd.prog 52 #[.int .i64 (i : Int), .string (mkS V), .agg (isv F).toArray, .agg (isv T).toArray] w fun e w' => e = .returned (.string (mkS (climbL i V F T))) ∧ Below w.heap.size w w' := by
  have HALL : Hid (∀ n, AllB (climbK i V F T n)) := Lib.hid fun n => flat_all (fun c => upAt_all i F T hVB c) n
  have HLEN : Hid (∀ n, n ≤ 68 → (climbK i V F T n).length = 16 * n) := Lib.hid (climbK_len i F T hV)
  have HK : Hid (∀ W, Below w.heap.size w W → Kc W) := Lib.hid fun W hW => hk.later hW
  have HV := Lib.hid hV
  have HVB := Lib.hid hVB
  have HF := Lib.hid hF
  have HT := Lib.hid hT
  have HF3 := Lib.hid hF3
  have HT3 := Lib.hid hT3
  have hini := trio_new w F T hF hT
  clear hk hV hVB hF hT hF3 hT3
  go_enter Tryd.func52, Tryd.ntmps52
  go_upto_region 2 with fail
  generalize hW : ((w.alloc (.cells (isv F).toArray 76)).alloc (.cells (isv T).toArray 76)).alloc (.cells #[.pointer none, .slice none 0 0] 98) = wa at hini ⊢
  clear hW
  obtain ⟨a1, a2, B0, V0⟩ := hini
  go_wp2_with fail
  go_loopw [10, 11, 12, 13] (fun _ _ _ j W => ∃ k : Nat, k ≤ 68 ∧ j = .int .i64 (k : Int) ∧ IsBld W (w.heap.size + 1 + 1) (w.heap.size + 1 + 1) (climbK i V F T k) ∧ Arr W w.heap.size 68 76 (isv F) ∧ Arr W (w.heap.size + 1) 68 76 (isv T) ∧ Below w.heap.size w W ∧ w.heap.size + 1 + 1 < W.heap.size) (fun _ _ _ j _ => 68 - (intOf j).toNat)
  case atStart => exact ⟨0, by omega, rfl, B0, a1, a2, V0, (by rcases B0 with h | h <;> exact h.lt)⟩
  case round =>
    obtain ⟨k, hk, rfl, hB, c1, c2, hV, hsz⟩ := hrel
    clear B0 V0 a1 a2
    by_cases hlt : k < 68
    · have hki : (k : Int) < 68 := by omega
      have hk0 : (0 : Int) ≤ (k : Int) := by omega
      have hvs : ((k : Int) * 16) ≤ ((mkS V).size : Int) := by rw [mkS_size, HV.out]; omega
      have hv16 : (16 : Int) ≤ (((mkS V).size - k * 16 : Nat) : Int) := by rw [mkS_size, HV.out]; omega
      have HV0 : Hid (((mkS V).extract (k * 16) (mkS V).size).extract 0 16 = mkS (cut16 V k)) := Lib.hid (by
        rw [ext_mkS, ext_mkS, mkS_size, List.take_of_length_le (Nat.le_refl _), Nat.mul_comm k 16]; rfl)
      have hcf := c1.cell (isv_at F k (by rw [HF.out]; exact hlt))
      have hct := c2.cell (isv_at T k (by rw [HT.out]; exact hlt))
      have HGT := Lib.hid (isv_at T k (by rw [HT.out]; exact hlt))
      have hf3 := HF3.out k
      have ht3 := HT3.out k
      have HX : Hid (climbK i V F T (k + 1) = climbK i V F T k ++ up i k (T.getD k 0 - F.getD k 0) (F.getD k 0) (cut16 V k)) := Lib.hid (flat_succ _ k)
      have HXL := Lib.hid (HLEN.out k hk)
      have HUL : Hid (∀ n, (up i k n (F.getD k 0) (cut16 V k)).length = 16) := Lib.hid fun n => up_len _ _ _ _ _ (cut_len (by rw [HV.out]; omega))
      have HUB : Hid (∀ n, AllB (up i k n (F.getD k 0) (cut16 V k))) := Lib.hid fun n => up_all _ _ _ _ _ (cut_all HVB.out k)
      have HUS : Hid (∀ n, nxt i k (F.getD k 0 + n) (up i k n (F.getD k 0) (cut16 V k)) = up i k (n + 1) (F.getD k 0) (cut16 V k)) := Lib.hid fun n => (up_succ _ _ _ _ _).symm
      have HU0 : Hid (up i k 0 (F.getD k 0) (cut16 V k) = cut16 V k) := Lib.hid rfl
      generalize F.getD k 0 = f at hcf hf3 HX HUL HUB HUS HU0
      generalize T.getD k 0 = g at hct ht3 HX HGT
      generalize cut16 V k = v0 at HV0 HX HUL HUB HUS HU0
      generalize climbK i V F T k = X at hB HX HXL
      obtain ⟨X1, HX1⟩ : ∃ X1, Hid (climbK i V F T (k + 1) = X1) := ⟨_, Lib.hid rfl⟩
      rw [HX1.out] at HX
      clear hvs
      have hvs : ((k : Int) * 16) ≤ ((mkS V).size : Int) := by rw [mkS_size, HV.out]; omega
      go_wp2_with fail
      obtain ⟨wo, rfl⟩ : ∃ wo : World, wo = wr := ⟨_, rfl⟩
      go_loopw [11, 12] (fun v t W => ∃ n : Nat, n ≤ g - f ∧ v = .string (mkS (up i k n f v0)) ∧ t = .int .i64 ((f + n : Nat) : Int) ∧ IsBld W (w.heap.size + 1 + 1) (w.heap.size + 1 + 1) X ∧ Arr W w.heap.size 68 76 (isv F) ∧ Arr W (w.heap.size + 1) 68 76 (isv T) ∧ Below w.heap.size w W ∧ w.heap.size + 1 + 1 < W.heap.size ∧ W.cell? ⟨w.heap.size + 1, k, none⟩ = some (.int .i64 (g : Int))) (fun _ t _ => g - (intOf t).toNat)
      case atStart => exact ⟨0, Nat.zero_le _, by rw [HV0.out, HU0.out], rfl, hB, c1, c2, hV, hsz, hct⟩
      case round =>
        obtain ⟨n, hn, rfl, rfl, gB, g1, g2, gV, gsz, gct⟩ := hrel
        clear hB c1 c2 hV hsz hct
        obtain ⟨t, Ht⟩ : ∃ t, f + n = t := ⟨_, rfl⟩
        have hnx := HUS.out n
        rw [Ht] at hnx ⊢
        have HT2 := Lib.hid Ht
        clear Ht
        have hUL := HUL.out n
        have hUB := HUB.out n
        by_cases hng : t < g
        · have hngI : (t : Int) < (g : Int) := by omega
          have htM : t ≤ 1000000 := by omega
          have hI3 := Lib.hid (ints3 i k t hi (by omega) htM)
          have hJB := ints_all [i, k, t] (by intro x hx; simp at hx; rcases hx with rfl | rfl | rfl <;> omega) (by simp)
          have hJL := ints_len [i, k, t] (by intro x hx; simp at hx; rcases hx with rfl | rfl | rfl <;> omega) (by simp)
          have hO : Hid (∀ W, Below w.heap.size w W → Calls Tryd.prog 24 #[.int .i64 11, .slice (some ⟨W.heap.size, 0, none⟩) 2 2] (W.alloc (.cells #[.string (mkS (ints [i, k, t])), .string (mkS (up i k n f v0))] 9)) fun e w' => e = .returned (.agg (bs (up i k (n + 1) f v0)).toArray) ∧ Below W.heap.size W w') := Lib.hid fun W hW => by
            have h := of2 11 (by decide) (ints [i, k, t]) (up i k n f v0) hJB (by simp at hJL; omega) hUB (by rw [hUL]; decide) W (HK.out W hW)
            rw [show ofd 11 [ints [i, k, t], up i k n f v0] = up i k (n + 1) f v0 from hnx] at h
            exact h
          have HTX : Hid (∀ W, Calls Tryd.prog 63 #[.agg (bs (up i k (n + 1) f v0)).toArray] W fun e w' => e = .returned (.string (mkS (up i k (n + 1) f v0))) ∧ Below W.heap.size W w') := Lib.hid fun W => stext_any _ (HUL.out (n + 1)) W
          generalize ints [i, k, t] = J at hI3 hO
          obtain ⟨U1, HU1⟩ : ∃ U1, Hid (up i k (n + 1) f v0 = U1) := ⟨_, Lib.hid rfl⟩
          rw [HU1.out] at hO HTX
          obtain ⟨U, HU⟩ : ∃ U, Hid (up i k n f v0 = U) := ⟨_, Lib.hid rfl⟩
          rw [HU.out] at hO ⊢
          have hgw := gV.size
          clear hnx hUL hUB hJB hJL
          go_wp2_with (first
            | (go_at_call 67; (with_reducible refine (hI3.out _).mono ?_); rintro e w1 ⟨A, c, rfl, hr1, hc1, hc2, hb1⟩; have V1 := later gV (hb1.mono (Nat.le_refl _)); have B1 := gB.later hb1; have d1 := g1.later hb1; have d2 := g2.later hb1; have hcv := run_conv _ J.length c A J w1 rfl hr1; have z1 := hb1.size; clear hr1 hb1)
            | (go_at_call 24; with_reducible refine (hO.out _ V1).mono ?_; rintro e w2 ⟨rfl, hb2⟩; have V2 := later V1 hb2; have B2 := B1.later hb2; have e1 := d1.later hb2; have e2 := d2.later hb2; have z2 := hb2.size; clear hb2)
            | (go_at_call 63; with_reducible refine (HTX.out _).mono ?_; rintro e w3 ⟨rfl, hb3⟩; have V3 := later V2 hb3; have B3 := B2.later hb3; have f1 := e1.later hb3; have f2 := e2.later hb3; have z3 := hb3.size; clear hb3))
          go_roundw
          case rel => exact ⟨n + 1, by have := HT2.out; omega, by rw [HU1.out], congrArg (Value.int .i64) (by have := HT2.out; omega), B3, f1, f2, V3, by omega, f2.cell HGT.out⟩
          case measure => simp [intOf]; omega
        · have hnn : n = g - f := by have := HT2.out; omega
          have hngI : ¬ (t : Int) < (g : Int) := by omega
          have hXX := HX.out
          rw [← hnn] at hXX
          have HBW : Hid (Calls Tryd.prog 68 #[.pointer (some ⟨w.heap.size + 1 + 1, 0, none⟩), .string (mkS (up i k n f v0))] wr fun e w' => e = .returned (.tuple #[.int .i64 16, .nilIface]) ∧ IsBld w' (w.heap.size + 1 + 1) (w.heap.size + 1 + 1) X1 ∧ Below (w.heap.size + 1 + 1) wr w') := Lib.hid (by
            have h := bld_write (w.heap.size + 1 + 1) (w.heap.size + 1 + 1) X (up i k n f v0) wr gB hUB (by rw [HXL.out, hUL]; omega) (by omega)
            rw [← hXX, hUL] at h
            exact h)
          clear hnx hUL hUB hXX gB
          obtain ⟨U, HU⟩ : ∃ U, Hid (up i k n f v0 = U) := ⟨_, Lib.hid rfl⟩
          rw [HU.out] at HBW ⊢
          go_wp2_with (go_at_call 68; with_reducible refine HBW.out.mono ?_; rintro e w4 ⟨rfl, B4, hb4⟩; have V4 := gV.trans (hb4.mono (by omega)); have f1 := g1.below hb4 (by omega); have f2 := g2.below hb4 (by omega); have z4 := hb4.size)
          go_roundw
          case rel => exact ⟨k + 1, hlt, by go_num, by rw [HX1.out]; exact B4, f1, f2, V4, by omega⟩
          case measure => simp [intOf]; omega
    · have hk68 : k = 68 := by omega
      subst hk68
      have HBS : Hid (Calls Tryd.prog 69 #[.pointer (some ⟨w.heap.size + 1 + 1, 0, none⟩)] wr fun e w' => e = .returned (.string (mkS (climbL i V F T))) ∧ Below (w.heap.size + 1 + 1) wr w') := Lib.hid (bld_string _ _ _ wr hB (HALL.out 68) (by omega))
      obtain ⟨Z, HZ⟩ : ∃ Z, Hid (climbL i V F T = Z) := ⟨_, Lib.hid rfl⟩
      rw [HZ.out] at HBS
      clear hB c1 c2
      go_wp2_with (go_at_call 69; with_reducible refine HBS.out.mono ?_; rintro e w4 ⟨rfl, hb4⟩)
      go_ret
      exact ⟨by rw [HZ.out]; rfl, hV.trans (hb4.mono (by omega))⟩
end Go.Proofs.YtbfoajfpnfkfnaaDoor
