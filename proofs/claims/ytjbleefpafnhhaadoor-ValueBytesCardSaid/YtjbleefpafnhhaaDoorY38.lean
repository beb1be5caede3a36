import Derived.Test.YtjbleefpafnhhaaDoorY37

set_option linter.unusedVariables false
namespace Go.Proofs.YtjbleefpafnhhaaDoor
open Go.RowKit
theorem stm_mark (m : List Nat) (k : Nat) (hk : k = m.length % 64) : (stm m).set (8 + k) (.int .u8 128) = sC (sWords m) (sRest m ++ 128 :: List.replicate (63 - k) 0) m.length := by
  subst hk
  have h : stm m = (us (sWords m) ++ bs (sRest m)) ++ (.int .u8 0 :: (bs (List.replicate (63 - m.length % 64) 0) ++ [.int .u64 (m.length : Int)])) := by
    rw [split_rest, show 64 - m.length % 64 = (63 - m.length % 64) + 1 by omega, List.replicate_succ]
    simp [bs, U8]
  have hl : (us (sWords m) ++ bs (sRest m)).length = 8 + m.length % 64 := by rw [List.length_append, us_len, sWords_len, bs_len, sRest_len]
  rw [h, List.set_append_right _ _ (by omega), hl, Nat.sub_self, List.set_cons_zero]
  unfold sC
  simp [bs, U8]
theorem stm_byte (m : List Nat) (k : Nat) (hk : k = m.length % 64) : (stm m)[8 + k]? = some (.int .u8 0) := by
  subst hk
  have h : stm m = (us (sWords m) ++ bs (sRest m)) ++ (.int .u8 0 :: (bs (List.replicate (63 - m.length % 64) 0) ++ [.int .u64 (m.length : Int)])) := by
    rw [split_rest, show 64 - m.length % 64 = (63 - m.length % 64) + 1 by omega, List.replicate_succ]
    simp [bs, U8]
  have hl : (us (sWords m) ++ bs (sRest m)).length = 8 + m.length % 64 := by rw [List.length_append, us_len, sWords_len, bs_len, sRest_len]
  rw [h, List.getElem?_append_right (by omega), hl, Nat.sub_self]; rfl
theorem sC_byte (ws blk : List Nat) (n j : Nat) (hw : ws.length = 8) (hb : blk.length = 64) (hj : j < 64) : ∃ x : Nat, (sC ws blk n)[8 + j]? = some (.int .u8 (x : Int)) := by
  refine ⟨blk[j]?.getD 0, ?_⟩
  unfold sC
  rw [List.getElem?_append_left (by rw [List.length_append, us_len, bs_len]; omega), List.getElem?_append_right (by rw [us_len]; omega), us_len, hw, show 8 + j - 8 = j by omega]
  exact bs_get blk j (by omega)
theorem sC_setByte (ws blk : List Nat) (n j x : Nat) (hw : ws.length = 8) (hb : blk.length = 64) (hj : j < 64) : (sC ws blk n).set (8 + j) (.int .u8 (x : Int)) = sC ws (blk.set j x) n := by
  unfold sC
  rw [List.set_append_left _ _ (by rw [List.length_append, us_len, bs_len]; omega), List.set_append_right _ _ (by rw [us_len]; omega), us_len, hw, show 8 + j - 8 = j by omega]
  simp [bs, U8, List.map_set]
theorem sC_word (ws blk : List Nat) (n j : Nat) (hj : j < ws.length) : (sC ws blk n)[j]? = some (.int .u32 ((ws.getD j 0 : Nat) : Int)) := by
  unfold sC
  rw [List.append_assoc, List.getElem?_append_left (by rw [us_len]; exact hj)]
  exact us_get (by rw [List.getD_eq_getElem?_getD, List.getElem?_eq_getElem hj]; rfl)
theorem info_sum : (Tryd.prog.info? 124).map (·.size) = some 32 := by kernel_rfl
theorem set_next {α : Type} (xs : List α) (N : Nat) (f : α → Value) (z : Value) (x : α) (h : xs.length < N) : (xs.map f ++ List.replicate (N - xs.length) z).set xs.length (f x) = (xs ++ [x]).map f ++ List.replicate (N - (xs ++ [x]).length) z := by
  obtain ⟨k, hk⟩ : ∃ k, N - xs.length = k + 1 := ⟨N - xs.length - 1, by omega⟩
  have hk2 : N - (xs ++ [x]).length = k := by simp; omega
  rw [hk, hk2, List.replicate_succ]
  have hl : xs.length = (xs.map f).length := by simp
  rw [List.set_append_right _ _ (by omega), ← hl]
  simp
def SMid (w : World) (m : List Nat) (W : World) : Prop :=
  ∃ ws P, ws.length = 8 ∧ AllW ws ∧ P.length = 56 ∧ AllB P ∧ sha m = outB (comp ws (P ++ be64 (8 * m.length))) ∧ Arr W w.heap.size 73 121 (sC ws (P ++ List.replicate 8 0) m.length) ∧ Arr W (w.heap.size + 1) 32 124 (bs (List.replicate 32 0)) ∧ Below w.heap.size w W
set_option maxHeartbeats 2000000 in
set_option maxRecDepth 100000 in
theorem ssum_aux (m Z : List Nat) (hm : AllB m) (w : World) (hk : Kc w) (hsz : m.length ≤ 1125899906842624) (HZ : Hid (sha m = Z)) (HZL : Hid (Z.length = 32)) :
    Calls Tryd.prog 74 #[.agg (stm m).toArray] w fun e w' => e = .returned (.agg (bs Z).toArray) ∧ Below w.heap.size w w' := by
  have HS := Lib.hid (stm_len m)
  have HK := Lib.hid hk
  have HM := Lib.hid hm
  clear hk hm
  go_enter Tryd.func74, Tryd.ntmps74
  go_upto_region 1 with fail
  obtain ⟨a1, a2, hbw⟩ := two_new w 121 124 (stm m).toArray #[.int .u8 0, .int .u8 0, .int .u8 0, .int .u8 0, .int .u8 0, .int .u8 0, .int .u8 0, .int .u8 0, .int .u8 0, .int .u8 0, .int .u8 0, .int .u8 0, .int .u8 0, .int .u8 0, .int .u8 0, .int .u8 0, .int .u8 0, .int .u8 0, .int .u8 0, .int .u8 0, .int .u8 0, .int .u8 0, .int .u8 0, .int .u8 0, .int .u8 0, .int .u8 0, .int .u8 0, .int .u8 0, .int .u8 0, .int .u8 0, .int .u8 0, .int .u8 0] _ (bs (List.replicate 32 0)) 73 32 rfl rfl HS.out (by simp [bs]) (by decide) (by decide)
  generalize hW : (w.alloc (.cells (stm m).toArray 121)).alloc (.cells #[.int .u8 0, .int .u8 0, .int .u8 0, .int .u8 0, .int .u8 0, .int .u8 0, .int .u8 0, .int .u8 0, .int .u8 0, .int .u8 0, .int .u8 0, .int .u8 0, .int .u8 0, .int .u8 0, .int .u8 0, .int .u8 0, .int .u8 0, .int .u8 0, .int .u8 0, .int .u8 0, .int .u8 0, .int .u8 0, .int .u8 0, .int .u8 0, .int .u8 0, .int .u8 0, .int .u8 0, .int .u8 0, .int .u8 0, .int .u8 0, .int .u8 0, .int .u8 0] 124) = wb at a1 a2 hbw ⊢
  clear hW
  obtain ⟨L, hL⟩ : ∃ L, m.length = L := ⟨_, rfl⟩
  obtain ⟨R, hRd⟩ : ∃ R, L % 64 = R := ⟨_, rfl⟩
  have hR64 : R < 64 := by omega
  have hmod : (L : Int) % 64 = (R : Int) := by omega
  have hcl := a1.cell (stm_get m)
  rw [hL] at hcl hsz
  have hcb := a1.cell (stm_byte m R (by omega))
  have hfb := a1.free (8 + R)
  have d1 := a1.set_ (8 + R) (.int .u8 128)
  rw [stm_mark m R (by omega)] at d1
  have d2 := a2.other (j := 8 + R) (b := w.heap.size) (by omega) (.int .u8 128)
  have hb1 : Below w.heap.size w (wb.setCell ⟨w.heap.size, 8 + R, none⟩ (.int .u8 128)) := hbw.setCell (Nat.le_refl _) _
  have HL := Lib.hid hL
  have HRD := Lib.hid hRd
  have hRi : (R : Int) < 64 := by omega
  clear hL hRd a1 a2 hbw
  go_upto_if 14 with fail
  go_cut [3] (fun _ W => SMid w m W)
  case first =>
    by_cases h56 : 56 ≤ R
    · have hc : (56 : Int) ≤ (R : Int) := by omega
      have hR := Lib.hid d1.range
      have hlw := mark_len m
      rw [HL.out, HRD.out] at hlw
      have hF := fun W hW => flush_any (sWords m) (sRest m ++ 128 :: List.replicate (63 - R) 0) m.length (sWords_len m) (sWords_all m) hlw (mark_all HM.out _) W hW
      have HF := Lib.hid hF
      have h2 := sha_two m (by rw [HL.out, HRD.out]; exact h56)
      rw [HL.out, HRD.out] at h2
      have H2 := Lib.hid h2
      have hi1 : (Tryd.prog.info? 121).map (·.size) = some (sC (sWords m) (sRest m ++ 128 :: List.replicate (63 - R) 0) m.length).length := by rw [sC_len _ _ _ (sWords_len m) hlw]; exact info_stream
      have hl2 := sC_len (comp (sWords m) (sRest m ++ 128 :: List.replicate (63 - R) 0)) (List.replicate 64 0) m.length (comp_len _ (sWords_len m)) (by simp)
      have hi2 : (Tryd.prog.info? 121).map (·.size) = some (sC (comp (sWords m) (sRest m ++ 128 :: List.replicate (63 - R) 0)) (List.replicate 64 0) m.length).length := by rw [hl2]; exact info_stream
      have HI1 := Lib.hid hi1
      have HI2 := Lib.hid hi2
      have HL2 := Lib.hid hl2
      have HL1 := Lib.hid d1.1
      have hk4 := HK.out.later hb1
      have hcl2 := comp_len (sRest m ++ 128 :: List.replicate (63 - R) 0) (sWords_len m)
      have hca2 : AllW (comp (sWords m) (sRest m ++ 128 :: List.replicate (63 - R) 0)) := comp_all _
      obtain ⟨C, hC⟩ : ∃ C, comp (sWords m) (sRest m ++ 128 :: List.replicate (63 - R) 0) = C := ⟨_, rfl⟩
      rw [hC] at HF H2 HI2 HL2 hcl2 hca2
      obtain ⟨X, hX⟩ : ∃ X, sC (sWords m) (sRest m ++ 128 :: List.replicate (63 - R) 0) m.length = X := ⟨_, rfl⟩
      rw [hX] at HF HI1 HL1 hR d1
      have HCL := Lib.hid hcl2
      have HCA := Lib.hid hca2
      obtain ⟨V, hV⟩ : ∃ V, sC C (List.replicate 64 0) m.length = V := ⟨_, rfl⟩
      have hV1 : ∀ v ∈ V, v.oneCell' = true := by rw [← hV]; exact sC_cell _ _ _
      have HV1 := Lib.hid hV1
      rw [hV] at HF HI2 HL2
      have HV := Lib.hid hV
      clear hF h2 hi1 hl2 hi2 hC hX hcl2 hca2 hV hV1 hlw
      go_wp2_with (first
        | (with_reducible refine wpList_load_mid rfl _ (.tmp 1) rfl w.heap.size 0 rfl X _ hR.out Tryd.underlying121 rfl HI1.out ?_)
        | (go_at_call 86; refine (HF.out _ hk4).mono ?_; rintro e w5 ⟨rfl, hb5⟩; have d5 := d1.later hb5; have c5 := d2.later hb5; have hbw5 := later hb1 hb5; clear d1 d2 hb1 hb5 hR)
        | (refine wpList_store_arr rfl _ (.tmp 1) (.tmp 16) rfl w.heap.size 0 73 121 _ V _ rfl rfl rfl d5 (by rw [HL2.out]; omega) HI2.out HV1.out ?_; intro w6 f6 o6; have c6 := c5.only o6 (by omega); have hbw6 := hbw5.trans o6.bel; clear d5 c5 hbw5 o6))
      go_frame
      go_meet
      refine ⟨C, List.replicate 56 0, HCL.out, HCA.out, by simp, fun d hd => by rw [(List.mem_replicate.1 hd).2]; decide, ?_, ?_, c6, hbw6⟩
      · rw [H2.out, HL.out]
      · rw [setAll_all _ _ (by rw [HL2.out, HL1.out]), ← HV.out] at f6
        have e : List.replicate 56 0 ++ List.replicate 8 0 = List.replicate 64 0 := by rw [List.replicate_append_replicate]
        rw [e]; exact f6
    · have hc : ¬ (56 : Int) ≤ (R : Int) := by omega
      have h2 := sha_one m (by rw [HL.out, HRD.out]; omega)
      rw [HL.out, HRD.out] at h2
      have hmk := mark_one m (by rw [HL.out, HRD.out]; omega)
      rw [HL.out, HRD.out] at hmk
      have hlen : (sRest m ++ 128 :: List.replicate (55 - R) 0).length = 56 := by rw [List.length_append, sRest_len, List.length_cons, List.length_replicate, HL.out, HRD.out]; omega
      rw [hmk] at d1
      have H2 := Lib.hid h2
      have HLEN := Lib.hid hlen
      clear h2 hmk hlen
      go_wp2_with fail
      go_meet
      exact ⟨sWords m, sRest m ++ 128 :: List.replicate (55 - R) 0, sWords_len m, sWords_all m, HLEN.out, mark_all HM.out _, by rw [H2.out, HL.out], d1, d2, hb1⟩
  case rest =>
    obtain ⟨ws, P, hws, hwa, hP, hPB, hsha, a1, a2, hbw⟩ := hcut
    rw [HL.out] at hsha a1
    have HP := Lib.hid hP
    have HWS := Lib.hid hws
    clear hmod hcl hcb hfb d1 d2 hb1 hRi HRD hP hws HM
    obtain ⟨C, hC⟩ : ∃ C, comp ws (P ++ be64 (8 * L)) = C := ⟨_, rfl⟩
    have hCl : C.length = 8 := by rw [← hC]; exact comp_len _ HWS.out
    have hCa : AllW C := by rw [← hC]; exact comp_all _
    have hF := fun W hW => flush_any ws (P ++ be64 (8 * L)) L HWS.out hwa (by rw [List.length_append, HP.out, be64_len]) (bw_block P _ hPB) W hW
    rw [hC] at hF hsha
    rw [HZ.out] at hsha
    have HF := Lib.hid hF
    have HOUT := Lib.hid hsha
    have HCL := Lib.hid hCl
    have HCA := Lib.hid hCa
    clear hF hsha hCl hCa hC hwa hPB
    go_wp2_with fail
    go_loopw [17] (fun i W => ∃ k : Nat, k ≤ 8 ∧ i = .int .i64 (k : Int) ∧ Arr W w.heap.size 73 121 (sC ws (bw P k (8 * L)) L) ∧ Arr W (w.heap.size + 1) 32 124 (bs (List.replicate 32 0)) ∧ Below w.heap.size w W) (fun i _ => 8 - (intOf i).toNat)
    case atStart => exact ⟨0, by omega, rfl, by rw [bw_zero]; exact a1, a2, hbw⟩
    case round =>
      obtain ⟨k, hk, rfl, c1, c2, hb⟩ := hrel
      clear a1 a2 hbw
      have hbl := bw_len P k (8 * L) HP.out hk
      by_cases hlt : k < 8
      · have hcl := c1.cell (sC_len_get ws _ L HWS.out hbl)
        obtain ⟨x, hx⟩ := sC_byte ws (bw P k (8 * L)) L (63 - k) HWS.out hbl (by omega)
        have hcb := c1.cell hx
        have hfb := c1.free (8 + (63 - k))
        have hset := sC_setByte ws (bw P k (8 * L)) L (63 - k) (8 * L / 2 ^ (8 * k) % 256) HWS.out hbl (by omega)
        rw [bw_set P k (8 * L) HP.out hlt] at hset
        have d1 := c1.set_ (8 + (63 - k)) (.int .u8 ((8 * L / 2 ^ (8 * k) % 256 : Nat) : Int))
        rw [hset] at d1
        have D1 := Lib.hid d1
        have C2 := Lib.hid (c2.other (j := 8 + (63 - k)) (b := w.heap.size) (by omega) (.int .u8 ((8 * L / 2 ^ (8 * k) % 256 : Nat) : Int)))
        have hki : (k : Int) < 8 := by omega
        clear hx hset d1 c1 c2 hbl
        go_wp2_with fail
        go_roundw
        case rel =>
          have e : ((L : Int) * 8 / 2 ^ (8 * k) % 256) = ((8 * L / 2 ^ (8 * k) % 256 : Nat) : Int) := by rw [Nat.mul_comm 8 L]; simp
          rw [e]
          exact ⟨k + 1, by omega, by go_num, D1.out, C2.out, hb.setCell (Nat.le_refl _) _⟩
        case measure => simp [intOf]; omega
      · have hk8 : k = 8 := by omega
        subst hk8
        rw [bw_all] at c1 hbl
        have hR := Lib.hid c1.range
        have hl1 := sC_len ws _ L HWS.out hbl
        have hi1 : (Tryd.prog.info? 121).map (·.size) = some (sC ws (P ++ be64 (8 * L)) L).length := by rw [hl1]; exact info_stream
        have hl2 := sC_len C (List.replicate 64 0) L HCL.out (by simp)
        have hi2 : (Tryd.prog.info? 121).map (·.size) = some (sC C (List.replicate 64 0) L).length := by rw [hl2]; exact info_stream
        have hwd := fun j (hj : j < 8) => sC_word C (List.replicate 64 0) L j (by rw [HCL.out]; exact hj)
        have hk4 := HK.out.later hb
        obtain ⟨X, hX⟩ : ∃ X, sC ws (P ++ be64 (8 * L)) L = X := ⟨_, rfl⟩
        rw [hX] at HF hi1 hl1 hR c1
        obtain ⟨V, hV⟩ : ∃ V, sC C (List.replicate 64 0) L = V := ⟨_, rfl⟩
        have hV1 : ∀ v ∈ V, v.oneCell' = true := by rw [← hV]; exact sC_cell _ _ _
        rw [hV] at HF hi2 hl2 hwd
        have HI1 := Lib.hid hi1
        have HI2 := Lib.hid hi2
        have HL1 := Lib.hid hl1
        have HL2 := Lib.hid hl2
        have HV1 := Lib.hid hV1
        have HWD := Lib.hid hwd
        clear hi1 hi2 hl1 hl2 hV1 hwd hX hV hbl
        go_upto_region 11 with (first
          | (with_reducible refine wpList_load_mid rfl _ (.tmp 1) rfl w.heap.size 0 rfl X _ hR.out Tryd.underlying121 rfl HI1.out ?_)
          | (go_at_call 86; refine (HF.out _ hk4).mono ?_; rintro e w5 ⟨rfl, hb5⟩; have d5 := c1.later hb5; have c5 := c2.later hb5; have hbw5 := later hb hb5; clear c1 c2 hb hb5 hR)
          | (refine wpList_store_arr rfl _ (.tmp 1) (.tmp 33) rfl w.heap.size 0 73 121 _ V _ rfl rfl rfl d5 (by rw [HL2.out]; omega) HI2.out HV1.out ?_; intro w6 f6 o6; have c6 := c5.only o6 (by omega); have hbw6 := hbw5.trans o6.bel; rw [setAll_all _ _ (by rw [HL2.out, HL1.out])] at f6; clear d5 c5 hbw5 o6))
        have n1 := Arr.new' w6 124 #[.int .u8 0, .int .u8 0, .int .u8 0, .int .u8 0, .int .u8 0, .int .u8 0, .int .u8 0, .int .u8 0, .int .u8 0, .int .u8 0, .int .u8 0, .int .u8 0, .int .u8 0, .int .u8 0, .int .u8 0, .int .u8 0, .int .u8 0, .int .u8 0, .int .u8 0, .int .u8 0, .int .u8 0, .int .u8 0, .int .u8 0, .int .u8 0, .int .u8 0, .int .u8 0, .int .u8 0, .int .u8 0, .int .u8 0, .int .u8 0, .int .u8 0, .int .u8 0] 32 (([] : List Nat).map U8 ++ List.replicate 32 (.int .u8 0)) rfl (by simp) (by decide)
        have nb := new_later w6 (.cells #[.int .u8 0, .int .u8 0, .int .u8 0, .int .u8 0, .int .u8 0, .int .u8 0, .int .u8 0, .int .u8 0, .int .u8 0, .int .u8 0, .int .u8 0, .int .u8 0, .int .u8 0, .int .u8 0, .int .u8 0, .int .u8 0, .int .u8 0, .int .u8 0, .int .u8 0, .int .u8 0, .int .u8 0, .int .u8 0, .int .u8 0, .int .u8 0, .int .u8 0, .int .u8 0, .int .u8 0, .int .u8 0, .int .u8 0, .int .u8 0, .int .u8 0, .int .u8 0] 124)
        have f7 := f6.later nb
        have c7 := c6.later nb
        have hb7 := later hbw6 nb
        have hg5 := c6.lt
        go_frame
        go_wp2_with fail
        generalize hW : w6.alloc (.cells #[.int .u8 0, .int .u8 0, .int .u8 0, .int .u8 0, .int .u8 0, .int .u8 0, .int .u8 0, .int .u8 0, .int .u8 0, .int .u8 0, .int .u8 0, .int .u8 0, .int .u8 0, .int .u8 0, .int .u8 0, .int .u8 0, .int .u8 0, .int .u8 0, .int .u8 0, .int .u8 0, .int .u8 0, .int .u8 0, .int .u8 0, .int .u8 0, .int .u8 0, .int .u8 0, .int .u8 0, .int .u8 0, .int .u8 0, .int .u8 0, .int .u8 0, .int .u8 0] 124) = w7 at n1 nb f7 c7 hb7 ⊢
        clear hW nb f6 c6 hbw6 HF HI1 HI2 HL1 HL2 HV1
        go_loopw [34] (fun i W => ∃ k : Nat, k ≤ 32 ∧ i = .int .i64 (k : Int) ∧ Arr W w6.heap.size 32 124 ((Z.take k).map U8 ++ List.replicate (32 - k) (.int .u8 0)) ∧ Arr W w.heap.size 73 121 V ∧ Arr W (w.heap.size + 1) 32 124 (bs (List.replicate 32 0)) ∧ Below w.heap.size w W) (fun i _ => 32 - (intOf i).toNat)
        case atStart => exact ⟨0, by omega, rfl, n1, f7, c7, hb7⟩
        case round =>
          obtain ⟨k, hk, rfl, e1, e2, e3, hb⟩ := hrel
          clear n1 f7 c7 hb7
          by_cases hlt : k < 32
          · have hcw := e2.cell (HWD.out (k / 4) (by omega))
            have hwv := getD_lt HCA.out (by decide) (k / 4)
            have hZk : Z[k]? = some (C.getD (k / 4) 0 / 2 ^ (24 - k % 4 * 8) % 256) := by rw [HOUT.out]; exact outB_get C k hlt
            have hZl : k < Z.length := by rw [HZL.out]; exact hlt
            have hZg : Z[k] = C.getD (k / 4) 0 / 2 ^ (24 - k % 4 * 8) % 256 := by rw [List.getElem?_eq_getElem hZl] at hZk; exact Option.some.inj hZk
            have hlk : (Z.take k).length = k := by rw [List.length_take]; omega
            have hlk1 : (Z.take (k + 1)).length = k + 1 := by rw [List.length_take]; omega
            have hset := set_next (Z.take k) 32 U8 (.int .u8 0) Z[k] (by omega)
            rw [← List.take_succ_eq_append_getElem hZl, hlk, hlk1, hZg] at hset
            have hcz : (((Z.take k).map U8 ++ List.replicate (32 - k) (.int .u8 0)) : List Value)[k]? = some (.int .u8 0) := by
              rw [List.getElem?_append_right (by rw [List.length_map, hlk]; exact Nat.le_refl _), List.length_map, hlk, Nat.sub_self, List.getElem?_replicate, if_pos (by omega)]
            have hco := e1.cell hcz
            have hfo := e1.free k
            obtain ⟨q, hq⟩ : ∃ q, 24 - k % 4 * 8 = q := ⟨_, rfl⟩
            have hsh : (24 : Int) - (k : Int) % 4 * 8 = (q : Int) := by omega
            have hq24 : q ≤ 24 := by omega
            rw [hq] at hset
            generalize C.getD (k / 4) 0 = O at hcw hwv hset
            have d1 := e1.set_ k (U8 (O / 2 ^ q % 256))
            rw [hset] at d1
            have D1 := Lib.hid d1
            have hne1 : w6.heap.size ≠ w.heap.size := by omega
            have hne2 : w6.heap.size ≠ w.heap.size + 1 := by omega
            have E2 := Lib.hid (e2.other (j := k) hne1 (U8 (O / 2 ^ q % 256)))
            have E3 := Lib.hid (e3.other (j := k) hne2 (U8 (O / 2 ^ q % 256)))
            have hki : (k : Int) < 32 := by omega
            have hk0 : (0 : Int) ≤ (k : Int) := by omega
            clear hZk hZl hZg hlk hlk1 hset hcz d1 e1 e2 e3 hq
            go_wp2_with fail
            go_roundw
            case rel =>
              have e : ((O : Int) / 2 ^ q % 256) = ((O / 2 ^ q % 256 : Nat) : Int) := by simp
              rw [e]
              exact ⟨k + 1, by omega, by go_num, D1.out, E2.out, E3.out, hb.setCell (show w.heap.size ≤ w6.heap.size by omega) _⟩
            case measure => simp [intOf]; omega
          · have hk32 : k = 32 := by omega
            subst hk32
            rw [List.take_of_length_le (by rw [HZL.out]; exact Nat.le_refl _)] at e1
            have e4 : Arr wr w6.heap.size 32 124 (bs Z) := by simpa [bs] using e1
            have hR := Lib.hid e4.range
            have HBL : Hid ((bs Z).length = 32) := by show (bs Z).length = 32; rw [bs_len, HZL.out]
            have hi5 : (Tryd.prog.info? 124).map (·.size) = some (bs Z).length := by rw [HBL.out]; exact info_sum
            have HI5 := Lib.hid hi5
            clear e1 e4 hi5 e2
            go_wp2_with (first
              | (with_reducible refine wpList_load_mid rfl _ (.tmp 5) rfl w6.heap.size 0 rfl (bs Z) _ hR.out Tryd.underlying124 rfl HI5.out ?_)
              | (refine wpList_store_arr rfl _ (.tmp 2) (.tmp 51) rfl (w.heap.size + 1) 0 32 124 _ (bs Z) _ rfl rfl rfl e3 (by rw [HBL.out]; omega) HI5.out (bs_cell Z) ?_; intro w9 f9 o9; have hbw9 := hb.trans (o9.bel.mono (by omega : w.heap.size ≤ w.heap.size + 1)); rw [setAll_all _ _ (by rw [HBL.out, bs_len]; rfl)] at f9))
            exact bodyPost_ret (hresults_one rfl _ _ (w.heap.size + 1) (bs Z) _ rfl f9.range Tryd.underlying124 rfl HI5.out) rfl ⟨rfl, hbw9⟩
theorem ssum_any (m : List Nat) (hm : AllB m) (w : World) (hk : Kc w) (hsz : m.length ≤ 1125899906842624) :
    Calls Tryd.prog 74 #[.agg (stm m).toArray] w fun e w' => e = .returned (.agg (bs (sha m)).toArray) ∧ Below w.heap.size w w' :=
  ssum_aux m (sha m) hm w hk hsz (Lib.hid rfl) (Lib.hid (sha_len m))
end Go.Proofs.YtjbleefpafnhhaaDoor

namespace Go.Proofs.YtjbleefpafnhhaaDoor
open Go.RowKit
theorem begin_stm (w : World) : Calls Tryd.prog 72 #[] w fun e w' => e = .returned (.agg (stm []).toArray) ∧ Below w.heap.size w w' := begin_any w
theorem add_call (m x : List Nat) (hm : AllB m) (hx : AllB x) (w : World) (hk : Kc w) (hsz : m.length + x.length ≤ 1125899906842624) :
    Calls Tryd.prog 73 #[.agg (stm m).toArray, .string (mkS x)] w fun e w' => e = .returned (.agg (stm (m ++ x)).toArray) ∧ Below w.heap.size w w' := by
  have h := add_any m hm (mkS x) w hk (by rw [mkS_size]; exact hsz)
  rwa [sb_mkS x hx] at h
theorem below_drew {B : Nat} {a w : World} (h : Below B a w) : Below B a w.drew := ⟨h.os, h.tape, h.output, h.size, h.block⟩
theorem Kc.drew {w : World} (h : Kc w) : Kc w.drew := h
end Go.Proofs.YtjbleefpafnhhaaDoor

