import Derived.Test.YtfbookfaodfmdaaDoorLW4
set_option linter.unusedVariables false
set_option linter.unusedSimpArgs false
namespace Go.Proofs.YtfbookfaodfmdaaDoor
open Go.RowKit

set_option maxHeartbeats 8000000 in
set_option maxRecDepth 100000 in
theorem LexWords_any (m cap m' cap' : Nat) (A A' : Option Addr) (l : List Int) (raw : List ByteArray) (s : ByteArray) (w : World) (hm : m = l.length) (hm' : m' = raw.length) (hm2 : m ≤ maxLen) (hm2' : m' ≤ maxLen) (hl : ∀ x ∈ l, InR x) (hr : Rd w w.heap.size A (iv l)) (hr' : Rd w w.heap.size A' (ss raw)) (hraw : szs raw ≤ 1048576) (hs : s.size ≤ 1048576) (hk : Kx w) :
    Calls Tryd.prog 4 #[.slice A m cap, .slice A' m' cap', .string s] w (SRes w) := by
  obtain ⟨P, hP⟩ : ∃ P, pcs l ++ [s] = P := ⟨_, rfl⟩
  have hPl : P.length ≤ 31 := by rw [← hP, List.length_append]; have := pcs_len l; simp; omega
  have hPs : szs P ≤ 1049056 := by rw [← hP, szs_app]; have := szs_pcs l; simp [szs] at this ⊢; omega
  obtain ⟨LL, hLL⟩ : ∃ LL, P ++ raw.take 20 ++ kws = LL := ⟨_, rfl⟩
  obtain ⟨q, hq⟩ : ∃ q, LL.length = q := ⟨_, rfl⟩
  have hq78 : q ≤ 78 := by rw [← hq, ← hLL, List.length_append, List.length_append, kws_len, List.length_take]; omega
  have hsz : szs LL ≤ 2097932 := by
    rw [← hLL, szs_app, szs_app]
    have h1 := szs_take_le raw 20
    have h2 := szs_kws
    omega
  have HPC : Hid (Calls Tryd.prog 16 #[.slice A m cap] w fun e w' => ∃ v', e = .returned v' ∧ OwnS w' w.heap.size v' (pcs l) ∧ Below w.heap.size w w') := Lib.hid (Pieces_any m cap A l w hm hm2 hl hr)
  have HM' := Lib.hid hm'
  have HR' := Lib.hid hr'
  have HK := Lib.hid hk
  have HP := Lib.hid hP
  have HLL := Lib.hid hLL
  have HQ := Lib.hid hq
  have HSZ := Lib.hid hsz
  have HPL := Lib.hid hPl
  have hpl1 : (pcs l).length ≤ 1000000 := by have := pcs_len l; omega
  have hm3 : (m' : Int) ≤ 9223372036854775807 := by simp only [maxLen] at hm2'; omega
  have HKW := Lib.hid fun (W : World) => Keywords_any W
  clear hm hm' hl hr hr' hraw hk hP hLL hq hsz hPl hPs
  go_enter Tryd.func4, Tryd.ntmps4
  go_upto_region 2 with (first
    | (go_at_call 16; (with_reducible refine HPC.out.mono ?_); rintro e w1 ⟨v1, rfl, hown1, hb1⟩; have hbs1 := hb1.size)
    | (refine wpList_putSt (x := s) hown1 hbs1 hpl1 rfl _ _ rfl rfl rfl ?_; intro v2 w2 hown2 hb2))
  rw [HP.out] at hown2
  have HO2 := Lib.hid hown2
  have HB2 := Lib.hid (hb1.trans hb2)
  clear hown1 hown2 hb1 hb2 hbs1 hpl1
  go_wp2_with fail
  go_loopw [7, 8] (fun v i W => ∃ j : Nat, j ≤ m' ∧ j ≤ 20 ∧ i = .int .i64 (j : Int) ∧ OwnS W w.heap.size v (P ++ raw.take j) ∧ Below w.heap.size w W) (fun _ i _ => 20 - (intOf i).toNat)
  case atStart => exact ⟨0, by omega, by omega, rfl, by simpa using HO2.out, HB2.out⟩
  case round =>
    obtain ⟨j, hj, hj20, rfl, hown, hb⟩ := hrel
    have hj0 : (0 : Int) ≤ (j : Int) := by omega
    have hj3 : (j : Int) ≤ 20 := by omega
    have HO := Lib.hid hown
    have HB := Lib.hid hb
    by_cases hlt : j < m' ∧ j < 20
    · have hji : (j : Int) < (m' : Int) := by omega
      have hji2 : (j : Int) < 20 := by omega
      have hjl : j < raw.length := by have := HM'.out; omega
      obtain ⟨b, o, rfl, hbB, hc⟩ := HR'.out.at_ (by intro e; have h9 := congrArg List.length e; simp [ss] at h9; subst h9; simp at hjl)
      have hx := (hb.cell (p := ⟨b, o + j, none⟩) hbB).trans (hc j (.string raw[j]) (by simp [ss, List.getElem?_eq_getElem hjl]))
      have hn : P ++ raw.take (j + 1) = (P ++ raw.take j) ++ [raw[j]] := by rw [List.take_succ_eq_append_getElem hjl, List.append_assoc]
      have hl9 : (P ++ raw.take j).length ≤ 1000000 := by rw [List.length_append, List.length_take]; have := HPL.out; omega
      have HN := Lib.hid hn
      generalize raw[j] = x at hx HN
      generalize P ++ raw.take j = M at HN HO hl9
      have HJL := Lib.hid hlt
      clear hc hn hjl hown hb hlt
      go_wp2_with (refine wpList_putSt (x := x) HO.out HB.out.size hl9 rfl _ _ rfl rfl rfl ?_; intro v5 w5 hown5 hb5)
      go_roundw
      case rel => exact ⟨j + 1, by have := HJL.out; omega, by have := HJL.out; omega, by go_num, by rw [HN.out]; exact hown5, HB.out.trans hb5⟩
      case measure => have := HJL.out; simp [intOf]; omega
    · have hrt : P ++ raw.take j = P ++ raw.take 20 := by
        by_cases h20 : j = 20
        · rw [h20]
        · have := HM'.out
          rw [List.take_of_length_le (by omega), List.take_of_length_le (by omega)]
      rw [hrt] at hown
      have HO3 := Lib.hid hown
      have hl9 : (P ++ raw.take 20).length + 27 ≤ 1000000 := by rw [List.length_append, List.length_take]; have := HPL.out; omega
      have hcase : ((j : Int) < (m' : Int) ∧ ¬ (j : Int) < 20) ∨ ¬ (j : Int) < (m' : Int) := by omega
      clear HO hrt hown hb hlt
      rcases hcase with ⟨hji, hji2⟩ | hji
      all_goals
        go_upto_region 7 with (first
          | (go_at_call 17; (with_reducible refine (HKW.out _).mono ?_); rintro e w4 ⟨rfl, hrow4, hb4⟩; have hown4 := HO3.out.later hb4; have HB4 := Lib.hid (later HB.out hb4); have hbs4 := HB4.out.size; have hys4 : (∀ (j : Nat) (u : Value), (ss kws)[j]? = some u → w4.cell? ((⟨wr.heap.size, 0, none⟩ : Addr).add j) = some u) := (fun j u hu => by rw [show (⟨wr.heap.size, 0, none⟩ : Addr).add j = ⟨wr.heap.size, j, none⟩ by unfold Addr.add; split <;> simp_all, cell_of_row _ _ _ _ _ _ hrow4]; simpa using hu))
          | (refine wpList_putSs (ys := kws) hown4 hys4 kws_len (by decide) hbs4 hl9 rfl _ _ rfl rfl rfl ?_; intro v7 w7 hown7 hb7))
        have HB7 := Lib.hid (HB4.out.trans hb7)
        have HK7 := Lib.hid (HK.out.later HB7.out)
        obtain ⟨A7, c7, rfl, _, _, hr7⟩ := hown7.shape
        rw [HLL.out] at hr7
        rw [HLL.out, HQ.out]
        have HR7 := Lib.hid hr7
        have hT0 : OwnT (w7.alloc (.cells #[.string s, .string ⟨#[35]⟩] 40)) w7.heap.size (.slice (some ⟨w7.heap.size, 0, none⟩) 1 1) [(sb s, [35])] := by
          have h := OwnT.new w7 (sb s) [35]
          rw [mkS_sb] at h
          exact h
        have hV8 := new_later w7 (.cells #[.string s, .string ⟨#[35]⟩] 40)
        clear hown4 hown7 hr7 hrow4 hys4 hbs4 hb4 hb7 hl9 HO3
        go_upto_region 8 with fail
        generalize w7.alloc (.cells #[.string s, .string ⟨#[35]⟩] 40) = w8 at hT0 hV8 ⊢
        obtain ⟨base, hbase⟩ : ∃ base, w7.heap.size = base := ⟨_, rfl⟩
        rw [hbase] at hT0 hV8 ⊢
        have HBASE := Lib.hid hbase
        have HT0 := Lib.hid hT0
        have HV8 := Lib.hid hV8
        have hqi : (q : Int) ≤ 78 := by omega
        clear hbase hT0 hV8
        go_wp2_with fail
        go_loopw [9, 10, 11] (fun v i _ W => ∃ k : Nat, k ≤ q ∧ i = .int .i64 (k : Int) ∧ OwnT W base v ((sb s, [35]) :: (tkW LL).take k) ∧ Below base w7 W) (fun _ i _ _ => q - (intOf i).toNat)
        case atStart => exact ⟨0, by omega, rfl, by simpa using HT0.out, HV8.out⟩
        case round =>
          obtain ⟨k, hk, rfl, hown, hb⟩ := hrel
          have hk0 : (0 : Int) ≤ (k : Int) := by omega
          have hk78 : (k : Int) ≤ 78 := by omega
          have hb' : Below w7.heap.size w7 wr := by rw [HBASE.out]; exact hb
          by_cases hlt : k < q
          · have hki : (k : Int) < (q : Int) := by omega
            have hkl : k < LL.length := by rw [HQ.out]; exact hlt
            obtain ⟨b, o, rfl, hbB, hc⟩ := HR7.out.at_ (by intro e; have h9 := congrArg List.length e; simp [ss] at h9; subst h9; simp at hkl)
            have hc0 := hc k (.string LL[k]) (by simp [ss, List.getElem?_eq_getElem hkl])
            have hxz := szs_mem (List.getElem_mem hkl)
            have hxs := HSZ.out
            have htk := tkW_take hkl
            have hl9 : ((sb s, [35]) :: (tkW LL).take k).length ≤ 1000000 := by rw [List.length_cons, List.length_take]; omega
            generalize LL[k] = x at hc0 hxz htk
            have hxx : x.size ≤ 2097932 := by omega
            have hxi : (x.size : Int) ≤ 2097932 := by omega
            obtain ⟨N, hN, hwN⟩ : ∃ N : Int, ((x.size + k : Nat) : Int) = N ∧ IntKind.i64.wrap ((x.size : Int) + (k : Int)) = N := ⟨_, rfl, (IntWalk.i64_in _ (by omega)).trans (by omega)⟩
            rw [hN] at htk
            have HGP : Hid (∀ W, Calls Tryd.prog 18 #[.int .i64 N, .int .i64 0] W fun e w' => e = .returned (.string (mkS (gapL N false))) ∧ Below W.heap.size W w') := Lib.hid fun W => by have h := Gap_any N 0 (by rw [← hN]; exact ⟨by omega, by omega⟩) W; simpa using h
            obtain ⟨hgc, hgb⟩ := gapL_cb N false
            have hgl := gapL_len N false
            have HTK := Lib.hid htk
            generalize gapL N false = G at HGP hgc hgb hgl HTK
            have hgbl : blk (sb (mkS G)) = true := by rw [sb_mkS _ hgb]; exact blk_CB hgc (by omega)
            have HCX : Hid (∀ W, Below w7.heap.size w7 W → W.cell? ⟨b, o + k, none⟩ = some (.string x)) := Lib.hid fun W hW => (hW.cell (p := ⟨b, o + k, none⟩) hbB).trans hc0
            have HKr := Lib.hid (HK7.out.later hb')
            have HW1 := Lib.hid fun (W : World) (hW : Kx W) => Word_any x W hW
            have HW2 := Lib.hid fun (W : World) => RWord_any x (by omega) W
            have HB1 := Lib.hid fun (W : World) (hW : Kx W) => Blank_any x (by omega) W hW
            have HB2' := Lib.hid fun (W : World) => RBlank_any x (by omega) W
            have HB3 : Hid (∀ W, Kx W → Calls Tryd.prog 21 #[.string (mkS G)] W fun e w' => e = .returned (.bool true) ∧ Below W.heap.size W w') := Lib.hid fun W hW => by
              have h := Blank_any (mkS G) (by rw [mkS_size]; omega) W hW
              rwa [hgbl] at h
            generalize wrd x = wb at HW1 HW2
            generalize blk (sb x) = bb at HB1 HB2'
            have hz1 : ¬ (mkS G).size + (ByteArray.mk #[32, 35]).size > 9223372036854775807 := by rw [mkS_size]; show ¬ G.length + 2 > _; omega
            have hgsz : (mkS G).size ≤ 14 := by rw [mkS_size]; exact hgl
            have hgs := mkS_size G
            obtain ⟨gs, hge⟩ : ∃ gs, mkS G = gs := ⟨_, rfl⟩
            rw [hge] at HGP HB3 hz1 hgsz
            have hy1 : (gs ++ (ByteArray.mk #[32, 35])).size ≤ 16 := by rw [ByteArray.size_append]; show gs.size + 2 ≤ _; omega
            obtain ⟨y1, hye⟩ : ∃ y1, gs ++ (ByteArray.mk #[32, 35]) = y1 := ⟨_, rfl⟩
            rw [hye] at hy1
            have hz2 : ¬ y1.size + s.size > 9223372036854775807 := by omega
            have hys : (y1 ++ s).size ≤ 2000000 := by rw [ByteArray.size_append]; omega
            obtain ⟨y2, hye2⟩ : ∃ y2, y1 ++ s = y2 := ⟨_, rfl⟩
            rw [hye2] at hys
            have hz1b : ¬ 9223372036854775807 < gs.size + 2 := by omega
            have hz1c : gs.size + 2 ≤ 9223372036854775807 := by omega
            have hz2b : ¬ 9223372036854775807 < y1.size + s.size := by omega
            have hz2c : y1.size + s.size ≤ 9223372036854775807 := by omega
            have HB4' := Lib.hid fun (W : World) (hW : Kx W) => Blank_any y2 (by omega) W hW
            have HB5 := Lib.hid fun (W : World) => RBlank_any y2 (by omega) W
            generalize blk (sb y2) = yb at HB4' HB5
            have HO := Lib.hid hown
            have HGE := Lib.hid hge
            have HBr := Lib.hid hb'
            have hcr := HCX.out _ hb'
            clear hc hc0 hxz hxs htk hgc hgb hgl hgbl hgs hge hown hb hb' hkl hlt hys hxx hN hgsz hy1
            go_upto_region 12 with (go_at_call 18; (with_reducible refine (HGP.out _).mono ?_); rintro e wg ⟨rfl, hbg⟩; have HBg := Lib.hid (later HBr.out hbg); have HOg := Lib.hid (HO.out.later hbg); have HKg := Lib.hid (HKr.out.later hbg); clear hbg)
            have hbd : Below wg.heap.size wg wg.drew := below_drewN (Below.refl _ _) 1
            clear hcr
            go_region_held3 (fun W => W.cell? ⟨b, o + k, none⟩ = some (.string x))
              (first | exact HCX.out _ (later HBg.out hbd) | exact HCX.out _ (later HBg.out hb1) | exact HCX.out _ (later HBg.out hb2) | exact HCX.out _ (later HBg.out hb3) | exact HCX.out _ (later HBg.out hb4))
              (first
                | (go_at_call 19; (with_reducible refine (HW1.out _ (HKg.out.later hbd)).mono ?_); rintro e w' ⟨rfl, hw⟩; rw [hw]; clear hw)
                | (go_at_call 20; (with_reducible refine (HW2.out _).mono ?_); rintro e wa ⟨rfl, hb10⟩; have hb1 := later hbd hb10)
                | (go_at_call 21; (with_reducible refine (HB1.out _ (HKg.out.later hb1)).mono ?_); rintro e wb' ⟨rfl, hb20⟩; have hb2 := later hb1 hb20)
                | (go_at_call 22; (with_reducible refine (HB2'.out _).mono ?_); rintro e w' ⟨rfl, hw⟩; rw [hw]; clear hw)
                | (go_at_call 21; (with_reducible refine (HB3.out _ (HKg.out.later hb2)).mono ?_); rintro e wc ⟨rfl, hb30⟩; have hb3 := later hb2 hb30)
                | (go_at_call 21; (with_reducible refine (HB4'.out _ (HKg.out.later hb3)).mono ?_); rintro e wd ⟨rfl, hb40⟩; have hb4 := later hb3 hb40)
                | (go_at_call 22; (with_reducible refine (HB5.out _).mono ?_); rintro e w' ⟨rfl, hw⟩; rw [hw]; clear hw))
            have HBd := Lib.hid (later HBg.out hb4)
            have HOd := Lib.hid (HOg.out.later hb4)
            have hcd := HCX.out _ HBd.out
            have HBB := Lib.hid (show Below base w7 wd from by rw [← HBASE.out]; exact HBd.out)
            have hbsz : base ≤ wd.heap.size := by rw [← HBASE.out]; exact HBd.out.size
            clear hb1 hb10 hb2 hb20 hb3 hb30 hb4 hb40 hbd HGP HW1 HW2 HB1 HB2' HB3 HB4' HB5
            go_wp2_with (refine wpList_putT (p := sb x) (q := G) HOd.out (mkS_sb x).symm HGE.out.symm hbsz hl9 rfl _ _ rfl rfl rfl ?_; intro v9 w9 hown9 hb9)
            refine ⟨⟨k + 1, by have := HK7; omega, by go_num, by rw [HTK.out]; exact hown9, HBB.out.trans hb9⟩, by simp [intOf]; omega⟩
          · obtain rfl : k = q := by omega
            rw [List.take_of_length_le (by rw [tkW_len, HQ.out]; exact Nat.le_refl _)] at hown
            obtain ⟨T, hT⟩ : ∃ T, (sb s, [35]) :: tkW LL = T := ⟨_, rfl⟩
            rw [hT] at hown
            have hTl : T.length = k + 1 := by rw [← hT, List.length_cons, tkW_len, HQ.out]
            have hTB : TB T := by
              rw [← hT]
              intro y hy
              rcases List.mem_cons.1 hy with rfl | hy
              · exact ⟨sb_lt s, by simp⟩
              · exact tkW_TB LL y hy
            have hcat : (cat T).length + (sb s).length ≤ 100000000 := by
              have h1 := cat_tkW_le LL LL.length (Nat.le_refl _)
              rw [List.take_of_length_le (by rw [tkW_len]; exact Nat.le_refl _), List.take_of_length_le (Nat.le_refl _)] at h1
              have h2 := HSZ.out
              have h3 := HQ.out
              rw [← hT, cat_cons, List.length_append, List.length_append, sb_len]
              simp only [List.length_cons, List.length_nil]
              omega
            obtain ⟨k1, hk1⟩ : ∃ k1, k + 1 = k1 := ⟨_, rfl⟩
            rw [hk1] at hTl
            obtain ⟨A9, c9, rfl, _, _, hr9⟩ := hown.shape
            rw [hTl]
            have HR9 := Lib.hid hr9
            have HBr := Lib.hid (HB7.out.trans ((show Below w7.heap.size w7 wr by rw [HBASE.out]; exact hb).mono HB7.out.size))
            have HB7r := Lib.hid (show Below w7.heap.size w7 wr by rw [HBASE.out]; exact hb)
            have HKr := Lib.hid (HK.out.later HBr.out)
            have HLV := Lib.hid fun (W : World) (hW : Kx W) => lives_any W hW
            have HPLN := Lib.hid (plain_rd k1 c9 A9 T wr hTl.symm (by omega) hr9)
            have HRT : Hid (∀ (c : Nat) (A : Option Addr) (W : World), Rd W W.heap.size A (tv T) → Calls Tryd.prog 23 #[.slice A k1 c, .string s] W (DrawRes (.string (mkS (cat T ++ sb s))) W)) := Lib.hid fun c A W hr => by
              have h := RText_any k1 c A T (sb s) W hTl.symm (by omega) hcat hr
              rwa [mkS_sb] at h
            have HTB' : Hid (∀ (W : World), Rd W W.heap.size A9 (tv T) → Calls Tryd.prog 27 #[.slice A9 k1 c9, .string s] W fun e w' => e = .returned (.string (mkS (cat T ++ sb s))) ∧ Below W.heap.size W w') := Lib.hid fun W hr => by
              have h := Text_big k1 c9 A9 T (sb s) W hTl.symm (by omega) hTB (sb_lt s) hcat hr
              rwa [mkS_sb] at h
            have HU1 : Hid (∀ (W : World), Rd W W.heap.size A7 (ss LL) → Calls Tryd.prog 25 #[.slice A7 k c7] W fun e w' => ∃ A c, e = .returned (.slice A k1 c) ∧ Rd w' w'.heap.size A (ss (usl LL)) ∧ Below W.heap.size W w') := Lib.hid fun W hr => by
              refine (Usual_any k c7 A7 LL W HQ.out.symm (by omega) hr).mono ?_
              rintro e w' ⟨rfl, ho, hb⟩
              rw [hk1] at ho ⊢
              exact ⟨_, _, rfl, Rd.own ho, hb⟩
            have HU2 : Hid (∀ (W : World), Rd W W.heap.size A7 (ss LL) → Calls Tryd.prog 26 #[.slice A7 k c7] W fun e w' => ∃ A c, e = .returned (.slice A k1 c) ∧ Rd w' w'.heap.size A (ss (usl LL)) ∧ Below W.heap.size W w') := Lib.hid fun W hr => by
              refine (RUsual_any k c7 A7 LL W HQ.out.symm (by omega) hr).mono ?_
              rintro e w' ⟨v, rfl, ho, hb⟩
              obtain ⟨A, c, rfl, _, _, hr⟩ := ho.shape
              rw [usl_len, HQ.out, hk1]
              exact ⟨_, _, rfl, hr, hb⟩
            have HU3 : Hid (∀ (W : World), Calls Tryd.prog 25 #[.slice none 0 0] W fun e w' => ∃ A c, e = .returned (.slice A 1 c) ∧ Below W.heap.size W w') := Lib.hid fun W => by
              refine (Usual_any 0 0 none [] W rfl (by omega) (Rd.nil _ _ _)).mono ?_
              rintro e w' ⟨rfl, ho, hb⟩
              exact ⟨_, _, rfl, hb⟩
            have HST : Hid (∀ (c d : Nat) (A A' : Option Addr) (W : World), Rd W W.heap.size A (ss (usl LL)) → Rd W W.heap.size A' (ss (usl LL)) → Calls Tryd.prog 24 #[.slice A k1 c, .slice A' k1 d] W fun e w' => e = .returned (.bool true) ∧ Below W.heap.size W w') := Lib.hid fun c d A A' W hr hr' => by
              refine (SameTexts_any k1 k1 W.heap.size c d A A' (usl LL) (usl LL) W (by rw [usl_len, HQ.out, hk1]) (by rw [usl_len, HQ.out, hk1]) hr hr' (by omega)).mono ?_
              rintro e w' ⟨rfl, n, rfl⟩
              exact ⟨by simp, below_drewN (Below.refl _ _) n⟩
            generalize mkS (cat T ++ sb s) = TX at HRT HTB'
            clear hown hb hb' hr9 hT hTl hTB hcat hlt hk hk1
            go_wp2_with (first
              | (go_at_call 14; (with_reducible refine HPLN.out.mono ?_); rintro e u1 ⟨B1, d1, rfl, hr1, hb1⟩; have HC1 := Lib.hid hb1; have HS1 := Lib.hid hr1; clear hb1 hr1)
              | (go_at_call 23; (with_reducible refine (HRT.out _ _ _ HS1.out).mono ?_); rintro e u2 ⟨rfl, n2, hu2⟩; have HC2 := Lib.hid (show Below wr.heap.size wr u2 by rw [hu2]; exact below_drewN HC1.out n2); clear hu2)
              | (go_at_call 25; (with_reducible refine (HU1.out _ (HR7.out.later (later HB7r.out HC2.out))).mono ?_); rintro e u3 ⟨B3, d3, rfl, hr3, hb3⟩; have HC3 := Lib.hid (later HC2.out hb3); have HS3 := Lib.hid hr3; clear hb3 hr3)
              | (go_at_call 26; (with_reducible refine (HU2.out _ (HR7.out.later (later HB7r.out HC3.out))).mono ?_); rintro e u4 ⟨B4, d4, rfl, hr4, hb4⟩; have HC4 := Lib.hid (later HC3.out hb4); have HS4 := Lib.hid hr4; have HS3' := Lib.hid (HS3.out.later hb4); clear hb4 hr4)
              | (go_at_call 24; (with_reducible refine (HST.out _ _ _ _ _ HS3'.out HS4.out).mono ?_); rintro e u5 ⟨rfl, hb5⟩; have HC5 := Lib.hid (later HC4.out hb5); clear hb5)
              | (go_at_call 25; (with_reducible refine (HU3.out _).mono ?_); rintro e u6 ⟨B6, d6, rfl, hb6⟩; have HC6 := Lib.hid (later HC5.out hb6); clear hb6)
              | (go_at_call 27; (with_reducible refine (HTB'.out _ (HR9.out.later HC6.out)).mono ?_); rintro e u7 ⟨rfl, hb7⟩; have HC7 := Lib.hid (later HC6.out hb7); clear hb7)
              | (go_at_call 15; (with_reducible refine (HLV.out _ (HKr.out.later HC7.out)).mono ?_); rintro e u8 ⟨rfl, hb8⟩; have HC8 := Lib.hid (later HC7.out hb8); clear hb8))
            go_ret
            exact ⟨rfl, later HBr.out HC8.out⟩
end Go.Proofs.YtfbookfaodfmdaaDoor
