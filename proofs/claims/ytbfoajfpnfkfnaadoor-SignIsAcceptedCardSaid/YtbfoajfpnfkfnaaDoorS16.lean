import Derived.Test.YtbfoajfpnfkfnaaDoorS15
import Derived.Lib.ConvBytes
set_option linter.unusedVariables false
set_option linter.unusedSimpArgs false
namespace Go.Proofs.YtbfoajfpnfkfnaaDoor
open Go.RowKit

/-- '[]byte(s)'. -/
theorem conv_new (W : World) (L : List Nat) (hL : AllB L) (n : Nat) (hn : L.length = n) (hm : n ≤ 1000000) : ∃ W' C, (convert 9 22 (.string (mkS L))).run Tryd.prog W = .ok (.slice (some ⟨W.heap.size, 0, none⟩) n C) W' ∧ n ≤ C ∧ C ≤ maxLen ∧ Below W.heap.size W W' ∧ W.heap.size < W'.heap.size ∧ W'.rangeAt W.heap.size 0 (bs L) ∧ Rd W' W'.heap.size (some ⟨W.heap.size, 0, none⟩) (bs L) := by
  have hsz : (mkS L).size = n := by rw [mkS_size, hn]
  have hr : ∀ j u, (bs L)[j]? = some u → (Lib.bytesWorld W 5 (mkS L)).cell? ⟨W.heap.size, j, none⟩ = some u := fun j u hu => by
    have hj : j < L.length := by
      have := (List.getElem?_eq_some_iff.1 hu).1
      rwa [bs_len] at this
    have h := bs_get L j hj
    rw [hu] at h
    rw [Option.some.inj h, Lib.bytesWorld_cell W 5 (mkS L) j (by rw [mkS_size]; exact hj)]
    have e := sb_mkS L hL
    unfold sb at e
    have hj2 : j < (mkS L).data.toList.length := by
      have := congrArg List.length e
      rw [List.length_map] at this; omega
    have e2 : L[j]? = some ((mkS L).data.toList[j].toNat) := by
      have e3 := congrArg (fun l : List Nat => l[j]?) e
      rw [List.getElem?_map, List.getElem?_eq_getElem hj2] at e3
      exact e3.symm
    rw [e2]
    simp [List.getD, List.getElem?_eq_getElem hj2]
  refine ⟨Lib.bytesWorld W 5 (mkS L), grownCap W n 0 5, ?_, ?_, ?_, ⟨rfl, rfl, rfl, by rw [Lib.bytesWorld_size]; omega, fun k hk => Lib.bytesWorld_at_old W 5 (mkS L) k hk⟩, by rw [Lib.bytesWorld_size]; omega, ?_, ?_⟩
  · rw [Lib.run_convert_string_bytes (P := Tryd.prog) W 9 22 5 (mkS L) Tryd.underlying9 Tryd.underlying22 Tryd.underlying5, hsz]
  · exact grownCap_ge _ _ _ _
  · exact grownCap_le_maxLen _ _ _ _ (by unfold maxLen; omega)
  · intro j u hu; rw [Nat.zero_add]; exact hr j u hu
  · exact .inr ⟨W.heap.size, 0, rfl, by rw [Lib.bytesWorld_size]; omega, fun j u hu => by rw [Nat.zero_add]; exact hr j u hu⟩

set_option maxHeartbeats 4000000 in
set_option maxRecDepth 100000 in
theorem rootOver_any (v0 : List Nat) (i0 : Nat) (os0 : List (List Nat)) (w : World) (hv : v0.length = 16) (hvB : AllB v0) (hi : i0 ≤ 1000000) (h16 : ∀ x ∈ os0, x.length = 16) (hB : ∀ x ∈ os0, AllB x) (hl : os0.length ≤ 6) (hK : Kc w) :
    Calls Tryd.prog 58 #[.agg (bs v0).toArray, .int .i64 (i0 : Int), .string (mkS os0.flatten)] w fun e w' => e = .returned (.agg (bs (overL v0 i0 os0)).toArray) ∧ Below w.heap.size w w' := by
  have hini := duo_new w 44 44 (bs v0).toArray #[.int .u8 0, .int .u8 0, .int .u8 0, .int .u8 0, .int .u8 0, .int .u8 0, .int .u8 0, .int .u8 0, .int .u8 0, .int .u8 0, .int .u8 0, .int .u8 0, .int .u8 0, .int .u8 0, .int .u8 0, .int .u8 0] (bs v0) (bs (List.replicate 16 0)) 16 16 rfl rfl (by rw [bs_len, hv]) (by simp [bs]) (by decide) (by decide)
  have HK : Hid (∀ W, Below w.heap.size w W → Kc W) := Lib.hid fun W hW => hK.later hW
  have HV := Lib.hid hv
  have HVB := Lib.hid hvB
  have H16 := Lib.hid h16
  have HB := Lib.hid hB
  clear hv hvB h16 hB hK
  have hu := Tryd.underlying44
  go_enter Tryd.func58, Tryd.ntmps58
  go_upto_region 1 with fail
  generalize hW : (w.alloc (.cells (bs v0).toArray 44)).alloc (.cells #[.int .u8 0, .int .u8 0, .int .u8 0, .int .u8 0, .int .u8 0, .int .u8 0, .int .u8 0, .int .u8 0, .int .u8 0, .int .u8 0, .int .u8 0, .int .u8 0, .int .u8 0, .int .u8 0, .int .u8 0, .int .u8 0] 44) = wa at hini ⊢
  clear hW
  obtain ⟨P1, P2, V⟩ := hini
  go_loopw [1, 2, 7] (fun x s _ W => ∃ (v : List Nat) (i : Nat) (os : List (List Nat)), x = .int .i64 (i : Int) ∧ s = .string (mkS os.flatten) ∧ i ≤ 1000000 ∧ os.length ≤ 6 ∧ v.length = 16 ∧ AllB v ∧ (∀ x ∈ os, x.length = 16) ∧ (∀ x ∈ os, AllB x) ∧ Hid (overL v i os = overL v0 i0 os0) ∧ Arr W w.heap.size 16 44 (bs v) ∧ Arr W (w.heap.size + 1) 16 44 (bs (List.replicate 16 0)) ∧ Below w.heap.size w W) (fun _ s _ _ => szOf s)
  case atStart => exact ⟨v0, i0, os0, rfl, rfl, hi, hl, HV.out, HVB.out, H16.out, HB.out, Lib.hid rfl, P1, P2, V⟩
  case round =>
    obtain ⟨v, i, os, rfl, rfl, hi', hl', hv, hvB, h16, hB, HOV, Q1, Q2, hV⟩ := hrel
    clear P1 P2 V
    cases os with
    | nil =>
      have hm : mkS ([] : List (List Nat)).flatten = ⟨#[]⟩ := rfl
      rw [hm]
      have HVL : Hid ((bs v).length = 16) := Lib.hid (by rw [bs_len, hv])
      have HIV : Hid ((Tryd.prog.info? 44).map (·.size) = some (bs v).length) := Lib.hid (by rw [HVL.out]; exact info_dig)
      clear hv hm
      go_wp2_with (first
        | (with_reducible refine wpList_load_mid rfl _ (.tmp 3) rfl w.heap.size 0 rfl (bs v) _ Q1.range hu rfl HIV.out ?_)
        | (refine wpList_store_arr rfl _ (.tmp 6) (.tmp 28) rfl (w.heap.size + 1) 0 16 44 _ (bs v) _ rfl rfl rfl Q2 (by rw [HVL.out]; omega) HIV.out (bs_cell v) ?_; intro w10 f10 o10; rw [setAll_all _ _ (by rw [HVL.out, bs_len]; rfl)] at f10))
      exact bodyPost_ret (results_one rfl _ _ (w.heap.size + 1) (bs v) _ rfl f10.range hu rfl HIV.out) rfl ⟨by rw [← HOV.out]; rfl, hV.trans (o10.bel.mono (by omega))⟩
    | cons o os =>
      have ho := h16 o (List.mem_cons_self ..)
      have hoB := hB o (List.mem_cons_self ..)
      have hR : (o :: os).flatten = o ++ os.flatten := List.flatten_cons
      have hRl : (o ++ os.flatten).length = 16 + os.flatten.length := by rw [List.length_append, ho]
      have hsz : 16 ≤ ((mkS (o :: os).flatten).size : Int) := by rw [mkS_size, hR, hRl]; omega
      have hne : (mkS (o :: os).flatten).toList.isEmpty = false := by
        have := ne_empty (T := mkS (o :: os).flatten) (by omega)
        cases h : (mkS (o :: os).flatten).toList with
        | nil => rw [h] at this; cases this
        | cons a l => rfl
      have HE1 : Hid ((mkS (o :: os).flatten).extract 0 16 = mkS o) := Lib.hid (by rw [ext_mkS, hR, List.take_append_of_le_length (by omega), List.take_of_length_le (by omega)]; rfl)
      have HE2 : Hid ((mkS (o :: os).flatten).extract 16 (mkS (o :: os).flatten).size = mkS os.flatten) := Lib.hid (by rw [ext_mkS, mkS_size, List.take_of_length_le (Nat.le_refl _), hR, List.drop_append_of_le_length (by omega), List.drop_of_length_le (by omega), List.nil_append])
      have HSZ2 : Hid (szOf (.string (mkS os.flatten)) < szOf (.string (mkS (o :: os).flatten))) := Lib.hid (by rw [szOf_str, szOf_str, mkS_size, mkS_size, hR, hRl]; omega)
      clear hR hRl
      generalize (o :: os).flatten = R at *
      obtain ⟨w1, C, hcv, hC1, hC2, hb1, hlt1, hrg, _⟩ := conv_new wr o hoB 16 ho (by decide)
      rw [← HE1.out] at hcv
      have hta := run_toArr ⟨wr.heap.size, 0, none⟩ 16 C (by decide) w1
      have V1 := later hV hb1
      have HV16 : Hid (v.length = 16) := Lib.hid hv
      have HVL : Hid ((bs v).length = 16) := Lib.hid (by rw [bs_len, hv])
      have HIV : Hid ((Tryd.prog.info? 44).map (·.size) = some (bs v).length) := Lib.hid (by rw [HVL.out]; exact info_dig)
      have HOL : Hid ((bs o).length = 16) := Lib.hid (by rw [bs_len, ho])
      have HIO : Hid ((Tryd.prog.info? 44).map (·.size) = some (bs o).length) := Lib.hid (by rw [HOL.out]; exact info_dig)
      have H16' : Hid (∀ x ∈ os, x.length = 16) := Lib.hid fun x hx => h16 x (List.mem_cons_of_mem _ hx)
      have HB' : Hid (∀ x ∈ os, AllB x) := Lib.hid fun x hx => hB x (List.mem_cons_of_mem _ hx)
      have HSZM := HSZ2
      have hlw1 : w.heap.size + 1 < w1.heap.size := by have := Q2.lt; have := hb1.size; omega
      rw [List.length_cons] at hl'
      by_cases hpar : i % 2 = 0
      · have hp : ((i : Int) % 2 == 0) = true := beq_iff_eq.2 (by omega)
        have HPA : Hid (∀ W, Below w.heap.size w W → Calls Tryd.prog 66 #[.agg (bs v).toArray, .agg (bs o).toArray] W fun e w' => e = .returned (.agg (bs (parL v o)).toArray) ∧ Below W.heap.size W w') := Lib.hid fun W hW => parent_any v o W (by assumption) (by assumption) (by assumption) (by assumption) (HK.out W hW)
        have HN16 : Hid ((parL v o).length = 16) := Lib.hid (ofd_len _ _)
        have HNB : Hid (AllB (parL v o)) := Lib.hid (ofd_all _ _)
        have HOV2 : Hid (overL (parL v o) (i / 2) os = overL v0 i0 os0) := Lib.hid (by rw [← HOV.out]; show _ = overL (if i % 2 = 0 then parL v o else parL o v) (i / 2) os; rw [if_pos hpar])
        generalize parL v o = N at HPA HN16 HNB HOV2
        have HNL : Hid ((bs N).length = 16) := Lib.hid (by rw [bs_len, HN16.out])
        have HIN : Hid ((Tryd.prog.info? 44).map (·.size) = some (bs N).length) := Lib.hid (by rw [HNL.out]; exact info_dig)
        clear hpar hv hvB ho hoB h16 hB HOV
        go_wp2_with (first
          | (with_reducible refine wpList_load_mid rfl _ (.tmp 15) rfl wr.heap.size 0 rfl (bs o) _ hrg Tryd.underlying44 rfl HIO.out ?_)
          | (refine wpList_store_new rfl _ (.tmp 7) (.tmp 16) rfl rfl rfl info_dig HOL.out rfl (all_oneCell_toArray (bs_cell o)) ?_; intro w2 hbel2 hrow2 hsz2; have T2 : Arr w2 w1.heap.size 16 44 (bs o) := Arr.of_row hrow2 HOL.out (by decide); have V2 := later V1 hbel2; have R1 := (Q1.later hb1).later hbel2; have R2 := (Q2.later hb1).later hbel2; have z2 := hbel2.size; clear hrow2)
          | (with_reducible refine wpList_load_mid rfl _ (.tmp 3) rfl w.heap.size 0 rfl (bs v) _ R1.range Tryd.underlying44 rfl HIV.out ?_)
          | (with_reducible refine wpList_load_mid rfl _ (.tmp 7) rfl w1.heap.size 0 rfl (bs o) _ T2.range Tryd.underlying44 rfl HIO.out ?_)
          | (go_at_call 66; (with_reducible refine (HPA.out _ V2).mono ?_); rintro e w3 ⟨rfl, hb3⟩; have V3 := later V2 hb3; have S1 := R1.later hb3; have S2 := R2.later hb3; clear hb3)
          | (refine wpList_store_arr rfl _ (.tmp 3) (.tmp 22) rfl w.heap.size 0 16 44 _ (bs N) _ rfl rfl rfl S1 (by rw [HNL.out]; omega) HIN.out (bs_cell N) ?_; intro w4 f4 o4; have S4 := S2.only o4 (by omega); have V4 := V3.trans o4.bel; rw [setAll_all _ _ (by rw [HNL.out, bs_len, HV16.out])] at f4))
        go_roundw
        case rel => exact ⟨N, i / 2, os, congrArg (Value.int .i64) (by omega), by rw [HE2.out], by omega, by omega, HN16.out, HNB.out, H16'.out, HB'.out, HOV2, f4, S4, V4⟩
        case measure => rw [HE2.out]; exact HSZM.out
      · have hp : ((i : Int) % 2 == 0) = false := beq_eq_false_iff_ne.2 (by omega)
        have HPA : Hid (∀ W, Below w.heap.size w W → Calls Tryd.prog 66 #[.agg (bs o).toArray, .agg (bs v).toArray] W fun e w' => e = .returned (.agg (bs (parL o v)).toArray) ∧ Below W.heap.size W w') := Lib.hid fun W hW => parent_any o v W (by assumption) (by assumption) (by assumption) (by assumption) (HK.out W hW)
        have HN16 : Hid ((parL o v).length = 16) := Lib.hid (ofd_len _ _)
        have HNB : Hid (AllB (parL o v)) := Lib.hid (ofd_all _ _)
        have HOV2 : Hid (overL (parL o v) (i / 2) os = overL v0 i0 os0) := Lib.hid (by rw [← HOV.out]; show _ = overL (if i % 2 = 0 then parL v o else parL o v) (i / 2) os; rw [if_neg hpar])
        generalize parL o v = N at HPA HN16 HNB HOV2
        have HNL : Hid ((bs N).length = 16) := Lib.hid (by rw [bs_len, HN16.out])
        have HIN : Hid ((Tryd.prog.info? 44).map (·.size) = some (bs N).length) := Lib.hid (by rw [HNL.out]; exact info_dig)
        clear hpar hv hvB ho hoB h16 hB HOV
        go_wp2_with (first
          | (with_reducible refine wpList_load_mid rfl _ (.tmp 15) rfl wr.heap.size 0 rfl (bs o) _ hrg Tryd.underlying44 rfl HIO.out ?_)
          | (refine wpList_store_new rfl _ (.tmp 7) (.tmp 16) rfl rfl rfl info_dig HOL.out rfl (all_oneCell_toArray (bs_cell o)) ?_; intro w2 hbel2 hrow2 hsz2; have T2 : Arr w2 w1.heap.size 16 44 (bs o) := Arr.of_row hrow2 HOL.out (by decide); have V2 := later V1 hbel2; have R1 := (Q1.later hb1).later hbel2; have R2 := (Q2.later hb1).later hbel2; have z2 := hbel2.size; clear hrow2)
          | (with_reducible refine wpList_load_mid rfl _ (.tmp 3) rfl w.heap.size 0 rfl (bs v) _ R1.range Tryd.underlying44 rfl HIV.out ?_)
          | (with_reducible refine wpList_load_mid rfl _ (.tmp 7) rfl w1.heap.size 0 rfl (bs o) _ T2.range Tryd.underlying44 rfl HIO.out ?_)
          | (go_at_call 66; (with_reducible refine (HPA.out _ V2).mono ?_); rintro e w3 ⟨rfl, hb3⟩; have V3 := later V2 hb3; have S1 := R1.later hb3; have S2 := R2.later hb3; clear hb3)
          | (refine wpList_store_arr rfl _ (.tmp 3) (.tmp 25) rfl w.heap.size 0 16 44 _ (bs N) _ rfl rfl rfl S1 (by rw [HNL.out]; omega) HIN.out (bs_cell N) ?_; intro w4 f4 o4; have S4 := S2.only o4 (by omega); have V4 := V3.trans o4.bel; rw [setAll_all _ _ (by rw [HNL.out, bs_len, HV16.out])] at f4))
        go_roundw
        case rel => exact ⟨N, i / 2, os, congrArg (Value.int .i64) (by omega), by rw [HE2.out], by omega, by omega, HN16.out, HNB.out, H16'.out, HB'.out, HOV2, f4, S4, V4⟩
        case measure => rw [HE2.out]; exact HSZM.out
end Go.Proofs.YtbfoajfpnfkfnaaDoor
