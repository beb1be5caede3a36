import Derived.Test.YtoopilemlgamkaaDoorH20
set_option linter.unusedVariables false
set_option linter.unusedSimpArgs false
namespace Go.Proofs.YtoopilemlgamkaaDoor
open Go.RowKit

def cat (l : List ByteArray) : List Nat := l.flatMap sb
theorem cat_snoc (l : List ByteArray) (s : ByteArray) : cat (l ++ [s]) = cat l ++ sb s := by unfold cat; simp
theorem cat_all (l : List ByteArray) : AllB (cat l) := by
  intro x hx
  obtain ⟨s, _, h⟩ := List.mem_flatMap.1 hx
  exact sb_lt s x h
theorem cat_len (B : Nat) (l : List ByteArray) (h : ∀ s ∈ l, s.size ≤ B) : (cat l).length ≤ B * l.length := by
  have h1 := flatMap_len_le sb B l (fun s hs => by rw [sb_len]; exact h s hs)
  unfold cat; omega
theorem eq_sum (Z : List Nat) (hz : Z.length = 32) : Hid (∀ W, (Op.equalIn 10000 24 (.agg (bs Z).toArray) (.agg (bs Z).toArray)).run Tryd.prog W = .ok true W) := Lib.hid fun W => by
  have h := run_eqSum W Z Z hz hz
  rw [h]; simp
/-- Ahead of the two loops: the stream is empty. -/
def HS1 (w : World) (p : Value) (W : World) : Prop := ∃ G, p = .pointer (some ⟨G, 0, none⟩) ∧ w.heap.size ≤ G ∧ Arr W G 73 34 (stm []) ∧ Below w.heap.size w W

set_option maxHeartbeats 4000000 in
set_option maxRecDepth 100000 in
theorem hst_main (A : Option Addr) (m cap : Nat) (l : List ByteArray) (other : ByteArray) (at_ : Nat) (k : Nat) (w : World) (SA : Hid (Calls Tryd.prog 13 #[] w fun e w' => e = .returned (.bool true) ∧ Below w.heap.size w w')) (hat : at_ < 256) (HKD : Hid (k = at_ % (m + 1))) (hkm0 : k ≤ m) (HM : Hid (m = l.length)) (HR : Hid (Rd w w.heap.size A (ss l))) (HF : Hid (fewS l)) (hm12 : m ≤ 12) (ho : ¬ (400 : Int) < (other.size : Int)) (HK : Hid (∀ W, Below w.heap.size w W → Kc W))
    (EF : Hid (∀ W, Below w.heap.size w W → Calls Tryd.prog 16 #[.slice A m cap] W fun e w' => e = .returned (.bool true) ∧ w' = W))
    (J1 J2 J3 : ByteArray) (Z1 Z2 Z3 : List Nat) (U1 X X3 : List Value) (HU1 : Hid (stm (cat l) = U1)) (HX : Hid (stm (cat (l.take k)) = X)) (X3L : Hid (X3.length = 73)) (X3C : Hid (∀ v ∈ X3, v.oneCell' = true))
    (hmc : m ≤ cap) (hJ3 : J2 ++ other = J3) (hj2 : J2.size ≤ 10000) (z1l : Hid (Z1.length = 32)) (z2l : Hid (Z2.length = 32)) (z3l : Hid (Z3.length = 32))
    (EA : Hid (∀ W, Below w.heap.size w W → Calls Tryd.prog 18 #[.agg X.toArray, .string other] W fun e w' => e = .returned (.agg X3.toArray) ∧ Below W.heap.size W w'))
    (EJ1 : Hid (∀ W, Below w.heap.size w W → Calls Tryd.prog 19 #[.slice A m cap] W fun e w' => e = .returned (.string J1) ∧ w' = W))
    (EJ2 : Hid (∀ W, Below w.heap.size w W → Calls Tryd.prog 19 #[.slice A k cap] W fun e w' => e = .returned (.string J2) ∧ w' = W))
    (ES1 : Hid (∀ W, Below w.heap.size w W → Calls Tryd.prog 20 #[.agg U1.toArray] W fun e w' => e = .returned (.agg (bs Z1).toArray) ∧ Below W.heap.size W w'))
    (ES2 : Hid (∀ W, Below w.heap.size w W → Calls Tryd.prog 20 #[.agg X.toArray] W fun e w' => e = .returned (.agg (bs Z2).toArray) ∧ Below W.heap.size W w'))
    (ES3 : Hid (∀ W, Below w.heap.size w W → Calls Tryd.prog 20 #[.agg X3.toArray] W fun e w' => e = .returned (.agg (bs Z3).toArray) ∧ Below W.heap.size W w'))
    (ER1 : Hid (∀ W c, Below w.heap.size w W → Calls Tryd.prog 15 #[.slice (some ⟨W.heap.size, 0, none⟩) J1.size c] (Lib.bytesWorld W 5 J1) fun e w' => e = .returned (.agg (bs Z1).toArray) ∧ Below (Lib.bytesWorld W 5 J1).heap.size (Lib.bytesWorld W 5 J1) w'))
    (ER2 : Hid (∀ W c, Below w.heap.size w W → Calls Tryd.prog 15 #[.slice (some ⟨W.heap.size, 0, none⟩) J2.size c] (Lib.bytesWorld W 5 J2) fun e w' => e = .returned (.agg (bs Z2).toArray) ∧ Below (Lib.bytesWorld W 5 J2).heap.size (Lib.bytesWorld W 5 J2) w'))
    (ER3 : Hid (∀ W c, Below w.heap.size w W → Calls Tryd.prog 15 #[.slice (some ⟨W.heap.size, 0, none⟩) J3.size c] (Lib.bytesWorld W 5 J3) fun e w' => e = .returned (.agg (bs Z3).toArray) ∧ Below (Lib.bytesWorld W 5 J3).heap.size (Lib.bytesWorld W 5 J3) w'))
    (EH : Hid (∀ W c, Below w.heap.size w W → Calls Tryd.prog 14 #[.slice (some ⟨W.heap.size, 0, none⟩) J1.size c] (Lib.bytesWorld W 5 J1) fun e w' => e = .returned (.agg (bs Z1).toArray) ∧ Below (Lib.bytesWorld W 5 J1).heap.size (Lib.bytesWorld W 5 J1) w')) :
    Calls Tryd.prog 4 #[.slice A m cap, .string other, .int .u8 (at_ : Int)] w (LawRes w) := by
  have CB0 : Hid (∀ W, Calls Tryd.prog 17 #[] W fun e w' => e = .returned (.agg (stm []).toArray) ∧ Below W.heap.size W w') := fun W => begin_stm W
  have hrem : (at_ : Int).tmod ((m : Int) + 1) = (k : Int) := by rw [HKD.out]; exact Int.ofNat_tmod at_ (m + 1) |>.symm
  have hm1z : ((m : Int) + 1 == 0) = false := by simp; omega
  have ZL : Hid ((stm []).length = 73) := Lib.hid (stm_len [])
  have ZI : Hid ((Tryd.prog.info? 34).map (·.size) = some (stm []).length) := Lib.hid (info_stm [])
  have ZC : Hid (∀ v ∈ stm [], v.oneCell' = true) := Lib.hid (sC_cell _ _ _)
  have HCN : Hid (cat (l.take 0) = []) := Lib.hid rfl
  go_enter Tryd.func4, Tryd.ntmps4
  go_upto_region 5 with (first
    | (go_at_call 13; with_reducible refine SA.out.mono ?_; rintro e w1 ⟨rfl, hb1⟩; have U1 := hb1; clear hb1 SA)
    | (go_at_call 16; with_reducible refine (EF.out _ U1).mono ?_; rintro e w2 ⟨rfl, rfl⟩; clear EF))
  go_cut [9] (fun p W => HS1 w p W)
  case first =>
    go_wp2_with (first
      | (go_at_call 17; refine (CB0.out _).mono ?_; rintro e w3 ⟨rfl, hb3⟩)
      | (with_reducible refine wpList_store_new rfl _ (.tmp 9) (.tmp 32) rfl rfl rfl info_stream ZL.out rfl (all_oneCell_toArray ZC.out) ?_; intro w5 hbel5 hrow5 hsz5))
    go_meet
    exact ⟨w3.heap.size, rfl, (later U1 hb3).size, Arr.of_row hrow5 ZL.out (by decide), later (later U1 hb3) hbel5⟩
  case rest =>
    obtain ⟨G, rfl, hG9, e0, hb0⟩ := hcut
    clear U1 hrem hm1z
    go_wp2_with fail
    go_loopw [10] (fun j W => ∃ i : Nat, i ≤ k ∧ j = .int .i64 (i : Int) ∧ Arr W G 73 34 (stm (cat (l.take i))) ∧ Below w.heap.size w W) (fun j _ => k - (intOf j).toNat)
    case atStart => exact ⟨0, Nat.zero_le _, rfl, by rw [HCN.out]; exact e0, hb0⟩
    case round =>
    obtain ⟨i, hi, rfl, e9, hb⟩ := hrel
    by_cases hlt : i < k
    · have hlt' : i < l.length := by have := HM.out; omega
      obtain ⟨b, o, rfl, _, hc⟩ := (HR.out.below hb).at_ (by intro h; have := congrArg List.length h; simp [ss] at this; subst this; simp at hlt')
      have hcell := hc i _ (ss_get l i hlt')
      have hin := HF.out.2 l[i] (List.getElem_mem hlt')
      rw [List.getElem?_eq_getElem hlt', Option.getD_some] at hcell
      have hsn := cat_snoc (l.take i) l[i]
      rw [← List.take_succ_eq_append_getElem hlt'] at hsn
      have HSN := Lib.hid hsn
      have hMB := cat_all (l.take i)
      have hML := cat_len 400 (l.take i) (fun s hs => HF.out.2 s (List.mem_of_mem_take hs))
      have hMk : (l.take i).length ≤ 12 := by rw [List.length_take]; have := HF.out.1; omega
      generalize cat (l.take i) = M at e9 HSN hMB hML
      generalize l[i] = S at hcell hin HSN
      have FA : Hid (∀ W, Below w.heap.size w W → Calls Tryd.prog 18 #[.agg (stm M).toArray, .string S] W fun e w' => e = .returned (.agg (stm (M ++ sb S)).toArray) ∧ Below W.heap.size W w') := Lib.hid fun W hW => add_any M hMB S W (HK.out W hW) (by omega)
      have hm1 := stm_len (M ++ sb S)
      have hm2 : ∀ v ∈ stm (M ++ sb S), v.oneCell' = true := sC_cell _ _ _
      have hm3 := stm_len M
      have hi3 := info_stm M
      have hkm : (i : Int) < (m : Int) := by omega
      have hkk : (i : Int) < (k : Int) := by omega
      have hk0 : (0 : Int) ≤ (i : Int) := by omega
      clear hc hsn hMB hML hMk
      generalize hV : stm (M ++ sb S) = V at *
      have HVV := Lib.hid hV
      clear hV
      generalize stm M = U at *
      go_wp2_with fail
      have hbd : Below w.heap.size w wr.drew := below_drew hb
      have e9d : Arr wr.drew G 73 34 U := e9
      have hlen : U.length = 73 := hm3
      clear e9 hb
      refine wp_region_any (w := wr) (by kernel_rfl) (show wpAny _ _ _ _ _ _ _ wr.drew from ?_)
      refine wpAny_take (i := 1) (v := .slice (some ⟨b, o, none⟩) m cap) rfl (by kernel_rfl) (by kernel_rfl) (by kernel_rfl) (fun _ _ _ h => h) (Or.inl ⟨by rfl, fun w => by rfl⟩) ?_
      simp only [Act.put, List.setIfInBounds_toArray, List.set_cons_succ, List.set_cons_zero]
      refine wpAny_take (i := 2) (v := .int .i64 (i : Int)) rfl (by kernel_rfl) (by kernel_rfl) (by kernel_rfl) (fun _ _ _ h => h) (Or.inl ⟨by rfl, fun w => by rfl⟩) ?_
      simp only [Act.put, List.setIfInBounds_toArray, List.set_cons_succ, List.set_cons_zero]
      refine wpAny_ready (rs := [0, 3]) (by kernel_rfl) (by simp) ?_
      refine AllReady.cons rfl (fun K hK => ?_) (AllReady.cons rfl (fun K hK => ?_) AllReady.nil)
      · rw [if_pos (by rfl)]
        refine wp_load_mid _ _ rfl G 0 rfl U _ e9d.range Tryd.underlying34 rfl hi3 ?_
        refine hK _ _ ?_
        clear hK
        clear K
        simp only [Act.put, List.setIfInBounds_toArray, List.set_cons_succ, List.set_cons_zero]
        refine wpAny_ready (rs := [3]) (by kernel_rfl) (by simp) ?_
        refine AllReady.cons rfl (fun K hK => ?_) AllReady.nil
        replace hK := Shut.mk hK
        go_simp
        refine hK.out _ _ ?_
        clear hK
        clear K
        refine wpAny_ready (rs := [4]) (by kernel_rfl) (by simp) ?_
        refine AllReady.cons rfl (fun K hK => ?_) AllReady.nil
        replace hK := Shut.mk hK
        go_simp
        refine hK.out _ _ ?_
        clear hK
        clear K
        refine wpAny_ready (rs := [5]) (by kernel_rfl) (by simp) ?_
        refine AllReady.cons rfl (fun K hK => ?_) AllReady.nil
        replace hK := Shut.mk hK
        go_simp
        go_at_call 18
        refine (FA.out _ hbd).mono ?_
        rintro e w4 ⟨rfl, hb4⟩
        clear FA
        have hb4d : Below w.heap.size w w4 := later hbd hb4
        have e94 : Arr w4 G 73 34 U := e9d.later hb4
        have hs := st_run (P := Tryd.prog) e94 V (by omega) hm2
        refine hK.out _ _ ?_
        clear hK
        clear K hbd
        refine wpAny_ready (rs := [6]) (by kernel_rfl) (by simp) ?_
        refine AllReady.cons rfl (fun K hK => ?_) AllReady.nil
        replace hK := Shut.mk hK
        go_simp
        refine hK.out _ _ ?_
        clear hK
        clear K hs
        refine wpAny_done (by kernel_rfl) ?_ _
        have e95 : Arr (w4.setCells G 0 V) G 73 34 V := by
          have h := e94.setCells (o := 0) V
          rwa [setAll_all _ _ (by rw [hm1, hlen])] at h
        have hb5 : Below w.heap.size w (w4.setCells G 0 V) := below_setCells _ _ _ hb4d hG9
        clear e94 hb4d
        go_wp2_with fail
        go_roundw
        case rel => exact ⟨i + 1, hlt, by go_num, by rw [HSN.out, HVV.out]; exact e95, hb5⟩
        case measure => simp only [intOf]; omega
      · replace hK := Shut.mk hK
        go_simp
        refine hK.out _ _ ?_
        clear hK
        clear K
        refine wpAny_ready (rs := [0, 4]) (by kernel_rfl) (by simp) ?_
        refine AllReady.cons rfl (fun K hK => ?_) (AllReady.cons rfl (fun K hK => ?_) AllReady.nil)
        · rw [if_pos (by rfl)]
          refine wp_load_mid _ _ rfl G 0 rfl U _ e9d.range Tryd.underlying34 rfl hi3 ?_
          refine hK _ _ ?_
          clear hK
          clear K
          simp only [Act.put, List.setIfInBounds_toArray, List.set_cons_succ, List.set_cons_zero]
          refine wpAny_ready (rs := [4]) (by kernel_rfl) (by simp) ?_
          refine AllReady.cons rfl (fun K hK => ?_) AllReady.nil
          replace hK := Shut.mk hK
          go_simp
          refine hK.out _ _ ?_
          clear hK
          clear K
          refine wpAny_ready (rs := [5]) (by kernel_rfl) (by simp) ?_
          refine AllReady.cons rfl (fun K hK => ?_) AllReady.nil
          replace hK := Shut.mk hK
          go_simp
          go_at_call 18
          refine (FA.out _ hbd).mono ?_
          rintro e w4 ⟨rfl, hb4⟩
          clear FA
          have hb4d : Below w.heap.size w w4 := later hbd hb4
          have e94 : Arr w4 G 73 34 U := e9d.later hb4
          have hs := st_run (P := Tryd.prog) e94 V (by omega) hm2
          refine hK.out _ _ ?_
          clear hK
          clear K hbd
          refine wpAny_ready (rs := [6]) (by kernel_rfl) (by simp) ?_
          refine AllReady.cons rfl (fun K hK => ?_) AllReady.nil
          replace hK := Shut.mk hK
          go_simp
          refine hK.out _ _ ?_
          clear hK
          clear K hs
          refine wpAny_done (by kernel_rfl) ?_ _
          have e95 : Arr (w4.setCells G 0 V) G 73 34 V := by
            have h := e94.setCells (o := 0) V
            rwa [setAll_all _ _ (by rw [hm1, hlen])] at h
          have hb5 : Below w.heap.size w (w4.setCells G 0 V) := below_setCells _ _ _ hb4d hG9
          clear e94 hb4d
          go_wp2_with fail
          go_roundw
          case rel => exact ⟨i + 1, hlt, by go_num, by rw [HSN.out, HVV.out]; exact e95, hb5⟩
          case measure => simp only [intOf]; omega
        · replace hK := Shut.mk hK
          go_simp
          refine hK.out _ _ ?_
          clear hK
          clear K
          refine wpAny_ready (rs := [0]) (by kernel_rfl) (by simp) ?_
          refine AllReady.cons rfl (fun K hK => ?_) AllReady.nil
          rw [if_pos (by rfl)]
          refine wp_load_mid _ _ rfl G 0 rfl U _ e9d.range Tryd.underlying34 rfl hi3 ?_
          refine hK _ _ ?_
          clear hK
          clear K
          simp only [Act.put, List.setIfInBounds_toArray, List.set_cons_succ, List.set_cons_zero]
          refine wpAny_ready (rs := [5]) (by kernel_rfl) (by simp) ?_
          refine AllReady.cons rfl (fun K hK => ?_) AllReady.nil
          replace hK := Shut.mk hK
          go_simp
          go_at_call 18
          refine (FA.out _ hbd).mono ?_
          rintro e w4 ⟨rfl, hb4⟩
          clear FA
          have hb4d : Below w.heap.size w w4 := later hbd hb4
          have e94 : Arr w4 G 73 34 U := e9d.later hb4
          have hs := st_run (P := Tryd.prog) e94 V (by omega) hm2
          refine hK.out _ _ ?_
          clear hK
          clear K hbd
          refine wpAny_ready (rs := [6]) (by kernel_rfl) (by simp) ?_
          refine AllReady.cons rfl (fun K hK => ?_) AllReady.nil
          replace hK := Shut.mk hK
          go_simp
          refine hK.out _ _ ?_
          clear hK
          clear K hs
          refine wpAny_done (by kernel_rfl) ?_ _
          have e95 : Arr (w4.setCells G 0 V) G 73 34 V := by
            have h := e94.setCells (o := 0) V
            rwa [setAll_all _ _ (by rw [hm1, hlen])] at h
          have hb5 : Below w.heap.size w (w4.setCells G 0 V) := below_setCells _ _ _ hb4d hG9
          clear e94 hb4d
          go_wp2_with fail
          go_roundw
          case rel => exact ⟨i + 1, hlt, by go_num, by rw [HSN.out, HVV.out]; exact e95, hb5⟩
          case measure => simp only [intOf]; omega
    · have hik : i = k := by omega
      subst hik
      clear e0 hb0 hlt hi
      have hkk : ((i : Int) < (i : Int)) = False := by simp
      have X73 : Hid (X.length = 73) := Lib.hid (by rw [← HX.out]; exact stm_len _)
      have XI : Hid ((Tryd.prog.info? 34).map (·.size) = some X.length) := Lib.hid (by rw [← HX.out]; exact info_stm _)
      have XC : Hid (∀ v ∈ X, v.oneCell' = true) := Lib.hid (by rw [← HX.out]; exact sC_cell _ _ _)
      rw [HX.out] at e9
      go_upto_region 11 with (first
        | (refine wpList_load_mid rfl _ (.tmp 9) rfl G 0 rfl X _ e9.range Tryd.underlying34 rfl XI.out ?_)
        | (with_reducible refine wpList_store_new rfl _ (.tmp 11) (.tmp 44) rfl rfl rfl info_stream X73.out rfl (all_oneCell_toArray XC.out) ?_; intro w5 hbel5 hrow5 hsz5))
      have q11 : Arr w5 wr.heap.size 73 34 X := Arr.of_row hrow5 X73.out (by decide)
      have q9 := e9.later hbel5
      have hb5 := later hb hbel5
      have hne : wr.heap.size ≠ G := by have := e9.lt; omega
      have hG2 : w.heap.size ≤ wr.heap.size := hb.size
      clear e9 hb hbel5 hrow5
      generalize wr.heap.size = G2 at q11 hsz5 hne hG2 ⊢
      clear hsz5
      go_wp2_with fail
      go_loopw [12] (fun j W => ∃ q : Nat, i ≤ q ∧ q ≤ m ∧ j = .int .i64 (q : Int) ∧ Arr W G 73 34 (stm (cat (l.take q))) ∧ Arr W G2 73 34 X ∧ Below w.heap.size w W) (fun j _ => m - (intOf j).toNat)
      case atStart => exact ⟨i, Nat.le_refl _, hkm0, rfl, by rw [HX.out]; exact q9, q11, hb5⟩
      case round =>
        clear q9 q11 hb5
        obtain ⟨q, hlo, hi, rfl, e9, q11, hb⟩ := hrel
        by_cases hlt : q < m
        · have hlt' : q < l.length := by have := HM.out; omega
          obtain ⟨b, o, rfl, _, hc⟩ := (HR.out.below hb).at_ (by intro h; have := congrArg List.length h; simp [ss] at this; subst this; simp at hlt')
          have hcell := hc q _ (ss_get l q hlt')
          have hin := HF.out.2 l[q] (List.getElem_mem hlt')
          rw [List.getElem?_eq_getElem hlt', Option.getD_some] at hcell
          have hsn := cat_snoc (l.take q) l[q]
          rw [← List.take_succ_eq_append_getElem hlt'] at hsn
          have HSN := Lib.hid hsn
          have hMB := cat_all (l.take q)
          have hML := cat_len 400 (l.take q) (fun s hs => HF.out.2 s (List.mem_of_mem_take hs))
          have hMk : (l.take q).length ≤ 12 := by rw [List.length_take]; have := HF.out.1; omega
          generalize cat (l.take q) = M at e9 HSN hMB hML
          generalize l[q] = S at hcell hin HSN
          have FA : Hid (∀ W, Below w.heap.size w W → Calls Tryd.prog 18 #[.agg (stm M).toArray, .string S] W fun e w' => e = .returned (.agg (stm (M ++ sb S)).toArray) ∧ Below W.heap.size W w') := Lib.hid fun W hW => add_any M hMB S W (HK.out W hW) (by omega)
          have hm1 := stm_len (M ++ sb S)
          have hm2 : ∀ v ∈ stm (M ++ sb S), v.oneCell' = true := sC_cell _ _ _
          have hm3 := stm_len M
          have hi3 := info_stm M
          have hkm : (q : Int) < (m : Int) := by omega
          have hk0 : (0 : Int) ≤ (q : Int) := by omega
          clear hc hsn hMB hML hMk
          generalize hV : stm (M ++ sb S) = V at *
          have HVV := Lib.hid hV
          clear hV
          generalize stm M = U at *
          go_wp2_with fail
          have hbd : Below w.heap.size w wr.drew := below_drew hb
          have e9d : Arr wr.drew G 73 34 U := e9
          have hlen : U.length = 73 := hm3
          clear e9 hb
          refine wp_region_any (w := wr) (by kernel_rfl) (show wpAny _ _ _ _ _ _ _ wr.drew from ?_)
          refine wpAny_take (i := 1) (v := .slice (some ⟨b, o, none⟩) m cap) rfl (by kernel_rfl) (by kernel_rfl) (by kernel_rfl) (fun _ _ _ h => h) (Or.inl ⟨by rfl, fun w => by rfl⟩) ?_
          simp only [Act.put, List.setIfInBounds_toArray, List.set_cons_succ, List.set_cons_zero]
          refine wpAny_take (i := 2) (v := .int .i64 (q : Int)) rfl (by kernel_rfl) (by kernel_rfl) (by kernel_rfl) (fun _ _ _ h => h) (Or.inl ⟨by rfl, fun w => by rfl⟩) ?_
          simp only [Act.put, List.setIfInBounds_toArray, List.set_cons_succ, List.set_cons_zero]
          refine wpAny_ready (rs := [0, 3]) (by kernel_rfl) (by simp) ?_
          refine AllReady.cons rfl (fun K hK => ?_) (AllReady.cons rfl (fun K hK => ?_) AllReady.nil)
          · rw [if_pos (by rfl)]
            refine wp_load_mid _ _ rfl G 0 rfl U _ e9d.range Tryd.underlying34 rfl hi3 ?_
            refine hK _ _ ?_
            clear hK
            clear K
            simp only [Act.put, List.setIfInBounds_toArray, List.set_cons_succ, List.set_cons_zero]
            refine wpAny_ready (rs := [3]) (by kernel_rfl) (by simp) ?_
            refine AllReady.cons rfl (fun K hK => ?_) AllReady.nil
            replace hK := Shut.mk hK
            go_simp
            refine hK.out _ _ ?_
            clear hK
            clear K
            refine wpAny_ready (rs := [4]) (by kernel_rfl) (by simp) ?_
            refine AllReady.cons rfl (fun K hK => ?_) AllReady.nil
            replace hK := Shut.mk hK
            go_simp
            refine hK.out _ _ ?_
            clear hK
            clear K
            refine wpAny_ready (rs := [5]) (by kernel_rfl) (by simp) ?_
            refine AllReady.cons rfl (fun K hK => ?_) AllReady.nil
            replace hK := Shut.mk hK
            go_simp
            go_at_call 18
            refine (FA.out _ hbd).mono ?_
            rintro e w4 ⟨rfl, hb4⟩
            clear FA
            have hb4d : Below w.heap.size w w4 := later hbd hb4
            have e94 : Arr w4 G 73 34 U := e9d.later hb4
            have hs := st_run (P := Tryd.prog) e94 V (by omega) hm2
            refine hK.out _ _ ?_
            clear hK
            clear K hbd
            refine wpAny_ready (rs := [6]) (by kernel_rfl) (by simp) ?_
            refine AllReady.cons rfl (fun K hK => ?_) AllReady.nil
            replace hK := Shut.mk hK
            go_simp
            refine hK.out _ _ ?_
            clear hK
            clear K hs
            refine wpAny_done (by kernel_rfl) ?_ _
            have e95 : Arr (w4.setCells G 0 V) G 73 34 V := by
              have h := e94.setCells (o := 0) V
              rwa [setAll_all _ _ (by rw [hm1, hlen])] at h
            have hb5 : Below w.heap.size w (w4.setCells G 0 V) := below_setCells _ _ _ hb4d hG9
            have e11 : Arr (w4.setCells G 0 V) G2 73 34 X := ((show Arr wr.drew _ _ _ _ from q11).later hb4).only (Only.setCells G 0 _ w4) hne
            clear e94 hb4d
            go_wp2_with fail
            go_roundw
            case rel => exact ⟨q + 1, by omega, hlt, by go_num, by rw [HSN.out, HVV.out]; exact e95, e11, hb5⟩
            case measure => simp only [intOf]; omega
          · replace hK := Shut.mk hK
            go_simp
            refine hK.out _ _ ?_
            clear hK
            clear K
            refine wpAny_ready (rs := [0, 4]) (by kernel_rfl) (by simp) ?_
            refine AllReady.cons rfl (fun K hK => ?_) (AllReady.cons rfl (fun K hK => ?_) AllReady.nil)
            · rw [if_pos (by rfl)]
              refine wp_load_mid _ _ rfl G 0 rfl U _ e9d.range Tryd.underlying34 rfl hi3 ?_
              refine hK _ _ ?_
              clear hK
              clear K
              simp only [Act.put, List.setIfInBounds_toArray, List.set_cons_succ, List.set_cons_zero]
              refine wpAny_ready (rs := [4]) (by kernel_rfl) (by simp) ?_
              refine AllReady.cons rfl (fun K hK => ?_) AllReady.nil
              replace hK := Shut.mk hK
              go_simp
              refine hK.out _ _ ?_
              clear hK
              clear K
              refine wpAny_ready (rs := [5]) (by kernel_rfl) (by simp) ?_
              refine AllReady.cons rfl (fun K hK => ?_) AllReady.nil
              replace hK := Shut.mk hK
              go_simp
              go_at_call 18
              refine (FA.out _ hbd).mono ?_
              rintro e w4 ⟨rfl, hb4⟩
              clear FA
              have hb4d : Below w.heap.size w w4 := later hbd hb4
              have e94 : Arr w4 G 73 34 U := e9d.later hb4
              have hs := st_run (P := Tryd.prog) e94 V (by omega) hm2
              refine hK.out _ _ ?_
              clear hK
              clear K hbd
              refine wpAny_ready (rs := [6]) (by kernel_rfl) (by simp) ?_
              refine AllReady.cons rfl (fun K hK => ?_) AllReady.nil
              replace hK := Shut.mk hK
              go_simp
              refine hK.out _ _ ?_
              clear hK
              clear K hs
              refine wpAny_done (by kernel_rfl) ?_ _
              have e95 : Arr (w4.setCells G 0 V) G 73 34 V := by
                have h := e94.setCells (o := 0) V
                rwa [setAll_all _ _ (by rw [hm1, hlen])] at h
              have hb5 : Below w.heap.size w (w4.setCells G 0 V) := below_setCells _ _ _ hb4d hG9
              have e11 : Arr (w4.setCells G 0 V) G2 73 34 X := ((show Arr wr.drew _ _ _ _ from q11).later hb4).only (Only.setCells G 0 _ w4) hne
              clear e94 hb4d
              go_wp2_with fail
              go_roundw
              case rel => exact ⟨q + 1, by omega, hlt, by go_num, by rw [HSN.out, HVV.out]; exact e95, e11, hb5⟩
              case measure => simp only [intOf]; omega
            · replace hK := Shut.mk hK
              go_simp
              refine hK.out _ _ ?_
              clear hK
              clear K
              refine wpAny_ready (rs := [0]) (by kernel_rfl) (by simp) ?_
              refine AllReady.cons rfl (fun K hK => ?_) AllReady.nil
              rw [if_pos (by rfl)]
              refine wp_load_mid _ _ rfl G 0 rfl U _ e9d.range Tryd.underlying34 rfl hi3 ?_
              refine hK _ _ ?_
              clear hK
              clear K
              simp only [Act.put, List.setIfInBounds_toArray, List.set_cons_succ, List.set_cons_zero]
              refine wpAny_ready (rs := [5]) (by kernel_rfl) (by simp) ?_
              refine AllReady.cons rfl (fun K hK => ?_) AllReady.nil
              replace hK := Shut.mk hK
              go_simp
              go_at_call 18
              refine (FA.out _ hbd).mono ?_
              rintro e w4 ⟨rfl, hb4⟩
              clear FA
              have hb4d : Below w.heap.size w w4 := later hbd hb4
              have e94 : Arr w4 G 73 34 U := e9d.later hb4
              have hs := st_run (P := Tryd.prog) e94 V (by omega) hm2
              refine hK.out _ _ ?_
              clear hK
              clear K hbd
              refine wpAny_ready (rs := [6]) (by kernel_rfl) (by simp) ?_
              refine AllReady.cons rfl (fun K hK => ?_) AllReady.nil
              replace hK := Shut.mk hK
              go_simp
              refine hK.out _ _ ?_
              clear hK
              clear K hs
              refine wpAny_done (by kernel_rfl) ?_ _
              have e95 : Arr (w4.setCells G 0 V) G 73 34 V := by
                have h := e94.setCells (o := 0) V
                rwa [setAll_all _ _ (by rw [hm1, hlen])] at h
              have hb5 : Below w.heap.size w (w4.setCells G 0 V) := below_setCells _ _ _ hb4d hG9
              have e11 : Arr (w4.setCells G 0 V) G2 73 34 X := ((show Arr wr.drew _ _ _ _ from q11).later hb4).only (Only.setCells G 0 _ w4) hne
              clear e94 hb4d
              go_wp2_with fail
              go_roundw
              case rel => exact ⟨q + 1, by omega, hlt, by go_num, by rw [HSN.out, HVV.out]; exact e95, e11, hb5⟩
              case measure => simp only [intOf]; omega
        · have hqm : q = m := by omega
          subst hqm
          have hlen : l.take q = l := List.take_of_length_le (by have := HM.out; omega)
          rw [hlen, HU1.out] at e9
          have HQ1 := eq_sum Z1 z1l.out
          have HQ2 := eq_sum Z2 z2l.out
          have HQ3 := eq_sum Z3 z3l.out
          have U73 : Hid (U1.length = 73) := Lib.hid (by rw [← HU1.out]; exact stm_len _)
          have UI : Hid ((Tryd.prog.info? 34).map (·.size) = some U1.length) := Lib.hid (by rw [← HU1.out]; exact info_stm _)
          have X3I : Hid ((Tryd.prog.info? 34).map (·.size) = some X3.length) := Lib.hid (by rw [X3L.out]; exact info_stream)
          have hcv1 := fun (W : World) => Lib.run_convert_string_bytes (P := Tryd.prog) W 9 22 5 J1 Tryd.underlying9 Tryd.underlying22 Tryd.underlying5
          have hcv2 := fun (W : World) => Lib.run_convert_string_bytes (P := Tryd.prog) W 9 22 5 J2 Tryd.underlying9 Tryd.underlying22 Tryd.underlying5
          have hcv3 := fun (W : World) => Lib.run_convert_string_bytes (P := Tryd.prog) W 9 22 5 J3 Tryd.underlying9 Tryd.underlying22 Tryd.underlying5
          have hqq : ((q : Int) < (q : Int)) = False := by simp
          have R9 := e9
          have R11 := q11
          have UU := hb
          have hiq : (i : Int) ≤ (q : Int) := by omega
          have hi0 : (0 : Int) ≤ (i : Int) := by omega
          have hicap : i ≤ cap := by omega
          have hicapI : (i : Int) ≤ (cap : Int) := by omega
          have hadd : Option.map (fun x => Addr.add x 0) A = A := by cases A <;> simp [Addr.add]
          clear hlen e9 q11 hb HKD hlo hi hlt
          go_wp2_with (first
          | (refine wpList_eqlSum (.tmp 70) (.tmp 73) _ rfl (by rfl) (bs Z1).toArray (bs Z1).toArray (by rfl) (by rfl) true HQ1.out ?_)
          | (refine wpList_eqlSum (.tmp 78) (.tmp 81) _ rfl (by rfl) (bs Z2).toArray (bs Z2).toArray (by rfl) (by rfl) true HQ2.out ?_)
          | (refine wpList_eqlSum (.tmp 86) (.tmp 91) _ rfl (by rfl) (bs Z3).toArray (bs Z3).toArray (by rfl) (by rfl) true HQ3.out ?_)
          | (refine wpList_eqlSum (.tmp 96) (.tmp 99) _ rfl (by rfl) (bs Z1).toArray (bs Z1).toArray (by rfl) (by rfl) true HQ1.out ?_)
          | (refine wpList_load_mid rfl _ (.tmp 11) rfl G2 0 rfl X _ R11.range Tryd.underlying34 rfl XI.out ?_)
          | (go_at_call 18; with_reducible refine (EA.out _ UU).mono ?_; rintro e w6 ⟨rfl, hb6⟩; replace UU := later UU hb6; replace R9 := R9.later hb6; replace R11 := R11.later hb6; clear hb6)
          | (with_reducible refine wpList_store_new rfl _ (.tmp 13) (.tmp 60) rfl rfl rfl info_stream X3L.out rfl (all_oneCell_toArray X3C.out) ?_; intro w7 hbel7 hrow7 hsz7; have R13 : Arr w7 w6.heap.size 73 34 X3 := Arr.of_row hrow7 X3L.out (by decide); replace UU := later UU hbel7; replace R9 := R9.later hbel7; replace R11 := R11.later hbel7; clear hbel7; clear hrow7)
          | (go_at_call 19; with_reducible refine (EJ1.out _ UU).mono ?_; rintro e w8 ⟨rfl, rfl⟩; clear EJ1)
          | (go_at_call 19; with_reducible refine (EJ2.out _ UU).mono ?_; rintro e w9 ⟨rfl, rfl⟩; clear EJ2)
          | (refine wpList_load_guarded _ (.tmp 9) rfl rfl G 0 rfl U1 _ R9.range Tryd.underlying34 rfl UI.out ?_)
          | (refine wpList_load_guarded _ (.tmp 11) rfl rfl G2 0 rfl X _ R11.range Tryd.underlying34 rfl XI.out ?_)
          | (refine wpList_load_guarded _ (.tmp 13) rfl rfl w6.heap.size 0 rfl X3 _ R13.range Tryd.underlying34 rfl X3I.out ?_)
          | (go_at_call 20; with_reducible refine (ES1.out _ UU).mono ?_; rintro e w10 ⟨rfl, hb10⟩; replace UU := later UU hb10; replace R9 := R9.later hb10; replace R11 := R11.later hb10; replace R13 := R13.later hb10; clear hb10)
          | (go_at_call 15; with_reducible refine (ER1.out _ _ UU).mono ?_; rintro e w11 ⟨rfl, hb11⟩; have bb11 := later (below_bytes _ _ J1) hb11; clear hb11; replace UU := later UU bb11; replace R9 := R9.later bb11; replace R11 := R11.later bb11; replace R13 := R13.later bb11; clear bb11)
          | (go_at_call 20; with_reducible refine (ES2.out _ UU).mono ?_; rintro e w12 ⟨rfl, hb12⟩; replace UU := later UU hb12; replace R9 := R9.later hb12; replace R11 := R11.later hb12; replace R13 := R13.later hb12; clear hb12)
          | (go_at_call 15; with_reducible refine (ER2.out _ _ UU).mono ?_; rintro e w13 ⟨rfl, hb13⟩; have bb13 := later (below_bytes _ _ J2) hb13; clear hb13; replace UU := later UU bb13; replace R9 := R9.later bb13; replace R11 := R11.later bb13; replace R13 := R13.later bb13; clear bb13)
          | (go_at_call 20; with_reducible refine (ES3.out _ UU).mono ?_; rintro e w14 ⟨rfl, hb14⟩; replace UU := later UU hb14; replace R9 := R9.later hb14; replace R11 := R11.later hb14; replace R13 := R13.later hb14; clear hb14)
          | (go_at_call 15; with_reducible refine (ER3.out _ _ UU).mono ?_; rintro e w15 ⟨rfl, hb15⟩; have bb15 := later (below_bytes _ _ J3) hb15; clear hb15; replace UU := later UU bb15; replace R9 := R9.later bb15; replace R11 := R11.later bb15; replace R13 := R13.later bb15; clear bb15)
          | (go_at_call 14; with_reducible refine (EH.out _ _ UU).mono ?_; rintro e w16 ⟨rfl, hb16⟩; have bb16 := later (below_bytes _ _ J1) hb16; clear hb16; replace UU := later UU bb16; replace R9 := R9.later bb16; replace R11 := R11.later bb16; replace R13 := R13.later bb16; clear bb16))
          go_ret
          exact ⟨rfl, UU⟩
set_option maxHeartbeats 2000000 in
set_option maxRecDepth 100000 in
theorem hst_many (A : Option Addr) (m cap : Nat) (other : ByteArray) (at_ : Nat) (w : World) (SA : Hid (Calls Tryd.prog 13 #[] w fun e w' => e = .returned (.bool true) ∧ Below w.heap.size w w'))
    (EF : Hid (∀ W, Below w.heap.size w W → Calls Tryd.prog 16 #[.slice A m cap] W fun e w' => e = .returned (.bool false) ∧ w' = W)) :
    Calls Tryd.prog 4 #[.slice A m cap, .string other, .int .u8 (at_ : Int)] w (LawRes w) := by
  go_enter Tryd.func4, Tryd.ntmps4
  go_wp2_with (first
    | (go_at_call 13; with_reducible refine SA.out.mono ?_; rintro e w1 ⟨rfl, hb1⟩; have U1 := hb1; clear hb1 SA)
    | (go_at_call 16; with_reducible refine (EF.out _ U1).mono ?_; rintro e w2 ⟨rfl, rfl⟩; clear EF))
  go_ret
  exact ⟨rfl, U1⟩
set_option maxHeartbeats 2000000 in
set_option maxRecDepth 100000 in
theorem hst_long (A : Option Addr) (m cap : Nat) (other : ByteArray) (at_ : Nat) (w : World) (SA : Hid (Calls Tryd.prog 13 #[] w fun e w' => e = .returned (.bool true) ∧ Below w.heap.size w w')) (ho : (400 : Int) < (other.size : Int))
    (EF : Hid (∀ W, Below w.heap.size w W → Calls Tryd.prog 16 #[.slice A m cap] W fun e w' => e = .returned (.bool true) ∧ w' = W)) :
    Calls Tryd.prog 4 #[.slice A m cap, .string other, .int .u8 (at_ : Int)] w (LawRes w) := by
  go_enter Tryd.func4, Tryd.ntmps4
  go_wp2_with (first
    | (go_at_call 13; with_reducible refine SA.out.mono ?_; rintro e w1 ⟨rfl, hb1⟩; have U1 := hb1; clear hb1 SA)
    | (go_at_call 16; with_reducible refine (EF.out _ U1).mono ?_; rintro e w2 ⟨rfl, rfl⟩; clear EF))
  go_ret
  exact ⟨rfl, U1⟩
theorem rsum_str (w : World) (J : ByteArray) (M Z : List Nat) (hJ : sb J = M) (hZ : sha M = Z) (hs : J.size ≤ 1000000) (hkr : Kr w) : Hid (∀ W c, Below w.heap.size w W → Calls Tryd.prog 15 #[.slice (some ⟨W.heap.size, 0, none⟩) J.size c] (Lib.bytesWorld W 5 J) fun e w' => e = .returned (.agg (bs Z).toArray) ∧ Below (Lib.bytesWorld W 5 J).heap.size (Lib.bytesWorld W 5 J) w') := by
  refine Lib.hid fun W c hW => ?_
  have hr2 := rd_bytes W 5 J
  have hk2 := (hkr.later hW).later (below_bytes W 5 J)
  generalize Lib.bytesWorld W 5 J = W2 at hr2 hk2 ⊢
  rw [← hZ, ← hJ]
  exact rsum_any _ J.size c (sb J) W2 (sb_len J).symm hr2 (sb_lt J) (by rw [sb_len]; exact hs) hk2
theorem sum_str (w : World) (J : ByteArray) (M Z : List Nat) (hJ : sb J = M) (hZ : sha M = Z) (hs : J.size ≤ 1000000) (hk : Kc w) : Hid (∀ W c, Below w.heap.size w W → Calls Tryd.prog 14 #[.slice (some ⟨W.heap.size, 0, none⟩) J.size c] (Lib.bytesWorld W 5 J) fun e w' => e = .returned (.agg (bs Z).toArray) ∧ Below (Lib.bytesWorld W 5 J).heap.size (Lib.bytesWorld W 5 J) w') := by
  refine Lib.hid fun W c hW => ?_
  have hr2 := rd_bytes W 5 J
  have hk2 := (hk.later hW).later (below_bytes W 5 J)
  generalize Lib.bytesWorld W 5 J = W2 at hr2 hk2 ⊢
  rw [← hZ, ← hJ]
  exact sum_any _ J.size c (sb J) W2 (sb_len J).symm hr2 (sb_lt J) hk2 (by rw [sb_len]; omega)
theorem HashStreamsAgree_any (A : Option Addr) (m cap : Nat) (l : List ByteArray) (other : ByteArray) (at_ : Nat) (w : World) (hat : at_ < 256) (hm : m = l.length) (hmc : m ≤ cap) (hr : Rd w w.heap.size A (ss l)) (hk : Kc w) (hkr : Kr w) :
    Calls Tryd.prog 4 #[.slice A m cap, .string other, .int .u8 (at_ : Int)] w (LawRes w) := by
  have SA := Lib.hid (sanity_any w hk)
  have EF := few_call A m cap l w hm hr
  by_cases hf : fewS l
  · rw [decide_eq_true hf] at EF
    by_cases ho : (400 : Int) < (other.size : Int)
    · exact hst_long A m cap other at_ w SA ho EF
    · have h12 : m ≤ 12 := by have := hf.1; omega
      obtain ⟨k, hkd⟩ : ∃ k, k = at_ % (m + 1) := ⟨_, rfl⟩
      have hkm : k ≤ m := by have := Nat.mod_lt at_ (show 0 < m + 1 by omega); omega
      have hin1 : ∀ s ∈ l, s.size ≤ 1000 := fun s hs => Nat.le_trans (hf.2 s hs) (by decide)
      have hin2 : ∀ s ∈ l.take k, s.size ≤ 1000 := fun s hs => hin1 s (List.mem_of_mem_take hs)
      have c1 := cat_len 400 l hf.2
      have c2 := cat_len 400 (l.take k) (fun s hs => hf.2 s (List.mem_of_mem_take hs))
      have l2 : (l.take k).length ≤ 12 := by rw [List.length_take]; have := hf.1; omega
      have l1 := hf.1
      have sj1 : sb (joinB l) = cat l := sb_join l
      have sj2 : sb (joinB (l.take k)) = cat (l.take k) := sb_join _
      obtain ⟨J1, hJ1⟩ : ∃ J, joinB l = J := ⟨_, rfl⟩
      obtain ⟨J2, hJ2⟩ : ∃ J, joinB (l.take k) = J := ⟨_, rfl⟩
      obtain ⟨J3, hJ3⟩ : ∃ J, J2 ++ other = J := ⟨_, rfl⟩
      rw [hJ1] at sj1
      rw [hJ2] at sj2
      have sj3 : sb J3 = cat (l.take k) ++ sb other := by rw [← hJ3, sb_app, sj2]
      have z1 : J1.size ≤ 10000 := by rw [← sb_len, sj1]; omega
      have z2 : J2.size ≤ 10000 := by rw [← sb_len, sj2]; omega
      have z3 : J3.size ≤ 20000 := by rw [← hJ3, size_app]; omega
      obtain ⟨M1, hM1⟩ : ∃ M, cat l = M := ⟨_, rfl⟩
      obtain ⟨M2, hM2⟩ : ∃ M, cat (l.take k) = M := ⟨_, rfl⟩
      have b1 : AllB M1 := by rw [← hM1]; exact cat_all l
      have b2 : AllB M2 := by rw [← hM2]; exact cat_all _
      have q1 : M1.length ≤ 10000 := by rw [← hM1]; omega
      have q2 : M2.length ≤ 10000 := by rw [← hM2]; omega
      rw [hM1] at sj1
      rw [hM2] at sj2 sj3
      refine hst_main A m cap l other at_ k w SA hat (Lib.hid hkd) hkm (Lib.hid hm) (Lib.hid hr) (Lib.hid hf) h12 ho (Lib.hid fun W hW => hk.later hW) EF
        J1 J2 J3 (sha M1) (sha M2) (sha (M2 ++ sb other)) (stm M1) (stm M2) (stm (M2 ++ sb other)) (Lib.hid (by rw [hM1])) (Lib.hid (by rw [hM2])) (Lib.hid (stm_len _)) (Lib.hid (sC_cell _ _ _))
        hmc hJ3 z2 (Lib.hid (sha_len _)) (Lib.hid (sha_len _)) (Lib.hid (sha_len _)) ?_ ?_ ?_ ?_ ?_ ?_ ?_ ?_ ?_ ?_
      · exact Lib.hid fun W hW => add_any M2 b2 other W (hk.later hW) (by omega)
      · exact Lib.hid fun W hW => by rw [← hJ1]; exact joined_any A m cap l W hm ((hr.below hW).more hW.size) hin1 (by omega)
      · refine Lib.hid fun W hW => ?_
        have hr3 : Rd W W.heap.size A (ss (l.take k)) := by
          have h := ((hr.below hW).more hW.size).take k
          rwa [show (ss l).take k = ss (l.take k) by simp [ss, List.map_take]] at h
        rw [← hJ2]
        exact joined_any A k cap (l.take k) W (by rw [List.length_take]; omega) hr3 hin2 (by omega)
      · exact Lib.hid fun W hW => ssum_any M1 b1 W (hk.later hW) (by omega)
      · exact Lib.hid fun W hW => ssum_any M2 b2 W (hk.later hW) (by omega)
      · exact Lib.hid fun W hW => ssum_any (M2 ++ sb other) (AllB.app b2 (sb_lt other)) W (hk.later hW) (by rw [List.length_append, sb_len]; omega)
      · exact rsum_str w J1 M1 _ sj1 rfl (by omega) hkr
      · exact rsum_str w J2 M2 _ sj2 rfl (by omega) hkr
      · exact rsum_str w J3 _ _ sj3 rfl (by omega) hkr
      · exact sum_str w J1 M1 _ sj1 rfl (by omega) hk
  · rw [decide_eq_false hf] at EF
    exact hst_many A m cap other at_ w SA EF
end Go.Proofs.YtoopilemlgamkaaDoor
