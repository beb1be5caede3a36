import Derived.Test.YtoopilemlgamkaaDoorH18
set_option linter.unusedVariables false
set_option linter.unusedSimpArgs false
namespace Go.Proofs.YtoopilemlgamkaaDoor
open Go.RowKit

/-- An array against an array, in a region. -/
theorem wp_eqlArr {P : Program} {o : Oper} {a : Act} {w : World} {K : Act → World → Prop} {Q : Exit → Act → World → Prop} {b : Bool} (ty : TypeId) (x y : Operand) (u : TypeId) (ho : o.op = .binOp .eql ty x y u)
    (X Y : Array Value) (hx : a.eval x = .agg X) (hy : a.eval y = .agg Y) (heg : P.eqGuardType P.depth ty = false) (hrun : (binOp .eql ty (.agg X) (.agg Y)).run P w = .ok (.bool b) w)
    (h : K (a.put o.dst (.bool b)) w) : Oper.wp P o a w K Q := by
  unfold Oper.wp execOp
  simp only [ho, hx, hy, Sem.run_bind, run_eqGuard_agg _ _ _ _ _ _ _ heg, hrun, Result.andThen_ok, Sem.run_pure]
  exact h
set_option maxHeartbeats 2000000 in
set_option maxRecDepth 100000 in
theorem hsm_long (A : Option Addr) (m cap : Nat) (w : World) (SA : Hid (Calls Tryd.prog 13 #[] w fun e w' => e = .returned (.bool true) ∧ Below w.heap.size w w')) (hc : (1000 : Int) < (m : Int)) :
    Calls Tryd.prog 3 #[.slice A m cap] w (LawRes w) := by
  go_enter Tryd.func3, Tryd.ntmps3
  go_wp2_with (go_at_call 13; with_reducible refine SA.out.mono ?_; rintro e w1 ⟨rfl, hb1⟩; have U1 := hb1; clear hb1 SA)
  go_ret
  exact ⟨rfl, U1⟩
set_option maxHeartbeats 2000000 in
set_option maxRecDepth 100000 in
theorem hsm_main (A : Option Addr) (m cap : Nat) (Z : List Nat) (S : ByteArray) (w : World) (SA : Hid (Calls Tryd.prog 13 #[] w fun e w' => e = .returned (.bool true) ∧ Below w.heap.size w w')) (hc : ¬ (1000 : Int) < (m : Int)) (hS : (S.toList == S.toList) = true) (HZL : Hid (Z.length = 32))
    (HC : Hid (∀ W, Below w.heap.size w W → (convert 22 9 (.slice A m cap)).run Tryd.prog W = .ok (.string S) W))
    (E1 : Hid (∀ W, Below w.heap.size w W → Calls Tryd.prog 14 #[.slice A m cap] W fun e w' => e = .returned (.agg (bs Z).toArray) ∧ Below W.heap.size W w'))
    (E2 : Hid (∀ W c, Below w.heap.size w W → Calls Tryd.prog 15 #[.slice (some ⟨W.heap.size, 0, none⟩) S.size c] (Lib.bytesWorld W 5 S) fun e w' => e = .returned (.agg (bs Z).toArray) ∧ Below (Lib.bytesWorld W 5 S).heap.size (Lib.bytesWorld W 5 S) w')) :
    Calls Tryd.prog 3 #[.slice A m cap] w (LawRes w) := by
  have HBL : Hid ((bs Z).length = 32) := by show (bs Z).length = 32; rw [bs_len, HZL.out]
  have HB1 : Hid (∀ v ∈ bs Z, v.oneCell' = true) := bs_cell Z
  have HI5 : Hid ((Tryd.prog.info? 24).map (·.size) = some (bs Z).length) := Lib.hid (by rw [HBL.out]; exact info_sum)
  have HQ : Hid (∀ W, (binOp .eql 24 (.agg (bs Z).toArray) (.agg (bs Z).toArray)).run Tryd.prog W = .ok (.bool true) W) := by
    refine Lib.hid fun W => ?_
    have h := run_eqSum W Z Z HZL.out HZL.out
    show ((Op.equalIn 10000 24 (.agg (bs Z).toArray) (.agg (bs Z).toArray)) >>= fun r => pure (Value.bool r)).run Tryd.prog W = _
    rw [Sem.run_bind, h]; simp
  generalize bs Z = BZ at *
  have hcvS := fun (W : World) => Lib.run_convert_string_bytes (P := Tryd.prog) W 9 22 5 S Tryd.underlying9 Tryd.underlying22 Tryd.underlying5
  go_enter Tryd.func3, Tryd.ntmps3
  go_upto_region 6 with (first
    | (go_at_call 13; with_reducible refine SA.out.mono ?_; rintro e w1 ⟨rfl, hb1⟩; have U1 := hb1; have hcv1 := HC.out w1 U1; clear hb1 SA)
    | (go_at_call 14; with_reducible refine (E1.out _ U1).mono ?_; rintro e w3 ⟨rfl, hb3⟩; have U3 := later U1 hb3; clear hb3 E1)
    | (with_reducible refine wpList_store_new rfl _ (.tmp 5) (.tmp 14) rfl rfl rfl info_sum HBL.out rfl (all_oneCell_toArray HB1.out) ?_; intro w5 hbel5 hrow5 hsz5))
  have A5 : Arr w5 w3.heap.size 32 24 BZ := Arr.of_row hrow5 HBL.out (by decide)
  have U5 := later U3 hbel5
  clear hcv1 U1 U3 hbel5 hrow5
  generalize w3.heap.size = G at A5 hsz5 ⊢
  have a0 : Arr w5.drew G 32 24 BZ := A5
  have aB := a0.later (below_bytes _ 5 S)
  refine wp_region_any (w := w5) (by kernel_rfl) (show wpAny _ _ _ _ _ _ _ w5.drew from ?_)
  refine wpAny_take (i := 0) (v := .bool true) rfl (by kernel_rfl) (by kernel_rfl) (by kernel_rfl) (fun _ _ _ h => h) (Or.inl ⟨by rfl, fun w => by rfl⟩) ?_
  simp only [Act.put, List.setIfInBounds_toArray, List.set_cons_succ, List.set_cons_zero]
  refine wpAny_take (i := 1) (v := .bool true) rfl (by kernel_rfl) (by kernel_rfl) (by kernel_rfl) (fun _ _ _ h => h) (Or.inl ⟨by rfl, fun w => by rfl⟩) ?_
  simp only [Act.put, List.setIfInBounds_toArray, List.set_cons_succ, List.set_cons_zero]
  refine wpAny_take (i := 3) (v := .string S) rfl (by kernel_rfl) (by kernel_rfl) (by kernel_rfl) (fun _ _ _ h => h) (Or.inl ⟨by rfl, fun w => by rfl⟩) ?_
  simp only [Act.put, List.setIfInBounds_toArray, List.set_cons_succ, List.set_cons_zero]
  refine wpAny_ready (rs := [2, 4]) (by kernel_rfl) (by simp) ?_
  refine AllReady.cons rfl (fun K hK => ?_) (AllReady.cons rfl (fun K hK => ?_) AllReady.nil)
  · rw [if_pos (by rfl)]
    refine wp_load_mid _ _ rfl G 0 rfl BZ _ (a0).range Tryd.underlying24 rfl HI5.out ?_
    refine hK _ _ ?_
    clear hK
    clear K
    simp only [Act.put, List.setIfInBounds_toArray, List.set_cons_succ, List.set_cons_zero]
    refine wpAny_ready (rs := [4]) (by kernel_rfl) (by simp) ?_
    refine AllReady.cons rfl (fun K hK => ?_) AllReady.nil
    replace hK := Shut.mk hK
    go_simp
    refine hK.out _ _ ?_
    clear hK
    clear K
    refine wpAny_ready (rs := [5]) (by kernel_rfl) (by simp) ?_
    refine AllReady.cons rfl (fun K hK => ?_) AllReady.nil
    replace hK := Shut.mk hK
    go_simp
    go_at_call 15
    refine (E2.out w5.drew _ (below_drew U5)).mono ?_
    rintro e w7 ⟨rfl, hb7⟩
    clear E2
    have U7 := later (later (below_drew U5) (below_bytes _ _ S)) hb7
    have A7 := aB.later hb7
    have hcv7 := HC.out w7 U7
    clear hb7
    refine hK.out _ _ ?_
    clear hK
    clear K
    refine wpAny_ready (rs := [6]) (by kernel_rfl) (by simp) ?_
    refine AllReady.cons rfl (fun K hK => ?_) AllReady.nil
    rw [if_pos (by rfl)]
    refine wp_eqlArr _ _ _ _ rfl BZ.toArray BZ.toArray rfl rfl eqg_sum (HQ.out _) ?_
    refine hK _ _ ?_
    clear hK
    clear K
    simp only [Act.put, List.setIfInBounds_toArray, List.set_cons_succ, List.set_cons_zero]
    refine wpAny_ready (rs := [7]) (by kernel_rfl) (by simp) ?_
    refine AllReady.cons rfl (fun K hK => ?_) AllReady.nil
    replace hK := Shut.mk hK
    go_simp
    refine hK.out _ _ ?_
    clear hK
    clear K
    refine wpAny_take (i := 8) (v := .bool true) rfl (by kernel_rfl) (by kernel_rfl) (by kernel_rfl) (fun _ _ _ h => h) (Or.inl ⟨by rfl, fun w => by rfl⟩) ?_
    simp only [Act.put, List.setIfInBounds_toArray, List.set_cons_succ, List.set_cons_zero]
    refine wpAny_take (i := 9) (v := .slice A m cap) rfl (by kernel_rfl) (by kernel_rfl) (by kernel_rfl) (fun _ _ _ h => h) (Or.inl ⟨by rfl, fun w => by rfl⟩) ?_
    simp only [Act.put, List.setIfInBounds_toArray, List.set_cons_succ, List.set_cons_zero]
    refine wpAny_take (i := 11) (v := .string S) rfl (by kernel_rfl) (by kernel_rfl) (by kernel_rfl) (fun _ _ _ h => h) (Or.inl ⟨by rfl, fun w => by rfl⟩) ?_
    simp only [Act.put, List.setIfInBounds_toArray, List.set_cons_succ, List.set_cons_zero]
    refine wpAny_ready (rs := [10]) (by kernel_rfl) (by simp) ?_
    refine AllReady.cons rfl (fun K hK => ?_) AllReady.nil
    replace hK := Shut.mk hK
    go_simp
    refine hK.out _ _ ?_
    clear hK
    clear K
    refine wpAny_ready (rs := [12]) (by kernel_rfl) (by simp) ?_
    refine AllReady.cons rfl (fun K hK => ?_) AllReady.nil
    replace hK := Shut.mk hK
    go_simp
    refine hK.out _ _ ?_
    clear hK
    clear K
    refine wpAny_ready (rs := [13]) (by kernel_rfl) (by simp) ?_
    refine AllReady.cons rfl (fun K hK => ?_) AllReady.nil
    replace hK := Shut.mk hK
    go_simp
    refine hK.out _ _ ?_
    clear hK
    clear K
    refine wpAny_ready (rs := [14]) (by kernel_rfl) (by simp) ?_
    refine AllReady.cons rfl (fun K hK => ?_) AllReady.nil
    replace hK := Shut.mk hK
    go_simp
    refine hK.out _ _ ?_
    clear hK
    clear K
    refine wpAny_done (by kernel_rfl) ?_ _
    go_wp2_with fail
    go_ret
    exact ⟨rfl, U7⟩
  · replace hK := Shut.mk hK
    go_simp
    refine hK.out _ _ ?_
    clear hK
    clear K
    refine wpAny_ready (rs := [2, 5]) (by kernel_rfl) (by simp) ?_
    refine AllReady.cons rfl (fun K hK => ?_) (AllReady.cons rfl (fun K hK => ?_) AllReady.nil)
    · rw [if_pos (by rfl)]
      refine wp_load_mid _ _ rfl G 0 rfl BZ _ (aB).range Tryd.underlying24 rfl HI5.out ?_
      refine hK _ _ ?_
      clear hK
      clear K
      simp only [Act.put, List.setIfInBounds_toArray, List.set_cons_succ, List.set_cons_zero]
      refine wpAny_ready (rs := [5]) (by kernel_rfl) (by simp) ?_
      refine AllReady.cons rfl (fun K hK => ?_) AllReady.nil
      replace hK := Shut.mk hK
      go_simp
      go_at_call 15
      refine (E2.out w5.drew _ (below_drew U5)).mono ?_
      rintro e w7 ⟨rfl, hb7⟩
      clear E2
      have U7 := later (later (below_drew U5) (below_bytes _ _ S)) hb7
      have A7 := aB.later hb7
      have hcv7 := HC.out w7 U7
      clear hb7
      refine hK.out _ _ ?_
      clear hK
      clear K
      refine wpAny_ready (rs := [6]) (by kernel_rfl) (by simp) ?_
      refine AllReady.cons rfl (fun K hK => ?_) AllReady.nil
      rw [if_pos (by rfl)]
      refine wp_eqlArr _ _ _ _ rfl BZ.toArray BZ.toArray rfl rfl eqg_sum (HQ.out _) ?_
      refine hK _ _ ?_
      clear hK
      clear K
      simp only [Act.put, List.setIfInBounds_toArray, List.set_cons_succ, List.set_cons_zero]
      refine wpAny_ready (rs := [7]) (by kernel_rfl) (by simp) ?_
      refine AllReady.cons rfl (fun K hK => ?_) AllReady.nil
      replace hK := Shut.mk hK
      go_simp
      refine hK.out _ _ ?_
      clear hK
      clear K
      refine wpAny_take (i := 8) (v := .bool true) rfl (by kernel_rfl) (by kernel_rfl) (by kernel_rfl) (fun _ _ _ h => h) (Or.inl ⟨by rfl, fun w => by rfl⟩) ?_
      simp only [Act.put, List.setIfInBounds_toArray, List.set_cons_succ, List.set_cons_zero]
      refine wpAny_take (i := 9) (v := .slice A m cap) rfl (by kernel_rfl) (by kernel_rfl) (by kernel_rfl) (fun _ _ _ h => h) (Or.inl ⟨by rfl, fun w => by rfl⟩) ?_
      simp only [Act.put, List.setIfInBounds_toArray, List.set_cons_succ, List.set_cons_zero]
      refine wpAny_take (i := 11) (v := .string S) rfl (by kernel_rfl) (by kernel_rfl) (by kernel_rfl) (fun _ _ _ h => h) (Or.inl ⟨by rfl, fun w => by rfl⟩) ?_
      simp only [Act.put, List.setIfInBounds_toArray, List.set_cons_succ, List.set_cons_zero]
      refine wpAny_ready (rs := [10]) (by kernel_rfl) (by simp) ?_
      refine AllReady.cons rfl (fun K hK => ?_) AllReady.nil
      replace hK := Shut.mk hK
      go_simp
      refine hK.out _ _ ?_
      clear hK
      clear K
      refine wpAny_ready (rs := [12]) (by kernel_rfl) (by simp) ?_
      refine AllReady.cons rfl (fun K hK => ?_) AllReady.nil
      replace hK := Shut.mk hK
      go_simp
      refine hK.out _ _ ?_
      clear hK
      clear K
      refine wpAny_ready (rs := [13]) (by kernel_rfl) (by simp) ?_
      refine AllReady.cons rfl (fun K hK => ?_) AllReady.nil
      replace hK := Shut.mk hK
      go_simp
      refine hK.out _ _ ?_
      clear hK
      clear K
      refine wpAny_ready (rs := [14]) (by kernel_rfl) (by simp) ?_
      refine AllReady.cons rfl (fun K hK => ?_) AllReady.nil
      replace hK := Shut.mk hK
      go_simp
      refine hK.out _ _ ?_
      clear hK
      clear K
      refine wpAny_done (by kernel_rfl) ?_ _
      go_wp2_with fail
      go_ret
      exact ⟨rfl, U7⟩
    · replace hK := Shut.mk hK
      go_simp
      go_at_call 15
      refine (E2.out w5.drew _ (below_drew U5)).mono ?_
      rintro e w7 ⟨rfl, hb7⟩
      clear E2
      have U7 := later (later (below_drew U5) (below_bytes _ _ S)) hb7
      have A7 := aB.later hb7
      have hcv7 := HC.out w7 U7
      clear hb7
      refine hK.out _ _ ?_
      clear hK
      clear K
      refine wpAny_ready (rs := [2]) (by kernel_rfl) (by simp) ?_
      refine AllReady.cons rfl (fun K hK => ?_) AllReady.nil
      rw [if_pos (by rfl)]
      refine wp_load_mid _ _ rfl G 0 rfl BZ _ (A7).range Tryd.underlying24 rfl HI5.out ?_
      refine hK _ _ ?_
      clear hK
      clear K
      simp only [Act.put, List.setIfInBounds_toArray, List.set_cons_succ, List.set_cons_zero]
      refine wpAny_ready (rs := [6]) (by kernel_rfl) (by simp) ?_
      refine AllReady.cons rfl (fun K hK => ?_) AllReady.nil
      rw [if_pos (by rfl)]
      refine wp_eqlArr _ _ _ _ rfl BZ.toArray BZ.toArray rfl rfl eqg_sum (HQ.out _) ?_
      refine hK _ _ ?_
      clear hK
      clear K
      simp only [Act.put, List.setIfInBounds_toArray, List.set_cons_succ, List.set_cons_zero]
      refine wpAny_ready (rs := [7]) (by kernel_rfl) (by simp) ?_
      refine AllReady.cons rfl (fun K hK => ?_) AllReady.nil
      replace hK := Shut.mk hK
      go_simp
      refine hK.out _ _ ?_
      clear hK
      clear K
      refine wpAny_take (i := 8) (v := .bool true) rfl (by kernel_rfl) (by kernel_rfl) (by kernel_rfl) (fun _ _ _ h => h) (Or.inl ⟨by rfl, fun w => by rfl⟩) ?_
      simp only [Act.put, List.setIfInBounds_toArray, List.set_cons_succ, List.set_cons_zero]
      refine wpAny_take (i := 9) (v := .slice A m cap) rfl (by kernel_rfl) (by kernel_rfl) (by kernel_rfl) (fun _ _ _ h => h) (Or.inl ⟨by rfl, fun w => by rfl⟩) ?_
      simp only [Act.put, List.setIfInBounds_toArray, List.set_cons_succ, List.set_cons_zero]
      refine wpAny_take (i := 11) (v := .string S) rfl (by kernel_rfl) (by kernel_rfl) (by kernel_rfl) (fun _ _ _ h => h) (Or.inl ⟨by rfl, fun w => by rfl⟩) ?_
      simp only [Act.put, List.setIfInBounds_toArray, List.set_cons_succ, List.set_cons_zero]
      refine wpAny_ready (rs := [10]) (by kernel_rfl) (by simp) ?_
      refine AllReady.cons rfl (fun K hK => ?_) AllReady.nil
      replace hK := Shut.mk hK
      go_simp
      refine hK.out _ _ ?_
      clear hK
      clear K
      refine wpAny_ready (rs := [12]) (by kernel_rfl) (by simp) ?_
      refine AllReady.cons rfl (fun K hK => ?_) AllReady.nil
      replace hK := Shut.mk hK
      go_simp
      refine hK.out _ _ ?_
      clear hK
      clear K
      refine wpAny_ready (rs := [13]) (by kernel_rfl) (by simp) ?_
      refine AllReady.cons rfl (fun K hK => ?_) AllReady.nil
      replace hK := Shut.mk hK
      go_simp
      refine hK.out _ _ ?_
      clear hK
      clear K
      refine wpAny_ready (rs := [14]) (by kernel_rfl) (by simp) ?_
      refine AllReady.cons rfl (fun K hK => ?_) AllReady.nil
      replace hK := Shut.mk hK
      go_simp
      refine hK.out _ _ ?_
      clear hK
      clear K
      refine wpAny_done (by kernel_rfl) ?_ _
      go_wp2_with fail
      go_ret
      exact ⟨rfl, U7⟩
theorem HashSumMatchesSpec_any (A : Option Addr) (m cap : Nat) (zs : List Nat) (w : World) (hm : m = zs.length) (hr : Rd w w.heap.size A (bs zs)) (hb : AllB zs) (hk : Kc w) (hkr : Kr w) :
    Calls Tryd.prog 3 #[.slice A m cap] w (LawRes w) := by
  have SA := Lib.hid (sanity_any w hk)
  by_cases h : 1000 < m
  · exact hsm_long A m cap w SA (by omega)
  · obtain ⟨Z, hZ⟩ : ∃ Z, sha zs = Z := ⟨_, rfl⟩
    have hsz : zs.length ≤ 1000 := by omega
    refine hsm_main A m cap Z (mkS zs) w SA (by omega) (beq_self_eq_true _) (Lib.hid (by rw [← hZ]; exact sha_len _)) ?_ ?_ ?_
    · exact Lib.hid fun W hW => run_conv w.heap.size m cap A zs W hm (hr.below hW)
    · exact Lib.hid fun W hW => by rw [← hZ]; exact sum_any A m cap zs W hm ((hr.below hW).more hW.size) hb (hk.later hW) (by omega)
    · refine Lib.hid fun W c hW => ?_
      have hr2 := rd_bytes W 5 (mkS zs)
      have hk2 := (hkr.later hW).later (below_bytes W 5 (mkS zs))
      rw [sb_mkS zs hb] at hr2
      generalize Lib.bytesWorld W 5 (mkS zs) = W2 at hr2 hk2 ⊢
      rw [← hZ]
      exact rsum_any _ (mkS zs).size c zs W2 (mkS_size zs) hr2 hb (by omega) hk2
end Go.Proofs.YtoopilemlgamkaaDoor
