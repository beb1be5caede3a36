import Derived.Test.YtoopilemlgamkaaDoorH19
import Derived.Laws.Bits128
set_option linter.unusedVariables false
set_option linter.unusedSimpArgs false
namespace Go.Proofs.YtoopilemlgamkaaDoor
open Go.RowKit

theorem eqg_dig : Tryd.prog.eqGuardType Tryd.prog.depth 44 = false := by kernel_rfl
theorem run_eqDig (w : World) (d d' : List Nat) (h : d.length = 16) (h' : d'.length = 16) : (Op.equalIn 10000 44 (.agg (bs d).toArray) (.agg (bs d').toArray)).run Tryd.prog w = .ok (decide (d = d')) w := by
  have e : ∀ l : List Nat, bs l = (l.map Int.ofNat).map (Value.int .u8) := fun l => by simp [bs, U8, List.map_map, Function.comp_def]
  have h2 := run_eqArr (P := Tryd.prog) w 9998 16 44 5 .u8 Tryd.underlying44 Tryd.underlying5 (by have := info_u8; simp only [Option.map_eq_some_iff] at this ⊢; obtain ⟨i, hi, hx⟩ := this; exact ⟨i, hi, by simp at hx; exact hx.2.1⟩) (d.map Int.ofNat) (d'.map Int.ofNat) (by simpa using h) (by simpa using h')
  have hd : decide (d.map Int.ofNat = d'.map Int.ofNat) = decide (d = d') := decide_eq_decide.2 (List.map_inj_right (fun a b hab => Int.ofNat.inj hab))
  rw [e, e, h2, hd]
theorem and255 (n : Int) : bits .and .i64 n 255 = n % 256 := by
  have h0 : (BitVec.ofInt 64 n &&& 255#64).toNat = (n % 18446744073709551616).toNat % 256 := by
    rw [BitVec.toNat_and, BitVec.toNat_ofInt]
    show (n % 18446744073709551616).toNat &&& 255 = _
    rw [show (255 : Nat) = 2 ^ 8 - 1 by rfl, Nat.and_two_pow_sub_one_eq_mod]
  show IntKind.i64.wrap ((BitVec.ofInt 64 n &&& BitVec.ofInt 64 255).toNat : Int) = _
  rw [show BitVec.ofInt 64 255 = 255#64 from rfl, h0]
  rw [IntWalk.i64_in _ (by omega)]
  omega
theorem ofIn_mod (tag : Int) (l : List ByteArray) : ofIn (tag % 256) l = ofIn tag l := by
  unfold ofIn
  rw [show tag % 256 % 256 = tag % 256 by omega]
theorem few_call (A : Option Addr) (m cap : Nat) (l : List ByteArray) (w : World) (hm : m = l.length) (hr : Rd w w.heap.size A (ss l)) :
    Hid (∀ W, Below w.heap.size w W → Calls Tryd.prog 16 #[.slice A m cap] W fun e w' => e = .returned (.bool (decide (fewS l))) ∧ w' = W) := by
  refine Lib.hid fun W hW => ?_
  by_cases hf : fewS l
  · rw [decide_eq_true hf]; exact few_yes A m cap l W hm ((hr.below hW).more hW.size) hf
  · rw [decide_eq_false hf]; exact few_no A m cap l W hm ((hr.below hW).more hW.size) hf

set_option maxHeartbeats 2000000 in
set_option maxRecDepth 100000 in
theorem hom_many (tag : Int) (A : Option Addr) (m cap : Nat) (w : World) (SA : Hid (Calls Tryd.prog 13 #[] w fun e w' => e = .returned (.bool true) ∧ Below w.heap.size w w'))
    (EF : Hid (∀ W, Below w.heap.size w W → Calls Tryd.prog 16 #[.slice A m cap] W fun e w' => e = .returned (.bool false) ∧ w' = W)) :
    Calls Tryd.prog 7 #[.int .i64 tag, .slice A m cap] w (LawRes w) := by
  go_enter Tryd.func7, Tryd.ntmps7
  go_wp2_with (first
    | (go_at_call 13; with_reducible refine SA.out.mono ?_; rintro e w1 ⟨rfl, hb1⟩; have U1 := hb1; clear hb1 SA)
    | (go_at_call 16; with_reducible refine (EF.out _ U1).mono ?_; rintro e w2 ⟨rfl, rfl⟩; clear EF))
  go_ret
  exact ⟨rfl, U1⟩
set_option maxHeartbeats 4000000 in
set_option maxRecDepth 100000 in
theorem hom_main (tag : Int) (A : Option Addr) (m cap : Nat) (Z : List Nat) (w : World) (SA : Hid (Calls Tryd.prog 13 #[] w fun e w' => e = .returned (.bool true) ∧ Below w.heap.size w w')) (HZL : Hid (Z.length = 16))
    (EF : Hid (∀ W, Below w.heap.size w W → Calls Tryd.prog 16 #[.slice A m cap] W fun e w' => e = .returned (.bool true) ∧ w' = W))
    (E1 : Hid (∀ W, Below w.heap.size w W → Calls Tryd.prog 24 #[.int .i64 tag, .slice A m cap] W fun e w' => e = .returned (.agg (bs Z).toArray) ∧ Below W.heap.size W w'))
    (E2 : Hid (∀ W, Below w.heap.size w W → Calls Tryd.prog 25 #[.int .i64 tag, .slice A m cap] W fun e w' => e = .returned (.agg (bs Z).toArray) ∧ Below W.heap.size W w'))
    (E3 : Hid (∀ W, Below w.heap.size w W → Calls Tryd.prog 24 #[.int .i64 (tag % 256), .slice A m cap] W fun e w' => e = .returned (.agg (bs Z).toArray) ∧ Below W.heap.size W w')) :
    Calls Tryd.prog 7 #[.int .i64 tag, .slice A m cap] w (LawRes w) := by
  have HBL : Hid ((bs Z).length = 16) := by show (bs Z).length = 16; rw [bs_len, HZL.out]
  have HB1 : Hid (∀ v ∈ bs Z, v.oneCell' = true) := bs_cell Z
  have HI5 : Hid ((Tryd.prog.info? 44).map (·.size) = some (bs Z).length) := Lib.hid (by rw [HBL.out]; exact info_dig)
  have HQ : Hid (∀ W, (binOp .eql 44 (.agg (bs Z).toArray) (.agg (bs Z).toArray)).run Tryd.prog W = .ok (.bool true) W) := by
    refine Lib.hid fun W => ?_
    have h := run_eqDig W Z Z HZL.out HZL.out
    show ((Op.equalIn 10000 44 (.agg (bs Z).toArray) (.agg (bs Z).toArray)) >>= fun r => pure (Value.bool r)).run Tryd.prog W = _
    rw [Sem.run_bind, h]; simp
  generalize bs Z = BZ at *
  have hand := and255 tag
  go_enter Tryd.func7, Tryd.ntmps7
  go_upto_region 5 with (first
    | (go_at_call 13; with_reducible refine SA.out.mono ?_; rintro e w1 ⟨rfl, hb1⟩; have U1 := hb1; clear hb1 SA)
    | (go_at_call 16; with_reducible refine (EF.out _ U1).mono ?_; rintro e w2 ⟨rfl, rfl⟩; clear EF)
    | (go_at_call 24; with_reducible refine (E1.out _ U1).mono ?_; rintro e w3 ⟨rfl, hb3⟩; have U3 := later U1 hb3; clear hb3 E1)
    | (with_reducible refine wpList_store_new rfl _ (.tmp 6) (.tmp 14) rfl rfl rfl info_dig HBL.out rfl (all_oneCell_toArray HB1.out) ?_; intro w5 hbel5 hrow5 hsz5))
  have A5 : Arr w5 w3.heap.size 16 44 BZ := Arr.of_row hrow5 HBL.out (by decide)
  have U5 := later U3 hbel5
  clear U1 U3 hbel5 hrow5
  generalize w3.heap.size = G at A5 hsz5 ⊢
  have A5d : Arr w5.drew G 16 44 BZ := A5
  have U5d : Below w.heap.size w w5.drew := below_drew U5
  clear A5 U5 hsz5
  refine wp_region_any (w := w5) (by kernel_rfl) (show wpAny _ _ _ _ _ _ _ w5.drew from ?_)
  refine wpAny_take (i := 0) (v := .bool true) rfl (by kernel_rfl) (by kernel_rfl) (by kernel_rfl) (fun _ _ _ h => h) (Or.inl ⟨by rfl, fun w => by rfl⟩) ?_
  simp only [Act.put, List.setIfInBounds_toArray, List.set_cons_succ, List.set_cons_zero]
  refine wpAny_take (i := 1) (v := .bool true) rfl (by kernel_rfl) (by kernel_rfl) (by kernel_rfl) (fun _ _ _ h => h) (Or.inl ⟨by rfl, fun w => by rfl⟩) ?_
  simp only [Act.put, List.setIfInBounds_toArray, List.set_cons_succ, List.set_cons_zero]
  refine wpAny_take (i := 3) (v := .int .i64 tag) rfl (by kernel_rfl) (by kernel_rfl) (by kernel_rfl) (fun _ _ _ h => h) (Or.inl ⟨by rfl, fun w => by rfl⟩) ?_
  simp only [Act.put, List.setIfInBounds_toArray, List.set_cons_succ, List.set_cons_zero]
  refine wpAny_take (i := 4) (v := .slice A m cap) rfl (by kernel_rfl) (by kernel_rfl) (by kernel_rfl) (fun _ _ _ h => h) (Or.inl ⟨by rfl, fun w => by rfl⟩) ?_
  simp only [Act.put, List.setIfInBounds_toArray, List.set_cons_succ, List.set_cons_zero]
  refine wpAny_ready (rs := [2, 5]) (by kernel_rfl) (by simp) ?_
  refine AllReady.cons rfl (fun K hK => ?_) (AllReady.cons rfl (fun K hK => ?_) AllReady.nil)
  · rw [if_pos (by rfl)]
    refine wp_load_mid _ _ rfl G 0 rfl BZ _ (A5d).range Tryd.underlying44 rfl HI5.out ?_
    refine hK _ _ ?_
    clear hK
    clear K
    simp only [Act.put, List.setIfInBounds_toArray, List.set_cons_succ, List.set_cons_zero]
    refine wpAny_ready (rs := [5]) (by kernel_rfl) (by simp) ?_
    refine AllReady.cons rfl (fun K hK => ?_) AllReady.nil
    replace hK := Shut.mk hK
    go_simp
    go_at_call 25
    refine (E2.out _ U5d).mono ?_
    rintro e w7 ⟨rfl, hb7⟩
    clear E2
    have U7 := later U5d hb7
    have A7 := A5d.later hb7
    clear hb7
    refine hK.out _ _ ?_
    clear hK
    clear K
    refine wpAny_ready (rs := [6]) (by kernel_rfl) (by simp) ?_
    refine AllReady.cons rfl (fun K hK => ?_) AllReady.nil
    rw [if_pos (by rfl)]
    refine wp_eqlArr _ _ _ _ rfl BZ.toArray BZ.toArray rfl rfl eqg_dig (HQ.out _) ?_
    refine hK _ _ ?_
    clear hK
    clear K
    simp only [Act.put, List.setIfInBounds_toArray, List.set_cons_succ, List.set_cons_zero]
    refine wpAny_ready (rs := [7]) (by kernel_rfl) (by simp) ?_
    refine AllReady.cons rfl (fun K hK => ?_) AllReady.nil
    replace hK := Shut.mk hK
    go_simp
    refine hK.out _ _ ?_
    clear hK
    clear K
    refine wpAny_take (i := 8) (v := .bool true) rfl (by kernel_rfl) (by kernel_rfl) (by kernel_rfl) (fun _ _ _ h => h) (Or.inl ⟨by rfl, fun w => by rfl⟩) ?_
    simp only [Act.put, List.setIfInBounds_toArray, List.set_cons_succ, List.set_cons_zero]
    refine wpAny_take (i := 10) (v := .int .i64 tag) rfl (by kernel_rfl) (by kernel_rfl) (by kernel_rfl) (fun _ _ _ h => h) (Or.inl ⟨by rfl, fun w => by rfl⟩) ?_
    simp only [Act.put, List.setIfInBounds_toArray, List.set_cons_succ, List.set_cons_zero]
    refine wpAny_take (i := 12) (v := .slice A m cap) rfl (by kernel_rfl) (by kernel_rfl) (by kernel_rfl) (fun _ _ _ h => h) (Or.inl ⟨by rfl, fun w => by rfl⟩) ?_
    simp only [Act.put, List.setIfInBounds_toArray, List.set_cons_succ, List.set_cons_zero]
    refine wpAny_ready (rs := [9, 11]) (by kernel_rfl) (by simp) ?_
    refine AllReady.cons rfl (fun K hK => ?_) (AllReady.cons rfl (fun K hK => ?_) AllReady.nil)
    · rw [if_pos (by rfl)]
      refine wp_load_mid _ _ rfl G 0 rfl BZ _ (A7).range Tryd.underlying44 rfl HI5.out ?_
      refine hK _ _ ?_
      clear hK
      clear K
      simp only [Act.put, List.setIfInBounds_toArray, List.set_cons_succ, List.set_cons_zero]
      refine wpAny_ready (rs := [11]) (by kernel_rfl) (by simp) ?_
      refine AllReady.cons rfl (fun K hK => ?_) AllReady.nil
      replace hK := Shut.mk hK
      go_simp
      refine hK.out _ _ ?_
      clear hK
      clear K
      refine wpAny_ready (rs := [13]) (by kernel_rfl) (by simp) ?_
      refine AllReady.cons rfl (fun K hK => ?_) AllReady.nil
      replace hK := Shut.mk hK
      go_simp
      go_at_call 24
      refine (E3.out _ U7).mono ?_
      rintro e w8 ⟨rfl, hb8⟩
      clear E3
      have U8 := later U7 hb8
      have A8 := A7.later hb8
      clear hb8
      refine hK.out _ _ ?_
      clear hK
      clear K
      refine wpAny_ready (rs := [14]) (by kernel_rfl) (by simp) ?_
      refine AllReady.cons rfl (fun K hK => ?_) AllReady.nil
      rw [if_pos (by rfl)]
      refine wp_eqlArr _ _ _ _ rfl BZ.toArray BZ.toArray rfl rfl eqg_dig (HQ.out _) ?_
      refine hK _ _ ?_
      clear hK
      clear K
      simp only [Act.put, List.setIfInBounds_toArray, List.set_cons_succ, List.set_cons_zero]
      refine wpAny_ready (rs := [15]) (by kernel_rfl) (by simp) ?_
      refine AllReady.cons rfl (fun K hK => ?_) AllReady.nil
      replace hK := Shut.mk hK
      go_simp
      refine hK.out _ _ ?_
      clear hK
      clear K
      refine wpAny_ready (rs := [16]) (by kernel_rfl) (by simp) ?_
      refine AllReady.cons rfl (fun K hK => ?_) AllReady.nil
      replace hK := Shut.mk hK
      go_simp
      refine hK.out _ _ ?_
      clear hK
      clear K
      refine wpAny_done (by kernel_rfl) ?_ _
      go_wp2_with fail
      go_ret
      exact ⟨rfl, U8⟩
    · replace hK := Shut.mk hK
      go_simp
      refine hK.out _ _ ?_
      clear hK
      clear K
      refine wpAny_ready (rs := [9, 13]) (by kernel_rfl) (by simp) ?_
      refine AllReady.cons rfl (fun K hK => ?_) (AllReady.cons rfl (fun K hK => ?_) AllReady.nil)
      · rw [if_pos (by rfl)]
        refine wp_load_mid _ _ rfl G 0 rfl BZ _ (A7).range Tryd.underlying44 rfl HI5.out ?_
        refine hK _ _ ?_
        clear hK
        clear K
        simp only [Act.put, List.setIfInBounds_toArray, List.set_cons_succ, List.set_cons_zero]
        refine wpAny_ready (rs := [13]) (by kernel_rfl) (by simp) ?_
        refine AllReady.cons rfl (fun K hK => ?_) AllReady.nil
        replace hK := Shut.mk hK
        go_simp
        go_at_call 24
        refine (E3.out _ U7).mono ?_
        rintro e w8 ⟨rfl, hb8⟩
        clear E3
        have U8 := later U7 hb8
        have A8 := A7.later hb8
        clear hb8
        refine hK.out _ _ ?_
        clear hK
        clear K
        refine wpAny_ready (rs := [14]) (by kernel_rfl) (by simp) ?_
        refine AllReady.cons rfl (fun K hK => ?_) AllReady.nil
        rw [if_pos (by rfl)]
        refine wp_eqlArr _ _ _ _ rfl BZ.toArray BZ.toArray rfl rfl eqg_dig (HQ.out _) ?_
        refine hK _ _ ?_
        clear hK
        clear K
        simp only [Act.put, List.setIfInBounds_toArray, List.set_cons_succ, List.set_cons_zero]
        refine wpAny_ready (rs := [15]) (by kernel_rfl) (by simp) ?_
        refine AllReady.cons rfl (fun K hK => ?_) AllReady.nil
        replace hK := Shut.mk hK
        go_simp
        refine hK.out _ _ ?_
        clear hK
        clear K
        refine wpAny_ready (rs := [16]) (by kernel_rfl) (by simp) ?_
        refine AllReady.cons rfl (fun K hK => ?_) AllReady.nil
        replace hK := Shut.mk hK
        go_simp
        refine hK.out _ _ ?_
        clear hK
        clear K
        refine wpAny_done (by kernel_rfl) ?_ _
        go_wp2_with fail
        go_ret
        exact ⟨rfl, U8⟩
      · replace hK := Shut.mk hK
        go_simp
        go_at_call 24
        refine (E3.out _ U7).mono ?_
        rintro e w8 ⟨rfl, hb8⟩
        clear E3
        have U8 := later U7 hb8
        have A8 := A7.later hb8
        clear hb8
        refine hK.out _ _ ?_
        clear hK
        clear K
        refine wpAny_ready (rs := [9]) (by kernel_rfl) (by simp) ?_
        refine AllReady.cons rfl (fun K hK => ?_) AllReady.nil
        rw [if_pos (by rfl)]
        refine wp_load_mid _ _ rfl G 0 rfl BZ _ (A8).range Tryd.underlying44 rfl HI5.out ?_
        refine hK _ _ ?_
        clear hK
        clear K
        simp only [Act.put, List.setIfInBounds_toArray, List.set_cons_succ, List.set_cons_zero]
        refine wpAny_ready (rs := [14]) (by kernel_rfl) (by simp) ?_
        refine AllReady.cons rfl (fun K hK => ?_) AllReady.nil
        rw [if_pos (by rfl)]
        refine wp_eqlArr _ _ _ _ rfl BZ.toArray BZ.toArray rfl rfl eqg_dig (HQ.out _) ?_
        refine hK _ _ ?_
        clear hK
        clear K
        simp only [Act.put, List.setIfInBounds_toArray, List.set_cons_succ, List.set_cons_zero]
        refine wpAny_ready (rs := [15]) (by kernel_rfl) (by simp) ?_
        refine AllReady.cons rfl (fun K hK => ?_) AllReady.nil
        replace hK := Shut.mk hK
        go_simp
        refine hK.out _ _ ?_
        clear hK
        clear K
        refine wpAny_ready (rs := [16]) (by kernel_rfl) (by simp) ?_
        refine AllReady.cons rfl (fun K hK => ?_) AllReady.nil
        replace hK := Shut.mk hK
        go_simp
        refine hK.out _ _ ?_
        clear hK
        clear K
        refine wpAny_done (by kernel_rfl) ?_ _
        go_wp2_with fail
        go_ret
        exact ⟨rfl, U8⟩
  · replace hK := Shut.mk hK
    go_simp
    go_at_call 25
    refine (E2.out _ U5d).mono ?_
    rintro e w7 ⟨rfl, hb7⟩
    clear E2
    have U7 := later U5d hb7
    have A7 := A5d.later hb7
    clear hb7
    refine hK.out _ _ ?_
    clear hK
    clear K
    refine wpAny_ready (rs := [2]) (by kernel_rfl) (by simp) ?_
    refine AllReady.cons rfl (fun K hK => ?_) AllReady.nil
    rw [if_pos (by rfl)]
    refine wp_load_mid _ _ rfl G 0 rfl BZ _ (A7).range Tryd.underlying44 rfl HI5.out ?_
    refine hK _ _ ?_
    clear hK
    clear K
    simp only [Act.put, List.setIfInBounds_toArray, List.set_cons_succ, List.set_cons_zero]
    refine wpAny_ready (rs := [6]) (by kernel_rfl) (by simp) ?_
    refine AllReady.cons rfl (fun K hK => ?_) AllReady.nil
    rw [if_pos (by rfl)]
    refine wp_eqlArr _ _ _ _ rfl BZ.toArray BZ.toArray rfl rfl eqg_dig (HQ.out _) ?_
    refine hK _ _ ?_
    clear hK
    clear K
    simp only [Act.put, List.setIfInBounds_toArray, List.set_cons_succ, List.set_cons_zero]
    refine wpAny_ready (rs := [7]) (by kernel_rfl) (by simp) ?_
    refine AllReady.cons rfl (fun K hK => ?_) AllReady.nil
    replace hK := Shut.mk hK
    go_simp
    refine hK.out _ _ ?_
    clear hK
    clear K
    refine wpAny_take (i := 8) (v := .bool true) rfl (by kernel_rfl) (by kernel_rfl) (by kernel_rfl) (fun _ _ _ h => h) (Or.inl ⟨by rfl, fun w => by rfl⟩) ?_
    simp only [Act.put, List.setIfInBounds_toArray, List.set_cons_succ, List.set_cons_zero]
    refine wpAny_take (i := 10) (v := .int .i64 tag) rfl (by kernel_rfl) (by kernel_rfl) (by kernel_rfl) (fun _ _ _ h => h) (Or.inl ⟨by rfl, fun w => by rfl⟩) ?_
    simp only [Act.put, List.setIfInBounds_toArray, List.set_cons_succ, List.set_cons_zero]
    refine wpAny_take (i := 12) (v := .slice A m cap) rfl (by kernel_rfl) (by kernel_rfl) (by kernel_rfl) (fun _ _ _ h => h) (Or.inl ⟨by rfl, fun w => by rfl⟩) ?_
    simp only [Act.put, List.setIfInBounds_toArray, List.set_cons_succ, List.set_cons_zero]
    refine wpAny_ready (rs := [9, 11]) (by kernel_rfl) (by simp) ?_
    refine AllReady.cons rfl (fun K hK => ?_) (AllReady.cons rfl (fun K hK => ?_) AllReady.nil)
    · rw [if_pos (by rfl)]
      refine wp_load_mid _ _ rfl G 0 rfl BZ _ (A7).range Tryd.underlying44 rfl HI5.out ?_
      refine hK _ _ ?_
      clear hK
      clear K
      simp only [Act.put, List.setIfInBounds_toArray, List.set_cons_succ, List.set_cons_zero]
      refine wpAny_ready (rs := [11]) (by kernel_rfl) (by simp) ?_
      refine AllReady.cons rfl (fun K hK => ?_) AllReady.nil
      replace hK := Shut.mk hK
      go_simp
      refine hK.out _ _ ?_
      clear hK
      clear K
      refine wpAny_ready (rs := [13]) (by kernel_rfl) (by simp) ?_
      refine AllReady.cons rfl (fun K hK => ?_) AllReady.nil
      replace hK := Shut.mk hK
      go_simp
      go_at_call 24
      refine (E3.out _ U7).mono ?_
      rintro e w8 ⟨rfl, hb8⟩
      clear E3
      have U8 := later U7 hb8
      have A8 := A7.later hb8
      clear hb8
      refine hK.out _ _ ?_
      clear hK
      clear K
      refine wpAny_ready (rs := [14]) (by kernel_rfl) (by simp) ?_
      refine AllReady.cons rfl (fun K hK => ?_) AllReady.nil
      rw [if_pos (by rfl)]
      refine wp_eqlArr _ _ _ _ rfl BZ.toArray BZ.toArray rfl rfl eqg_dig (HQ.out _) ?_
      refine hK _ _ ?_
      clear hK
      clear K
      simp only [Act.put, List.setIfInBounds_toArray, List.set_cons_succ, List.set_cons_zero]
      refine wpAny_ready (rs := [15]) (by kernel_rfl) (by simp) ?_
      refine AllReady.cons rfl (fun K hK => ?_) AllReady.nil
      replace hK := Shut.mk hK
      go_simp
      refine hK.out _ _ ?_
      clear hK
      clear K
      refine wpAny_ready (rs := [16]) (by kernel_rfl) (by simp) ?_
      refine AllReady.cons rfl (fun K hK => ?_) AllReady.nil
      replace hK := Shut.mk hK
      go_simp
      refine hK.out _ _ ?_
      clear hK
      clear K
      refine wpAny_done (by kernel_rfl) ?_ _
      go_wp2_with fail
      go_ret
      exact ⟨rfl, U8⟩
    · replace hK := Shut.mk hK
      go_simp
      refine hK.out _ _ ?_
      clear hK
      clear K
      refine wpAny_ready (rs := [9, 13]) (by kernel_rfl) (by simp) ?_
      refine AllReady.cons rfl (fun K hK => ?_) (AllReady.cons rfl (fun K hK => ?_) AllReady.nil)
      · rw [if_pos (by rfl)]
        refine wp_load_mid _ _ rfl G 0 rfl BZ _ (A7).range Tryd.underlying44 rfl HI5.out ?_
        refine hK _ _ ?_
        clear hK
        clear K
        simp only [Act.put, List.setIfInBounds_toArray, List.set_cons_succ, List.set_cons_zero]
        refine wpAny_ready (rs := [13]) (by kernel_rfl) (by simp) ?_
        refine AllReady.cons rfl (fun K hK => ?_) AllReady.nil
        replace hK := Shut.mk hK
        go_simp
        go_at_call 24
        refine (E3.out _ U7).mono ?_
        rintro e w8 ⟨rfl, hb8⟩
        clear E3
        have U8 := later U7 hb8
        have A8 := A7.later hb8
        clear hb8
        refine hK.out _ _ ?_
        clear hK
        clear K
        refine wpAny_ready (rs := [14]) (by kernel_rfl) (by simp) ?_
        refine AllReady.cons rfl (fun K hK => ?_) AllReady.nil
        rw [if_pos (by rfl)]
        refine wp_eqlArr _ _ _ _ rfl BZ.toArray BZ.toArray rfl rfl eqg_dig (HQ.out _) ?_
        refine hK _ _ ?_
        clear hK
        clear K
        simp only [Act.put, List.setIfInBounds_toArray, List.set_cons_succ, List.set_cons_zero]
        refine wpAny_ready (rs := [15]) (by kernel_rfl) (by simp) ?_
        refine AllReady.cons rfl (fun K hK => ?_) AllReady.nil
        replace hK := Shut.mk hK
        go_simp
        refine hK.out _ _ ?_
        clear hK
        clear K
        refine wpAny_ready (rs := [16]) (by kernel_rfl) (by simp) ?_
        refine AllReady.cons rfl (fun K hK => ?_) AllReady.nil
        replace hK := Shut.mk hK
        go_simp
        refine hK.out _ _ ?_
        clear hK
        clear K
        refine wpAny_done (by kernel_rfl) ?_ _
        go_wp2_with fail
        go_ret
        exact ⟨rfl, U8⟩
      · replace hK := Shut.mk hK
        go_simp
        go_at_call 24
        refine (E3.out _ U7).mono ?_
        rintro e w8 ⟨rfl, hb8⟩
        clear E3
        have U8 := later U7 hb8
        have A8 := A7.later hb8
        clear hb8
        refine hK.out _ _ ?_
        clear hK
        clear K
        refine wpAny_ready (rs := [9]) (by kernel_rfl) (by simp) ?_
        refine AllReady.cons rfl (fun K hK => ?_) AllReady.nil
        rw [if_pos (by rfl)]
        refine wp_load_mid _ _ rfl G 0 rfl BZ _ (A8).range Tryd.underlying44 rfl HI5.out ?_
        refine hK _ _ ?_
        clear hK
        clear K
        simp only [Act.put, List.setIfInBounds_toArray, List.set_cons_succ, List.set_cons_zero]
        refine wpAny_ready (rs := [14]) (by kernel_rfl) (by simp) ?_
        refine AllReady.cons rfl (fun K hK => ?_) AllReady.nil
        rw [if_pos (by rfl)]
        refine wp_eqlArr _ _ _ _ rfl BZ.toArray BZ.toArray rfl rfl eqg_dig (HQ.out _) ?_
        refine hK _ _ ?_
        clear hK
        clear K
        simp only [Act.put, List.setIfInBounds_toArray, List.set_cons_succ, List.set_cons_zero]
        refine wpAny_ready (rs := [15]) (by kernel_rfl) (by simp) ?_
        refine AllReady.cons rfl (fun K hK => ?_) AllReady.nil
        replace hK := Shut.mk hK
        go_simp
        refine hK.out _ _ ?_
        clear hK
        clear K
        refine wpAny_ready (rs := [16]) (by kernel_rfl) (by simp) ?_
        refine AllReady.cons rfl (fun K hK => ?_) AllReady.nil
        replace hK := Shut.mk hK
        go_simp
        refine hK.out _ _ ?_
        clear hK
        clear K
        refine wpAny_done (by kernel_rfl) ?_ _
        go_wp2_with fail
        go_ret
        exact ⟨rfl, U8⟩
theorem HashOfMatchesSpec_any (tag : Int) (A : Option Addr) (m cap : Nat) (l : List ByteArray) (w : World) (ht : InR tag) (hm : m = l.length) (hr : Rd w w.heap.size A (ss l)) (hk : Kc w) (hkr : Kr w) :
    Calls Tryd.prog 7 #[.int .i64 tag, .slice A m cap] w (LawRes w) := by
  have SA := Lib.hid (sanity_any w hk)
  have EF := few_call A m cap l w hm hr
  by_cases hf : fewS l
  · rw [decide_eq_true hf] at EF
    have h12 : m ≤ 12 := by have := hf.1; omega
    have hin2 : ∀ s ∈ l, s.size ≤ 100000 := fun s hs => Nat.le_trans (hf.2 s hs) (by decide)
    have hin1 : ∀ s ∈ l, s.size ≤ 1000 := fun s hs => Nat.le_trans (hf.2 s hs) (by decide)
    obtain ⟨Z, hZ⟩ : ∃ Z, (sha (ofIn tag l)).take 16 = Z := ⟨_, rfl⟩
    refine hom_main tag A m cap Z w SA (Lib.hid (by rw [← hZ, List.length_take, sha_len]; rfl)) EF ?_ ?_ ?_
    · exact Lib.hid fun W hW => by rw [← hZ]; exact Of_any tag A m cap l W ht hm ((hr.below hW).more hW.size) hin2 (by omega) (hk.later hW)
    · exact Lib.hid fun W hW => by rw [← hZ]; exact rof_any tag A m cap l W hm ((hr.below hW).more hW.size) hin1 (by omega) (hkr.later hW)
    · refine Lib.hid fun W hW => ?_
      rw [← hZ, ← ofIn_mod]
      exact Of_any (tag % 256) A m cap l W ⟨by omega, by omega⟩ hm ((hr.below hW).more hW.size) hin2 (by omega) (hk.later hW)
  · rw [decide_eq_false hf] at EF
    exact hom_many tag A m cap w SA EF
end Go.Proofs.YtoopilemlgamkaaDoor
