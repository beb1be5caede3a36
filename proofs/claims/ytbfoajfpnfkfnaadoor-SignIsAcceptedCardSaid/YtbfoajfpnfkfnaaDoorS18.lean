import Derived.Test.YtbfoajfpnfkfnaaDoorS17
import Derived.Test.YtbfoajfpnfkfnaaDoorSC2
set_option linter.unusedVariables false
set_option linter.unusedSimpArgs false
namespace Go.Proofs.YtbfoajfpnfkfnaaDoor
open Go.RowKit

set_option maxHeartbeats 2000000 in
set_option maxRecDepth 100000 in
theorem seed_any (c : Nat) (hc : c < 256) (w : World) : Calls Tryd.prog 32 #[.int .u8 (c : Int)] w fun e w' => e = .returned (.string (mkS (List.replicate 32 c))) ∧ Below w.heap.size w w' := by
  go_enter Tryd.func32, Tryd.ntmps32
  go_wp2_with (refine wpList_makeV (n := 32) Tryd.underlying22 info_u8 rfl (by decide) (by unfold maxLen; decide) rfl _ _ rfl rfl rfl rfl rfl ?_; intro w5 hown5 hbel5 hlt5)
  have A5 : Arr w5 w.heap.size 32 5 (bs (List.replicate 32 0)) := hown5
  go_loopw [4] (fun j W => ∃ k : Nat, k ≤ 32 ∧ j = .int .i64 (k : Int) ∧ Arr W w.heap.size 32 5 (bs (List.replicate k c ++ List.replicate (32 - k) 0)) ∧ Below w.heap.size w W) (fun j _ => 32 - (intOf j).toNat)
  case atStart => exact ⟨0, by omega, rfl, A5, hbel5⟩
  case round =>
    obtain ⟨k, hk, rfl, ha, hb⟩ := hrel
    clear A5
    by_cases hlt : k < 32
    · have hset : (bs (List.replicate k c ++ List.replicate (32 - k) 0)).set k (.int .u8 (c : Int)) = bs (List.replicate (k + 1) c ++ List.replicate (32 - (k + 1)) 0) := by
        rw [bs_setN]
        congr 1
        rw [List.set_append_right _ _ (by rw [List.length_replicate]; exact Nat.le_refl _), List.length_replicate, Nat.sub_self, show 32 - k = (32 - (k + 1)) + 1 by omega, List.replicate_succ, List.set_cons_zero, List.replicate_succ']
        simp
      have HSET := Lib.hid hset
      have hg : (bs (List.replicate k c ++ List.replicate (32 - k) 0))[k]? = some (.int .u8 0) := by
        unfold bs
        rw [List.getElem?_map, List.getElem?_append_right (by rw [List.length_replicate]; exact Nat.le_refl _), List.length_replicate, Nat.sub_self, List.getElem?_replicate, if_pos (by omega)]; rfl
      have hold := ha.cell hg
      have hfr := ha.free k
      have HA := Lib.hid ha
      have hki : (k : Int) < 32 := by omega
      have hk0 : (0 : Int) ≤ (k : Int) := by omega
      clear hset hg ha
      go_wp2_with fail
      go_roundw
      case rel => exact ⟨k + 1, hlt, by go_num, by rw [← HSET.out]; exact HA.out.set_ _ _, hb.setCell (by show w.heap.size ≤ w.heap.size; omega) _⟩
      case measure => simp [intOf]; omega
    · have hk32 : k = 32 := by omega
      subst hk32
      rw [show 32 - 32 = 0 from rfl, List.replicate_zero, List.append_nil] at ha
      have hrd : Rd wr wr.heap.size (some ⟨w.heap.size, 0, none⟩) (bs (List.replicate 32 c)) := .inr ⟨w.heap.size, 0, rfl, ha.lt, fun j u hu => by rw [Nat.zero_add]; exact ha.cell hu⟩
      have hcv := run_conv _ 32 32 _ (List.replicate 32 c) wr (by simp) hrd
      go_wp2_with fail
      go_ret
      exact ⟨rfl, hb⟩

set_option maxHeartbeats 8000000 in
set_option maxRecDepth 100000 in
theorem ssanity_aux (P SIG M1 M0 : List Nat) (w : World) (HPL : Hid (P.length = 16)) (HNEQ : Hid (decide (M1 = M0) = false)) (HM1 : Hid (M1.length = 16)) (HM0 : Hid (M0.length = 16))
    (HSD : Hid (∀ W, Below w.heap.size w W → Calls Tryd.prog 32 #[.int .u8 5] W fun e w' => e = .returned (.string (mkS sd5)) ∧ Below W.heap.size W w'))
    (HPU : Hid (∀ W, Below w.heap.size w W → Calls Tryd.prog 31 #[.string (mkS sd5), .int .i64 1] W fun e w' => e = .returned (.tuple #[.agg (bs P).toArray, .int .i64 0]) ∧ Below W.heap.size W w'))
    (HSG : Hid (∀ W, Below w.heap.size w W → Calls Tryd.prog 33 #[.string (mkS sd5), .int .i64 1, .int .i64 1, .string ⟨#[109]⟩] W fun e w' => e = .returned (.tuple #[.string (mkS SIG), .int .i64 0]) ∧ Below W.heap.size W w'))
    (HVM : Hid (∀ W, Below w.heap.size w W → Calls Tryd.prog 34 #[.agg (bs P).toArray, .int .i64 1, .string ⟨#[109]⟩, .string (mkS SIG)] W fun e w' => e = .returned (.tuple #[.int .i64 1, .int .i64 0]) ∧ Below W.heap.size W w'))
    (HVN : Hid (∀ W, Below w.heap.size w W → Calls Tryd.prog 34 #[.agg (bs P).toArray, .int .i64 1, .string ⟨#[110]⟩, .string (mkS SIG)] W fun e w' => e = .returned (.tuple #[.int .i64 0, .int .i64 10]) ∧ Below W.heap.size W w'))
    (HSP : Hid (∀ W, Below w.heap.size w W → Calls Tryd.prog 33 #[.string (mkS sd5), .int .i64 1, .int .i64 2, .string ⟨#[109]⟩] W fun e w' => e = .returned (.tuple #[.string ⟨#[]⟩, .int .i64 26]) ∧ Below W.heap.size W w'))
    (HSH : Hid (∀ W, Below w.heap.size w W → Calls Tryd.prog 31 #[.string ((mkS sd5).extract 1 (mkS sd5).size), .int .i64 0] W fun e w' => e = .returned (.tuple #[.agg (bs (List.replicate 16 0)).toArray, .int .i64 1]) ∧ Below W.heap.size W w'))
    (HDG : Hid (∀ W, Calls Tryd.prog 29 #[.agg #[.int .u8 0, .int .u8 0, .int .u8 0, .int .u8 0, .int .u8 0, .int .u8 0, .int .u8 0, .int .u8 0, .int .u8 0, .int .u8 0, .int .u8 0, .int .u8 0, .int .u8 0, .int .u8 0, .int .u8 0, .int .u8 0]] W fun e w' => ∃ g, e = .returned (.slice (some ⟨g, 0, none⟩) 68 68) ∧ (w'.cell? ⟨g, 0, none⟩ = some (.int .i64 0) ∧ w'.cell? ⟨g, 64, none⟩ = some (.int .i64 3) ∧ w'.cell? ⟨g, 67, none⟩ = some (.int .i64 0)) ∧ Below W.heap.size W w'))
    (HD1 : Hid (∀ W, Below w.heap.size w W → Calls Tryd.prog 47 #[.agg (bs P).toArray, .int .i64 1, .string ⟨#[109]⟩] W fun e w' => e = .returned (.agg (bs M1).toArray) ∧ Below W.heap.size W w'))
    (HD0 : Hid (∀ W, Below w.heap.size w W → Calls Tryd.prog 47 #[.agg (bs P).toArray, .int .i64 0, .string ⟨#[109]⟩] W fun e w' => e = .returned (.agg (bs M0).toArray) ∧ Below W.heap.size W w')) :
    Calls Tryd.prog 28 #[] w fun e w' => e = .returned (.bool true) ∧ Below w.heap.size w w' := by
  have HPB : Hid ((bs P).length = 16) := Lib.hid (by rw [bs_len, HPL.out])
  have HIP : Hid ((Tryd.prog.info? 44).map (·.size) = some (bs P).length) := Lib.hid (by rw [HPB.out]; exact info_dig)
  have HZB : Hid ((bs (List.replicate 16 0)).length = 16) := Lib.hid (by simp [bs])
  have HNE : Hid (∀ W, (binOp .neq 44 (.agg (bs M1).toArray) (.agg (bs M0).toArray)).run Tryd.prog W = .ok (.bool true) W) := Lib.hid fun W => run_neqDig W _ _ false HM1.out HM0.out HNEQ.out
  have hu' := Tryd.underlying44
  have V0 := Below.refl w.heap.size w
  have hs32 : (1 : Int) ≤ ((mkS sd5).size : Int) := by decide
  go_enter Tryd.func28, Tryd.ntmps28
  go_upto_region 11 with (first
    | (go_at_call 32; (with_reducible refine (HSD.out _ V0).mono ?_); rintro e w1 ⟨rfl, hb1⟩; have V1 := later V0 hb1; clear HSD hb1)
    | (go_at_call 31; (with_reducible refine (HPU.out _ V1).mono ?_); rintro e w2 ⟨rfl, hb2⟩; have V2 := later V1 hb2; clear HPU hb2)
    | (refine wpList_store_new rfl _ (.tmp 2) (.tmp 19) rfl rfl rfl info_dig HPB.out rfl (all_oneCell_toArray (bs_cell P)) ?_; intro w3 hbel3 hrow3 hsz3; have T3 : Arr w3 w2.heap.size 16 44 (bs P) := Arr.of_row hrow3 HPB.out (by decide); have V3 := later V2 hbel3; clear hrow3 hbel3)
    | (go_at_call 33; (with_reducible refine (HSG.out _ V3).mono ?_); rintro e w4 ⟨rfl, hb4⟩; have V4 := later V3 hb4; have T4 := T3.later hb4; clear HSG hb4)
    | (with_reducible refine wpList_load_mid rfl _ (.tmp 2) rfl w2.heap.size 0 rfl (bs P) _ T4.range Tryd.underlying44 rfl HIP.out ?_)
    | (go_at_call 34; (with_reducible refine (HVM.out _ V4).mono ?_); rintro e w5 ⟨rfl, hb5⟩; have V5 := later V4 hb5; have T5 := T4.later hb5; clear HVM hb5)
    | (with_reducible refine wpList_load_mid rfl _ (.tmp 2) rfl w2.heap.size 0 rfl (bs P) _ T5.range Tryd.underlying44 rfl HIP.out ?_)
    | (go_at_call 34; (with_reducible refine (HVN.out _ V5).mono ?_); rintro e w6 ⟨rfl, hb6⟩; have V6 := later V5 hb6; have T6 := T5.later hb6; clear HVN hb6)
    | (go_at_call 33; (with_reducible refine (HSP.out _ V6).mono ?_); rintro e w7 ⟨rfl, hb7⟩; have V7 := later V6 hb7; have T7 := T6.later hb7; clear HSP hb7)
    | (go_at_call 31; (with_reducible refine (HSH.out _ V7).mono ?_); rintro e w8 ⟨rfl, hb8⟩; have V8 := later V7 hb8; have T8 := T7.later hb8; clear HSH hb8)
    | (refine wpList_store_new rfl _ (.tmp 12) (.tmp 47) rfl rfl rfl info_dig HZB.out rfl (all_oneCell_toArray (bs_cell _)) ?_; intro w9 hbel9 hrow9 hsz9; have T9 := T8.later hbel9; have V9 := later V8 hbel9; clear hrow9 hbel9)
    | (go_at_call 29; (with_reducible refine (HDG.out _).mono ?_); rintro e w10 ⟨g, rfl, ⟨hd0, hd64, hd67⟩, hb10⟩; have V10 := later V9 hb10; have T10 := T9.later hb10; clear HDG hb10))
  have T20d : Arr w10.drew w2.heap.size 16 44 (bs P) := T10
  have V20d : Below w.heap.size w w10.drew := below_drew V10
  have hd0d : w10.drew.cell? ⟨g, 0, none⟩ = some (.int .i64 0) := hd0
  have hd64d : w10.drew.cell? ⟨g, 64, none⟩ = some (.int .i64 3) := hd64
  have hd67d : w10.drew.cell? ⟨g, 67, none⟩ = some (.int .i64 0) := hd67
  clear hd0 hd64 hd67
  refine wp_region_held_drew (S := fun W => W.rangeAt w2.heap.size 0 (bs P)) (by kernel_rfl) T20d.range (fun hS => ?_)
  refine wpAnyH_ready (rs := [0]) (by kernel_rfl) (by simp) ?_
  refine AllReadyH.cons rfl (fun K hK => ?_) (AllReadyH.nil)
  go_simp
  refine hK.out _ _ T20d.range (fun hS => ?_)
  clear hK
  clear K
  refine wpAnyH_ready (rs := [1]) (by kernel_rfl) (by simp) ?_
  refine AllReadyH.cons rfl (fun K hK => ?_) (AllReadyH.nil)
  go_simp
  refine hK.out _ _ T20d.range (fun hS => ?_)
  clear hK
  clear K
  refine wpAnyH_ready (rs := [2]) (by kernel_rfl) (by simp) ?_
  refine AllReadyH.cons rfl (fun K hK => ?_) (AllReadyH.nil)
  go_simp
  refine hK.out _ _ T20d.range (fun hS => ?_)
  clear hK
  clear K
  refine wpAnyH_ready (rs := [3]) (by kernel_rfl) (by simp) ?_
  refine AllReadyH.cons rfl (fun K hK => ?_) (AllReadyH.nil)
  go_simp
  refine hK.out _ _ T20d.range (fun hS => ?_)
  clear hK
  clear K
  refine wpAnyH_ready (rs := [4]) (by kernel_rfl) (by simp) ?_
  refine AllReadyH.cons rfl (fun K hK => ?_) (AllReadyH.nil)
  go_simp
  refine hK.out _ _ T20d.range (fun hS => ?_)
  clear hK
  clear K
  refine wpAnyH_ready (rs := [5]) (by kernel_rfl) (by simp) ?_
  refine AllReadyH.cons rfl (fun K hK => ?_) (AllReadyH.nil)
  go_simp
  refine hK.out _ _ T20d.range (fun hS => ?_)
  clear hK
  clear K
  refine wpAnyH_ready (rs := [6]) (by kernel_rfl) (by simp) ?_
  refine AllReadyH.cons rfl (fun K hK => ?_) (AllReadyH.nil)
  go_simp
  refine hK.out _ _ T20d.range (fun hS => ?_)
  clear hK
  clear K
  refine wpAnyH_ready (rs := [7]) (by kernel_rfl) (by simp) ?_
  refine AllReadyH.cons rfl (fun K hK => ?_) (AllReadyH.nil)
  go_simp
  refine hK.out _ _ T20d.range (fun hS => ?_)
  clear hK
  clear K
  refine wpAnyH_ready (rs := [8]) (by kernel_rfl) (by simp) ?_
  refine AllReadyH.cons rfl (fun K hK => ?_) (AllReadyH.nil)
  go_simp
  refine hK.out _ _ T20d.range (fun hS => ?_)
  clear hK
  clear K
  refine wpAnyH_ready (rs := [9]) (by kernel_rfl) (by simp) ?_
  refine AllReadyH.cons rfl (fun K hK => ?_) (AllReadyH.nil)
  go_simp
  refine hK.out _ _ T20d.range (fun hS => ?_)
  clear hK
  clear K
  refine wpAnyH_ready (rs := [10]) (by kernel_rfl) (by simp) ?_
  refine AllReadyH.cons rfl (fun K hK => ?_) (AllReadyH.nil)
  go_simp
  refine hK.out _ _ T20d.range (fun hS => ?_)
  clear hK
  clear K
  refine wpAnyH_ready (rs := [11]) (by kernel_rfl) (by simp) ?_
  refine AllReadyH.cons rfl (fun K hK => ?_) (AllReadyH.nil)
  go_simp
  refine hK.out _ _ T20d.range (fun hS => ?_)
  clear hK
  clear K
  refine wpAnyH_ready (rs := [12]) (by kernel_rfl) (by simp) ?_
  refine AllReadyH.cons rfl (fun K hK => ?_) (AllReadyH.nil)
  go_simp
  refine hK.out _ _ T20d.range (fun hS => ?_)
  clear hK
  clear K
  refine wpAnyH_ready (rs := [13]) (by kernel_rfl) (by simp) ?_
  refine AllReadyH.cons rfl (fun K hK => ?_) (AllReadyH.nil)
  go_simp
  refine hK.out _ _ T20d.range (fun hS => ?_)
  clear hK
  clear K
  refine wpAnyH_ready (rs := [14]) (by kernel_rfl) (by simp) ?_
  refine AllReadyH.cons rfl (fun K hK => ?_) (AllReadyH.nil)
  go_simp
  refine hK.out _ _ T20d.range (fun hS => ?_)
  clear hK
  clear K
  refine wpAnyH_ready (rs := [15]) (by kernel_rfl) (by simp) ?_
  refine AllReadyH.cons rfl (fun K hK => ?_) (AllReadyH.nil)
  go_simp
  refine hK.out _ _ T20d.range (fun hS => ?_)
  clear hK
  clear K
  refine wpAnyH_ready (rs := [16]) (by kernel_rfl) (by simp) ?_
  refine AllReadyH.cons rfl (fun K hK => ?_) (AllReadyH.nil)
  go_simp
  refine hK.out _ _ T20d.range (fun hS => ?_)
  clear hK
  clear K
  refine wpAnyH_ready (rs := [17]) (by kernel_rfl) (by simp) ?_
  refine AllReadyH.cons rfl (fun K hK => ?_) (AllReadyH.nil)
  go_simp
  refine hK.out _ _ T20d.range (fun hS => ?_)
  clear hK
  clear K
  refine wpAnyH_ready (rs := [18]) (by kernel_rfl) (by simp) ?_
  refine AllReadyH.cons rfl (fun K hK => ?_) (AllReadyH.nil)
  go_simp
  refine hK.out _ _ T20d.range (fun hS => ?_)
  clear hK
  clear K
  refine wpAnyH_ready (rs := [19]) (by kernel_rfl) (by simp) ?_
  refine AllReadyH.cons rfl (fun K hK => ?_) (AllReadyH.nil)
  go_simp
  refine hK.out _ _ T20d.range (fun hS => ?_)
  clear hK
  clear K
  refine wpAnyH_ready (rs := [20]) (by kernel_rfl) (by simp) ?_
  refine AllReadyH.cons rfl (fun K hK => ?_) (AllReadyH.nil)
  go_simp
  refine hK.out _ _ T20d.range (fun hS => ?_)
  clear hK
  clear K
  refine wpAnyH_ready (rs := [21]) (by kernel_rfl) (by simp) ?_
  refine AllReadyH.cons rfl (fun K hK => ?_) (AllReadyH.nil)
  go_simp
  refine hK.out _ _ T20d.range (fun hS => ?_)
  clear hK
  clear K
  refine wpAnyH_ready (rs := [22]) (by kernel_rfl) (by simp) ?_
  refine AllReadyH.cons rfl (fun K hK => ?_) (AllReadyH.nil)
  go_simp
  refine hK.out _ _ T20d.range (fun hS => ?_)
  clear hK
  clear K
  refine wpAnyH_ready (rs := [23]) (by kernel_rfl) (by simp) ?_
  refine AllReadyH.cons rfl (fun K hK => ?_) (AllReadyH.nil)
  go_simp
  refine hK.out _ _ T20d.range (fun hS => ?_)
  clear hK
  clear K
  refine wpAnyH_ready (rs := [24]) (by kernel_rfl) (by simp) ?_
  refine AllReadyH.cons rfl (fun K hK => ?_) (AllReadyH.nil)
  go_simp
  refine hK.out _ _ T20d.range (fun hS => ?_)
  clear hK
  clear K
  refine wpAnyH_ready (rs := [25]) (by kernel_rfl) (by simp) ?_
  refine AllReadyH.cons rfl (fun K hK => ?_) (AllReadyH.nil)
  go_simp
  refine hK.out _ _ T20d.range (fun hS => ?_)
  clear hK
  clear K
  refine wpAnyH_ready (rs := [26]) (by kernel_rfl) (by simp) ?_
  refine AllReadyH.cons rfl (fun K hK => ?_) (AllReadyH.nil)
  go_simp
  refine hK.out _ _ T20d.range (fun hS => ?_)
  clear hK
  clear K
  refine wpAnyH_ready (rs := [27]) (by kernel_rfl) (by simp) ?_
  refine AllReadyH.cons rfl (fun K hK => ?_) (AllReadyH.nil)
  go_simp
  refine hK.out _ _ T20d.range (fun hS => ?_)
  clear hK
  clear K
  refine wpAnyH_ready (rs := [28]) (by kernel_rfl) (by simp) ?_
  refine AllReadyH.cons rfl (fun K hK => ?_) (AllReadyH.nil)
  go_simp
  refine hK.out _ _ T20d.range (fun hS => ?_)
  clear hK
  clear K
  refine wpAnyH_ready (rs := [29]) (by kernel_rfl) (by simp) ?_
  refine AllReadyH.cons rfl (fun K hK => ?_) (AllReadyH.nil)
  go_simp
  refine hK.out _ _ T20d.range (fun hS => ?_)
  clear hK
  clear K
  refine wpAnyH_ready (rs := [30]) (by kernel_rfl) (by simp) ?_
  refine AllReadyH.cons rfl (fun K hK => ?_) (AllReadyH.nil)
  go_simp
  refine hK.out _ _ T20d.range (fun hS => ?_)
  clear hK
  clear K
  refine wpAnyH_ready (rs := [31]) (by kernel_rfl) (by simp) ?_
  refine AllReadyH.cons rfl (fun K hK => ?_) (AllReadyH.nil)
  go_simp
  refine hK.out _ _ T20d.range (fun hS => ?_)
  clear hK
  clear K
  refine wpAnyH_ready (rs := [32]) (by kernel_rfl) (by simp) ?_
  refine AllReadyH.cons rfl (fun K hK => ?_) (AllReadyH.nil)
  go_simp
  refine hK.out _ _ T20d.range (fun hS => ?_)
  clear hK
  clear K
  refine wpAnyH_take (i := 33) (v := .agg (bs P).toArray) rfl (by kernel_rfl) (by kernel_rfl) (by kernel_rfl) (fun _ _ _ h => h) (yieldsIf_load_mid (by rfl) _ _ rfl (w2.heap.size) 0 rfl (bs P) _ (fun _ h => h) hu' rfl HIP.out) hS ?_
  simp only [Act.put, List.setIfInBounds_toArray, List.set_cons_succ, List.set_cons_zero]
  refine wpAnyH_take (i := 35) (v := .agg (bs P).toArray) rfl (by kernel_rfl) (by kernel_rfl) (by kernel_rfl) (fun _ _ _ h => h) (yieldsIf_load_mid (by rfl) _ _ rfl (w2.heap.size) 0 rfl (bs P) _ (fun _ h => h) hu' rfl HIP.out) hS ?_
  simp only [Act.put, List.setIfInBounds_toArray, List.set_cons_succ, List.set_cons_zero]
  refine wpAnyH_ready (rs := [34]) (by kernel_rfl) (by simp) ?_
  refine AllReadyH.cons rfl (fun K hK => ?_) (AllReadyH.nil)
  go_simp
  go_at_call 47
  refine (HD1.out _ V20d).mono ?_
  rintro e w21 ⟨rfl, hb21⟩
  have V21 := later V20d hb21
  have T21 := T20d.later hb21
  refine hK.out _ _ T21.range (fun hS => ?_)
  clear hK
  clear K
  refine wpAnyH_ready (rs := [36]) (by kernel_rfl) (by simp) ?_
  refine AllReadyH.cons rfl (fun K hK => ?_) (AllReadyH.nil)
  go_simp
  go_at_call 47
  refine (HD0.out _ V21).mono ?_
  rintro e w22 ⟨rfl, hb22⟩
  have V22 := later V21 hb22
  have T22 := T21.later hb22
  refine hK.out _ _ T22.range (fun hS => ?_)
  clear hK
  clear K
  refine wpAnyH_ready (rs := [37]) (by kernel_rfl) (by simp) ?_
  refine AllReadyH.cons rfl (fun K hK => ?_) (AllReadyH.nil)
  rw [if_pos (by rfl)]
  refine wp_neqArr _ _ _ _ rfl (bs M1).toArray (bs M0).toArray rfl rfl eqg_dig3 (HNE.out _) ?_
  refine hK.out _ _ T22.range (fun hS => ?_)
  clear hK
  clear K
  simp only [Act.put, List.setIfInBounds_toArray, List.set_cons_succ, List.set_cons_zero]
  refine wpAnyH_ready (rs := [38]) (by kernel_rfl) (by simp) ?_
  refine AllReadyH.cons rfl (fun K hK => ?_) (AllReadyH.nil)
  go_simp
  refine hK.out _ _ T22.range (fun hS => ?_)
  clear hK
  clear K
  refine wpAnyH_ready (rs := [39]) (by kernel_rfl) (by simp) ?_
  refine AllReadyH.cons rfl (fun K hK => ?_) (AllReadyH.nil)
  go_simp
  refine hK.out _ _ T22.range (fun hS => ?_)
  clear hK
  clear K
  refine wpAnyH_done (by kernel_rfl) ?_ _
  go_wp2_with fail
  go_ret
  exact ⟨rfl, V22⟩
end Go.Proofs.YtbfoajfpnfkfnaaDoor
set_option linter.unusedVariables false
namespace Go.Proofs.YtbfoajfpnfkfnaaDoor
open Go.RowKit

theorem sd5_len : sd5.length = 32 := rfl
theorem bes_all {h i : Nat} (sd : List Nat) : ∀ x ∈ besL sd h i, AllB x := besL_all sd h i
/-- Verify of what Sign returns: P3.5. -/
theorem Verify_sig (sd M : List Nat) (h i : Nat) (w : World) (hh : h ≤ 6) (hi : i < 2 ^ h) (hM : AllB M) (hMl : M.length ≤ 1000) (hK : Kc w) :
    Calls Tryd.prog 34 #[.agg (bs (nodeL sd h 0)).toArray, .int .i64 (h : Int), .string (mkS M), .string (mkS (sigL sd h i M))] w fun e w' => e = .returned (.tuple #[.int .i64 (i : Int), .int .i64 0]) ∧ Below w.heap.size w w' := by
  have h1 := Verify_any (nodeL sd h 0) M (climbL i (startL sd i) zero68 (digL (msgL (nodeL sd h 0) i M))) (besL sd h i) h i true w (nodeL_len _ _ _) (nodeL_all _ _ _) hh hi hM hMl (climbL_len _ _ _ (startL_len _ _)) (climbL_all _ _ _ (startL_all _ _)) (besL_len _ _ _) (besL_16 _ _ _) (besL_all _ _ _) hK (by
    rw [climb_top i (startL_len _ _) (fun c => digL_le _ c)]
    exact decide_eq_true (over_root sd h i hi))
  exact h1
theorem ssanity_any (w : World) (hk : Kc w) : Calls Tryd.prog 28 #[] w fun e w' => e = .returned (.bool true) ∧ Below w.heap.size w w' := by
  have hM : AllB [109] := by unfold AllB; decide
  have hN : AllB [110] := by unfold AllB; decide
  refine ssanity_aux (nodeL sd5 1 0) (sigL sd5 1 1 [109]) (msgL (nodeL sd5 1 0) 1 [109]) (msgL (nodeL sd5 1 0) 0 [109]) w (Lib.hid (nodeL_len _ _ _)) (Lib.hid (decide_eq_false ex_msg)) (Lib.hid (msgL_len _ _ _)) (Lib.hid (msgL_len _ _ _))
    (Lib.hid fun W hW => seed_any 5 (by decide) W) (Lib.hid fun W hW => Public_any 1 sd5 W (by decide) sd5_all sd5_len (hk.later hW)) (Lib.hid fun W hW => Sign_any 1 1 sd5 [109] W (by decide) (by decide) sd5_all sd5_len hM (by decide) (hk.later hW))
    (Lib.hid fun W hW => Verify_sig sd5 [109] 1 1 W (by decide) (by decide) hM (by decide) (hk.later hW)) ?_ (Lib.hid fun W hW => Sign_spent 1 2 sd5 _ W (by decide) sd5_len (by decide))
    (Lib.hid fun W hW => Public_short 0 _ W (by rw [ext_mkS, mkS_size]; decide)) ?_ (Lib.hid fun W hW => digest_any (nodeL sd5 1 0) [109] 1 (by decide) (nodeL_len _ _ _) (nodeL_all _ _ _) hM (by decide) W (hk.later hW)) (Lib.hid fun W hW => digest_any (nodeL sd5 1 0) [109] 0 (by decide) (nodeL_len _ _ _) (nodeL_all _ _ _) hM (by decide) W (hk.later hW))
  · refine Lib.hid fun W hW => ?_
    have h1 := Verify_any (nodeL sd5 1 0) [110] (climbL 1 (startL sd5 1) zero68 (digL (msgL (nodeL sd5 1 0) 1 [109]))) (besL sd5 1 1) 1 1 false W (nodeL_len _ _ _) (nodeL_all _ _ _) (by decide) (by decide) hN (by decide) (climbL_len _ _ _ (startL_len _ _)) (climbL_all _ _ _ (startL_all _ _)) (besL_len _ _ _) (besL_16 _ _ _) (besL_all _ _ _) (hk.later hW) (decide_eq_false ex_over)
    exact h1
  · refine Lib.hid fun W => ?_
    have hz : AllB (List.replicate 16 0) := fun d hd => by rw [(List.mem_replicate.1 hd).2]; decide
    have h1 := digits_any (List.replicate 16 0) _ (by simp) hz W (Lib.hid rfl)
    refine h1.mono fun e w' ⟨g, he, hg, ha, hb⟩ => ⟨g, he, ⟨?_, ?_, ?_⟩, hb⟩
    · exact ha.cell (j := 0) (isv_get (l := digL (List.replicate 16 0)) (x := 0) (by decide))
    · exact ha.cell (j := 64) (isv_get (l := digL (List.replicate 16 0)) (x := 3) (by decide))
    · exact ha.cell (j := 67) (isv_get (l := digL (List.replicate 16 0)) (x := 0) (by decide))
end Go.Proofs.YtbfoajfpnfkfnaaDoor
