import Derived.Test.YtbfoajfpnfkfnaaDoorS2
import Derived.Test.YtbfoajfpnfkfnaaDoorG2
set_option linter.unusedVariables false
namespace Go.Proofs.YtbfoajfpnfkfnaaDoor
open Go.RowKit

theorem digL_len (d : List Nat) (hd : d.length = 16) : (digL d).length = 68 := by unfold digL; rw [List.length_append, dg64_len, dig4_len]; omega
theorem slice_hall (W : World) (g : Nat) : (Instr.sliceAt 76 (.pointer (some ⟨g, 0, none⟩)) none none none).run Tryd.prog W = .ok (.slice (some ⟨g, 0, none⟩) 68 68) W := by
  have e : Tryd.prog.arrayLen 76 = 68 := by kernel_rfl
  have e2 : Tryd.prog.elem 76 = 3 := by kernel_rfl
  have hs : ∀ W, (sizeOf (Tryd.prog.elem 76)).run Tryd.prog W = .ok 1 W := fun _ => by kernel_rfl
  have h := run_sliceAt_array_all (P := Tryd.prog) W 76 ⟨g, 0, none⟩ (by rw [e, e2]; exact Tryd.underlying76)
  rw [h, hs W]
  simp [slicedAt, e, add_mid]

set_option maxHeartbeats 1000000 in
set_option maxRecDepth 100000 in
theorem digits_any (d DL : List Nat) (hd : d.length = 16) (hdb : AllB d) (w : World) (HDL : Hid (digL d = DL)) :
    Calls Tryd.prog 29 #[.agg (bs d).toArray] w fun e w' => ∃ g, e = .returned (.slice (some ⟨g, 0, none⟩) 68 68) ∧ w.heap.size ≤ g ∧ Arr w' g 68 76 (isv DL) ∧ Below w.heap.size w w' := by
  have HDO : Hid (∀ W, Calls Tryd.prog 48 #[.agg (bs d).toArray] W fun e w' => e = .returned (.agg (isv DL).toArray) ∧ Below W.heap.size W w') := Lib.hid fun W => by rw [← HDL.out]; exact digitsOf_any d hd hdb W
  have HLb : Hid ((bs d).length = 16) := by show (bs d).length = 16; rw [bs_len, hd]
  have HL : Hid ((isv DL).length = 68) := Lib.hid (by rw [isv_len, ← HDL.out, digL_len d hd])
  have a1 := Arr.new' w 44 (bs d).toArray 16 (bs d) rfl HLb.out (by decide)
  have hbw := new_later w (.cells (bs d).toArray 44)
  have hR := Lib.hid a1.range
  have hsa := fun W g => slice_hall W g
  clear hd hdb a1
  go_enter Tryd.func29, Tryd.ntmps29
  go_wp2_with (first
    | (with_reducible refine wpList_load_mid rfl _ (.tmp 1) rfl w.heap.size _ rfl (bs d) _ hR.out Tryd.underlying44 rfl (by rw [HLb.out]; exact info_dg) ?_)
    | (go_at_call 48; with_reducible refine (HDO.out _).mono ?_; rintro e w3 ⟨rfl, hb3⟩; have V3 := later hbw hb3)
    | (with_reducible refine wpList_store_new rfl _ (.tmp 3) (.tmp 5) rfl rfl rfl info_heights HL.out rfl (all_oneCell_toArray (isv_cell DL)) ?_; intro w5 hbel5 hrow5 hsz5; have A5 : Arr w5 w3.heap.size 68 76 (isv DL) := Arr.of_row hrow5 HL.out (by decide); have V5 := later V3 hbel5))
  go_ret
  exact ⟨_, rfl, V3.size, A5, V5⟩
set_option maxHeartbeats 1000000 in
set_option maxRecDepth 100000 in
theorem stext_any (z : List Nat) (hz : z.length = 16) (w : World) :
    Calls Tryd.prog 63 #[.agg (bs z).toArray] w fun e w' => e = .returned (.string (mkS z)) ∧ Below w.heap.size w w' := by
  have a1 := Arr.new' w 44 (bs z).toArray 16 (bs z) rfl (by rw [bs_len, hz]) (by decide)
  have hbw := new_later w (.cells (bs z).toArray 44)
  have hsl := slice_all (w.alloc (.cells (bs z).toArray 44)) 44 16 w.heap.size 0 (by kernel_rfl) (by kernel_rfl) Tryd.underlying44 (by decide)
  have hrd : Rd (w.alloc (.cells (bs z).toArray 44)) (w.alloc (.cells (bs z).toArray 44)).heap.size (some ⟨w.heap.size, 0, none⟩) (bs z) := .inr ⟨w.heap.size, 0, rfl, a1.lt, fun j u hu => by rw [Nat.zero_add]; exact a1.cell hu⟩
  have hcv := run_conv _ 16 16 _ z _ hz.symm hrd
  clear hz a1 hrd
  go_enter Tryd.func63, Tryd.ntmps63
  go_wp2_with fail
  go_ret
  exact ⟨rfl, hbw⟩
set_option maxHeartbeats 400000 in
set_option maxRecDepth 100000 in
theorem isHeight_yes (h : Nat) (w : World) (hh : h ≤ 6) : Calls Tryd.prog 49 #[.int .i64 (h : Int)] w fun e w' => e = .returned (.bool true) ∧ w' = w := by
  have h0 : (0 : Int) ≤ (h : Int) := by omega
  have h6 : (h : Int) ≤ 6 := by omega
  go_enter Tryd.func49, Tryd.ntmps49
  go_wp2_with fail
  go_ret
  exact ⟨rfl, rfl⟩
set_option maxHeartbeats 1000000 in
set_option maxRecDepth 100000 in
theorem tops_aux (V : List Value) (HVV : Hid (isv (List.replicate 68 3) = V)) (w : World) : Calls Tryd.prog 57 #[] w fun e w' => e = .returned (.agg V.toArray) ∧ Below w.heap.size w w' := by
  go_enter Tryd.func57, Tryd.ntmps57
  go_upto_region 1 with fail
  go_cut [1] (fun r wx => r = .pointer (some ⟨w.heap.size + 1, 0, none⟩) ∧ Arr wx w.heap.size 68 76 (isv (List.replicate 68 0)) ∧ Arr wx (w.heap.size + 1) 68 76 (isv (List.replicate 68 0)) ∧ Below w.heap.size w wx)
  case first =>
    go_wp2_with fail
    go_meet
    exact ⟨rfl, duo_new w _ _ _ _ _ _ _ _ rfl rfl (by simp [isv]) (by simp [isv]) (by decide) (by decide)⟩
  case rest =>
    obtain ⟨rfl, a1, a2, hbw⟩ := hcut
    go_wp2_with fail
    go_loopw [3] (fun i W => ∃ k : Nat, k ≤ 68 ∧ i = .int .i64 (k : Int) ∧ Arr W (w.heap.size + 1) 68 76 (isv (List.replicate k 3 ++ List.replicate (68 - k) 0)) ∧ Only (w.heap.size + 1) wc W) (fun i _ => 68 - (intOf i).toNat)
    case atStart => exact ⟨0, by omega, rfl, a2, Only.refl _ _⟩
    case round =>
      obtain ⟨k, hk, rfl, ha, hO⟩ := hrel
      by_cases hlt : k < 68
      · have hset := isv_set (List.replicate k 3 ++ List.replicate (68 - k) 0) k 3
        have he : (List.replicate k 3 ++ List.replicate (68 - k) 0).set k 3 = List.replicate (k + 1) 3 ++ List.replicate (68 - (k + 1)) 0 := by
          rw [List.set_append_right _ _ (by rw [List.length_replicate]; exact Nat.le_refl _), List.length_replicate, Nat.sub_self, show 68 - k = (68 - (k + 1)) + 1 by omega, List.replicate_succ, List.set_cons_zero, List.replicate_succ']
          simp
        rw [he] at hset
        have HSET := Lib.hid hset
        have hg : (List.replicate k 3 ++ List.replicate (68 - k) 0)[k]? = some 0 := by
          rw [List.getElem?_append_right (by rw [List.length_replicate]; exact Nat.le_refl _), List.length_replicate, Nat.sub_self, List.getElem?_replicate, if_pos (by omega)]
        have hold := ha.cell (isv_get hg)
        have hfr := ha.free k
        have HA := Lib.hid ha
        have hki : (k : Int) < 68 := by omega
        have hk0 : (0 : Int) ≤ (k : Int) := by omega
        clear hset he hg ha
        go_wp2_with fail
        go_roundw
        case rel => exact ⟨k + 1, hlt, by go_num, by rw [← HSET.out]; exact HA.out.set_ _ _, hO.trans (Only.setCell _ _ _ _)⟩
        case measure => simp [intOf]; omega
      · have hk68 : k = 68 := by omega
        subst hk68
        rw [show 68 - 68 = 0 from rfl, List.replicate_zero, List.append_nil, HVV.out] at ha
        have HL : Hid (V.length = 68) := Lib.hid (by rw [← HVV.out, isv_len, List.length_replicate])
        have HI5 : Hid ((Tryd.prog.info? 76).map (·.size) = some V.length) := Lib.hid (by rw [HL.out]; exact info_heights)
        have HV : Hid (∀ v ∈ V, v.oneCell' = true) := Lib.hid (by rw [← HVV.out]; exact isv_cell _)
        have b1 := a1.only hO (by omega)
        have hb1 := hbw.trans (hO.bel.mono (by omega : w.heap.size ≤ w.heap.size + 1))
        have hR := Lib.hid ha.range
        clear ha a1 a2 hbw hO hlt hk
        go_wp2_with (first
          | (with_reducible refine wpList_load_mid rfl _ (.tmp 1) rfl (w.heap.size + 1) 0 rfl V _ hR.out Tryd.underlying76 rfl HI5.out ?_)
          | (refine wpList_store_arr rfl _ (.tmp 0) (.tmp 9) rfl w.heap.size 0 68 76 _ V _ rfl rfl rfl b1 (by rw [HL.out]; omega) HI5.out HV.out ?_; intro w9 f9 o9; have hbw9 := hb1.trans o9.bel; rw [setAll_all _ _ (by rw [HL.out, isv_len]; rfl)] at f9))
        exact bodyPost_ret (results_one rfl _ _ w.heap.size V _ rfl f9.range Tryd.underlying76 rfl HI5.out) rfl ⟨rfl, hbw9⟩
theorem tops_any (w : World) : Calls Tryd.prog 57 #[] w fun e w' => e = .returned (.agg (isv (List.replicate 68 3)).toArray) ∧ Below w.heap.size w w' := tops_aux _ (Lib.hid rfl) w
end Go.Proofs.YtbfoajfpnfkfnaaDoor
