import Derived.Test.YtbfoajfpnfkfnaaDoorS9
import Derived.Deep.RegionHeld3
import Derived.Deep.DeepCutAuto
set_option linter.unusedVariables false
set_option linter.unusedSimpArgs false
namespace Go.Proofs.YtbfoajfpnfkfnaaDoor
open Go.RowKit

def zcs : Array Value := #[.int .u8 0, .int .u8 0, .int .u8 0, .int .u8 0, .int .u8 0, .int .u8 0, .int .u8 0, .int .u8 0, .int .u8 0, .int .u8 0, .int .u8 0, .int .u8 0, .int .u8 0, .int .u8 0, .int .u8 0, .int .u8 0]
theorem three_dig (w : World) (a b : List Nat) (ha : a.length = 16) (hb : b.length = 16) :
    Arr (((w.alloc (.cells (bs a).toArray 44)).alloc (.cells (bs b).toArray 44)).alloc (.cells #[.int .u8 0, .int .u8 0, .int .u8 0, .int .u8 0, .int .u8 0, .int .u8 0, .int .u8 0, .int .u8 0, .int .u8 0, .int .u8 0, .int .u8 0, .int .u8 0, .int .u8 0, .int .u8 0, .int .u8 0, .int .u8 0] 44)) w.heap.size 16 44 (bs a) ∧
    Arr (((w.alloc (.cells (bs a).toArray 44)).alloc (.cells (bs b).toArray 44)).alloc (.cells #[.int .u8 0, .int .u8 0, .int .u8 0, .int .u8 0, .int .u8 0, .int .u8 0, .int .u8 0, .int .u8 0, .int .u8 0, .int .u8 0, .int .u8 0, .int .u8 0, .int .u8 0, .int .u8 0, .int .u8 0, .int .u8 0] 44)) (w.heap.size + 1) 16 44 (bs b) ∧
    Arr (((w.alloc (.cells (bs a).toArray 44)).alloc (.cells (bs b).toArray 44)).alloc (.cells #[.int .u8 0, .int .u8 0, .int .u8 0, .int .u8 0, .int .u8 0, .int .u8 0, .int .u8 0, .int .u8 0, .int .u8 0, .int .u8 0, .int .u8 0, .int .u8 0, .int .u8 0, .int .u8 0, .int .u8 0, .int .u8 0] 44)) (w.heap.size + 1 + 1) 16 44 (bs (List.replicate 16 0)) ∧
    Below w.heap.size w (((w.alloc (.cells (bs a).toArray 44)).alloc (.cells (bs b).toArray 44)).alloc (.cells #[.int .u8 0, .int .u8 0, .int .u8 0, .int .u8 0, .int .u8 0, .int .u8 0, .int .u8 0, .int .u8 0, .int .u8 0, .int .u8 0, .int .u8 0, .int .u8 0, .int .u8 0, .int .u8 0, .int .u8 0, .int .u8 0] 44)) :=
  three_new w _ _ _ _ _ _ _ _ _ _ _ _ rfl rfl rfl (by rw [bs_len, ha]) (by rw [bs_len, hb]) (by simp [bs]) (by decide) (by decide) (by decide)

set_option maxHeartbeats 2000000 in
set_option maxRecDepth 100000 in
theorem parent_aux (a b Z : List Nat) (w : World) (ha : a.length = 16) (hb : b.length = 16) (HZL : Hid (Z.length = 16))
    (HO : Hid (∀ W, Below w.heap.size w W → Calls Tryd.prog 24 #[.int .i64 2, .slice (some ⟨W.heap.size, 0, none⟩) 2 2] (W.alloc (.cells #[.string (mkS a), .string (mkS b)] 9)) fun e w' => e = .returned (.agg (bs Z).toArray) ∧ Below W.heap.size W w')) :
    Calls Tryd.prog 66 #[.agg (bs a).toArray, .agg (bs b).toArray] w fun e w' => e = .returned (.agg (bs Z).toArray) ∧ Below w.heap.size w w' := by
  have HTA : Hid (∀ W, Calls Tryd.prog 63 #[.agg (bs a).toArray] W fun e w' => e = .returned (.string (mkS a)) ∧ Below W.heap.size W w') := Lib.hid fun W => stext_any a ha W
  have HTB : Hid (∀ W, Calls Tryd.prog 63 #[.agg (bs b).toArray] W fun e w' => e = .returned (.string (mkS b)) ∧ Below W.heap.size W w') := Lib.hid fun W => stext_any b hb W
  have hini := three_dig w a b ha hb
  have HAB : Hid ((bs a).length = 16) := Lib.hid (by rw [bs_len, ha])
  have HBB : Hid ((bs b).length = 16) := Lib.hid (by rw [bs_len, hb])
  have HZB : Hid ((bs Z).length = 16) := Lib.hid (by rw [bs_len, HZL.out])
  clear ha hb
  go_enter Tryd.func66, Tryd.ntmps66
  go_upto_region 1 with fail
  generalize hW : ((w.alloc (.cells (bs a).toArray 44)).alloc (.cells (bs b).toArray 44)).alloc (.cells #[.int .u8 0, .int .u8 0, .int .u8 0, .int .u8 0, .int .u8 0, .int .u8 0, .int .u8 0, .int .u8 0, .int .u8 0, .int .u8 0, .int .u8 0, .int .u8 0, .int .u8 0, .int .u8 0, .int .u8 0, .int .u8 0] 44) = wa at hini ⊢
  clear hW
  obtain ⟨A1, A2, A3, VV⟩ := hini
  replace VV : Below w.heap.size w wa.drew := below_drew VV
  replace A1 : Arr wa.drew w.heap.size 16 44 (bs a) := A1
  replace A2 : Arr wa.drew (w.heap.size + 1) 16 44 (bs b) := A2
  replace A3 : Arr wa.drew (w.heap.size + 1 + 1) 16 44 (bs (List.replicate 16 0)) := A3
  have hu := Tryd.underlying44
  have hia : (Tryd.prog.info? 44).map (·.size) = some (bs a).length := by rw [HAB.out]; exact info_dig
  have hib : (Tryd.prog.info? 44).map (·.size) = some (bs b).length := by rw [HBB.out]; exact info_dig
  have hiz : (Tryd.prog.info? 44).map (·.size) = some (bs Z).length := by rw [HZB.out]; exact info_dig
  have hzl : (bs Z).length = 16 := HZB.out
  have hz1 : ∀ v ∈ bs Z, v.oneCell' = true := bs_cell Z
  refine wp_region_held_drew (S := fun W => W.rangeAt (w.heap.size) 0 (bs a) ∧ W.rangeAt (w.heap.size + 1) 0 (bs b)) (by kernel_rfl) ⟨A1.range, A2.range⟩ (fun hS => ?_)
  refine wpAnyH_take (i := 0) (v := .agg (bs a).toArray) rfl (by kernel_rfl) (by kernel_rfl) (by kernel_rfl) (fun _ _ _ h => h) (yieldsIf_load_mid (by rfl) _ _ rfl (w.heap.size) 0 rfl (bs a) _ (fun _ h => h.1) hu rfl hia) hS ?_
  simp only [Act.put, List.setIfInBounds_toArray, List.set_cons_succ, List.set_cons_zero]
  refine wpAnyH_take (i := 2) (v := .agg (bs b).toArray) rfl (by kernel_rfl) (by kernel_rfl) (by kernel_rfl) (fun _ _ _ h => h) (yieldsIf_load_mid (by rfl) _ _ rfl (w.heap.size + 1) 0 rfl (bs b) _ (fun _ h => h.2) hu rfl hib) hS ?_
  simp only [Act.put, List.setIfInBounds_toArray, List.set_cons_succ, List.set_cons_zero]
  refine wpAnyH_ready (rs := [1]) (by kernel_rfl) (by simp) ?_
  refine AllReadyH.cons rfl (fun K hK => ?_) (AllReadyH.nil)
  go_simp
  go_at_call 63
  refine (HTA.out _).mono ?_
  rintro e w1 ⟨rfl, hb1⟩
  replace VV := later VV hb1
  replace A1 := A1.later hb1
  replace A2 := A2.later hb1
  replace A3 := A3.later hb1
  clear hb1
  refine hK.out _ _ ⟨A1.range, A2.range⟩ (fun hS => ?_)
  clear hK
  clear K
  refine wpAnyH_ready (rs := [3]) (by kernel_rfl) (by simp) ?_
  refine AllReadyH.cons rfl (fun K hK => ?_) (AllReadyH.nil)
  go_simp
  go_at_call 63
  refine (HTB.out _).mono ?_
  rintro e w2 ⟨rfl, hb2⟩
  replace VV := later VV hb2
  replace A1 := A1.later hb2
  replace A2 := A2.later hb2
  replace A3 := A3.later hb2
  clear hb2
  refine hK.out _ _ ⟨A1.range, A2.range⟩ (fun hS => ?_)
  clear hK
  clear K
  refine wpAnyH_ready (rs := [4]) (by kernel_rfl) (by simp) ?_
  refine AllReadyH.cons rfl (fun K hK => ?_) (AllReadyH.nil)
  go_simp
  refine hK.out _ _ ⟨(A1.later (new_later _ _)).range, (A2.later (new_later _ _)).range⟩ (fun hS => ?_)
  clear hK
  clear K
  refine wpAnyH_ready (rs := [5]) (by kernel_rfl) (by simp) ?_
  refine AllReadyH.cons rfl (fun K hK => ?_) (AllReadyH.nil)
  go_simp
  go_at_call 24
  refine (HO.out _ VV).mono ?_
  rintro e w3 ⟨rfl, hb3⟩
  replace VV := later VV hb3
  replace A1 := A1.later hb3
  replace A2 := A2.later hb3
  replace A3 := A3.later hb3
  clear hb3
  refine hK.out _ _ ⟨A1.range, A2.range⟩ (fun hS => ?_)
  clear hK
  clear K
  refine wpAnyH_ready (rs := [6]) (by kernel_rfl) (by simp) ?_
  refine AllReadyH.cons rfl (fun K hK => ?_) (AllReadyH.nil)
  have B3 := A3.setCells (o := 0) (bs Z)
  rw [setAll_all _ _ (by rw [HZB.out]; simp [bs])] at B3
  have O3 := Only.setCells (w.heap.size + 1 + 1) 0 (bs Z) w3
  rw [if_pos (by rfl)]
  refine wp_store_mid _ _ _ rfl (w.heap.size + 1 + 1) 0 (bs Z).toArray rfl rfl (by have := A3.there; simpa [HZB.out] using this) (by simpa using hiz) (all_oneCell_toArray hz1) ?_
  refine hK.out _ _ ⟨(A1.only O3 (by omega)).range, (A2.only O3 (by omega)).range⟩ (fun hS => ?_)
  clear hK
  clear K
  refine wpAnyH_done (by kernel_rfl) ?_ _
  go_wp2_with fail
  exact bodyPost_ret (results_one rfl _ _ (w.heap.size + 1 + 1) (bs Z) _ rfl B3.range Tryd.underlying44 rfl hiz) rfl ⟨rfl, VV.trans (O3.bel.mono (by omega))⟩
theorem parent_any (a b : List Nat) (w : World) (ha : a.length = 16) (hb : b.length = 16) (haB : AllB a) (hbB : AllB b) (hk : Kc w) :
    Calls Tryd.prog 66 #[.agg (bs a).toArray, .agg (bs b).toArray] w fun e w' => e = .returned (.agg (bs (parL a b)).toArray) ∧ Below w.heap.size w w' :=
  parent_aux a b (parL a b) w ha hb (Lib.hid (ofd_len _ _)) (Lib.hid fun W hW => of2 2 (by decide) a b haB (by rw [ha]; decide) hbB (by rw [hb]; decide) W (hk.later hW))
end Go.Proofs.YtbfoajfpnfkfnaaDoor
