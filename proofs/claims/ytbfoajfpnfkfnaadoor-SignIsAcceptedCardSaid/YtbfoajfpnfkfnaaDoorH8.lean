import Derived.Test.YtbfoajfpnfkfnaaDoorH7
set_option linter.unusedVariables false
namespace Go.Proofs.YtbfoajfpnfkfnaaDoor
open Go.RowKit

theorem begin_stm (w : World) : Calls Tryd.prog 17 #[] w fun e w' => e = .returned (.agg (stm []).toArray) ∧ Below w.heap.size w w' := begin_any w
theorem add_call (m x : List Nat) (hm : AllB m) (hx : AllB x) (w : World) (hk : Kc w) (hsz : m.length + x.length ≤ 1125899906842624) :
    Calls Tryd.prog 18 #[.agg (stm m).toArray, .string (mkS x)] w fun e w' => e = .returned (.agg (stm (m ++ x)).toArray) ∧ Below w.heap.size w w' := by
  have h := add_any m hm (mkS x) w hk (by rw [mkS_size]; exact hsz)
  rwa [sb_mkS x hx] at h
theorem below_drew {B : Nat} {a w : World} (h : Below B a w) : Below B a w.drew := ⟨h.os, h.tape, h.output, h.size, h.block⟩
theorem Kc.drew {w : World} (h : Kc w) : Kc w.drew := h

set_option maxHeartbeats 2000000 in
set_option maxRecDepth 100000 in
theorem sum_aux (A : Option Addr) (m cap : Nat) (zs Z : List Nat) (w : World) (hm : m = zs.length) (hr : Rd w w.heap.size A (bs zs)) (hb : AllB zs) (hk : Kc w) (hsz : zs.length ≤ 1125899906842624) (HZ : Hid (sha zs = Z)) (HZL : Hid (Z.length = 32)) :
    Calls Tryd.prog 14 #[.slice A m cap] w fun e w' => e = .returned (.agg (bs Z).toArray) ∧ Below w.heap.size w w' := by
  have HAdd : Hid (∀ W, Kc W → Calls Tryd.prog 18 #[.agg (stm []).toArray, .string (mkS zs)] W fun e w' => e = .returned (.agg (stm zs).toArray) ∧ Below W.heap.size W w') := fun W hW => add_call [] zs (fun d hd => by cases hd) hb W hW (by simpa using hsz)
  have HSum : Hid (∀ W, Kc W → Calls Tryd.prog 20 #[.agg (stm zs).toArray] W fun e w' => e = .returned (.agg (bs Z).toArray) ∧ Below W.heap.size W w') := fun W hW => by rw [← HZ.out]; exact ssum_any zs hb W hW hsz
  have HCV : Hid (∀ W, Below w.heap.size w W → (convert 22 9 (.slice A m cap)).run Tryd.prog W = .ok (.string (mkS zs)) W) := fun W hW => run_conv w.heap.size m cap A zs W hm (hr.below hW)
  have HBL : Hid ((bs Z).length = 32) := by show (bs Z).length = 32; rw [bs_len, HZL.out]
  have HI5 : Hid ((Tryd.prog.info? 24).map (·.size) = some (bs Z).length) := by show (Tryd.prog.info? 24).map (·.size) = some (bs Z).length; rw [HBL.out]; exact info_sum
  have HB1 : Hid (∀ v ∈ bs Z, v.oneCell' = true) := bs_cell Z
  have HK := Lib.hid hk
  clear HZ hr hb hk hsz hm
  go_enter Tryd.func14, Tryd.ntmps14
  go_upto_region 1 with fail
  have a1 := Arr.new' w 24 #[.int .u8 0, .int .u8 0, .int .u8 0, .int .u8 0, .int .u8 0, .int .u8 0, .int .u8 0, .int .u8 0, .int .u8 0, .int .u8 0, .int .u8 0, .int .u8 0, .int .u8 0, .int .u8 0, .int .u8 0, .int .u8 0, .int .u8 0, .int .u8 0, .int .u8 0, .int .u8 0, .int .u8 0, .int .u8 0, .int .u8 0, .int .u8 0, .int .u8 0, .int .u8 0, .int .u8 0, .int .u8 0, .int .u8 0, .int .u8 0, .int .u8 0, .int .u8 0] 32 (bs (List.replicate 32 0)) rfl (by simp [bs]) (by decide)
  have hbw := new_later w (.cells #[.int .u8 0, .int .u8 0, .int .u8 0, .int .u8 0, .int .u8 0, .int .u8 0, .int .u8 0, .int .u8 0, .int .u8 0, .int .u8 0, .int .u8 0, .int .u8 0, .int .u8 0, .int .u8 0, .int .u8 0, .int .u8 0, .int .u8 0, .int .u8 0, .int .u8 0, .int .u8 0, .int .u8 0, .int .u8 0, .int .u8 0, .int .u8 0, .int .u8 0, .int .u8 0, .int .u8 0, .int .u8 0, .int .u8 0, .int .u8 0, .int .u8 0, .int .u8 0] 24)
  generalize hW : w.alloc (.cells #[.int .u8 0, .int .u8 0, .int .u8 0, .int .u8 0, .int .u8 0, .int .u8 0, .int .u8 0, .int .u8 0, .int .u8 0, .int .u8 0, .int .u8 0, .int .u8 0, .int .u8 0, .int .u8 0, .int .u8 0, .int .u8 0, .int .u8 0, .int .u8 0, .int .u8 0, .int .u8 0, .int .u8 0, .int .u8 0, .int .u8 0, .int .u8 0, .int .u8 0, .int .u8 0, .int .u8 0, .int .u8 0, .int .u8 0, .int .u8 0, .int .u8 0, .int .u8 0] 24) = wa at a1 hbw ⊢
  clear hW
  have hcv0 := HCV.out wa.drew (below_drew hbw)
  go_region_held3 (fun W => (convert 22 9 (.slice A m cap)).run Tryd.prog W = .ok (.string (mkS zs)) W) (first | exact hcv0 | exact HCV.out _ V1 | exact HCV.out _ V2 | exact HCV.out _ V3 | exact HCV.out _ (below_setCells _ _ _ V3 (Nat.le_refl _)))
    (first
    | (go_at_call 17; refine (begin_stm _).mono ?_; rintro e w1 ⟨rfl, hb1⟩; have V1 : Below w.heap.size w w1 := later (below_drew hbw) hb1; have A1 := (show Arr wa.drew _ _ _ _ from a1).later hb1; have hcv1 := HCV.out w1 V1)
    | (go_at_call 18; refine (HAdd.out _ (HK.out.later V1)).mono ?_; rintro e w2 ⟨rfl, hb2⟩; have V2 := later V1 hb2; have A2 := A1.later hb2)
    | (go_at_call 20; refine (HSum.out _ (HK.out.later V2)).mono ?_; rintro e w3 ⟨rfl, hb3⟩; have V3 := later V2 hb3; have A3 := A2.later hb3; have hth : w3.there w.heap.size 0 (bs Z).length := A3.thereAt (by rw [HBL.out]; omega); have hlen := HBL.out; have hone := HB1.out))
  all_goals (go_wp2_with fail)
  all_goals
    (have A4 := A3.setCells (o := 0) (bs Z)
     rw [setAll_all _ _ (by rw [hlen, bs_len]; rfl)] at A4
     exact bodyPost_ret (results_one rfl _ _ w.heap.size (bs Z) _ rfl A4.range Tryd.underlying24 rfl HI5.out) rfl ⟨rfl, below_setCells _ _ _ V3 (Nat.le_refl _)⟩)
theorem sum_any (A : Option Addr) (m cap : Nat) (zs : List Nat) (w : World) (hm : m = zs.length) (hr : Rd w w.heap.size A (bs zs)) (hb : AllB zs) (hk : Kc w) (hsz : zs.length ≤ 1125899906842624) :
    Calls Tryd.prog 14 #[.slice A m cap] w fun e w' => e = .returned (.agg (bs (sha zs)).toArray) ∧ Below w.heap.size w w' :=
  sum_aux A m cap zs (sha zs) w hm hr hb hk hsz (Lib.hid rfl) (Lib.hid (sha_len zs))
end Go.Proofs.YtbfoajfpnfkfnaaDoor
