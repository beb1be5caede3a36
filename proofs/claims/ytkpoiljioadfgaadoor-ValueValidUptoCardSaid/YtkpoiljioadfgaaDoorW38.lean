import Derived.Test.YtkpoiljioadfgaaDoorW34
import Derived.Test.YtkpoiljioadfgaaDoorW35
set_option linter.unusedVariables false
set_option linter.unusedSimpArgs false
namespace Go.Proofs.YtkpoiljioadfgaaDoor
open Go.RowKit
set_option maxHeartbeats 8000000 in
set_option maxRecDepth 100000 in
theorem sp_step3 (k n:Int) (ks:List Tr) (A:Option Addr) (m cap:Nat) (F:Nat → Prop) (w:World) (hm:m = ks.length) (hk:KsF F w A 0 ks) (hF:∀ g,F g → g < w.heap.size) (HM:Hid (m ≤ cap ∧ cap ≤ maxLen ∧ i64r k ∧ i64r n)) (hN:nodesL ks ≤ 256) (at_ how by_:Int) (ha:i64r at_) (hh:i64r how) (hb:i64r by_) (hq:ar how 5 = 3)
  (ih:Hid (∀ (j:Nat) (x:Tr),ks[j]? = some x → ∀ (F':Nat → Prop) (W:World) (v:Value) (a':Int),(∀ g,F' g → g < W.heap.size) → i64r a' → TrF F' W x v → Calls Tryd.prog 24 #[v,.int .i64 a',.int .i64 how,.int .i64 by_] W (SpR F' x W))) :
  Calls Tryd.prog 24 #[.agg #[.int .i64 k,.int .i64 n,.slice A m cap],.int .i64 at_,.int .i64 how,.int .i64 by_] w (SpR F (.node k n ks) w):=by
 have P4:Arr ((w.alloc (.cells #[.int .i64 k,.int .i64 n,.slice A m cap] 53)).alloc (.cells #[.int .i64 0,.int .i64 0,.slice none 0 0] 53)) w.heap.size 3 53 [.int .i64 k,.int .i64 n,.slice A m cap]:=(Arr.new' w _ _ 3 _ rfl rfl (by decide)).later (new_later (w.alloc (.cells #[.int .i64 k,.int .i64 n,.slice A m cap] 53)) (.cells #[.int .i64 0,.int .i64 0,.slice none 0 0] 53))
 have P8:Arr ((w.alloc (.cells #[.int .i64 k,.int .i64 n,.slice A m cap] 53)).alloc (.cells #[.int .i64 0,.int .i64 0,.slice none 0 0] 53)) (w.heap.size + 1) 3 53 [.int .i64 0,.int .i64 0,.slice none 0 0]:=by
  have h:=Arr.new' (w.alloc (.cells #[.int .i64 k,.int .i64 n,.slice A m cap] 53)) 53 #[.int .i64 0,.int .i64 0,.slice none 0 0] 3 [.int .i64 0,.int .i64 0,.slice none 0 0] rfl rfl (by decide)
  rw [World.size_alloc] at h;exact h
 have V0:=later (new_later w (.cells #[.int .i64 k,.int .i64 n,.slice A m cap] 53)) (new_later (w.alloc (.cells #[.int .i64 k,.int .i64 n,.slice A m cap] 53)) (.cells #[.int .i64 0,.int .i64 0,.slice none 0 0] 53))
 generalize hW:(w.alloc (.cells #[.int .i64 k,.int .i64 n,.slice A m cap] 53)).alloc (.cells #[.int .i64 0,.int .i64 0,.slice none 0 0] 53) = wa at P4 P8 V0
 have HKW:Hid (∀ W,Below w.heap.size w W → KsF F W A 0 ks):=Lib.hid fun W h => hk.later_ hF h
 have HMm:=Lib.hid hm
 have hln:ks.length ≤ 256:=by
  have:∀ (l:List Tr),l.length ≤ nodesL l:=by
   intro l
   induction l with
   | nil => simp [nodesL]
   | cons z l ih => rw [nodesL,List.length_cons];have:=z.nodes_pos;omega
  have:=this ks;omega
 have HFF:=Lib.hid hF
 have HNN:=Lib.hid hN
 have HAR:Hid (∀ W,Calls Tryd.prog 12 #[.int .i64 how,.int .i64 5] W fun e w' => e = .returned (.int .i64 3) ∧ w' = W):=Lib.hid fun W => by
  have h:=Around_any how 5 (by decide) (by decide) hh W
  rw [hq] at h;exact h
 have HH:=Lib.hid (And.intro ha hb)
 have hgl:=P8.lt
 have hmi:(m:Int) ≤ 256:=by omega
 have HLN:=Lib.hid hln
 clear hk hF hN hh ha hb hq hm hln
 have HP4:=Lib.hid P4
 have HP8:=Lib.hid P8
 have HV0:=Lib.hid V0
 clear P4 P8 V0
 go_enter Tryd.func24,Tryd.ntmps24
 go_upto_region 1 with fail
 clear hW
 by_cases h0:(0:Int) < at_
 ·go_wp2_with fail
  go_loopw [1,9] (fun av iv W' => ∃ (i:Nat) (a:Int),i ≤ m ∧ iv = .int .i64 (i:Int) ∧ av = .int .i64 a ∧ (0 < a ∧ a ≤ at_) ∧ Below wa.heap.size wa W') (fun _ iv _ => m - (intOf iv).toNat)
  case atStart => exact ⟨0,at_,Nat.zero_le _,by go_num,rfl,⟨h0,Int.le_refl _⟩,Below.refl _ _⟩
  case round =>
   obtain ⟨i,a,hi,rfl,rfl,⟨ha0,ha1⟩,hbr⟩:=hrel
   have HP4r:=Lib.hid (HP4.out.later hbr)
   have HP8r:=Lib.hid (HP8.out.later hbr)
   have HVr:=Lib.hid (later HV0.out hbr)
   have HBR:=Lib.hid hbr
   have hgr:w.heap.size + 1 < wr.heap.size:=by have:=hbr.size;omega
   clear hbr
   have hi0:(0:Int) ≤ (i:Int):=by omega
   have x2:=HP4r.out.cell (j:=2) (v:=.slice A m cap) rfl
   by_cases hlt:i < m
   ·have hli:(i:Int) < (m:Int):=by omega
    have hki:ks[i]? = some (ks[i]'(by rw [← HMm.out];exact hlt)):=List.getElem?_eq_getElem _
    obtain ⟨g,o,C,hA,hgF,hr,hT⟩:=(HKW.out wr HVr.out).get hki
    subst hA
    rw [Nat.zero_add] at hr
    obtain ⟨x,hx⟩:∃ x,ks[i]'(by rw [← HMm.out];exact hlt) = x:=⟨_,rfl⟩
    rw [hx] at hki hT
    have hxn:=kid_nodes hki
    obtain ⟨nx,hnx⟩:∃ nx,x.nodes = nx:=⟨_,rfl⟩
    have hnx1:(1:Int) ≤ (nx:Int):=by have:=x.nodes_pos;omega
    have hnx2:(nx:Int) ≤ 256:=by have:=HNN.out;omega
    have HSI:Hid (Calls Tryd.prog 29 #[.agg C.toArray] wr (NumRes (nx:Int) wr)):=Lib.hid (by
     have h:=rsize_any x.nodes x (Nat.le_refl _) wr _ hT.at_
     rwa [Tr.sz_eq' x (by have:=HNN.out;omega),hnx] at h)
    have HI3:Hid ((Tryd.prog.info? 53).map (·.size) = some C.length):=Lib.hid (by rw [(trf_len hT).1];exact info_val)
    have HRr:=Lib.hid hr
    have HKI:=Lib.hid hki
    have HNX:=Lib.hid hnx
    have haw:i64r a:=by have:=HH.out.1;unfold i64r at this ⊢;omega
    have haw1:a ≤ 9223372036854775807:=haw.2
    clear hr hT hki hx hxn hnx hgF
    by_cases hle:a ≤ (nx:Int)
    ·go_upto_region 9 with (first
      | (with_reducible refine wpList_load_mid rfl _ (.tmp 25) rfl g (o + i * 3) rfl C _ HRr.out Tryd.underlying53 rfl HI3.out ?_)
      | (go_at_call 29;(with_reducible refine HSI.out.mono ?_);rintro e w6 ⟨rfl,hb6⟩;have HB6:=Lib.hid hb6;have x2b:=(HP4r.out.later hb6).cell (j:=2) (v:=.slice (some ⟨g,o,none⟩) m cap) rfl;clear hb6)
      | (at_builtin;refine wpList_copyK (B:=w6.heap.size) (HKW.out w6 (later HVr.out HB6.out)) HMm.out (by have:=HLN.out;omega) rfl rfl _ _ rfl rfl rfl ?_;intro v7 w7 hK hb7;obtain ⟨RA,rn,rc,hv7,hrn⟩:=hK.shape;subst hv7;have HKR:=Lib.hid hK;have HB7:=Lib.hid (later HB6.out hb7);have x2c:=((HP4r.out.later HB6.out).later hb7).cell (j:=2) (v:=.slice (some ⟨g,o,none⟩) m cap) rfl;have f2c:=((HP4r.out.later HB6.out).later hb7).free 2;clear hK hb7))
     have HP4x:Hid (Arr (w7.setCell ⟨w.heap.size,2,none⟩ (.slice RA rn rc)) w.heap.size 3 53 [.int .i64 k,.int .i64 n,.slice RA rn rc]):=Lib.hid ((HP4r.out.later HB7.out).set_ 2 _)
     have HP8x:Hid (Arr (w7.setCell ⟨w.heap.size,2,none⟩ (.slice RA rn rc)) (w.heap.size + 1) 3 53 [.int .i64 0,.int .i64 0,.slice none 0 0]):=Lib.hid ((HP8r.out.later HB7.out).other (by omega) _)
     have HVx:Hid (Below w.heap.size w (w7.setCell ⟨w.heap.size,2,none⟩ (.slice RA rn rc))):=Lib.hid ((later HVr.out HB7.out).setCell (p:=⟨w.heap.size,2,none⟩) (Nat.le_refl _) _)
     have hk0:0 < ks.length:=by have:=HMm.out;omega
     obtain ⟨h,hRA,hgB,hgl7⟩:=HKR.out.some_ hk0
     subst hRA
     have hw6:wr.heap.size ≤ w6.heap.size:=HB6.out.size
     have HKx:Hid (KRow F (w7.setCell ⟨w.heap.size,2,none⟩ (.slice (some ⟨h,0,none⟩) rn rc)) w6.heap.size (.slice (some ⟨h,0,none⟩) rn rc) ks):=Lib.hid (HKR.out.keep (fun _ h => h) (fun g hg hl => Below.heap_setCell _ _ _ _ (by have:=HFF.out g hg;simp;omega)) (fun g hg hl => by simp [Value.ownBlock] at hg;subst hg;exact Below.heap_setCell _ _ _ _ (by simp;omega)))
     have hsz8:h < (w7.setCell ⟨w.heap.size,2,none⟩ (.slice (some ⟨h,0,none⟩) rn rc)).heap.size:=by rw [World.size_setCell];exact hgl7
     clear HKR HB7 x2c f2c x2b x2
     generalize w7.setCell ⟨w.heap.size,2,none⟩ (.slice (some ⟨h,0,none⟩) rn rc) = w8 at HP4x HP8x HVx HKx hsz8 ⊢
     obtain ⟨C',R,hO,hC,hC3,hT⟩:=HKx.out.get HKI.out
     refine spreg9 (by kernel_rfl) _ _ w.heap.size h i rn rc a how by_ k n R C' x F (fun g => w8.heap[g]?) rfl rfl rfl rfl rfl rfl HP4x.out hO hC hC3 hT (fun g hg => Nat.lt_of_lt_of_le (HFF.out g hg) HVx.out.size) (fun _ _ => rfl) (by have:=hrn.out.1;have:=HMm.out;omega) hi0 ha0 haw (fun F' W v a' h1 h2 h3 => ih.out i x HKI.out F' W v a' h1 h2 h3) ?_
     intro vs9 w9 y yk yn yA yl yc hb9 hT9 hN9 a9 ha9
     simp only [spD9,List.cons_append,List.nil_append,List.foldl_cons,List.foldl_nil,Act.put,List.setIfInBounds_toArray,List.set_cons_succ,List.set_cons_zero] at ha9
     subst ha9
     have hO9:=Only.setCells h (i * 3) [.int .i64 yk,.int .i64 yn,.slice yA yl yc] w9
     have HP4w:Hid (Arr (w9.setCells h (i * 3) [.int .i64 yk,.int .i64 yn,.slice yA yl yc]) w.heap.size 3 53 [.int .i64 k,.int .i64 n,.slice (some ⟨h,0,none⟩) rn rc]):=Lib.hid ((HP4x.out.later hb9).only hO9 (by omega))
     have HP8w:Hid (Arr (w9.setCells h (i * 3) [.int .i64 yk,.int .i64 yn,.slice yA yl yc]) (w.heap.size + 1) 3 53 [.int .i64 0,.int .i64 0,.slice none 0 0]):=Lib.hid ((HP8x.out.later hb9).only hO9 (by omega))
     have HVw:Hid (Below w.heap.size w (w9.setCells h (i * 3) [.int .i64 yk,.int .i64 yn,.slice yA yl yc])):=Lib.hid ((later HVx.out hb9).trans (hO9.1.mono (by omega)))
     have HKw:Hid (KRow (fun g => F g ∨ (F g ∨ w8.heap.size ≤ g)) (w9.setCells h (i * 3) [.int .i64 yk,.int .i64 yn,.slice yA yl yc]) w6.heap.size (.slice (some ⟨h,0,none⟩) rn rc) (ks.set i y)):=Lib.hid (KRow.set_ (C:=[.int .i64 yk,.int .i64 yn,.slice yA yl yc]) (HKx.out.keep (fun _ h => h) (fun g hg hl => hb9.block g hl) (fun g hg hl => hb9.block g hl)) (by have:=HMm.out;omega) hT9 (fun g hg => by have:=HFF.out g hg;omega) (fun g hg => by rcases hg with hg | hg;have:=HFF.out g hg;omega;omega))
     have HN9:Hid (nodesL (ks.set i y) ≤ nodesL ks + 1):=Lib.hid (nodesL_set ks i x y 1 HKI.out hN9)
     have hV8:w.heap.size + 1 < w8.heap.size:=by have:=HP8x.out.lt;omega
     clear hO hC hC3 hT hb9 hT9 hN9 hO9 HP4x HP8x HVx HKx
     generalize w9.setCells h (i * 3) [.int .i64 yk,.int .i64 yn,.slice yA yl yc] = w10 at HP4w HP8w HVw HKw ⊢
     have HRB:=Lib.hid HP4w.out.range
     have HIV:Hid ((Tryd.prog.info? 53).map (·.size) = some ([.int .i64 k,.int .i64 n,.slice (some ⟨h,0,none⟩) rn rc]:List Value).length):=Lib.hid info_val
     go_wp2_with (first
      | (with_reducible refine wpList_load_mid rfl _ (.tmp 4) rfl w.heap.size 0 rfl [.int .i64 k,.int .i64 n,.slice (some ⟨h,0,none⟩) rn rc] _ HRB.out Tryd.underlying53 rfl HIV.out ?_)
      | (refine wpList_store_arr rfl _ (.tmp 8) (.tmp 50) rfl (w.heap.size + 1) 0 3 53 _ [.int .i64 k,.int .i64 n,.slice (some ⟨h,0,none⟩) rn rc] [.int .i64 0,.int .i64 0,.slice none 0 0] rfl rfl rfl HP8w.out (show 0 + 3 ≤ 3 by omega) info_val (List.all_eq_true.mp (by rfl)) ?_;intro w11 f11 o11))
     rw [setAll_all [.int .i64 0,.int .i64 0,.slice none 0 0] [.int .i64 k,.int .i64 n,.slice (some ⟨h,0,none⟩) rn rc] rfl] at f11
     refine bodyPost_ret (results_one rfl _ _ (w.heap.size + 1) [.int .i64 k,.int .i64 n,.slice (some ⟨h,0,none⟩) rn rc] _ rfl f11.range Tryd.underlying53 rfl info_val) rfl ?_
     refine ⟨.node k n (ks.set i y),k,n,some ⟨h,0,none⟩,rn,rc,rfl,(HKw.out.tree k n HM.out.2.2.1 HM.out.2.2.2).keep (fun g hg => ?_) (fun g hg _ => o11.2 g ?_),by rw [nodes_node,nodes_node];have:=HN9.out;omega,HVw.out.trans (o11.bel.mono (by omega))⟩
     ·rcases hg with (hg | hg | hg) | hg
      ·exact .inl hg
      ·exact .inl hg
      ·exact .inr (by omega)
      ·exact .inr (by omega)
     ·rcases hg with (hg | hg | hg) | hg
      ·have:=HFF.out g hg;omega
      ·have:=HFF.out g hg;omega
      ·omega
      ·omega
    ·have hgt:(nx:Int) < a:=by omega
     go_wp2_with (first
      | (with_reducible refine wpList_load_mid rfl _ (.tmp 25) rfl g (o + i * 3) rfl C _ HRr.out Tryd.underlying53 rfl HI3.out ?_)
      | (go_at_call 29;(with_reducible refine HSI.out.mono ?_);rintro e w6 ⟨rfl,hb6⟩;have HB6:=Lib.hid hb6;clear hb6))
     go_roundw
     case rel => exact ⟨i + 1,a - (nx:Int),hlt,by go_num,by go_num,⟨by omega,by omega⟩,later HBR.out HB6.out⟩
     case measure => simp [intOf];omega
   ·have hli:¬ (i:Int) < (m:Int):=by omega
    have x2z:=HP4r.out.cell (j:=2) (v:=.slice A m cap) rfl
    go_upto_region 14 with (at_builtin;refine wpList_copyK (B:=wr.heap.size) (HKW.out wr HVr.out) HMm.out (by have:=HLN.out;omega) rfl rfl _ _ rfl rfl rfl ?_;intro v7 w7 hK hb7;obtain ⟨RA,rn,rc,hv7,hrn⟩:=hK.shape;subst hv7;have HKR:=Lib.hid hK;have HB7:=Lib.hid hb7;clear hK hb7)
    clear x2z
    have x2y:=(HP4r.out.later HB7.out).cell (j:=2) (v:=.slice A m cap) rfl
    have f2y:=(HP4r.out.later HB7.out).free 2
    go_upto_region 15 with fail
    clear x2y f2y
    have HP4y:Hid (Arr (w7.setCell ⟨w.heap.size,2,none⟩ (.slice RA rn rc)) w.heap.size 3 53 [.int .i64 k,.int .i64 n,.slice RA rn rc]):=Lib.hid ((HP4r.out.later HB7.out).set_ 2 _)
    have HP8y:Hid (Arr (w7.setCell ⟨w.heap.size,2,none⟩ (.slice RA rn rc)) (w.heap.size + 1) 3 53 [.int .i64 0,.int .i64 0,.slice none 0 0]):=Lib.hid ((HP8r.out.later HB7.out).other (by omega) _)
    have HVy:Hid (Below w.heap.size w (w7.setCell ⟨w.heap.size,2,none⟩ (.slice RA rn rc))):=Lib.hid ((later HVr.out HB7.out).setCell (p:=⟨w.heap.size,2,none⟩) (Nat.le_refl _) _)
    have HKy:Hid (KRow F (w7.setCell ⟨w.heap.size,2,none⟩ (.slice RA rn rc)) wr.heap.size (.slice RA rn rc) ks):=Lib.hid (HKR.out.keep (fun _ h => h) (fun g hg hl => Below.heap_setCell _ _ _ _ (by have:=HFF.out g hg;simp;omega)) (fun g hg hl => by
     obtain ⟨L,h1,_⟩:=HKR.out
     have:=(World.ownsRow.lt h1 g hg).1
     exact Below.heap_setCell _ _ _ _ (by simp;omega)))
    have hby1:wr.heap.size ≤ (w7.setCell ⟨w.heap.size,2,none⟩ (.slice RA rn rc)).heap.size:=by rw [World.size_setCell];exact HB7.out.size
    clear HKR HB7
    generalize w7.setCell ⟨w.heap.size,2,none⟩ (.slice RA rn rc) = wy at HP4y HP8y HVy HKy hby1 ⊢
    have HBY1:Hid (wr.heap.size ≤ wy.heap.size):=Lib.hid hby1
    clear hby1
    have hrn1:=hrn.out.1
    obtain ⟨L,hL1,hL2,hL3,hL4⟩:=HKy.out
    have hGL:GrowG 53 3 PC wy wr.heap.size (.slice RA rn rc) L:=⟨L,by rw [hL2];exact hL1,rfl,hL3,fun i x C h1 h2 => Foot.const (by rw [h1] at h2;exact (Option.some.inj h2).symm)⟩
    have hszy:wr.heap.size ≤ wy.heap.size:=by have:=HP8y.out.lt;exact (by have:=HBY1.out;omega)
    go_upto_region 23 with (go_at_call 12;(with_reducible refine (HAR.out _).mono ?_);rintro e w' ⟨rfl,hww⟩;rw [hww];clear hww)
    refine ksreg23 (by kernel_rfl) _ _ w.heap.size (.slice RA rn rc) wr.heap.size L (.int .i64 k) (.int .i64 n) by_ ((ar by_ 5:Nat):Int) (by rw [hL2];have:=HLN.out;omega) rfl rfl rfl (by omega) hszy HP4y.out hGL (fun W => (Around_any by_ 5 (by decide) (by decide) HH.out.2 W).mono (by rintro e w' ⟨rfl,rfl⟩;exact ⟨rfl,Below.refl _ _⟩)) ?_
    intro vs23 kv w10 hG hnew hA4 hb0 hsame a23 ha23
    simp only [ksD23,List.cons_append,List.nil_append,List.foldl_cons,List.foldl_nil,Act.put,List.setIfInBounds_toArray,List.set_cons_succ,List.set_cons_zero] at ha23
    subst ha23
    obtain ⟨RA2,rc2,hkv,hrc2,hmx2⟩:=hG.shape
    subst hkv
    have hln2:(L ++ [([.int .i64 ((ar by_ 5:Nat):Int),.int .i64 0,.slice none 0 0]:List Value)]).length = rn + 1:=by rw [List.length_append,hL2,hrn1];rfl
    rw [hln2] at hG hA4 hnew hrc2
    have hown:∀ g,(Value.slice RA rn rc).ownBlock = some g → wr.heap.size ≤ g:=fun g e => (World.ownsRow.lt hL1 g e).1
    have HP4w:Hid (Arr w10 w.heap.size 3 53 [.int .i64 k,.int .i64 n,.slice RA2 (rn + 1) rc2]):=Lib.hid hA4
    have HP8w:Hid (Arr w10 (w.heap.size + 1) 3 53 [.int .i64 0,.int .i64 0,.slice none 0 0]):=Lib.hid (arr_same HP8y.out (hsame _ HP8y.out.lt (by omega) (fun e => by have:=hown _ e;omega)))
    have hF0:∀ g,F g → w10.heap[g]? = wy.heap[g]?:=fun g hg => hsame g (by have:=HFF.out g hg;have:=HP8y.out.lt;omega) (by have:=HFF.out g hg;omega) (fun e => by have:=hown _ e;have:=HFF.out g hg;omega)
    have HVw:Hid (Below w.heap.size w w10):=Lib.hid (HVy.out.trans ⟨hb0.os,hb0.tape,hb0.output,hb0.size,fun g hg => hsame g (by have:=HP8y.out.lt;omega) (by omega) (fun e => by have:=hown _ e;omega)⟩)
    have HKw:Hid (KRow F w10 wr.heap.size (.slice RA2 (rn + 1) rc2) (ks ++ [.node ((ar by_ 5:Nat):Int) 0 []])):=Lib.hid (by
     obtain ⟨L2,g1,g2,g3,g4⟩:=hG
     have hLL:L2 = L ++ [([.int .i64 ((ar by_ 5:Nat):Int),.int .i64 0,.slice none 0 0]:List Value)]:=List.ext_getElem? fun i => by
      by_cases hi:i < L2.length
      ·have h1:=List.getElem?_eq_getElem hi
       have h2:=List.getElem?_eq_getElem (l:=L ++ [([.int .i64 ((ar by_ 5:Nat):Int),.int .i64 0,.slice none 0 0]:List Value)]) (i:=i) (by omega)
       have h3:PC _ _ _:=(g4 i _ _ h2 h1).now
       rw [h1,h2]
       exact congrArg some h3
      ·rw [List.getElem?_eq_none (by omega),List.getElem?_eq_none (by omega)]
     subst hLL
     refine ⟨L ++ [([.int .i64 ((ar by_ 5:Nat):Int),.int .i64 0,.slice none 0 0]:List Value)],?_,by rw [List.length_append,List.length_append,hL2];rfl,g3,fun i x D hx hD => ?_⟩
     ·have e1:(ks ++ [Tr.node ((ar by_ 5:Nat):Int) 0 []]).length = (L ++ [([.int .i64 ((ar by_ 5:Nat):Int),.int .i64 0,.slice none 0 0]:List Value)]).length:=by rw [List.length_append,List.length_append,hL2];rfl
      rw [e1];exact g1
     ·rcases snoc_get hx with h1 | ⟨rfl,rfl⟩
      ·have hi:=(List.getElem?_eq_some_iff.1 h1).1
       rw [List.getElem?_append_left (by rw [hL2];exact hi)] at hD
       exact (hL4 i x D h1 hD).keep (fun _ h => h) (fun g hg _ => hF0 g hg)
      ·rw [List.getElem?_append_right (by rw [hL2];exact Nat.le_refl _),hL2,Nat.sub_self] at hD
       simp at hD
       subst hD
       unfold TrF
       exact ⟨none,0,rfl,⟨Nat.le_refl _,by simp [maxLen],by unfold i64r;have:=ar_lt by_ 5 (by decide);omega,by unfold i64r;omega⟩,by unfold KsF;trivial⟩)
    clear HKy HP4y HP8y HVy hG hA4 hb0 hsame hL1 hL2 hL3 hL4 hGL hnew hF0 hown
    have HRB:=Lib.hid HP4w.out.range
    have HIV:Hid ((Tryd.prog.info? 53).map (·.size) = some ([.int .i64 k,.int .i64 n,.slice RA2 (rn + 1) rc2]:List Value).length):=Lib.hid info_val
    have hgw:=HP8w.out.lt
    go_wp2_with (first
     | (with_reducible refine wpList_load_mid rfl _ (.tmp 4) rfl w.heap.size 0 rfl [.int .i64 k,.int .i64 n,.slice RA2 (rn + 1) rc2] _ HRB.out Tryd.underlying53 rfl HIV.out ?_)
     | (refine wpList_store_arr rfl _ (.tmp 8) (.tmp 96) rfl (w.heap.size + 1) 0 3 53 _ [.int .i64 k,.int .i64 n,.slice RA2 (rn + 1) rc2] [.int .i64 0,.int .i64 0,.slice none 0 0] rfl rfl rfl HP8w.out (show 0 + 3 ≤ 3 by omega) info_val (List.all_eq_true.mp (by rfl)) ?_;intro w11 f11 o11))
    rw [setAll_all [.int .i64 0,.int .i64 0,.slice none 0 0] [.int .i64 k,.int .i64 n,.slice RA2 (rn + 1) rc2] rfl] at f11
    refine bodyPost_ret (results_one rfl _ _ (w.heap.size + 1) [.int .i64 k,.int .i64 n,.slice RA2 (rn + 1) rc2] _ rfl f11.range Tryd.underlying53 rfl info_val) rfl ?_
    refine ⟨.node k n (ks ++ [.node ((ar by_ 5:Nat):Int) 0 []]),k,n,RA2,rn + 1,rc2,rfl,(HKw.out.tree k n HM.out.2.2.1 HM.out.2.2.2).keep (fun g hg => ?_) (fun g hg _ => o11.2 g ?_),by rw [nodes_node,nodes_node,nodesL_snoc,nodes_node];simp only [nodesL];omega,HVw.out.trans (o11.bel.mono (by omega))⟩
    ·rcases hg with hg | hg
     ·exact .inl hg
     ·exact .inr (by omega)
    ·rcases hg with hg | hg
     ·have:=HFF.out g hg;omega
     ·omega
 ·have x2z:=HP4.out.cell (j:=2) (v:=.slice A m cap) rfl
  go_upto_region 14 with (at_builtin;refine wpList_copyK (B:=wa.heap.size) (HKW.out wa HV0.out) HMm.out (by have:=HLN.out;omega) rfl rfl _ _ rfl rfl rfl ?_;intro v7 w7 hK hb7;obtain ⟨RA,rn,rc,hv7,hrn⟩:=hK.shape;subst hv7;have HKR:=Lib.hid hK;have HB7:=Lib.hid hb7;clear hK hb7)
  clear x2z
  have x2y:=(HP4.out.later HB7.out).cell (j:=2) (v:=.slice A m cap) rfl
  have f2y:=(HP4.out.later HB7.out).free 2
  go_upto_region 15 with fail
  clear x2y f2y
  have HP4y:Hid (Arr (w7.setCell ⟨w.heap.size,2,none⟩ (.slice RA rn rc)) w.heap.size 3 53 [.int .i64 k,.int .i64 n,.slice RA rn rc]):=Lib.hid ((HP4.out.later HB7.out).set_ 2 _)
  have HP8y:Hid (Arr (w7.setCell ⟨w.heap.size,2,none⟩ (.slice RA rn rc)) (w.heap.size + 1) 3 53 [.int .i64 0,.int .i64 0,.slice none 0 0]):=Lib.hid ((HP8.out.later HB7.out).other (by omega) _)
  have HVy:Hid (Below w.heap.size w (w7.setCell ⟨w.heap.size,2,none⟩ (.slice RA rn rc))):=Lib.hid ((later HV0.out HB7.out).setCell (p:=⟨w.heap.size,2,none⟩) (Nat.le_refl _) _)
  have HKy:Hid (KRow F (w7.setCell ⟨w.heap.size,2,none⟩ (.slice RA rn rc)) wa.heap.size (.slice RA rn rc) ks):=Lib.hid (HKR.out.keep (fun _ h => h) (fun g hg hl => Below.heap_setCell _ _ _ _ (by have:=HFF.out g hg;simp;omega)) (fun g hg hl => by
   obtain ⟨L,h1,_⟩:=HKR.out
   have:=(World.ownsRow.lt h1 g hg).1
   exact Below.heap_setCell _ _ _ _ (by simp;omega)))
  have hby1:wa.heap.size ≤ (w7.setCell ⟨w.heap.size,2,none⟩ (.slice RA rn rc)).heap.size:=by rw [World.size_setCell];exact HB7.out.size
  clear HKR HB7
  generalize w7.setCell ⟨w.heap.size,2,none⟩ (.slice RA rn rc) = wy at HP4y HP8y HVy HKy hby1 ⊢
  have HBY1:Hid (wa.heap.size ≤ wy.heap.size):=Lib.hid hby1
  clear hby1
  have hrn1:=hrn.out.1
  obtain ⟨L,hL1,hL2,hL3,hL4⟩:=HKy.out
  have hGL:GrowG 53 3 PC wy wa.heap.size (.slice RA rn rc) L:=⟨L,by rw [hL2];exact hL1,rfl,hL3,fun i x C h1 h2 => Foot.const (by rw [h1] at h2;exact (Option.some.inj h2).symm)⟩
  have hszy:wa.heap.size ≤ wy.heap.size:=by have:=HP8y.out.lt;exact (by have:=HBY1.out;omega)
  go_upto_region 23 with (go_at_call 12;(with_reducible refine (HAR.out _).mono ?_);rintro e w' ⟨rfl,hww⟩;rw [hww];clear hww)
  refine ksreg23 (by kernel_rfl) _ _ w.heap.size (.slice RA rn rc) wa.heap.size L (.int .i64 k) (.int .i64 n) by_ ((ar by_ 5:Nat):Int) (by rw [hL2];have:=HLN.out;omega) rfl rfl rfl (by omega) hszy HP4y.out hGL (fun W => (Around_any by_ 5 (by decide) (by decide) HH.out.2 W).mono (by rintro e w' ⟨rfl,rfl⟩;exact ⟨rfl,Below.refl _ _⟩)) ?_
  intro vs23 kv w10 hG hnew hA4 hb0 hsame a23 ha23
  simp only [ksD23,List.cons_append,List.nil_append,List.foldl_cons,List.foldl_nil,Act.put,List.setIfInBounds_toArray,List.set_cons_succ,List.set_cons_zero] at ha23
  subst ha23
  obtain ⟨RA2,rc2,hkv,hrc2,hmx2⟩:=hG.shape
  subst hkv
  have hln2:(L ++ [([.int .i64 ((ar by_ 5:Nat):Int),.int .i64 0,.slice none 0 0]:List Value)]).length = rn + 1:=by rw [List.length_append,hL2,hrn1];rfl
  rw [hln2] at hG hA4 hnew hrc2
  have hown:∀ g,(Value.slice RA rn rc).ownBlock = some g → wa.heap.size ≤ g:=fun g e => (World.ownsRow.lt hL1 g e).1
  have HP4w:Hid (Arr w10 w.heap.size 3 53 [.int .i64 k,.int .i64 n,.slice RA2 (rn + 1) rc2]):=Lib.hid hA4
  have HP8w:Hid (Arr w10 (w.heap.size + 1) 3 53 [.int .i64 0,.int .i64 0,.slice none 0 0]):=Lib.hid (arr_same HP8y.out (hsame _ HP8y.out.lt (by omega) (fun e => by have:=hown _ e;omega)))
  have hF0:∀ g,F g → w10.heap[g]? = wy.heap[g]?:=fun g hg => hsame g (by have:=HFF.out g hg;have:=HP8y.out.lt;omega) (by have:=HFF.out g hg;omega) (fun e => by have:=hown _ e;have:=HFF.out g hg;omega)
  have HVw:Hid (Below w.heap.size w w10):=Lib.hid (HVy.out.trans ⟨hb0.os,hb0.tape,hb0.output,hb0.size,fun g hg => hsame g (by have:=HP8y.out.lt;omega) (by omega) (fun e => by have:=hown _ e;omega)⟩)
  have HKw:Hid (KRow F w10 wa.heap.size (.slice RA2 (rn + 1) rc2) (ks ++ [.node ((ar by_ 5:Nat):Int) 0 []])):=Lib.hid (by
   obtain ⟨L2,g1,g2,g3,g4⟩:=hG
   have hLL:L2 = L ++ [([.int .i64 ((ar by_ 5:Nat):Int),.int .i64 0,.slice none 0 0]:List Value)]:=List.ext_getElem? fun i => by
    by_cases hi:i < L2.length
    ·have h1:=List.getElem?_eq_getElem hi
     have h2:=List.getElem?_eq_getElem (l:=L ++ [([.int .i64 ((ar by_ 5:Nat):Int),.int .i64 0,.slice none 0 0]:List Value)]) (i:=i) (by omega)
     have h3:PC _ _ _:=(g4 i _ _ h2 h1).now
     rw [h1,h2]
     exact congrArg some h3
    ·rw [List.getElem?_eq_none (by omega),List.getElem?_eq_none (by omega)]
   subst hLL
   refine ⟨L ++ [([.int .i64 ((ar by_ 5:Nat):Int),.int .i64 0,.slice none 0 0]:List Value)],?_,by rw [List.length_append,List.length_append,hL2];rfl,g3,fun i x D hx hD => ?_⟩
   ·have e1:(ks ++ [Tr.node ((ar by_ 5:Nat):Int) 0 []]).length = (L ++ [([.int .i64 ((ar by_ 5:Nat):Int),.int .i64 0,.slice none 0 0]:List Value)]).length:=by rw [List.length_append,List.length_append,hL2];rfl
    rw [e1];exact g1
   ·rcases snoc_get hx with h1 | ⟨rfl,rfl⟩
    ·have hi:=(List.getElem?_eq_some_iff.1 h1).1
     rw [List.getElem?_append_left (by rw [hL2];exact hi)] at hD
     exact (hL4 i x D h1 hD).keep (fun _ h => h) (fun g hg _ => hF0 g hg)
    ·rw [List.getElem?_append_right (by rw [hL2];exact Nat.le_refl _),hL2,Nat.sub_self] at hD
     simp at hD
     subst hD
     unfold TrF
     exact ⟨none,0,rfl,⟨Nat.le_refl _,by simp [maxLen],by unfold i64r;have:=ar_lt by_ 5 (by decide);omega,by unfold i64r;omega⟩,by unfold KsF;trivial⟩)
  clear HKy HP4y HP8y HVy hG hA4 hb0 hsame hL1 hL2 hL3 hL4 hGL hnew hF0 hown
  have HRB:=Lib.hid HP4w.out.range
  have HIV:Hid ((Tryd.prog.info? 53).map (·.size) = some ([.int .i64 k,.int .i64 n,.slice RA2 (rn + 1) rc2]:List Value).length):=Lib.hid info_val
  have hgw:=HP8w.out.lt
  go_wp2_with (first
   | (with_reducible refine wpList_load_mid rfl _ (.tmp 4) rfl w.heap.size 0 rfl [.int .i64 k,.int .i64 n,.slice RA2 (rn + 1) rc2] _ HRB.out Tryd.underlying53 rfl HIV.out ?_)
   | (refine wpList_store_arr rfl _ (.tmp 8) (.tmp 96) rfl (w.heap.size + 1) 0 3 53 _ [.int .i64 k,.int .i64 n,.slice RA2 (rn + 1) rc2] [.int .i64 0,.int .i64 0,.slice none 0 0] rfl rfl rfl HP8w.out (show 0 + 3 ≤ 3 by omega) info_val (List.all_eq_true.mp (by rfl)) ?_;intro w11 f11 o11))
  rw [setAll_all [.int .i64 0,.int .i64 0,.slice none 0 0] [.int .i64 k,.int .i64 n,.slice RA2 (rn + 1) rc2] rfl] at f11
  refine bodyPost_ret (results_one rfl _ _ (w.heap.size + 1) [.int .i64 k,.int .i64 n,.slice RA2 (rn + 1) rc2] _ rfl f11.range Tryd.underlying53 rfl info_val) rfl ?_
  refine ⟨.node k n (ks ++ [.node ((ar by_ 5:Nat):Int) 0 []]),k,n,RA2,rn + 1,rc2,rfl,(HKw.out.tree k n HM.out.2.2.1 HM.out.2.2.2).keep (fun g hg => ?_) (fun g hg _ => o11.2 g ?_),by rw [nodes_node,nodes_node,nodesL_snoc,nodes_node];simp only [nodesL];omega,HVw.out.trans (o11.bel.mono (by omega))⟩
  ·rcases hg with hg | hg
   ·exact .inl hg
   ·exact .inr (by omega)
  ·rcases hg with hg | hg
   ·have:=HFF.out g hg;omega
   ·omega
end Go.Proofs.YtkpoiljioadfgaaDoor
