import Derived.Test.YtkpoiljioadfgaaDoorW02
import Derived.Test.YtkpoiljioadfgaaDoorW22
import Derived.Test.YtkpoiljioadfgaaDoorW41
set_option linter.unusedVariables false
set_option linter.unusedSimpArgs false
namespace Go.Proofs.YtkpoiljioadfgaaDoor
open Go.RowKit
set_option maxHeartbeats 8000000 in
set_option maxRecDepth 100000 in
theorem rfits_R (P:List Df) (W:World) (mv:Value) (pA:Option Addr) (pl pc:Nat) (s q i:Int) (tks:List Ty) (TA:Option Addr) (tl tc:Nat) (vk vn:Int) (ks:List Tr) (VA:Option Addr) (vl vc:Nat) (hvl:ks.length = vl)
  (hP:PrAt W P (.agg #[mv,.slice pA pl pc])) (ht:TyAt W (.node 3 s q i tks) (.agg #[.int .i64 3,.int .i64 s,.int .i64 q,.int .i64 i,.slice TA tl tc])) (hx:TrAt W (.node vk vn ks) (.agg #[.int .i64 vk,.int .i64 vn,.slice VA vl vc])) (hv:vty P 24 (.node 3 s q i tks) = true) (d0:Df) (hdf:P[fnd P s q i]? = some d0) (hdk:d0.kind = 0)
  (ih:Hid (∀ (j:Nat) (x:Tr) (ty:Ty) (W':World) (v tv:Value),ks[j]? = some x → PrAt W' P (.agg #[mv,.slice pA pl pc]) → TyAt W' ty tv → TrAt W' x v → Calls Tryd.prog 59 #[.agg #[mv,.slice pA pl pc],tv,v] W' (BRes (ft P x ty) W'))) :
  Calls Tryd.prog 59 #[.agg #[mv,.slice pA pl pc],.agg #[.int .i64 3,.int .i64 s,.int .i64 q,.int .i64 i,.slice TA tl tc],.agg #[.int .i64 vk,.int .i64 vn,.slice VA vl vc]] W (BRes (ft P (.node vk vn ks) (.node 3 s q i tks)) W):=by
 obtain ⟨R,hR⟩:∃ R,ft P (.node vk vn ks) (.node 3 s q i tks) = R:=⟨_,rfl⟩
 rw [hR]
 have P3:=p2_new W mv (.slice pA pl pc)
 have V3:=new_later W (.cells #[mv,.slice pA pl pc] 26)
 generalize hW1:W.alloc (.cells #[mv,.slice pA pl pc] 26) = w1 at P3 V3
 have hz1:w1.heap.size = W.heap.size + 1:=by rw [← hW1];simp
 have P4:Arr (w1.alloc (.cells #[.int .i64 3,.int .i64 s,.int .i64 q,.int .i64 i,.slice TA tl tc] 31)) w1.heap.size 5 31 [.int .i64 3,.int .i64 s,.int .i64 q,.int .i64 i,.slice TA tl tc]:=Arr.new' w1 _ _ 5 _ rfl rfl (by decide)
 have b4:=new_later w1 (.cells #[.int .i64 3,.int .i64 s,.int .i64 q,.int .i64 i,.slice TA tl tc] 31)
 rw [hz1] at P4
 generalize hW2:w1.alloc (.cells #[.int .i64 3,.int .i64 s,.int .i64 q,.int .i64 i,.slice TA tl tc] 31) = w2 at P4 b4
 have hz2:w2.heap.size = W.heap.size + 1 + 1:=by rw [← hW2];simp [hz1]
 have P5:Arr (w2.alloc (.cells #[.int .i64 vk,.int .i64 vn,.slice VA vl vc] 53)) w2.heap.size 3 53 [.int .i64 vk,.int .i64 vn,.slice VA vl vc]:=Arr.new' w2 _ _ 3 _ rfl rfl (by decide)
 have b5:=new_later w2 (.cells #[.int .i64 vk,.int .i64 vn,.slice VA vl vc] 53)
 rw [hz2] at P5
 generalize hW3:w2.alloc (.cells #[.int .i64 vk,.int .i64 vn,.slice VA vl vc] 53) = wa at P5 b5
 have P3:=(P3.later b4).later b5
 have P4:=P4.later b5
 have V0:=later (later V3 b4) b5
 have p0:=P3.cell (j:=0) (v:=mv) rfl
 have p1:=P3.cell (j:=1) (v:=.slice pA pl pc) rfl
 have y0:=P4.cell (j:=0) (v:=.int .i64 3) rfl
 have y1:=P4.cell (j:=1) (v:=.int .i64 s) rfl
 have y2:=P4.cell (j:=2) (v:=.int .i64 q) rfl
 have y3:=P4.cell (j:=3) (v:=.int .i64 i) rfl
 have y4:=P4.cell (j:=4) (v:=.slice TA tl tc) rfl
 have HVT:Hid (Calls Tryd.prog 17 #[.agg #[mv,.slice pA pl pc],.agg #[.int .i64 3,.int .i64 s,.int .i64 q,.int .i64 i,.slice TA tl tc]] wa (BRes true wa)):=Lib.hid (by
  have h:=rvalidtype_any P _ wa _ _ (hP.later V0) (TyAt.later V0 ht)
  rwa [hv] at h)
 have HP3:=Lib.hid P3
 have HP4:=Lib.hid P4
 have HP5:=Lib.hid P5
 have HV0:=Lib.hid V0
 have HPW:=Lib.hid hP
 have HTW:=Lib.hid ht
 have HXW:=Lib.hid hx
 have HVL:=Lib.hid hvl
 have HD1:Hid (∀ W',PrAt W' P (.agg #[mv,.slice pA pl pc]) → Calls Tryd.prog 21 #[.agg #[mv,.slice pA pl pc],.agg #[.int .i64 s,.int .i64 q,.int .i64 i]] W' (fun e w' => Below W'.heap.size W' w' ∧ ∃ C:List Value,e = .returned (.tuple #[.agg C.toArray,.bool true]) ∧ DfAt W' d0 C)):=Lib.hid fun W' hW' => (rdef_any P s q i W' _ hW').mono (by
  rintro e w' ⟨hb,⟨d,C,h,rfl,hC⟩ | ⟨h,_⟩⟩
  ·rw [hdf] at h;cases h;exact ⟨hb,C,rfl,hC⟩
  ·rw [hdf] at h;exact absurd h (by simp))
 have hzd:=zero_def
 rw [show z31.toArray = #[.int .i64 0,.int .i64 0,.int .i64 0,.int .i64 0,.int .i64 0,.int .i64 0,.int .i64 0,.string ⟨#[]⟩,.slice none 0 0,.int .i64 0,.int .i64 0,.int .i64 0,.int .i64 0,.slice none 0 0,.int .i64 0,.int .i64 0,.int .i64 0,.int .i64 0,.int .i64 0,.int .i64 0,.int .i64 0,.int .i64 0,.int .i64 0,.int .i64 0,.int .i64 0,.int .i64 0,.slice none 0 0,.slice none 0 0,.slice none 0 0,.int .i64 0,.slice none 0 0] from rfl] at hzd
 obtain ⟨sn,hsn⟩:∃ sn,d0.slots.length = sn:=⟨_,rfl⟩
 have HSN:=Lib.hid hsn
 have HDK:=Lib.hid hdk
 have hvc:vl ≤ vc ∧ vc ≤ maxLen ∧ KsAt W VA 0 ks:=by
  have h:=hx
  unfold TrAt at h
  obtain ⟨A,cap,he,⟨h1,h2,_⟩,hk⟩:=h
  simp [c3] at he
  obtain ⟨rfl,_,rfl⟩:=he
  exact ⟨by omega,h2,hk⟩
 have HKS:=Lib.hid hvc.2.2
 have hvi:(vl:Int) ≤ 9223372036854775807:=by have:=hvc.1;have:=hvc.2.1;simp only [maxLen] at this;omega
 rw [ft_rec hv hdf hdk,hvl,hsn] at hR
 obtain ⟨RL,hRL⟩:∃ RL,ftL P ks (fun j => ((d0.slots[j]?).map Sl.ty).getD (.node 3 s q i tks)) 0 = RL:=⟨_,rfl⟩
 rw [hRL] at hR
 have hl1:((vl:Int) == (sn:Int)) = decide (vl = sn):=by rw [beq_int];exact decide_eq_decide.2 (by omega)
 have hl1':((vl:Int) != (sn:Int)) = !decide (vl = sn):=by rw [← hl1];rfl
 have hb0:(vk == 2) = decide (vk = 2):=beq_int vk 2
 have hb0':(vk != 2) = !decide (vk = 2):=by rw [← hb0];rfl
 have hn0:(vn == 0) = decide (vn = 0):=beq_int vn 0
 have hn0':(vn != 0) = !decide (vn = 0):=by rw [← hn0];rfl
 have hbl:decide (vl = sn) = true → vl = sn:=fun h => of_decide_eq_true h
 have HZ:=Lib.hid hR
 have HRL:=Lib.hid hRL
 generalize decide (vk = 2) = b0 at hb0 hb0' HZ
 generalize decide (vn = 0) = c0 at hn0 hn0' HZ
 generalize decide (vl = sn) = b1 at hl1 hl1' HZ hbl
 have HBV:=Lib.hid hbl
 clear P3 P4 P5 V0 V3 b4 b5 hP ht hx hv hR hRL hvl hdf hdk hsn hvc hbl
 go_enter Tryd.func59,Tryd.ntmps59
 go_upto_region 1 with fail
 clear hW1 hW2 hW3 hz1 hz2
 go_upto_region 15 with (first
  | (go_at_call 17;(with_reducible refine HVT.out.mono ?_);rintro e w2 ⟨rfl,hb2⟩;have HB2:=Lib.hid hb2;have HE2:=Lib.hid (later HV0.out hb2);have tk:=(HP4.out.later hb2).cell (j:=0) (v:=.int .i64 3) rfl;have ts:=(HP4.out.later hb2).cell (j:=1) (v:=.int .i64 s) rfl;have tq:=(HP4.out.later hb2).cell (j:=2) (v:=.int .i64 q) rfl;have ti:=(HP4.out.later hb2).cell (j:=3) (v:=.int .i64 i) rfl;have pz0:=(HP3.out.later hb2).cell (j:=0) (v:=mv) rfl;have pz1:=(HP3.out.later hb2).cell (j:=1) (v:=.slice pA pl pc) rfl;clear hb2)
  | (go_at_call 21;(with_reducible refine (HD1.out _ (HPW.out.later HE2.out)).mono ?_);rintro e w3 ⟨hb3,C,rfl,hC⟩;have HB3:=Lib.hid hb3;have HCL:=Lib.hid (DfAt.len hC);have HOC:Hid (∀ v ∈ C,v.oneCell' = true):=Lib.hid (DfAt.cells hC);have HIN:Hid ((Tryd.prog.info? 46).map (·.size) = some C.length):=Lib.hid (by rw [HCL.out];exact info_def);have HDC:=Lib.hid hC;clear hC hb3)
  | (refine wpList_store_arr rfl _ (.tmp 8) (.tmp 94) rfl w3.heap.size 0 31 46 _ C z31 rfl rfl rfl (z31_new w3) (by rw [HCL.out];omega) HIN.out HOC.out ?_;intro w4 f4 o4;rw [setAll_all _ _ (by rw [HCL.out];rfl)] at f4;have HF4:=Lib.hid f4;have HB4:=Lib.hid (later HB3.out ((new_later w3 (.cells z31.toArray 46)).trans (o4.bel.mono (Nat.le_refl _))));clear f4 o4))
 clear tk ts tq ti pz0 pz1 hzd
 generalize w3.heap.size = gD at HF4 ⊢
 obtain ⟨SA,sc,uY,hC9,hS9⟩:=df_nine HDC.out
 rw [HSN.out,HDK.out] at hC9
 rw [HSN.out] at hS9
 have hD4:=HF4.out
 rw [hC9] at hD4
 have HE4:=Lib.hid (later HE2.out HB4.out)
 have HBA:=Lib.hid (later HB2.out HB4.out)
 have HD4:Hid (Arr w4 gD 31 46 (([.int .i64 d0.a,.int .i64 d0.b,.int .i64 d0.c,.int .i64 0,.int .i64 d0.ma,.int .i64 d0.mb,.int .i64 d0.mc,.string d0.name,.slice SA sn sc]:List Value) ++ uY)):=Lib.hid hD4
 have HS4:=Lib.hid (hS9.later HB4.out)
 have dk:=hD4.cell (j:=3) (v:=.int .i64 0) rfl
 have ds:=hD4.cell (j:=8) (v:=.slice SA sn sc) rfl
 have xk:=(HP5.out.later HBA.out).cell (j:=0) (v:=.int .i64 vk) rfl
 have xn:=(HP5.out.later HBA.out).cell (j:=1) (v:=.int .i64 vn) rfl
 have xs:=(HP5.out.later HBA.out).cell (j:=2) (v:=.slice VA vl vc) rfl
 have hsi:(sn:Int) ≤ 9223372036854775807:=by
  obtain ⟨A',c',h1,h2,_⟩:=HS4.out
  simp only [maxLen] at h2;rw [HSN.out] at h2;omega
 clear hC9 hS9 hD4 HF4 HDC HCL HOC HIN HB3 HB4 HD1 HVT
 by_cases hall:b0 = true ∧ c0 = true ∧ b1 = true
 ·obtain ⟨rfl,rfl,rfl⟩:=hall
  simp only [Bool.not_true] at hb0' hn0' hl1'
  have h4:=HBV.out rfl
  go_upto_region 21 with fail
  clear xk xn xs dk ds hb0 hb0' hn0 hn0' hl1 hl1'
  go_wp2_with fail
  go_loopw [10] (fun iv W' => ∃ j:Nat,j ≤ vl ∧ iv = .int .i64 (j:Int) ∧ Below w4.heap.size w4 W' ∧ Hid (ftL P (ks.drop j) (fun j => ((d0.slots[j]?).map Sl.ty).getD (.node 3 s q i tks)) j = RL)) (fun iv _ => vl - (intOf iv).toNat)
  case atStart => exact ⟨0,by omega,by go_num,Below.refl _ _,Lib.hid (by rw [List.drop_zero];exact HRL.out)⟩
  case round =>
   obtain ⟨j,hj,rfl,hb,HRJ⟩:=hrel
   have HBJ:=Lib.hid hb
   have HEJ:=Lib.hid (later HBA.out hb)
   have HWJ:=Lib.hid (later HE4.out hb)
   clear hb
   have hj0:(0:Int) ≤ (j:Int):=by omega
   have xs:=(HP5.out.later HEJ.out).cell (j:=2) (v:=.slice VA vl vc) rfl
   by_cases hlt:j < vl
   ·have hji:(j:Int) < (vl:Int):=by omega
    have hjs:(j:Int) < (sn:Int):=by omega
    have hjm:(j:Int) + 1 ≤ 9223372036854775807:=by omega
    have hjl:j < ks.length:=by rw [HVL.out];exact hlt
    have hns:j < d0.slots.length:=by rw [HSN.out];omega
    have hxj:=List.getElem?_eq_getElem hjl
    obtain ⟨gv,ov,Kv,hVA,rKv,tKv,lKv,iKv,oKv⟩:=kid_at HKS.out hxj
    obtain ⟨gs,os,Kt,hSA,rKt,tKt,lKt,iKt,oKt⟩:=slot_ty (HS4.out.later HBJ.out) (List.getElem?_eq_getElem hns)
    have hrj:=HRJ.out
    have hT:(((d0.slots[j]?).map Sl.ty).getD (.node 3 s q i tks)) = (d0.slots[j]'hns).ty:=by
     rw [List.getElem?_eq_getElem hns];rfl
    rw [ftL_drop hjl,hT] at hrj
    have HXJ:=Lib.hid hxj
    generalize ks[j] = x at hrj tKv HXJ hxj
    generalize (d0.slots[j]'hns).ty = ty at tKt hrj
    clear hxj hT
    obtain ⟨b,hb⟩:∃ b,ft P x ty = b:=⟨_,rfl⟩
    rw [hb] at hrj
    have HB:=Lib.hid hb
    have HRX:=Lib.hid hrj
    clear hb hrj hjl hns
    subst hVA
    subst hSA
    go_upto_region 24 with fail
    clear xs
    refine vfreg24 (by kernel_rfl) _ _ W.heap.size (W.heap.size + 1) (W.heap.size + 1 + 1) pl pc gv ov vl vc mv pA vk vn Kt Kv b gD gs os sn sc (.int .i64 d0.a) (.int .i64 d0.b) (.int .i64 d0.c) (.int .i64 0) (.int .i64 d0.ma) (.int .i64 d0.mb) (.int .i64 d0.mc) (.string d0.name) uY j rfl rfl rfl rfl rfl (HP3.out.later HEJ.out) (HP5.out.later HEJ.out) (HD4.out.later HBJ.out) rKt.out lKt.out (range_below rKv.out HWJ.out) lKv.out hji hjs hj0
     (fun w' hw => by have h:=ih.out j x ty w' _ _ HXJ.out (HPW.out.later (later HWJ.out hw)) (TyAt.later hw tKt.out) (tKv.out.later (later HWJ.out hw));rwa [HB.out] at h) ?_
    intro vs24 w24 hs hb a24 ha24
    simp only [vfD24,List.cons_append,List.nil_append,List.foldl_cons,List.foldl_nil,Act.put,List.setIfInBounds_toArray,List.set_cons_succ,List.set_cons_zero,hs] at ha24
    subst ha24
    have HB24:=Lib.hid (later HBJ.out hb)
    clear hs hb HBJ HEJ HWJ rKv tKv lKv iKv oKv rKt tKt lKt iKt oKt HB HXJ
    cases b
    ·simp only [Bool.not_false]
     go_wp2_with fail
     go_ret
     exact ⟨by rw [← HZ.out,← HRX.out];rfl,later HE4.out HB24.out⟩
    ·simp only [Bool.not_true]
     go_wp2_with fail
     go_roundw
     case rel => exact ⟨j + 1,by omega,by go_num,HB24.out,Lib.hid (by have h:=HRX.out;rwa [Bool.true_and] at h)⟩
     case measure => simp [intOf];omega
   ·have hji:¬ (j:Int) < (vl:Int):=by omega
    have hRL:RL = true:=by
     have h:=HRJ.out
     rw [List.drop_of_length_le (by rw [HVL.out];omega),ftL] at h
     exact h.symm
    subst hRL
    go_wp2_with fail
    go_ret
    exact ⟨by rw [← HZ.out];rfl,HWJ.out⟩
 ·have HNA:Hid (((b0 && c0) && b1) = false):=Lib.hid (by
   cases b0 <;> cases c0 <;> cases b1 <;> simp at hall ⊢)
  have HR0:Hid (R = false):=Lib.hid (by rw [← HZ.out,HNA.out];rfl)
  cases b0
  all_goals cases c0
  all_goals cases b1
  all_goals simp only [Bool.not_true,Bool.not_false] at hb0' hn0' hl1'
  all_goals first
   | (exfalso;exact hall ⟨rfl,rfl,rfl⟩)
   | skip
  all_goals
   clear hall
   go_wp2_with fail
   go_ret
   exact ⟨by rw [HR0.out];rfl,HE4.out⟩
end Go.Proofs.YtkpoiljioadfgaaDoor
namespace Go.Proofs.YtkpoiljioadfgaaDoor
open Go.RowKit
theorem rfits_any:∀ (N:Nat) (x:Tr),x.nodes ≤ N → ∀ (P:List Df) (t:Ty) (W:World) (mv:Value) (pA:Option Addr) (pl pc:Nat) (tv v:Value),PrAt W P (.agg #[mv,.slice pA pl pc]) → TyAt W t tv → TrAt W x v →
  Calls Tryd.prog 59 #[.agg #[mv,.slice pA pl pc],tv,v] W (BRes (ft P x t) W)
 | 0,x,hN,_,_,_,_,_,_,_,_,_,_,_,_ => absurd hN (by have:=x.nodes_pos;omega)
 | N + 1,.node vk vn ks,hN,P,.node k s q i tks,W,mv,pA,pl,pc,tv,v,hP,ht,hx => by
  obtain ⟨k',s',q',i',TA,tl,tc,rfl⟩:=ht.shape
  obtain ⟨vk',vn',VA,vl,vc,rfl⟩:=hx.shape
  have ih:Hid (∀ (j:Nat) (x:Tr) (ty:Ty) (W':World) (v tv:Value),ks[j]? = some x → PrAt W' P (.agg #[mv,.slice pA pl pc]) → TyAt W' ty tv → TrAt W' x v → Calls Tryd.prog 59 #[.agg #[mv,.slice pA pl pc],tv,v] W' (BRes (ft P x ty) W')):=Lib.hid fun j x ty W' v tv hj h1 h2 h3 =>
   rfits_any N x (by have:=nodesL_get hj;unfold Tr.nodes at hN;omega) P ty W' mv pA pl pc tv v h1 h2 h3
  have e1:k' = k ∧ s' = s ∧ q' = q ∧ i' = i ∧ tks.length = tl:=by
   have h:=ht
   unfold TyAt at h
   obtain ⟨A,cap,he,_⟩:=h
   simp [t5] at he
   obtain ⟨a,b,c,d,_,e,_⟩:=he
   exact ⟨a,b,c,d,e.symm⟩
  have e2:vk' = vk ∧ vn' = vn ∧ ks.length = vl:=by
   have h:=hx
   unfold TrAt at h
   obtain ⟨A,cap,he,_⟩:=h
   simp [c3] at he
   obtain ⟨a,b,_,e,_⟩:=he
   exact ⟨a,b,e.symm⟩
  obtain ⟨rfl,rfl,rfl,rfl,rfl⟩:=e1
  obtain ⟨rfl,rfl,hvl⟩:=e2
  cases hv:vty P 24 (.node k' s' q' i' tks) with
  | false => exact rfits_A P W mv pA pl pc k' s' q' i' tks TA _ tc vk' vn' ks VA vl vc hvl hP ht hx hv
  | true =>
   rcases vty_cases hv with rfl | rfl | ⟨rfl,ty,rfl⟩ | ⟨rfl,d,hd,h0 | h1⟩
   ·exact rfits_I P W mv pA pl pc s' q' i' tks TA _ tc vk' vn' ks VA vl vc hvl hP ht hx hv
   ·exact rfits_B P W mv pA pl pc s' q' i' tks TA _ tc vk' vn' ks VA vl vc hvl hP ht hx hv
   ·exact rfits_L P W mv pA pl pc s' q' i' ty TA tc vk' vn' ks VA vl vc hvl hP ht hx hv ih
   ·exact rfits_R P W mv pA pl pc s' q' i' tks TA _ tc vk' vn' ks VA vl vc hvl hP ht hx hv d hd h0 ih
   ·exact rfits_C P W mv pA pl pc s' q' i' tks TA _ tc vk' vn' ks VA vl vc hvl hP ht hx hv d hd h1 ih
end Go.Proofs.YtkpoiljioadfgaaDoor
