import Derived.Test.YtmfihlcibephlaaDoorZ01
set_option linter.unusedVariables false
set_option linter.unusedSimpArgs false
namespace Go.Proofs.YtmfihlcibephlaaDoor
open Go.RowKit
theorem info_val:(Tryd.prog.info? 53).map (·.size) = some 3:=by kernel_rfl
def NumRes (X:Int) (w:World) (e:Ending) (w':World):Prop:=e = .returned (.int .i64 X) ∧ Below w.heap.size w w'
set_option maxHeartbeats 2000000 in
set_option maxRecDepth 100000 in
theorem size_step (k n:Int) (ks:List Tr) (A:Option Addr) (cap:Nat) (w:World) (hk:KsAt w A 0 ks) (HM:Hid (ks.length ≤ cap ∧ cap ≤ maxLen ∧ i64r k ∧ i64r n))
  (ih:Hid (∀ (j:Nat) (x:Tr),ks[j]? = some x → ∀ W v,TrAt W x v → Calls Tryd.prog 28 #[v] W (NumRes x.sz W))) :
  Calls Tryd.prog 28 #[.agg (c3 k n A ks.length cap).toArray] w (NumRes (szL 1 ks) w):=by
 have HK:=Lib.hid hk
 have P1:=Arr.new' w 53 (c3 k n A ks.length cap).toArray 3 (c3 k n A ks.length cap) rfl rfl (by decide)
 have HCV:Hid (c3 k n A ks.length cap = [.int .i64 k,.int .i64 n,.slice A ks.length cap]):=Lib.hid rfl
 have V0:=new_later w (.cells (c3 k n A ks.length cap).toArray 53)
 clear hk
 go_enter Tryd.func28,Tryd.ntmps28
 go_upto_region 1 with fail
 have hc2:=P1.cell (j:=2) (v:=.slice A ks.length cap) rfl
 generalize w.alloc (.cells (c3 k n A ks.length cap).toArray 53) = wa at P1 V0 hc2 ⊢
 go_wp2_with fail
 go_loopw [3,9] (fun s i W => ∃ j:Nat,j ≤ ks.length ∧ i = .int .i64 (j:Int) ∧ s = .int .i64 (szL 1 (ks.take j)) ∧ Below w.heap.size w W) (fun _ i _ => ks.length - (intOf i).toNat)
 case atStart => exact ⟨0,by omega,rfl,rfl,V0⟩
 case round =>
  obtain ⟨j,hj,rfl,rfl,V1⟩:=hrel
  by_cases hlt:j < ks.length
  ·have hji:(j:Int) < (ks.length:Int):=by omega
   have hj0:(0:Int) ≤ (j:Int):=by omega
   have hjm:(j:Int) + 1 ≤ 9223372036854775807:=by have:=HM.out;simp only [maxLen] at this;omega
   have hkj:ks[j]? = some ks[j]:=List.getElem?_eq_getElem hlt
   obtain ⟨g,o,cs,hA,hr,ht⟩:=KsAt.get (HK.out.later V1) hkj
   subst hA
   rw [Nat.zero_add] at hr
   have HSN:Hid (szL 1 (ks.take (j + 1)) = wrap64 (szL 1 (ks.take j) + ks[j].sz)):=Lib.hid (by rw [List.take_succ_eq_append_getElem hlt];exact szL_snoc _ _ _)
   have HIH:Hid (∀ W v,TrAt W ks[j] v → Calls Tryd.prog 28 #[v] W (NumRes ks[j].sz W)):=Lib.hid (ih.out j _ hkj)
   generalize ks[j] = x at HSN HIH ht
   generalize szL 1 (ks.take j) = S at HSN ⊢
   obtain ⟨k',n',A',len',cap',hsh⟩:=ht.shape
   have hcs:cs = c3 k' n' A' len' cap':=by simpa using hsh
   subst hcs
   have HR:=Lib.hid hr
   have HT:=Lib.hid ht
   have HC3:Hid ((c3 k' n' A' len' cap').length = 3):=Lib.hid rfl
   have HI3:Hid ((Tryd.prog.info? 53).map (·.size) = some (c3 k' n' A' len' cap').length):=Lib.hid info_val
   have HOC:Hid (∀ v ∈ c3 k' n' A' len' cap',v.oneCell' = true):=Lib.hid (by intro v hv;simp [c3] at hv;rcases hv with rfl | rfl | rfl <;> rfl)
   generalize c3 k' n' A' len' cap' = C at HR HT HC3 HI3 HOC
   clear hr ht hsh hkj
   go_wp2_with (first
    | (with_reducible refine wpList_load_mid rfl _ (.tmp 11) rfl g (o + j * 3) rfl C _ HR.out Tryd.underlying53 rfl HI3.out ?_)
    | (refine wpList_store_new rfl _ (.tmp 5) (.tmp 12) rfl rfl rfl info_val HC3.out rfl (all_oneCell_toArray HOC.out) ?_;intro w5 hbel5 hrow5 hsz5;have T5:Arr w5 wr.heap.size 3 53 C:=Arr.of_row hrow5 HC3.out (by decide);have V5:=later V1 hbel5;have HT5:=Lib.hid (HT.out.later hbel5);clear hrow5)
    | (with_reducible refine wpList_load_mid rfl _ (.tmp 5) rfl wr.heap.size 0 rfl C _ T5.range Tryd.underlying53 rfl HI3.out ?_)
    | (go_at_call 28;(with_reducible refine (HIH.out _ _ HT5.out).mono ?_);rintro e w6 ⟨rfl,hb6⟩;have V6:=later V5 hb6))
   refine ⟨⟨j + 1,hlt,by go_num,by rw [HSN.out],V6⟩,by simp [intOf];omega⟩
  ·have hje:j = ks.length:=by omega
   subst hje
   rw [List.take_length]
   go_wp2_with fail
   go_ret
   exact ⟨rfl,V1⟩
theorem size_any:∀ (N:Nat) (x:Tr),x.nodes ≤ N → ∀ (w:World) (v:Value),TrAt w x v → Calls Tryd.prog 28 #[v] w (NumRes x.sz w)
 | 0,x,hN,_,_,_ => absurd hN (by have:=x.nodes_pos;omega)
 | N + 1,.node k n ks,hN,w,v,h => by
  unfold TrAt at h
  obtain ⟨A,cap,rfl,hm,hk⟩:=h
  rw [Tr.sz]
  exact size_step k n ks A cap w hk (Lib.hid hm) (Lib.hid fun j x hx W v' h' => size_any N x (by have:=Tr.kid_less (k:=k) (n:=n) hx;omega) W v' h')
end Go.Proofs.YtmfihlcibephlaaDoor
namespace Go.Proofs.YtmfihlcibephlaaDoor
open Go.RowKit
theorem kid_at {w:World} {A:Option Addr} {ks:List Tr} {j:Nat} {x:Tr} (h:KsAt w A 0 ks) (hx:ks[j]? = some x) :
  ∃ g o C,A = some ⟨g,o,none⟩ ∧ Hid (w.rangeAt g (o + j * 3) C) ∧ Hid (TrAt w x (.agg C.toArray)) ∧ Hid (C.length = 3) ∧ Hid ((Tryd.prog.info? 53).map (·.size) = some C.length) ∧ Hid (∀ v ∈ C,v.oneCell' = true):=by
 obtain ⟨g,o,cs,hA,hr,ht⟩:=KsAt.get h hx
 rw [Nat.zero_add] at hr
 obtain ⟨k',n',A',len',cap',hsh⟩:=ht.shape
 have hcs:cs = c3 k' n' A' len' cap':=by simpa using hsh
 subst hcs
 exact ⟨g,o,_,hA,Lib.hid hr,Lib.hid ht,Lib.hid rfl,Lib.hid info_val,Lib.hid (by intro v hv;simp [c3] at hv;rcases hv with rfl | rfl | rfl <;> rfl)⟩
theorem c3_new (w:World) (k n:Int) (A:Option Addr) (len cap:Nat):Arr (w.alloc (.cells (c3 k n A len cap).toArray 53)) w.heap.size 3 53 (c3 k n A len cap):=Arr.new' w _ _ 3 _ rfl rfl (by decide)
set_option maxHeartbeats 2000000 in
set_option maxRecDepth 100000 in
theorem rsize_step (k n:Int) (ks:List Tr) (A:Option Addr) (cap:Nat) (w:World) (hk:KsAt w A 0 ks) (HM:Hid (ks.length ≤ cap ∧ cap ≤ maxLen ∧ i64r k ∧ i64r n))
  (ih:Hid (∀ (j:Nat) (x:Tr),ks[j]? = some x → ∀ W v,TrAt W x v → Calls Tryd.prog 29 #[v] W (NumRes x.sz W))) :
  Calls Tryd.prog 29 #[.agg (c3 k n A ks.length cap).toArray] w (NumRes (szL 1 ks) w):=by
 have HK:=Lib.hid hk
 have P1:=c3_new w k n A ks.length cap
 have V0:=new_later w (.cells (c3 k n A ks.length cap).toArray 53)
 clear hk
 go_enter Tryd.func29,Tryd.ntmps29
 go_upto_region 1 with fail
 generalize w.alloc (.cells (c3 k n A ks.length cap).toArray 53) = wa at P1 V0 ⊢
 go_wp2_with fail
 go_loopw [3,4] (fun s i W => ∃ j:Nat,j ≤ ks.length ∧ i = .int .i64 (j:Int) ∧ s = .int .i64 (szL 1 (ks.take j)) ∧ Below wa.heap.size wa W) (fun _ i _ => ks.length - (intOf i).toNat)
 case atStart => exact ⟨0,by omega,rfl,rfl,Below.refl _ _⟩
 case round =>
  obtain ⟨j,hj,rfl,rfl,V1⟩:=hrel
  have hc2:=(P1.later V1).cell (j:=2) (v:=.slice A ks.length cap) rfl
  by_cases hlt:j < ks.length
  ·have hji:(j:Int) < (ks.length:Int):=by omega
   have hj0:(0:Int) ≤ (j:Int):=by omega
   have hjm:(j:Int) + 1 ≤ 9223372036854775807:=by have:=HM.out;simp only [maxLen] at this;omega
   have hkj:ks[j]? = some ks[j]:=List.getElem?_eq_getElem hlt
   obtain ⟨g,o,C,hA,HR,HT,HC3,HI3,HOC⟩:=kid_at (HK.out.later (later V0 V1)) hkj
   subst hA
   have HSN:Hid (szL 1 (ks.take (j + 1)) = wrap64 (szL 1 (ks.take j) + ks[j].sz)):=Lib.hid (by rw [List.take_succ_eq_append_getElem hlt];exact szL_snoc _ _ _)
   have HIH:Hid (∀ W v,TrAt W ks[j] v → Calls Tryd.prog 29 #[v] W (NumRes ks[j].sz W)):=Lib.hid (ih.out j _ hkj)
   generalize ks[j] = x at HSN HIH HT
   generalize szL 1 (ks.take j) = S at HSN ⊢
   clear hkj
   go_wp2_with (first
    | (with_reducible refine wpList_load_mid rfl _ (.tmp 16) rfl g (o + j * 3) rfl C _ HR.out Tryd.underlying53 rfl HI3.out ?_)
    | (go_at_call 29;(with_reducible refine (HIH.out _ _ HT.out).mono ?_);rintro e w6 ⟨rfl,hb6⟩;have V6:=later V1 hb6))
   refine ⟨⟨j + 1,hlt,by go_num,by rw [HSN.out],V6⟩,by simp [intOf];omega⟩
  ·have hje:j = ks.length:=by omega
   subst hje
   rw [List.take_length]
   go_wp2_with fail
   go_ret
   exact ⟨rfl,later V0 V1⟩
theorem rsize_any:∀ (N:Nat) (x:Tr),x.nodes ≤ N → ∀ (w:World) (v:Value),TrAt w x v → Calls Tryd.prog 29 #[v] w (NumRes x.sz w)
 | 0,x,hN,_,_,_ => absurd hN (by have:=x.nodes_pos;omega)
 | N + 1,.node k n ks,hN,w,v,h => by
  unfold TrAt at h
  obtain ⟨A,cap,rfl,hm,hk⟩:=h
  rw [Tr.sz]
  exact rsize_step k n ks A cap w hk (Lib.hid hm) (Lib.hid fun j x hx W v' h' => rsize_any N x (by have:=Tr.kid_less (k:=k) (n:=n) hx;omega) W v' h')
end Go.Proofs.YtmfihlcibephlaaDoor
namespace Go.Proofs.YtmfihlcibephlaaDoor
open Go.RowKit
inductive Ty where
 | node (k s q i:Int) (ks:List Ty)
mutual
def Ty.nodes:Ty → Nat
 | .node _ _ _ _ ks => tnodesL ks + 1
def tnodesL:List Ty → Nat
 | [] => 0
 | x :: xs => x.nodes + tnodesL xs
end
theorem Ty.nodes_pos (x:Ty):0 < x.nodes:=by cases x;unfold Ty.nodes;omega
theorem tnodesL_get:∀ {xs:List Ty} {j:Nat} {x:Ty},xs[j]? = some x → x.nodes ≤ tnodesL xs
 | [],j,x,h => by simp at h
 | y :: ys,0,x,h => by simp at h;subst h;unfold tnodesL;omega
 | y :: ys,j + 1,x,h => by
  have:=tnodesL_get (xs:=ys) (j:=j) (x:=x) (by simpa using h)
  unfold tnodesL;omega
theorem Ty.kid_less {k s q i:Int} {ks:List Ty} {j:Nat} {x:Ty} (h:ks[j]? = some x):x.nodes < (Ty.node k s q i ks).nodes:=by
 have h1:=tnodesL_get h
 have e:(Ty.node k s q i ks).nodes = tnodesL ks + 1:=by rw [Ty.nodes]
 omega
def t5 (k s q i:Int) (A:Option Addr) (len cap:Nat):List Value:=[.int .i64 k,.int .i64 s,.int .i64 q,.int .i64 i,.slice A len cap]
mutual
def TyAt (w:World):Ty → Value → Prop
 | .node k s q i ks,v => ∃ A cap,v = .agg (t5 k s q i A ks.length cap).toArray ∧ (ks.length ≤ cap ∧ cap ≤ maxLen ∧ i64r k ∧ i64r s ∧ i64r q ∧ i64r i) ∧ KtAt w A 0 ks
def KtAt (w:World) (A:Option Addr):Nat → List Ty → Prop
 | _,[] => True
 | i,x :: xs => (∃ g o cs,A = some ⟨g,o,none⟩ ∧ w.rangeAt g (o + i * 5) cs ∧ TyAt w x (.agg cs.toArray)) ∧ KtAt w A (i + 1) xs
end
theorem KtAt.get {w:World} {A:Option Addr}:∀ {xs:List Ty} {i j:Nat} {x:Ty},KtAt w A i xs → xs[j]? = some x → ∃ g o cs,A = some ⟨g,o,none⟩ ∧ w.rangeAt g (o + (i + j) * 5) cs ∧ TyAt w x (.agg cs.toArray)
 | [],i,j,x,_,h => by simp at h
 | y :: ys,i,0,x,hk,h => by
  simp at h;subst h
  unfold KtAt at hk
  exact hk.1
 | y :: ys,i,j + 1,x,hk,h => by
  unfold KtAt at hk
  have:=KtAt.get hk.2 (j:=j) (x:=x) (by simpa using h)
  rwa [show i + 1 + j = i + (j + 1) by omega] at this
mutual
theorem TyAt.later {w w':World} (hb:Below w.heap.size w w'):∀ {x:Ty} {v:Value},TyAt w x v → TyAt w' x v
 | .node k s q i ks,v,h => by
  unfold TyAt at h ⊢
  obtain ⟨A,cap,h1,hm,h2⟩:=h
  exact ⟨A,cap,h1,hm,KtAt.later hb h2⟩
theorem KtAt.later {w w':World} (hb:Below w.heap.size w w'):∀ {xs:List Ty} {A:Option Addr} {i:Nat},KtAt w A i xs → KtAt w' A i xs
 | [],A,i,h => by unfold KtAt;trivial
 | x :: xs,A,i,h => by
  unfold KtAt at h ⊢
  obtain ⟨⟨g,o,cs,h1,h2,h3⟩,h4⟩:=h
  exact ⟨⟨g,o,cs,h1,range_below h2 hb,TyAt.later hb h3⟩,KtAt.later hb h4⟩
end
theorem TyAt.shape {w:World} {x:Ty} {v:Value} (h:TyAt w x v):∃ k s q i A len cap,v = .agg (t5 k s q i A len cap).toArray:=by
 cases x with
 | node k s q i ks =>
  unfold TyAt at h
  obtain ⟨A,cap,h1,_⟩:=h
  exact ⟨k,s,q,i,A,_,cap,h1⟩
theorem info_type:(Tryd.prog.info? 31).map (·.size) = some 5:=by kernel_rfl
theorem tkid_at {w:World} {A:Option Addr} {ks:List Ty} {j:Nat} {x:Ty} (h:KtAt w A 0 ks) (hx:ks[j]? = some x) :
  ∃ g o C,A = some ⟨g,o,none⟩ ∧ Hid (w.rangeAt g (o + j * 5) C) ∧ Hid (TyAt w x (.agg C.toArray)) ∧ Hid (C.length = 5) ∧ Hid ((Tryd.prog.info? 31).map (·.size) = some C.length) ∧ Hid (∀ v ∈ C,v.oneCell' = true):=by
 obtain ⟨g,o,cs,hA,hr,ht⟩:=KtAt.get h hx
 rw [Nat.zero_add] at hr
 obtain ⟨k',s',q',i',A',len',cap',hsh⟩:=ht.shape
 have hcs:cs = t5 k' s' q' i' A' len' cap':=by simpa using hsh
 subst hcs
 exact ⟨g,o,_,hA,Lib.hid hr,Lib.hid ht,Lib.hid rfl,Lib.hid info_type,Lib.hid (by intro v hv;simp [t5] at hv;rcases hv with rfl | rfl | rfl | rfl | rfl <;> rfl)⟩
theorem t5_new (w:World) (k s q i:Int) (A:Option Addr) (len cap:Nat):Arr (w.alloc (.cells (t5 k s q i A len cap).toArray 31)) w.heap.size 5 31 (t5 k s q i A len cap):=Arr.new' w _ _ 5 _ rfl rfl (by decide)
mutual
def Ty.same:Ty → Ty → Bool
 | .node k s q i ks,.node k' s' q' i' ks' => decide (k = k') && (decide (s = s') && (decide (q = q') && decide (i = i'))) && sameL ks ks'
def sameL:List Ty → List Ty → Bool
 | [],[] => true
 | x :: xs,y :: ys => x.same y && sameL xs ys
 | _,_ => false
end
theorem same_form (k s q i k' s' q' i':Int) (ks ks':List Ty):(Ty.node k s q i ks).same (.node k' s' q' i' ks') = (decide (k = k') && (decide (s = s') && (decide (q = q') && decide (i = i'))) && sameL ks ks'):=by rw [Ty.same]
theorem sameL_len:∀ (xs ys:List Ty),xs.length ≠ ys.length → sameL xs ys = false
 | [],[],h => absurd rfl h
 | [],_ :: _,_ => by unfold sameL;rfl
 | _ :: _,[],_ => by unfold sameL;rfl
 | x :: xs,y :: ys,h => by
  unfold sameL
  rw [sameL_len xs ys (by simpa using h),Bool.and_false]
theorem sameL_drop {xs ys:List Ty} {j:Nat} (h:j < xs.length) (h':j < ys.length):sameL (xs.drop j) (ys.drop j) = (xs[j].same ys[j] && sameL (xs.drop (j + 1)) (ys.drop (j + 1))):=by
 rw [List.drop_eq_getElem_cons h,List.drop_eq_getElem_cons h',sameL]
end Go.Proofs.YtmfihlcibephlaaDoor
namespace Go.Proofs.YtmfihlcibephlaaDoor
open Go.RowKit
theorem isNaN_any (x:Int) (w:World):Calls Tryd.prog 81 #[.int .i64 x] w fun e w' => e = .returned (.bool false) ∧ w' = w:=by
 go_enter Tryd.func81,Tryd.ntmps81
 go_wp2_with fail
 go_ret
 exact ⟨by simp,rfl⟩
theorem ccmp_any (x y:Int) (w:World):Calls Tryd.prog 62 #[.int .i64 x,.int .i64 y] w fun e w' => e = .returned (.int .i64 (cmpI x y)) ∧ w' = w:=by
 have HN:=Lib.hid isNaN_any
 go_enter Tryd.func62,Tryd.ntmps62
 rcases Int.lt_trichotomy x y with h | h | h
 ·have HE:Hid (cmpI x y = -1):=Lib.hid (by unfold cmpI;rw [if_pos h])
  have h2:¬ y < x:=by omega
  go_wp2_with (go_at_call 81;(with_reducible refine (HN.out _ _).mono ?_);rintro e w6 ⟨rfl,rfl⟩)
  go_ret
  exact ⟨by rw [HE.out];rfl,rfl⟩
 ·subst h
  have h2:¬ x < x:=by omega
  have HE:Hid (cmpI x x = 0):=Lib.hid (by unfold cmpI;rw [if_neg h2,if_neg h2])
  go_wp2_with (go_at_call 81;(with_reducible refine (HN.out _ _).mono ?_);rintro e w6 ⟨rfl,rfl⟩)
  go_ret
  exact ⟨by rw [HE.out];rfl,rfl⟩
 ·have h2:¬ x < y:=by omega
  have HE:Hid (cmpI x y = 1):=Lib.hid (by unfold cmpI;rw [if_neg h2,if_pos h])
  go_wp2_with (go_at_call 81;(with_reducible refine (HN.out _ _).mono ?_);rintro e w6 ⟨rfl,rfl⟩)
  go_ret
  exact ⟨by rw [HE.out];rfl,rfl⟩
def or3 (a b c:Int):Int:=if a ≠ 0 then a else if b ≠ 0 then b else c
set_option maxHeartbeats 2000000 in
theorem cor_any (g:Nat) (a b c:Int) (w:World) (h0:w.cell? ⟨g,0,none⟩ = some (.int .i64 a)) (h1:w.cell? ⟨g,1,none⟩ = some (.int .i64 b)) (h2:w.cell? ⟨g,2,none⟩ = some (.int .i64 c)) :
  Calls Tryd.prog 61 #[.slice (some ⟨g,0,none⟩) 3 3] w fun e w' => e = .returned (.int .i64 (or3 a b c)) ∧ w' = w:=by
 go_enter Tryd.func61,Tryd.ntmps61
 go_wp2_with fail
 by_cases ha:a = 0
 ·subst ha
  by_cases hb:b = 0
  ·subst hb
   by_cases hc:c = 0
   ·subst hc
    have HE:Hid (or3 0 0 0 = 0):=Lib.hid rfl
    go_rounds 4
    go_ret
    exact ⟨by rw [HE.out];rfl,rfl⟩
   ·have HE:Hid (or3 0 0 c = c):=Lib.hid rfl
    go_rounds 4
    go_ret
    exact ⟨by rw [HE.out];rfl,rfl⟩
  ·have HE:Hid (or3 0 b c = b):=Lib.hid (by unfold or3;rw [if_neg (by decide),if_pos hb])
   go_rounds 4
   go_ret
   exact ⟨by rw [HE.out];rfl,rfl⟩
 ·have HE:Hid (or3 a b c = a):=Lib.hid (by unfold or3;rw [if_pos ha])
  go_rounds 4
  go_ret
  exact ⟨by rw [HE.out];rfl,rfl⟩
end Go.Proofs.YtmfihlcibephlaaDoor
namespace Go.Proofs.YtmfihlcibephlaaDoor
open Go.RowKit
set_option maxHeartbeats 4000000 in
set_option maxRecDepth 100000 in
theorem cfunc_step (xs ys:List Tr) (A B:Option Addr) (n cap cap':Nat) (w:World) (hl:xs.length = n) (hl':ys.length = n) (ha:KsAt w A 0 xs) (hb:KsAt w B 0 ys) (HM:Hid (n ≤ cap ∧ cap ≤ maxLen))
  (ih:Hid (∀ (j:Nat) (x y:Tr),xs[j]? = some x → ys[j]? = some y → ∀ W v u,TrAt W x v → TrAt W y u → Calls Tryd.prog 32 #[v,u] W (NumRes (x.cp y) W))) :
  Calls Tryd.prog 63 #[.slice A n cap,.slice B n cap',.func (.func 32) #[] #[]] w (NumRes (cpL xs ys) w):=by
 have HA:=Lib.hid ha
 have HB:=Lib.hid hb
 have HL:=Lib.hid hl
 have HL':=Lib.hid hl'
 obtain ⟨R,hR⟩:∃ R,cpL xs ys = R:=⟨_,rfl⟩
 rw [hR]
 have HR:=Lib.hid hR
 clear ha hb hl hl' hR
 go_enter Tryd.func63,Tryd.ntmps63
 go_wp2_with fail
 go_loopw [13] (fun i W => ∃ j:Nat,j ≤ n ∧ i = .int .i64 (j:Int) ∧ cpL (xs.drop j) (ys.drop j) = R ∧ Below w.heap.size w W) (fun i _ => n - (intOf i).toNat)
 case atStart => exact ⟨0,by omega,rfl,by simpa using HR.out,Below.refl _ _⟩
 case round =>
  obtain ⟨j,hj,rfl,hcp,V1⟩:=hrel
  by_cases hlt:j < n
  ·have hji:(j:Int) < (n:Int):=by omega
   have hj0:(0:Int) ≤ (j:Int):=by omega
   have hjm:(j:Int) + 1 ≤ 9223372036854775807:=by have:=HM.out;simp only [maxLen] at this;omega
   have hjx:j < xs.length:=by rw [HL.out];exact hlt
   have hjy:j < ys.length:=by rw [HL'.out];exact hlt
   have hkx:xs[j]? = some xs[j]:=List.getElem?_eq_getElem hjx
   have hky:ys[j]? = some ys[j]:=List.getElem?_eq_getElem hjy
   rw [cpL_drop xs ys j hjx hjy] at hcp
   have HCP:=Lib.hid hcp
   clear hcp
   obtain ⟨g,o,C,hA,HRa,HT,HC3,HI3,HOC⟩:=kid_at (HA.out.later V1) hkx
   obtain ⟨g',o',C',hB,HRb,HT',HC3',HI3',HOC'⟩:=kid_at (HB.out.later V1) hky
   subst hA
   subst hB
   have HIH:Hid (∀ W v u,TrAt W xs[j] v → TrAt W ys[j] u → Calls Tryd.prog 32 #[v,u] W (NumRes (xs[j].cp ys[j]) W)):=Lib.hid (ih.out j _ _ hkx hky)
   clear hkx hky
   generalize xs[j] = x at HCP HIH HT
   generalize ys[j] = y at HCP HIH HT'
   generalize x.cp y = c at HCP HIH
   clear hjx hjy
   have hng:¬ (j:Int) ≥ (n:Int):=by omega
   have hng2:¬ (n:Int) ≤ (j:Int):=by omega
   have hdg:decide ((n:Int) ≤ (j:Int)) = false:=decide_eq_false hng2
   go_upto_region 4 with (first
    | (with_reducible refine wpList_load_mid rfl _ (.tmp 16) rfl g (o + j * 3) rfl C _ HRa.out Tryd.underlying53 rfl HI3.out ?_)
    | (refine wpList_store_new rfl _ (.tmp 8) (.tmp 17) rfl rfl rfl info_val HC3.out rfl (all_oneCell_toArray HOC.out) ?_;intro w5 hbel5 hrow5 hsz5;have T5:Arr w5 wr.heap.size 3 53 C:=Arr.of_row hrow5 HC3.out (by decide);have V5:=later V1 hbel5;have HT5:=Lib.hid (HT.out.later hbel5);have HT5':=Lib.hid (HT'.out.later hbel5);have HRb5:=Lib.hid (range_below HRb.out hbel5);clear hrow5))
   clear hbel5 hsz5 HC3 HRa HRb HT HT'
   clear HA HB HL HL' HR ih
   go_upto_region 6 with fail
   go_upto_region 7 with (first
    | (with_reducible refine wpList_load_mid rfl _ (.tmp 24) rfl g' (o' + j * 3) rfl C' _ HRb5.out Tryd.underlying53 rfl HI3'.out ?_)
    | (refine wpList_store_new rfl _ (.tmp 9) (.tmp 25) rfl rfl rfl info_val HC3'.out rfl (all_oneCell_toArray HOC'.out) ?_;intro w6 hbel6 hrow6 hsz6;have T6':Arr w6 w5.heap.size 3 53 C':=Arr.of_row hrow6 HC3'.out (by decide);have T6:=T5.later hbel6;have V6:=later V5 hbel6;have HT6:=Lib.hid (HT5.out.later hbel6);have HT6':=Lib.hid (HT5'.out.later hbel6);clear hrow6))
   have HV6:=Lib.hid V6
   clear T5 V5 HT5 HT5' HRb5 hbel6 hsz6 V1 hlt hng hng2 hdg
   by_cases hc0:c = 0
   ·subst hc0
    go_upto_region 8 with (first
     | (with_reducible refine wpList_load_mid rfl _ (.tmp 8) rfl wr.heap.size 0 rfl C _ T6.range Tryd.underlying53 rfl HI3.out ?_)
     | (with_reducible refine wpList_load_mid rfl _ (.tmp 9) rfl w5.heap.size 0 rfl C' _ T6'.range Tryd.underlying53 rfl HI3'.out ?_)
     | (go_at_call 32;(with_reducible refine (HIH.out _ _ _ HT6.out HT6'.out).mono ?_);rintro e w7 ⟨rfl,hb7⟩;have V7:=later V6 hb7))
    have HCP0:Hid (cpL (xs.drop (j + 1)) (ys.drop (j + 1)) = R):=Lib.hid (by have h:=HCP.out;rw [if_neg (by omega)] at h;exact h)
    go_wp2_with fail
    refine ⟨⟨j + 1,by omega,by go_num,HCP0.out,V7⟩,by simp [intOf];omega⟩
   ·have hcb:(c != 0) = true:=by simpa using hc0
    go_wp2_with (first
     | (with_reducible refine wpList_load_mid rfl _ (.tmp 8) rfl wr.heap.size 0 rfl C _ T6.range Tryd.underlying53 rfl HI3.out ?_)
     | (with_reducible refine wpList_load_mid rfl _ (.tmp 9) rfl w5.heap.size 0 rfl C' _ T6'.range Tryd.underlying53 rfl HI3'.out ?_)
     | (go_at_call 32;(with_reducible refine (HIH.out _ _ _ HT6.out HT6'.out).mono ?_);rintro e w7 ⟨rfl,hb7⟩;have V7:=later V6 hb7))
    have HCR:Hid (c = R):=Lib.hid (by have h:=HCP.out;rw [if_pos hc0] at h;exact h)
    go_ret
    exact ⟨by rw [← HCR.out];rfl,V7⟩
  ·have hje:j = n:=by omega
   subst hje
   rw [List.drop_of_length_le (by rw [HL.out];omega),cpL] at hcp
   subst hcp
   go_wp2_with fail
   go_ret
   exact ⟨rfl,V1⟩
end Go.Proofs.YtmfihlcibephlaaDoor
namespace Go.Proofs.YtmfihlcibephlaaDoor
open Go.RowKit
theorem below_drew' {B:Nat} {a w:World} (h:Below B a w):Below B a w.drew:=below_drewN h 1
theorem or3_zero {a b c:Int} (h:or3 a b c = 0):a = 0 ∧ b = 0 ∧ c = 0:=by
 unfold or3 at h
 split at h
 ·omega
 ·split at h
  ·omega
  ·omega
set_option maxHeartbeats 4000000 in
set_option maxRecDepth 100000 in
theorem cmp_step (k n k' n' R:Int) (len len':Nat) (A B:Option Addr) (cap cap':Nat) (w:World)
  (HH:Hid (cmpI k k' = 0 → cmpI n n' = 0 → cmpI (len:Int) (len':Int) = 0 → ∀ W,Below w.heap.size w W → Calls Tryd.prog 63 #[.slice A len cap,.slice B len' cap',.func (.func 32) #[] #[]] W (NumRes R W))) :
  Calls Tryd.prog 32 #[.agg (c3 k n A len cap).toArray,.agg (c3 k' n' B len' cap').toArray] w (NumRes (if or3 (cmpI k k') (cmpI n n') (cmpI (len:Int) (len':Int)) ≠ 0 then or3 (cmpI k k') (cmpI n n') (cmpI (len:Int) (len':Int)) else R) w):=by
 have HC:=Lib.hid ccmp_any
 have HO:=Lib.hid cor_any
 have P0:=c3_new w k n A len cap
 have V0':=new_later w (.cells (c3 k n A len cap).toArray 53)
 have Q0:=c3_new (w.alloc (.cells (c3 k n A len cap).toArray 53)) k' n' B len' cap'
 have P1:=P0.later (new_later _ (.cells (c3 k' n' B len' cap').toArray 53))
 have V1:=later V0' (new_later _ (.cells (c3 k' n' B len' cap').toArray 53))
 rw [World.size_alloc] at Q0
 clear P0 V0'
 generalize hW:(w.alloc (.cells (c3 k n A len cap).toArray 53)).alloc (.cells (c3 k' n' B len' cap').toArray 53) = wa at P1 V1 Q0
 go_enter Tryd.func32,Tryd.ntmps32
 go_upto_region 1 with fail
 clear hW
 have Pd:Arr wa.drew w.heap.size 3 53 (c3 k n A len cap):=P1
 have Qd:Arr wa.drew (w.heap.size + 1) 3 53 (c3 k' n' B len' cap'):=Q0
 have Vd:Below w.heap.size w wa.drew:=below_drewN V1 1
 have bP:=fun (X:Int) (Y:Int) (Z:Int) => new_later wa.drew (.cells #[.int .i64 X,.int .i64 Y,.int .i64 Z] 3)
 have HP:Hid (∀ W,Arr W w.heap.size 3 53 (c3 k n A len cap) → Arr W (w.heap.size + 1) 3 53 (c3 k' n' B len' cap') → (W.cell? ⟨w.heap.size,0,none⟩ = some (.int .i64 k) ∧ W.cell? ⟨w.heap.size,1,none⟩ = some (.int .i64 n) ∧ W.cell? ⟨w.heap.size,2,none⟩ = some (.slice A len cap) ∧ W.cell? ⟨w.heap.size + 1,0,none⟩ = some (.int .i64 k') ∧ W.cell? ⟨w.heap.size + 1,1,none⟩ = some (.int .i64 n') ∧ W.cell? ⟨w.heap.size + 1,2,none⟩ = some (.slice B len' cap'))) :=
  Lib.hid fun W p q => ⟨p.cell (j:=0) rfl,p.cell (j:=1) rfl,p.cell (j:=2) rfl,q.cell (j:=0) rfl,q.cell (j:=1) rfl,q.cell (j:=2) rfl⟩
 have HOr:Hid (∀ X Y Z,Calls Tryd.prog 61 #[.slice (some ⟨wa.heap.size,0,none⟩) 3 3] (wa.alloc (.cells #[.int .i64 X,.int .i64 Y,.int .i64 Z] 3)).drew fun e w' => e = .returned (.int .i64 (or3 X Y Z)) ∧ w' = (wa.alloc (.cells #[.int .i64 X,.int .i64 Y,.int .i64 Z] 3)).drew):=Lib.hid fun X Y Z => by
  have hN:Arr (wa.alloc (.cells #[.int .i64 X,.int .i64 Y,.int .i64 Z] 3)).drew wa.heap.size 3 3 [.int .i64 X,.int .i64 Y,.int .i64 Z]:=Arr.new' wa 3 #[.int .i64 X,.int .i64 Y,.int .i64 Z] 3 [.int .i64 X,.int .i64 Y,.int .i64 Z] rfl rfl (by decide)
  exact HO.out _ X Y Z _ (hN.cell (j:=0) rfl) (hN.cell (j:=1) rfl) (hN.cell (j:=2) rfl)
 go_region_held3 (fun W => W.cell? ⟨w.heap.size,0,none⟩ = some (.int .i64 k) ∧ W.cell? ⟨w.heap.size,1,none⟩ = some (.int .i64 n) ∧ W.cell? ⟨w.heap.size,2,none⟩ = some (.slice A len cap) ∧ W.cell? ⟨w.heap.size + 1,0,none⟩ = some (.int .i64 k') ∧ W.cell? ⟨w.heap.size + 1,1,none⟩ = some (.int .i64 n') ∧ W.cell? ⟨w.heap.size + 1,2,none⟩ = some (.slice B len' cap'))
  (first | exact HP.out _ Pd Qd | exact HP.out _ (Pd.later (bP _ _ _)) (Qd.later (bP _ _ _)))
  (first
  | (go_at_call 62;(with_reducible refine (HC.out _ _ _).mono ?_);rintro e w6 ⟨rfl,rfl⟩)
  | (go_at_call 61;(with_reducible refine (HOr.out _ _ _).mono ?_);rintro e w6 ⟨rfl,rfl⟩))
 have hbN:=new_later wa (.cells #[.int .i64 (cmpI k k'),.int .i64 (cmpI n n'),.int .i64 (cmpI (len:Int) (len':Int))] 3)
 have P3:Arr (wa.alloc (.cells #[.int .i64 (cmpI k k'),.int .i64 (cmpI n n'),.int .i64 (cmpI (len:Int) (len':Int))] 3)).drew w.heap.size 3 53 (c3 k n A len cap):=P1.later (below_drew' hbN)
 have Q3:Arr (wa.alloc (.cells #[.int .i64 (cmpI k k'),.int .i64 (cmpI n n'),.int .i64 (cmpI (len:Int) (len':Int))] 3)).drew (w.heap.size + 1) 3 53 (c3 k' n' B len' cap'):=Q0.later (below_drew' hbN)
 have V3:Below w.heap.size w (wa.alloc (.cells #[.int .i64 (cmpI k k'),.int .i64 (cmpI n n'),.int .i64 (cmpI (len:Int) (len':Int))] 3)).drew:=below_drew' (later V1 hbN)
 have hor:or3 (cmpI k k') (cmpI n n') (cmpI (len:Int) (len':Int)) = 0 → cmpI k k' = 0 ∧ cmpI n n' = 0 ∧ cmpI (len:Int) (len':Int) = 0:=or3_zero
 clear hbN Pd Qd Vd bP HP HOr P1 V1 Q0
 generalize (wa.alloc (.cells #[.int .i64 (cmpI k k'),.int .i64 (cmpI n n'),.int .i64 (cmpI (len:Int) (len':Int))] 3)).drew = wb at P3 Q3 V3 ⊢
 have HH2:Hid (or3 (cmpI k k') (cmpI n n') (cmpI (len:Int) (len':Int)) = 0 → Calls Tryd.prog 63 #[.slice A len cap,.slice B len' cap',.func (.func 32) #[] #[]] wb (NumRes R wb)):=Lib.hid fun h => HH.out (hor h).1 (hor h).2.1 (hor h).2.2 wb V3
 clear HH hor
 have ha2:=P3.cell (j:=2) (v:=.slice A len cap) rfl
 have hb2:=Q3.cell (j:=2) (v:=.slice B len' cap') rfl
 by_cases hc0:or3 (cmpI k k') (cmpI n n') (cmpI (len:Int) (len':Int)) = 0
 ·have HQ:=Lib.hid (HH2.out hc0)
  have HZ:=Lib.hid hc0
  rw [hc0]
  clear hc0 HH2
  go_wp2_with (go_at_call 63;(with_reducible refine HQ.out.mono ?_);rintro e w7 ⟨rfl,hb7⟩;have V7:=later V3 hb7)
  go_ret
  exact ⟨by first | rfl | (rw [if_neg (by rw [HZ.out];decide)];rfl),V7⟩
 ·have HZ:=Lib.hid hc0
  have hcb:(or3 (cmpI k k') (cmpI n n') (cmpI (len:Int) (len':Int)) != 0) = true:=by simpa using hc0
  clear hc0 HH2
  obtain ⟨c,hce⟩:∃ c,or3 (cmpI k k') (cmpI n n') (cmpI (len:Int) (len':Int)) = c:=⟨_,rfl⟩
  have HCE:=Lib.hid hce
  rw [hce] at hcb ⊢
  clear hce
  go_wp2_with fail
  go_ret
  exact ⟨by rw [HCE.out];rfl,V3⟩
theorem cp_form (k n k' n':Int) (xs ys:List Tr):(Tr.node k n xs).cp (Tr.node k' n' ys) = if or3 (cmpI k k') (cmpI n n') (cmpI (xs.length:Int) (ys.length:Int)) ≠ 0 then or3 (cmpI k k') (cmpI n n') (cmpI (xs.length:Int) (ys.length:Int)) else cpL xs ys:=by
 rw [Tr.cp]
 unfold or3
 by_cases h1:cmpI k k' ≠ 0
 ·rw [if_pos h1,if_pos h1,if_pos h1]
 ·rw [if_neg h1,if_neg h1]
  by_cases h2:cmpI n n' ≠ 0
  ·rw [if_pos h2,if_pos h2,if_pos h2]
  ·rw [if_neg h2,if_neg h2]
theorem cmpI_zero {x y:Int} (h:cmpI x y = 0):x = y:=by
 unfold cmpI at h
 split at h
 ·omega
 ·split at h <;> omega
theorem compare_any:∀ (N:Nat) (x:Tr),x.nodes ≤ N → ∀ (y:Tr) (w:World) (v u:Value),TrAt w x v → TrAt w y u → Calls Tryd.prog 32 #[v,u] w (NumRes (x.cp y) w)
 | 0,x,hN,_,_,_,_,_,_ => absurd hN (by have:=x.nodes_pos;omega)
 | N + 1,.node k n ks,hN,.node k' n' ks',w,v,u,h,h' => by
  unfold TrAt at h h'
  obtain ⟨A,cap,rfl,hm,hk⟩:=h
  obtain ⟨B,cap',rfl,hm',hk'⟩:=h'
  rw [cp_form]
  refine cmp_step k n k' n' _ ks.length ks'.length A B cap cap' w (Lib.hid fun h1 h2 h3 W hW => ?_)
  have hl:=cmpI_zero h3
  have hl2:ks'.length = ks.length:=by omega
  rw [hl2]
  exact cfunc_step ks ks' A B ks.length cap cap' W rfl hl2 (hk.later hW) (hk'.later hW) (Lib.hid ⟨hm.1,hm.2.1⟩) (Lib.hid fun j x y hx hy W' v' u' e e' => compare_any N x (by have:=Tr.kid_less (k:=k) (n:=n) hx;omega) y W' v' u' e e')
end Go.Proofs.YtmfihlcibephlaaDoor
