import Derived.Test.YtmfihlcibephlaaDoorZ23
import Derived.Deep.RegionHeld3
set_option linter.unusedVariables false
set_option linter.unusedSimpArgs false
namespace Go.Proofs.YtmfihlcibephlaaDoor
open Go.RowKit
set_option maxHeartbeats 4000000 in
set_option maxRecDepth 100000 in
theorem mk_L0 (P:List Df) (ls:List Int) (W:World) (n cap0:Nat) (LA:Option Addr) (ln' lc p d:Nat) (mv:Value) (A0:Option Addr) (t:Ty) (s q i:Int) (B:Option Addr) (ln cp:Nat)
  (hP:PrAt W P (.agg #[mv,.slice A0 n cap0])) (ht:TyAt W t (.agg (t5 2 s q i B ln cp).toArray)) (hN:Nums W ls LA ln') (hp:p ≤ 99999) (hd30:d ≤ 30) (t':Ty) (N D:Nat) (hte:t = tL t') (hpN:p + (1 + 2 * N) ≤ 100000) (hdD:d + (1 + D) ≤ 30) (ih:Hid (MC P ls t' N D)) (hvt':vty P 23 t' = true) (hnX:at_ ls p 1048576 < 1048576) (hd3:3 < d) :
  Calls Tryd.prog 52 #[.agg #[mv,.slice A0 n cap0],.agg (t5 2 s q i B ln cp).toArray,.slice LA ln' lc,.int .i64 (p:Int),.int .i64 (d:Int)] W (MRes P (tL t') (1 + 2 * N) (1 + D) p W):=by
 have HPN:=Lib.hid hpN
 have HDD:=Lib.hid hdD
 have HVT:=Lib.hid hvt'
 have ht2:=ht
 rw [hte] at ht2
 unfold tL at ht2
 unfold TyAt at ht2
 obtain ⟨B',cp',hv,hm',hks⟩:=ht2
 have hv':t5 2 s q i B ln cp = t5 2 0 0 0 B' 1 cp':=by simpa using hv
 simp only [t5,List.cons.injEq,Value.int.injEq,Value.slice.injEq,true_and,and_true] at hv'
 obtain ⟨-,-,-,hB,hl1,-⟩:=hv'
 subst hB
 obtain ⟨g,o,TC,hA,HRg0,HTx0,HC5,HI5,HOT⟩:=tkid_at hks (j:=0) (x:=t') rfl
 subst hA
 have HR00:Hid (W.rangeAt g o TC):=Lib.hid (by have h:=HRg0.out;simpa using h)
 obtain ⟨tk,ts,tq,ti,tB,tl,tc,hsh⟩:=HTx0.out.shape
 have hTl:TC = [.int .i64 tk,.int .i64 ts,.int .i64 tq,.int .i64 ti,.slice tB tl tc]:=by simpa [t5] using hsh
 subst hTl
 have hpi1:(0:Int) < (ln:Int):=by omega
 have hpn1:0 < ln:=by omega
 clear hv hl1 hm' hks HRg0 hsh hvt' hpN hdD hte hnX
 have P0:=p2_new W mv (.slice A0 n cap0)
 have V0:=new_later W (.cells #[mv,.slice A0 n cap0] 26)
 have Q0:=t5_new (W.alloc (.cells #[mv,.slice A0 n cap0] 26)) 2 s q i (some ⟨g,o,none⟩) ln cp
 have b1:=new_later (W.alloc (.cells #[mv,.slice A0 n cap0] 26)) (.cells (t5 2 s q i (some ⟨g,o,none⟩) ln cp).toArray 31)
 have R0:Arr (((W.alloc (.cells #[mv,.slice A0 n cap0] 26)).alloc (.cells (t5 2 s q i (some ⟨g,o,none⟩) ln cp).toArray 31)).alloc (.cells #[.int .i64 0,.int .i64 0,.slice none 0 0] 53)) ((W.alloc (.cells #[mv,.slice A0 n cap0] 26)).alloc (.cells (t5 2 s q i (some ⟨g,o,none⟩) ln cp).toArray 31)).heap.size 3 53 zc3:=Arr.new' _ _ _ 3 zc3 rfl rfl (by decide)
 have b2:=new_later ((W.alloc (.cells #[mv,.slice A0 n cap0] 26)).alloc (.cells (t5 2 s q i (some ⟨g,o,none⟩) ln cp).toArray 31)) (.cells #[.int .i64 0,.int .i64 0,.slice none 0 0] 53)
 replace P0:=(P0.later b1).later b2
 replace Q0:=Q0.later b2
 have V1:=later (later V0 b1) b2
 rw [World.size_alloc] at Q0
 rw [World.size_alloc,World.size_alloc] at R0
 clear V0 b1 b2
 generalize hW:((W.alloc (.cells #[mv,.slice A0 n cap0] 26)).alloc (.cells (t5 2 s q i (some ⟨g,o,none⟩) ln cp).toArray 31)).alloc (.cells #[.int .i64 0,.int .i64 0,.slice none 0 0] 53) = wa at P0 Q0 R0 V1
 have y0:=Q0.cell (j:=0) (v:=.int .i64 2) rfl
 have y1:=Q0.cell (j:=1) (v:=.int .i64 s) rfl
 have y2:=Q0.cell (j:=2) (v:=.int .i64 q) rfl
 have y3:=Q0.cell (j:=3) (v:=.int .i64 i) rfl
 have y4:=Q0.cell (j:=4) (v:=.slice (some ⟨g,o,none⟩) ln cp) rfl
 have zz0:=P0.cell (j:=0) (v:=mv) rfl
 have zz1:=P0.cell (j:=1) (v:=.slice A0 n cap0) rfl
 have HPA:=Lib.hid (hP.later V1)
 have HP0:=Lib.hid hP
 have HTA:=Lib.hid (ht.later V1)
 have HV:=Lib.hid V1
 have HPB:=Lib.hid P0
 have HQB:=Lib.hid Q0
 have HRB:=Lib.hid R0
 have HIV:Hid ((Tryd.prog.info? 53).map (·.size) = some zc3.length):=Lib.hid info_val
 have hpi:(p:Int) ≤ 99999:=by omega
 have hp0:(0:Int) ≤ (p:Int):=by omega
 have hdi:(d:Int) ≤ 30:=by omega
 have hd0:(0:Int) ≤ (d:Int):=by omega
 have HN:=Lib.hid (hN.later V1)
 have HAT:Hid (∀ W',Nums W' ls LA ln' → Calls Tryd.prog 44 #[.slice LA ln' lc,.int .i64 (p:Int),.int .i64 1048576] W' fun e w' => e = .returned (.int .i64 ((at_ ls p 1048576:Nat):Int)) ∧ w' = W'):=Lib.hid fun W' h => At_any ls p 1048576 ln' W'.heap.size lc LA h.ln h.mx (by omega) (by omega) h.i64 W' h.rd
 have hX:=atl_lt ls p 1048576 (by omega)
 generalize at_ ls p 1048576 = X at HAT hX
 have hXi:(X:Int) < 1048576:=by omega
 have hX0:(0:Int) ≤ (X:Int):=by omega
 clear hP ht hN P0 Q0 R0 V1
 have HTx:Hid (TyAt wa t' (.agg ([.int .i64 tk,.int .i64 ts,.int .i64 tq,.int .i64 ti,.slice tB tl tc]:List Value).toArray)):=Lib.hid (HTx0.out.later HV.out)
 have HRg:Hid (wa.rangeAt g o [.int .i64 tk,.int .i64 ts,.int .i64 tq,.int .i64 ti,.slice tB tl tc]):=Lib.hid (range_below HR00.out HV.out)
 have hna:=new_later wa (.cells #[.int .i64 4,.int .i64 0,.slice none 0 0] 53)
 have y05:(wa.alloc (.cells #[.int .i64 4,.int .i64 0,.slice none 0 0] 53)).cell? ⟨W.heap.size + 1,0,none⟩ = some (.int .i64 2):=(hna.cell (p:=⟨W.heap.size + 1,0,none⟩) (World.block_lt_of_cell? wa _ y0)).trans y0
 clear hna HTx0 HR00
 obtain ⟨M,hM⟩:∃ M,X % 3 = M:=⟨_,rfl⟩
 have hr:(X:Int) % 3 = (M:Int):=by omega
 have HM2:Hid (0 ≤ 2):=Lib.hid (by omega)
 have hMi:(M:Int) ≤ 2:=by omega
 have hM0:(0:Int) ≤ (M:Int):=by omega
 have hnd:(3:Int) < (d:Int):=by omega
 clear hM hX hd3
 go_enter Tryd.func52,Tryd.ntmps52
 go_upto_region 1 with fail
 clear hW
 go_upto_region 14 with (go_at_call 44;(with_reducible refine (HAT.out _ HN.out).mono ?_);rintro e w2 ⟨rfl,hw2⟩;rw [hw2];clear hw2)
 go_upto_region 16 with fail
 have b11:=new_later wa (.cells #[.int .i64 4,.int .i64 0,.slice none 0 0] 53)
 have A11:Arr (wa.alloc (.cells #[.int .i64 4,.int .i64 0,.slice none 0 0] 53)) wa.heap.size 3 53 [.int .i64 4,.int .i64 0,.slice none 0 0]:=Arr.new' wa _ _ 3 _ rfl rfl (by decide)
 have hsz11:(wa.alloc (.cells #[.int .i64 4,.int .i64 0,.slice none 0 0] 53)).heap.size = wa.heap.size + 1:=by simp
 generalize wa.alloc (.cells #[.int .i64 4,.int .i64 0,.slice none 0 0] 53) = w5 at b11 A11 hsz11 ⊢
 have HPB5:=Lib.hid (HPB.out.later b11)
 have HQB5:=Lib.hid (HQB.out.later b11)
 have HRB5:=Lib.hid (HRB.out.later b11)
 have HV5:=Lib.hid (later HV.out b11)
 have HA11:=Lib.hid A11
 have HSZ:=Lib.hid hsz11
 have hgr:W.heap.size + 1 + 1 < wa.heap.size:=HRB.out.lt
 have HO5:Hid (Below wa.heap.size wa w5):=Lib.hid b11
 generalize hg11:wa.heap.size = g11 at HA11 HSZ hgr HO5 ⊢
 have HG11:=Lib.hid hg11
 generalize hBB:w5.heap.size = BB at HSZ
 have HBB:=Lib.hid hBB
 clear y05 b11 A11 hsz11 hg11 hBB HPA HTA HV HPB HQB HRB y0 y1 y2 y3 y4 zz0 zz1 HAT
 go_wp2_with fail
 go_loopw [3,15] (fun us ii W' => ∃ (j a':Nat) (v:Value) (acc:List Tr),j ≤ 0 ∧ ii = .int .i64 (j:Int) ∧ us = .int .i64 (a':Int) ∧ acc.length = j ∧ (a' = p + 1 + nodesL acc ∧ nodesL acc ≤ j * N ∧ depL acc ≤ D) ∧ Hid (∀ x ∈ acc,ft P x t' = true) ∧ Arr W' W.heap.size 2 26 [mv,.slice A0 n cap0] ∧ Arr W' (W.heap.size + 1) 5 31 (t5 2 s q i (some ⟨g,o,none⟩) ln cp) ∧ Arr W' (W.heap.size + 1 + 1) 3 53 zc3 ∧ Arr W' g11 3 53 [.int .i64 4,.int .i64 0,v] ∧ Below W.heap.size W W' ∧ Below g11 wa W' ∧ Grow W' BB v acc ∧ BB ≤ W'.heap.size) (fun _ ii _ => 0 - (intOf ii).toNat)
 case atStart => exact ⟨0,p + 1,_,[],Nat.zero_le _,by go_num,by go_num,rfl,⟨by rw [nodesL],by rw [nodesL];exact Nat.zero_le _,by rw [depL];exact Nat.zero_le _⟩,Lib.hid (by simp),HPB5.out,HQB5.out,HRB5.out,HA11.out,HV5.out,HO5.out,Grow.nil _ _,by rw [HBB.out];exact Nat.le_refl _⟩
 case round =>
  obtain ⟨j,a',v,acc,hj,rfl,rfl,hacc,hsum,HFA,P6,Q6,X6,A6,V6,O6,G6,hB6⟩:=hrel
  have PA6:=HP0.out.later V6
  have hj0:(0:Int) ≤ (j:Int):=by omega
  have ha0:(0:Int) ≤ (a':Int):=by omega
  by_cases hlt:j < 0
  ·exact absurd hlt (by omega)
  ·have hge:¬ (j:Int) < 0:=by omega
   obtain ⟨VA,vcap,hvs,_,_⟩:=G6.shape
   subst hvs
   obtain ⟨hvl,hTV⟩:=G6.tree 4 0 (by unfold i64r;omega) (by unfold i64r;omega)
   have HTV:=Lib.hid hTV
   have HAE:Hid (a' = p + (nodesL acc + 1) ∧ nodesL acc + 1 ≤ 1 + 2 * N ∧ depL acc + 1 ≤ 1 + D):=Lib.hid (by
    have h2:j * N ≤ 2 * N:=Nat.mul_le_mul_right N (by have:=HM2.out;omega)
    omega)
   generalize acc.length = al at hvl A6 HTV
   have x0:=A6.cell (j:=0) (v:=.int .i64 4) rfl
   have x1:=A6.cell (j:=1) (v:=.int .i64 0) rfl
   have x2:=A6.cell (j:=2) (v:=.slice VA al vcap) rfl
   have HX6:=Lib.hid X6
   have HV6:=Lib.hid V6
   have HI3:Hid ((Tryd.prog.info? 53).map (·.size) = some ([.int .i64 4,.int .i64 0,.slice VA al vcap]:List Value).length):=Lib.hid info_val
   have HO3:Hid (∀ v ∈ ([.int .i64 4,.int .i64 0,.slice VA al vcap]:List Value),v.oneCell' = true):=Lib.hid (by intro v hv;simp at hv;rcases hv with rfl | rfl | rfl <;> rfl)
   have hBW:W.heap.size + 1 + 1 < BB:=by have:=HSZ.out;omega
   clear hlt G6 hvl hTV A6 X6 V6 P6 Q6 O6 PA6 hacc hj hsum
   go_wp2_with (refine wpList_store_arr rfl _ (.tmp 10) (.tmp 97) rfl (W.heap.size + 1 + 1) 0 3 53 _ [.int .i64 4,.int .i64 0,.slice VA al vcap] zc3 rfl rfl rfl HX6.out (show 0 + 3 ≤ 3 by omega) HI3.out HO3.out ?_;intro w12 f12 o12)
   rw [setAll_all zc3 [.int .i64 4,.int .i64 0,.slice VA al vcap] rfl] at f12
   refine bodyPost_ret (results_cellB rfl _ _ (W.heap.size + 1 + 1) [.int .i64 4,.int .i64 0,.slice VA al vcap] _ rfl f12.range Tryd.underlying53 rfl HI3.out) rfl ?_
   obtain ⟨e1,e2,e3⟩:=HAE.out
   rw [e1]
   exact ⟨.node 4 0 acc,_,_,_,_,_,by rw [nodes_node];rfl,HTV.out.keep (fun k hk => by omega) (fun k hk _ => o12.2 k (by omega)),⟨ft_L P t' acc HVT.out HFA.out,by rw [nodes_node];exact e2,by rw [dep_node];exact e3⟩,HV6.out.trans (o12.bel.mono (by omega))⟩
set_option maxHeartbeats 4000000 in
set_option maxRecDepth 100000 in
theorem mk_L1 (P:List Df) (ls:List Int) (W:World) (n cap0:Nat) (LA:Option Addr) (ln' lc p d:Nat) (mv:Value) (A0:Option Addr) (t:Ty) (s q i:Int) (B:Option Addr) (ln cp:Nat)
  (hP:PrAt W P (.agg #[mv,.slice A0 n cap0])) (ht:TyAt W t (.agg (t5 2 s q i B ln cp).toArray)) (hN:Nums W ls LA ln') (hp:p ≤ 99999) (hd30:d ≤ 30) (t':Ty) (N D:Nat) (hte:t = tL t') (hpN:p + (1 + 2 * N) ≤ 100000) (hdD:d + (1 + D) ≤ 30) (ih:Hid (MC P ls t' N D)) (hvt':vty P 23 t' = true) (hnX:at_ ls p 1048576 < 1048576) (hd3:¬ 3 < d) :
  Calls Tryd.prog 52 #[.agg #[mv,.slice A0 n cap0],.agg (t5 2 s q i B ln cp).toArray,.slice LA ln' lc,.int .i64 (p:Int),.int .i64 (d:Int)] W (MRes P (tL t') (1 + 2 * N) (1 + D) p W):=by
 have HPN:=Lib.hid hpN
 have HDD:=Lib.hid hdD
 have HVT:=Lib.hid hvt'
 have ht2:=ht
 rw [hte] at ht2
 unfold tL at ht2
 unfold TyAt at ht2
 obtain ⟨B',cp',hv,hm',hks⟩:=ht2
 have hv':t5 2 s q i B ln cp = t5 2 0 0 0 B' 1 cp':=by simpa using hv
 simp only [t5,List.cons.injEq,Value.int.injEq,Value.slice.injEq,true_and,and_true] at hv'
 obtain ⟨-,-,-,hB,hl1,-⟩:=hv'
 subst hB
 obtain ⟨g,o,TC,hA,HRg0,HTx0,HC5,HI5,HOT⟩:=tkid_at hks (j:=0) (x:=t') rfl
 subst hA
 have HR00:Hid (W.rangeAt g o TC):=Lib.hid (by have h:=HRg0.out;simpa using h)
 obtain ⟨tk,ts,tq,ti,tB,tl,tc,hsh⟩:=HTx0.out.shape
 have hTl:TC = [.int .i64 tk,.int .i64 ts,.int .i64 tq,.int .i64 ti,.slice tB tl tc]:=by simpa [t5] using hsh
 subst hTl
 have hpi1:(0:Int) < (ln:Int):=by omega
 have hpn1:0 < ln:=by omega
 clear hv hl1 hm' hks HRg0 hsh hvt' hpN hdD hte hnX
 have P0:=p2_new W mv (.slice A0 n cap0)
 have V0:=new_later W (.cells #[mv,.slice A0 n cap0] 26)
 have Q0:=t5_new (W.alloc (.cells #[mv,.slice A0 n cap0] 26)) 2 s q i (some ⟨g,o,none⟩) ln cp
 have b1:=new_later (W.alloc (.cells #[mv,.slice A0 n cap0] 26)) (.cells (t5 2 s q i (some ⟨g,o,none⟩) ln cp).toArray 31)
 have R0:Arr (((W.alloc (.cells #[mv,.slice A0 n cap0] 26)).alloc (.cells (t5 2 s q i (some ⟨g,o,none⟩) ln cp).toArray 31)).alloc (.cells #[.int .i64 0,.int .i64 0,.slice none 0 0] 53)) ((W.alloc (.cells #[mv,.slice A0 n cap0] 26)).alloc (.cells (t5 2 s q i (some ⟨g,o,none⟩) ln cp).toArray 31)).heap.size 3 53 zc3:=Arr.new' _ _ _ 3 zc3 rfl rfl (by decide)
 have b2:=new_later ((W.alloc (.cells #[mv,.slice A0 n cap0] 26)).alloc (.cells (t5 2 s q i (some ⟨g,o,none⟩) ln cp).toArray 31)) (.cells #[.int .i64 0,.int .i64 0,.slice none 0 0] 53)
 replace P0:=(P0.later b1).later b2
 replace Q0:=Q0.later b2
 have V1:=later (later V0 b1) b2
 rw [World.size_alloc] at Q0
 rw [World.size_alloc,World.size_alloc] at R0
 clear V0 b1 b2
 generalize hW:((W.alloc (.cells #[mv,.slice A0 n cap0] 26)).alloc (.cells (t5 2 s q i (some ⟨g,o,none⟩) ln cp).toArray 31)).alloc (.cells #[.int .i64 0,.int .i64 0,.slice none 0 0] 53) = wa at P0 Q0 R0 V1
 have y0:=Q0.cell (j:=0) (v:=.int .i64 2) rfl
 have y1:=Q0.cell (j:=1) (v:=.int .i64 s) rfl
 have y2:=Q0.cell (j:=2) (v:=.int .i64 q) rfl
 have y3:=Q0.cell (j:=3) (v:=.int .i64 i) rfl
 have y4:=Q0.cell (j:=4) (v:=.slice (some ⟨g,o,none⟩) ln cp) rfl
 have zz0:=P0.cell (j:=0) (v:=mv) rfl
 have zz1:=P0.cell (j:=1) (v:=.slice A0 n cap0) rfl
 have HPA:=Lib.hid (hP.later V1)
 have HP0:=Lib.hid hP
 have HTA:=Lib.hid (ht.later V1)
 have HV:=Lib.hid V1
 have HPB:=Lib.hid P0
 have HQB:=Lib.hid Q0
 have HRB:=Lib.hid R0
 have HIV:Hid ((Tryd.prog.info? 53).map (·.size) = some zc3.length):=Lib.hid info_val
 have hpi:(p:Int) ≤ 99999:=by omega
 have hp0:(0:Int) ≤ (p:Int):=by omega
 have hdi:(d:Int) ≤ 30:=by omega
 have hd0:(0:Int) ≤ (d:Int):=by omega
 have HN:=Lib.hid (hN.later V1)
 have HAT:Hid (∀ W',Nums W' ls LA ln' → Calls Tryd.prog 44 #[.slice LA ln' lc,.int .i64 (p:Int),.int .i64 1048576] W' fun e w' => e = .returned (.int .i64 ((at_ ls p 1048576:Nat):Int)) ∧ w' = W'):=Lib.hid fun W' h => At_any ls p 1048576 ln' W'.heap.size lc LA h.ln h.mx (by omega) (by omega) h.i64 W' h.rd
 have hX:=atl_lt ls p 1048576 (by omega)
 generalize at_ ls p 1048576 = X at HAT hX
 have hXi:(X:Int) < 1048576:=by omega
 have hX0:(0:Int) ≤ (X:Int):=by omega
 clear hP ht hN P0 Q0 R0 V1
 have HTx:Hid (TyAt wa t' (.agg ([.int .i64 tk,.int .i64 ts,.int .i64 tq,.int .i64 ti,.slice tB tl tc]:List Value).toArray)):=Lib.hid (HTx0.out.later HV.out)
 have HRg:Hid (wa.rangeAt g o [.int .i64 tk,.int .i64 ts,.int .i64 tq,.int .i64 ti,.slice tB tl tc]):=Lib.hid (range_below HR00.out HV.out)
 have hna:=new_later wa (.cells #[.int .i64 4,.int .i64 0,.slice none 0 0] 53)
 have y05:(wa.alloc (.cells #[.int .i64 4,.int .i64 0,.slice none 0 0] 53)).cell? ⟨W.heap.size + 1,0,none⟩ = some (.int .i64 2):=(hna.cell (p:=⟨W.heap.size + 1,0,none⟩) (World.block_lt_of_cell? wa _ y0)).trans y0
 clear hna HTx0 HR00
 obtain ⟨M,hM⟩:∃ M,X % 3 = M:=⟨_,rfl⟩
 have hr:(X:Int) % 3 = (M:Int):=by omega
 have hM2:M ≤ 2:=by omega
 have HM2:=Lib.hid hM2
 have hMi:(M:Int) ≤ 2:=by omega
 have hM0:(0:Int) ≤ (M:Int):=by omega
 have hnd:(d:Int) ≤ 3:=by omega
 clear hM hX hd3 hM2
 go_enter Tryd.func52,Tryd.ntmps52
 go_upto_region 1 with fail
 clear hW
 go_upto_region 14 with (go_at_call 44;(with_reducible refine (HAT.out _ HN.out).mono ?_);rintro e w2 ⟨rfl,hw2⟩;rw [hw2];clear hw2)
 rw [hr]
 have hq:decide ((3:Int) < (d:Int)) = false:=by simpa using hnd
 clear hr hnd hdi
 go_upto_region 16 with fail
 have b11:=new_later wa (.cells #[.int .i64 4,.int .i64 0,.slice none 0 0] 53)
 have A11:Arr (wa.alloc (.cells #[.int .i64 4,.int .i64 0,.slice none 0 0] 53)) wa.heap.size 3 53 [.int .i64 4,.int .i64 0,.slice none 0 0]:=Arr.new' wa _ _ 3 _ rfl rfl (by decide)
 have hsz11:(wa.alloc (.cells #[.int .i64 4,.int .i64 0,.slice none 0 0] 53)).heap.size = wa.heap.size + 1:=by simp
 generalize wa.alloc (.cells #[.int .i64 4,.int .i64 0,.slice none 0 0] 53) = w5 at b11 A11 hsz11 ⊢
 have HPB5:=Lib.hid (HPB.out.later b11)
 have HQB5:=Lib.hid (HQB.out.later b11)
 have HRB5:=Lib.hid (HRB.out.later b11)
 have HV5:=Lib.hid (later HV.out b11)
 have HA11:=Lib.hid A11
 have HSZ:=Lib.hid hsz11
 have hgr:W.heap.size + 1 + 1 < wa.heap.size:=HRB.out.lt
 have HO5:Hid (Below wa.heap.size wa w5):=Lib.hid b11
 generalize hg11:wa.heap.size = g11 at HA11 HSZ hgr HO5 ⊢
 have HG11:=Lib.hid hg11
 generalize hBB:w5.heap.size = BB at HSZ
 have HBB:=Lib.hid hBB
 clear y05 b11 A11 hsz11 hg11 hBB HPA HTA HV HPB HQB HRB y0 y1 y2 y3 y4 zz0 zz1 HAT
 go_wp2_with fail
 go_loopw [3,15] (fun us ii W' => ∃ (j a':Nat) (v:Value) (acc:List Tr),j ≤ M ∧ ii = .int .i64 (j:Int) ∧ us = .int .i64 (a':Int) ∧ acc.length = j ∧ (a' = p + 1 + nodesL acc ∧ nodesL acc ≤ j * N ∧ depL acc ≤ D) ∧ Hid (∀ x ∈ acc,ft P x t' = true) ∧ Arr W' W.heap.size 2 26 [mv,.slice A0 n cap0] ∧ Arr W' (W.heap.size + 1) 5 31 (t5 2 s q i (some ⟨g,o,none⟩) ln cp) ∧ Arr W' (W.heap.size + 1 + 1) 3 53 zc3 ∧ Arr W' g11 3 53 [.int .i64 4,.int .i64 0,v] ∧ Below W.heap.size W W' ∧ Below g11 wa W' ∧ Grow W' BB v acc ∧ BB ≤ W'.heap.size) (fun _ ii _ => M - (intOf ii).toNat)
 case atStart => exact ⟨0,p + 1,_,[],Nat.zero_le _,by go_num,by go_num,rfl,⟨by rw [nodesL],by rw [nodesL];exact Nat.zero_le _,by rw [depL];exact Nat.zero_le _⟩,Lib.hid (by simp),HPB5.out,HQB5.out,HRB5.out,HA11.out,HV5.out,HO5.out,Grow.nil _ _,by rw [HBB.out];exact Nat.le_refl _⟩
 case round =>
  obtain ⟨j,a',v,acc,hj,rfl,rfl,hacc,hsum,HFA,P6,Q6,X6,A6,V6,O6,G6,hB6⟩:=hrel
  have PA6:=HP0.out.later V6
  have hj0:(0:Int) ≤ (j:Int):=by omega
  have ha0:(0:Int) ≤ (a':Int):=by omega
  by_cases hlt:j < M
  ·have hji:(j:Int) < (M:Int):=by omega
   have hjm:(j:Int) + 1 ≤ 9223372036854775807:=by omega
   have hdw:wr.drew.heap.size = wr.heap.size:=rfl
   have hbd:Below wr.heap.size wr wr.drew:=below_drewN (Below.refl _ _) 1
   have HNB:Hid (a' + N ≤ 100000):=Lib.hid (by
    have h1:=HPN.out
    have h2:(j + 1) * N ≤ 2 * N:=Nat.mul_le_mul_right N (by omega)
    rw [Nat.succ_mul] at h2
    omega)
   have S6:=HTx.out.later (show Below wa.heap.size wa wr by rw [HG11.out];exact O6)
   have R6:=range_below HRg.out (show Below wa.heap.size wa wr by rw [HG11.out];exact O6)
   have N6:=HN.out.later (show Below wa.heap.size wa wr by rw [HG11.out];exact O6)
   have HIJ:Hid (∀ W',Below wr.heap.size wr W' → Calls Tryd.prog 52 #[.agg #[mv,.slice A0 n cap0],.agg #[.int .i64 tk,.int .i64 ts,.int .i64 tq,.int .i64 ti,.slice tB tl tc],.slice LA ln' lc,.int .i64 (a':Int),.int .i64 (IntKind.i64.wrap ((d:Int) + 1))] W' (fun e w' => ∃ (x:Tr) (xk xn:Int) (xA:Option Addr) (xl xc a2:Nat),e = .returned (.tuple #[.agg #[.int .i64 xk,.int .i64 xn,.slice xA xl xc],.int .i64 (a2:Int)]) ∧ a2 = a' + x.nodes ∧ TrF (W'.heap.size ≤ ·) w' x (.agg #[.int .i64 xk,.int .i64 xn,.slice xA xl xc]) ∧ (ft P x t' = true ∧ x.nodes ≤ N ∧ x.dep ≤ D) ∧ Below W'.heap.size W' w')):=Lib.hid fun W' h1 => by
    rw [show IntKind.i64.wrap ((d:Int) + 1) = (((d + 1:Nat)):Int) from (by have:=HDD.out;rw [IntKind.wrap_i64];omega)]
    refine (ih.out W' _ _ LA ln' lc a' (d + 1) (PA6.later h1) (S6.later h1) (N6.later h1) HNB.out (by have:=HDD.out;omega)).mono ?_
    rintro e w' ⟨x,xk,xn,xA,xl,xc,rfl,h2,h3,h4⟩
    exact ⟨x,xk,xn,xA,xl,xc,_,rfl,rfl,h2,h3,h4⟩
   have HPP6:=Lib.hid P6
   have HQQ6:=Lib.hid Q6
   have HRR6:=Lib.hid R6
   have HS:Hid (∀ X,Below wr.heap.size wr X → (X.cell? ⟨W.heap.size,0,none⟩ = some mv ∧ X.cell? ⟨W.heap.size,1,none⟩ = some (.slice A0 n cap0) ∧ X.cell? ⟨W.heap.size + 1,4,none⟩ = some (.slice (some ⟨g,o,none⟩) ln cp) ∧ X.cell? ⟨g,o,none⟩ = some (.int .i64 tk) ∧ X.cell? ⟨g,o + 1,none⟩ = some (.int .i64 ts) ∧ X.cell? ⟨g,o + 2,none⟩ = some (.int .i64 tq) ∧ X.cell? ⟨g,o + 3,none⟩ = some (.int .i64 ti) ∧ X.cell? ⟨g,o + 4,none⟩ = some (.slice tB tl tc))):=Lib.hid fun X hX => ⟨(HPP6.out.later hX).cell (j:=0) rfl,(HPP6.out.later hX).cell (j:=1) rfl,(HQQ6.out.later hX).cell (j:=4) rfl,range5 (range_below HRR6.out hX)⟩
   have HX6:=Lib.hid X6
   have HA6:=Lib.hid A6
   have HV6:=Lib.hid V6
   have HO6:=Lib.hid O6
   have HG6:=Lib.hid G6
   have HLT:=Lib.hid hlt
   have HACC:=Lib.hid hacc
   have HB6:=Lib.hid hB6
   have HSU:=Lib.hid hsum
   have hd1:(d:Int) + 1 ≤ 9223372036854775807:=by have:=HDD.out;omega
   clear ih P6 Q6 X6 A6 V6 O6 PA6 S6 R6 N6 G6 hlt hj hacc hdw hsum
   go_upto_region 19 with fail
   have hbd2:Below wr.heap.size wr ((wr.alloc (.cells #[.int .i64 0,.int .i64 0,.slice none 0 0] 53)).drew):=below_drewN (new_later wr _) 1
   have Z16:Arr ((wr.alloc (.cells #[.int .i64 0,.int .i64 0,.slice none 0 0] 53)).drew) wr.heap.size 3 53 zc3:=Arr.new' wr _ _ 3 zc3 rfl rfl (by decide)
   have hz16:((wr.alloc (.cells #[.int .i64 0,.int .i64 0,.slice none 0 0] 53)).drew).heap.size = wr.heap.size + 1:=by simp
   have HZ16:=Lib.hid Z16
   have HZS:=Lib.hid hz16
   clear Z16 hz16
   go_region_held3 (fun X => (X.cell? ⟨W.heap.size,0,none⟩ = some mv ∧ X.cell? ⟨W.heap.size,1,none⟩ = some (.slice A0 n cap0) ∧ X.cell? ⟨W.heap.size + 1,4,none⟩ = some (.slice (some ⟨g,o,none⟩) ln cp) ∧ X.cell? ⟨g,o,none⟩ = some (.int .i64 tk) ∧ X.cell? ⟨g,o + 1,none⟩ = some (.int .i64 ts) ∧ X.cell? ⟨g,o + 2,none⟩ = some (.int .i64 tq) ∧ X.cell? ⟨g,o + 3,none⟩ = some (.int .i64 ti) ∧ X.cell? ⟨g,o + 4,none⟩ = some (.slice tB tl tc)))
    (first | exact HS.out _ hbd | exact HS.out _ hbd2 | exact HS.out _ hb8 | exact HS.out _ (hbz _) | exact HS.out _ hbs)
    (first
    | (go_at_call 52;(with_reducible refine (HIJ.out _ hbd).mono ?_);rintro e w9 ⟨x,xk,xn,xA,xl,xc,a2,rfl,hu,hT9,hF9,hb7⟩;have hb8:=later hbd hb7;have hbz:=fun o => later hb8 (new_later w9 o);have HU:=Lib.hid hu;have HF9:=Lib.hid hF9;have HT9:=Lib.hid hT9;clear hu hT9 hF9)
    | (go_at_call 52;(with_reducible refine (HIJ.out _ hbd2).mono ?_);rintro e w9 ⟨x,xk,xn,xA,xl,xc,a2,rfl,hu,hT9,hF9,hb7⟩;have hb8:=later hbd2 hb7;have A16:=HZ16.out.later hb7;have a0:=A16.cell (j:=0) (v:=.int .i64 0) rfl;have a1:=A16.cell (j:=1) (v:=.int .i64 0) rfl;have a2':=A16.cell (j:=2) (v:=.slice none 0 0) rfl;have f0:=A16.free 0;have f1:=A16.free 1;have f2:=A16.free 2;have HU:=Lib.hid hu;have HF9:=Lib.hid hF9;have HT9:=Lib.hid hT9;have HA16:=Lib.hid A16;have hbs:Below wr.heap.size wr (((w9.setCell ⟨wr.heap.size,0,none⟩ (.int .i64 xk)).setCell ⟨wr.heap.size,1,none⟩ (.int .i64 xn)).setCell ⟨wr.heap.size,2,none⟩ (.slice xA xl xc)):=((hb8.setCell (p:=⟨wr.heap.size,0,none⟩) (Nat.le_refl _) _).setCell (p:=⟨wr.heap.size,1,none⟩) (Nat.le_refl _) _).setCell (p:=⟨wr.heap.size,2,none⟩) (Nat.le_refl _) _;clear hu hT9 hF9 A16))
   ·have HB10:=Lib.hid (hbz (.cells #[.int .i64 xk,.int .i64 xn,.slice xA xl xc] 53))
    have A14:Arr (w9.alloc (.cells #[.int .i64 xk,.int .i64 xn,.slice xA xl xc] 53)) w9.heap.size 3 53 [.int .i64 xk,.int .i64 xn,.slice xA xl xc]:=Arr.new' w9 _ _ 3 _ rfl rfl (by decide)
    have HT10:Hid (TrF (wr.heap.size ≤ ·) (w9.alloc (.cells #[.int .i64 xk,.int .i64 xn,.slice xA xl xc] 53)) x (.agg #[.int .i64 xk,.int .i64 xn,.slice xA xl xc])):=Lib.hid (HT9.out.keep (fun k hk => hk) (fun k _ hl => (new_later w9 _).block k hl))
    have hgN:wr.heap.size ≤ w9.heap.size:=hb8.size
    generalize w9.alloc (.cells #[.int .i64 xk,.int .i64 xn,.slice xA xl xc] 53) = w10 at HB10 A14 HT10 ⊢
    rename_i hHeld
    clear hHeld hb7 hbd hbd2 hb8 hbz HZ16 HZS HT9
    have hlw:wr.heap.size ≤ w10.heap.size:=HB10.out.size
    have hA10:Arr w10 g11 3 53 [.int .i64 4,.int .i64 0,v]:=HA6.out.later HB10.out
    have HG10:Hid (Grow w10 BB v acc):=Lib.hid (HG6.out.keep fun k hk hl => HB10.out.block k hl)
    have HTG:Hid (TrF (fun g => BB ≤ g ∧ v.ownBlock ≠ some g) w10 x (.agg ([.int .i64 xk,.int .i64 xn,.slice xA xl xc]:List Value).toArray)):=Lib.hid (by
     have hb6:=HB6.out
     obtain ⟨L,hown,_⟩:=HG6.out
     exact HT10.out.mono (fun k hk => ⟨by omega,fun hv => by have h:=(hown.lt k hv).2;omega⟩))
    have hB10:BB ≤ w10.heap.size:=Nat.le_trans HB6.out HB10.out.size
    have hal:acc.length + 1 ≤ 1000000000000:=by have:=HACC.out;have:=HM2.out;omega
    have x0:=A14.cell (j:=0) (v:=.int .i64 xk) rfl
    have x1:=A14.cell (j:=1) (v:=.int .i64 xn) rfl
    have x2:=A14.cell (j:=2) (v:=.slice xA xl xc) rfl
    have hv11:=hA10.cell (j:=2) (v:=v) rfl
    have HA10:=Lib.hid hA10
    have HB10':=Lib.hid hB10
    have HAL:=Lib.hid hal
    have HLT11:Hid (g11 < BB):=Lib.hid (by have:=HSZ.out;omega)
    have hgg:W.heap.size + 1 + 1 < g11 ∧ g11 < BB:=⟨by omega,HLT11.out⟩
    have HGG:=Lib.hid hgg
    clear A14 hA10 hB10 hal HIJ HS hgg HIV
    go_wp2_with (first
     | (at_builtin;refine wpList_putT (C:=[.int .i64 xk,.int .i64 xn,.slice xA xl xc]) rfl HG10.out HTG.out HB10'.out HAL.out rfl _ _ rfl rfl rfl ?_;intro gN capN w11 hG11 hb11;have HG11:=Lib.hid hG11;have HB11:=Lib.hid hb11;have hA11:=HA10.out.below hb11 HLT11.out;have hc112:=hA11.cell (j:=2) (v:=v) rfl;have hf112:=hA11.free 2;have HA11':=Lib.hid hA11;clear hG11 hb11 hA11 hv11 x0 x1 x2))
    have HAC:Hid ((acc ++ [x]).length = j + 1):=Lib.hid (by simp [HACC.out])
    have hg:=HGG.out
    have HP12:Hid (Arr (w11.setCell ⟨g11,2,none⟩ (.slice (some ⟨gN,0,none⟩) (acc.length + 1) capN)) W.heap.size 2 26 [mv,.slice A0 n cap0]):=Lib.hid (((HPP6.out.later HB10.out).below HB11.out (by omega)).other (by omega) _)
    have HQ12:Hid (Arr (w11.setCell ⟨g11,2,none⟩ (.slice (some ⟨gN,0,none⟩) (acc.length + 1) capN)) (W.heap.size + 1) 5 31 (t5 2 s q i (some ⟨g,o,none⟩) ln cp)):=Lib.hid (((HQQ6.out.later HB10.out).below HB11.out (by omega)).other (by omega) _)
    have HX12:Hid (Arr (w11.setCell ⟨g11,2,none⟩ (.slice (some ⟨gN,0,none⟩) (acc.length + 1) capN)) (W.heap.size + 1 + 1) 3 53 zc3):=Lib.hid (((HX6.out.later HB10.out).below HB11.out (by omega)).other (by omega) _)
    have HA12:Hid (Arr (w11.setCell ⟨g11,2,none⟩ (.slice (some ⟨gN,0,none⟩) (acc.length + 1) capN)) g11 3 53 [.int .i64 4,.int .i64 0,.slice (some ⟨gN,0,none⟩) (acc.length + 1) capN]):=Lib.hid (HA11'.out.set_ 2 _)
    have hgw:g11 ≤ wr.heap.size:=by have:=HB6.out;omega
    have hWw:W.heap.size ≤ wr.heap.size:=HV6.out.size
    have HO12:Hid (Below g11 wa (w11.setCell ⟨g11,2,none⟩ (.slice (some ⟨gN,0,none⟩) (acc.length + 1) capN))):=Lib.hid (((HO6.out.trans (HB10.out.mono hgw)).trans (HB11.out.mono (by omega))).setCell (p:=⟨g11,2,none⟩) (Nat.le_refl _) _)
    have HV12:Hid (Below W.heap.size W (w11.setCell ⟨g11,2,none⟩ (.slice (some ⟨gN,0,none⟩) (acc.length + 1) capN))):=Lib.hid (((HV6.out.trans (HB10.out.mono hWw)).trans (HB11.out.mono (by omega))).setCell (p:=⟨g11,2,none⟩) (by show W.heap.size ≤ g11;omega) _)
    have HG12:Hid (Grow (w11.setCell ⟨g11,2,none⟩ (.slice (some ⟨gN,0,none⟩) (acc.length + 1) capN)) BB (.slice (some ⟨gN,0,none⟩) (acc.length + 1) capN) (acc ++ [x])):=Lib.hid (HG11.out.keep fun k hk hl => Below.heap_setCell _ _ _ _ (by simp;omega))
    have HB12:Hid (BB ≤ (w11.setCell ⟨g11,2,none⟩ (.slice (some ⟨gN,0,none⟩) (acc.length + 1) capN)).heap.size):=Lib.hid (by rw [World.size_setCell];exact Nat.le_trans HB10'.out HB11.out.size)
    have HSUM:Hid (a2 = p + 1 + nodesL (acc ++ [x]) ∧ nodesL (acc ++ [x]) ≤ (j + 1) * N ∧ depL (acc ++ [x]) ≤ D):=Lib.hid (by
     rw [nodesL_snoc,depL_snoc,Nat.succ_mul]
     have h1:=HU.out
     have h2:=HF9.out
     have h3:=HSU.out
     exact ⟨by omega,by omega,Nat.max_le.2 ⟨h3.2.2,h2.2.2⟩⟩)
    have HFT:Hid (∀ y ∈ acc ++ [x],ft P y t' = true):=Lib.hid (by
     intro y hy
     rcases List.mem_append.1 hy with h | h
     ·exact HFA.out y h
     ·rw [List.mem_singleton.1 h];exact HF9.out.1)
    have hlt':=HLT.out
    go_roundw
    case rel => exact ⟨j + 1,a2,_,acc ++ [x],hlt',by go_num,rfl,HAC.out,HSUM.out,HFT,HP12.out,HQ12.out,HX12.out,HA12.out,HV12.out,HO12.out,HG12.out,HB12.out⟩
    case measure => simp [intOf];omega
   ·have HB10:=Lib.hid hbs
    have A14:Arr (((w9.setCell ⟨wr.heap.size,0,none⟩ (.int .i64 xk)).setCell ⟨wr.heap.size,1,none⟩ (.int .i64 xn)).setCell ⟨wr.heap.size,2,none⟩ (.slice xA xl xc)) wr.heap.size 3 53 [.int .i64 xk,.int .i64 xn,.slice xA xl xc]:=((HA16.out.set_ 0 (.int .i64 xk)).set_ 1 (.int .i64 xn)).set_ 2 (.slice xA xl xc)
    have HT10:Hid (TrF (wr.heap.size ≤ ·) (((w9.setCell ⟨wr.heap.size,0,none⟩ (.int .i64 xk)).setCell ⟨wr.heap.size,1,none⟩ (.int .i64 xn)).setCell ⟨wr.heap.size,2,none⟩ (.slice xA xl xc)) x (.agg #[.int .i64 xk,.int .i64 xn,.slice xA xl xc])):=Lib.hid (HT9.out.keep (fun k hk => by rw [HZS.out] at hk;omega) (fun k hk _ => by
     rw [HZS.out] at hk
     exact (Only.setCells wr.heap.size 0 [.int .i64 xk,.int .i64 xn,.slice xA xl xc] w9).2 k (by omega)))
    have hgN:wr.heap.size ≤ wr.heap.size:=Nat.le_refl _
    generalize ((w9.setCell ⟨wr.heap.size,0,none⟩ (.int .i64 xk)).setCell ⟨wr.heap.size,1,none⟩ (.int .i64 xn)).setCell ⟨wr.heap.size,2,none⟩ (.slice xA xl xc) = w10 at HB10 A14 HT10 ⊢
    rename_i hHeld
    clear hHeld hb7 hbd hbd2 hb8 hbs a0 a1 a2' f0 f1 f2 HA16 HZ16 HZS HT9
    have hlw:wr.heap.size ≤ w10.heap.size:=HB10.out.size
    have hA10:Arr w10 g11 3 53 [.int .i64 4,.int .i64 0,v]:=HA6.out.later HB10.out
    have HG10:Hid (Grow w10 BB v acc):=Lib.hid (HG6.out.keep fun k hk hl => HB10.out.block k hl)
    have HTG:Hid (TrF (fun g => BB ≤ g ∧ v.ownBlock ≠ some g) w10 x (.agg ([.int .i64 xk,.int .i64 xn,.slice xA xl xc]:List Value).toArray)):=Lib.hid (by
     have hb6:=HB6.out
     obtain ⟨L,hown,_⟩:=HG6.out
     exact HT10.out.mono (fun k hk => ⟨by omega,fun hv => by have h:=(hown.lt k hv).2;omega⟩))
    have hB10:BB ≤ w10.heap.size:=Nat.le_trans HB6.out HB10.out.size
    have hal:acc.length + 1 ≤ 1000000000000:=by have:=HACC.out;have:=HM2.out;omega
    have x0:=A14.cell (j:=0) (v:=.int .i64 xk) rfl
    have x1:=A14.cell (j:=1) (v:=.int .i64 xn) rfl
    have x2:=A14.cell (j:=2) (v:=.slice xA xl xc) rfl
    have hv11:=hA10.cell (j:=2) (v:=v) rfl
    have HA10:=Lib.hid hA10
    have HB10':=Lib.hid hB10
    have HAL:=Lib.hid hal
    have HLT11:Hid (g11 < BB):=Lib.hid (by have:=HSZ.out;omega)
    have hgg:W.heap.size + 1 + 1 < g11 ∧ g11 < BB:=⟨by omega,HLT11.out⟩
    have HGG:=Lib.hid hgg
    clear A14 hA10 hB10 hal HIJ HS hgg HIV
    go_wp2_with (first
     | (at_builtin;refine wpList_putT (C:=[.int .i64 xk,.int .i64 xn,.slice xA xl xc]) rfl HG10.out HTG.out HB10'.out HAL.out rfl _ _ rfl rfl rfl ?_;intro gN capN w11 hG11 hb11;have HG11:=Lib.hid hG11;have HB11:=Lib.hid hb11;have hA11:=HA10.out.below hb11 HLT11.out;have hc112:=hA11.cell (j:=2) (v:=v) rfl;have hf112:=hA11.free 2;have HA11':=Lib.hid hA11;clear hG11 hb11 hA11 hv11 x0 x1 x2))
    have HAC:Hid ((acc ++ [x]).length = j + 1):=Lib.hid (by simp [HACC.out])
    have hg:=HGG.out
    have HP12:Hid (Arr (w11.setCell ⟨g11,2,none⟩ (.slice (some ⟨gN,0,none⟩) (acc.length + 1) capN)) W.heap.size 2 26 [mv,.slice A0 n cap0]):=Lib.hid (((HPP6.out.later HB10.out).below HB11.out (by omega)).other (by omega) _)
    have HQ12:Hid (Arr (w11.setCell ⟨g11,2,none⟩ (.slice (some ⟨gN,0,none⟩) (acc.length + 1) capN)) (W.heap.size + 1) 5 31 (t5 2 s q i (some ⟨g,o,none⟩) ln cp)):=Lib.hid (((HQQ6.out.later HB10.out).below HB11.out (by omega)).other (by omega) _)
    have HX12:Hid (Arr (w11.setCell ⟨g11,2,none⟩ (.slice (some ⟨gN,0,none⟩) (acc.length + 1) capN)) (W.heap.size + 1 + 1) 3 53 zc3):=Lib.hid (((HX6.out.later HB10.out).below HB11.out (by omega)).other (by omega) _)
    have HA12:Hid (Arr (w11.setCell ⟨g11,2,none⟩ (.slice (some ⟨gN,0,none⟩) (acc.length + 1) capN)) g11 3 53 [.int .i64 4,.int .i64 0,.slice (some ⟨gN,0,none⟩) (acc.length + 1) capN]):=Lib.hid (HA11'.out.set_ 2 _)
    have hgw:g11 ≤ wr.heap.size:=by have:=HB6.out;omega
    have hWw:W.heap.size ≤ wr.heap.size:=HV6.out.size
    have HO12:Hid (Below g11 wa (w11.setCell ⟨g11,2,none⟩ (.slice (some ⟨gN,0,none⟩) (acc.length + 1) capN))):=Lib.hid (((HO6.out.trans (HB10.out.mono hgw)).trans (HB11.out.mono (by omega))).setCell (p:=⟨g11,2,none⟩) (Nat.le_refl _) _)
    have HV12:Hid (Below W.heap.size W (w11.setCell ⟨g11,2,none⟩ (.slice (some ⟨gN,0,none⟩) (acc.length + 1) capN))):=Lib.hid (((HV6.out.trans (HB10.out.mono hWw)).trans (HB11.out.mono (by omega))).setCell (p:=⟨g11,2,none⟩) (by show W.heap.size ≤ g11;omega) _)
    have HG12:Hid (Grow (w11.setCell ⟨g11,2,none⟩ (.slice (some ⟨gN,0,none⟩) (acc.length + 1) capN)) BB (.slice (some ⟨gN,0,none⟩) (acc.length + 1) capN) (acc ++ [x])):=Lib.hid (HG11.out.keep fun k hk hl => Below.heap_setCell _ _ _ _ (by simp;omega))
    have HB12:Hid (BB ≤ (w11.setCell ⟨g11,2,none⟩ (.slice (some ⟨gN,0,none⟩) (acc.length + 1) capN)).heap.size):=Lib.hid (by rw [World.size_setCell];exact Nat.le_trans HB10'.out HB11.out.size)
    have HSUM:Hid (a2 = p + 1 + nodesL (acc ++ [x]) ∧ nodesL (acc ++ [x]) ≤ (j + 1) * N ∧ depL (acc ++ [x]) ≤ D):=Lib.hid (by
     rw [nodesL_snoc,depL_snoc,Nat.succ_mul]
     have h1:=HU.out
     have h2:=HF9.out
     have h3:=HSU.out
     exact ⟨by omega,by omega,Nat.max_le.2 ⟨h3.2.2,h2.2.2⟩⟩)
    have HFT:Hid (∀ y ∈ acc ++ [x],ft P y t' = true):=Lib.hid (by
     intro y hy
     rcases List.mem_append.1 hy with h | h
     ·exact HFA.out y h
     ·rw [List.mem_singleton.1 h];exact HF9.out.1)
    have hlt':=HLT.out
    go_roundw
    case rel => exact ⟨j + 1,a2,_,acc ++ [x],hlt',by go_num,rfl,HAC.out,HSUM.out,HFT,HP12.out,HQ12.out,HX12.out,HA12.out,HV12.out,HO12.out,HG12.out,HB12.out⟩
    case measure => simp [intOf];omega
  ·have hge:¬ (j:Int) < (M:Int):=by omega
   obtain ⟨VA,vcap,hvs,_,_⟩:=G6.shape
   subst hvs
   obtain ⟨hvl,hTV⟩:=G6.tree 4 0 (by unfold i64r;omega) (by unfold i64r;omega)
   have HTV:=Lib.hid hTV
   have HAE:Hid (a' = p + (nodesL acc + 1) ∧ nodesL acc + 1 ≤ 1 + 2 * N ∧ depL acc + 1 ≤ 1 + D):=Lib.hid (by
    have h2:j * N ≤ 2 * N:=Nat.mul_le_mul_right N (by have:=HM2.out;omega)
    omega)
   generalize acc.length = al at hvl A6 HTV
   have x0:=A6.cell (j:=0) (v:=.int .i64 4) rfl
   have x1:=A6.cell (j:=1) (v:=.int .i64 0) rfl
   have x2:=A6.cell (j:=2) (v:=.slice VA al vcap) rfl
   have HX6:=Lib.hid X6
   have HV6:=Lib.hid V6
   have HI3:Hid ((Tryd.prog.info? 53).map (·.size) = some ([.int .i64 4,.int .i64 0,.slice VA al vcap]:List Value).length):=Lib.hid info_val
   have HO3:Hid (∀ v ∈ ([.int .i64 4,.int .i64 0,.slice VA al vcap]:List Value),v.oneCell' = true):=Lib.hid (by intro v hv;simp at hv;rcases hv with rfl | rfl | rfl <;> rfl)
   have hBW:W.heap.size + 1 + 1 < BB:=by have:=HSZ.out;omega
   clear hlt G6 hvl hTV A6 X6 V6 P6 Q6 O6 PA6 hacc hj hsum
   go_wp2_with (refine wpList_store_arr rfl _ (.tmp 10) (.tmp 97) rfl (W.heap.size + 1 + 1) 0 3 53 _ [.int .i64 4,.int .i64 0,.slice VA al vcap] zc3 rfl rfl rfl HX6.out (show 0 + 3 ≤ 3 by omega) HI3.out HO3.out ?_;intro w12 f12 o12)
   rw [setAll_all zc3 [.int .i64 4,.int .i64 0,.slice VA al vcap] rfl] at f12
   refine bodyPost_ret (results_cellB rfl _ _ (W.heap.size + 1 + 1) [.int .i64 4,.int .i64 0,.slice VA al vcap] _ rfl f12.range Tryd.underlying53 rfl HI3.out) rfl ?_
   obtain ⟨e1,e2,e3⟩:=HAE.out
   rw [e1]
   exact ⟨.node 4 0 acc,_,_,_,_,_,by rw [nodes_node];rfl,HTV.out.keep (fun k hk => by omega) (fun k hk _ => o12.2 k (by omega)),⟨ft_L P t' acc HVT.out HFA.out,by rw [nodes_node];exact e2,by rw [dep_node];exact e3⟩,HV6.out.trans (o12.bel.mono (by omega))⟩
end Go.Proofs.YtmfihlcibephlaaDoor
