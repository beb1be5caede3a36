import Derived.Test.YtmfihlcibephlaaDoorZ06
import Derived.Test.YtmfihlcibephlaaDoorZ24
import Derived.Deep.RegionHeld3
set_option linter.unusedVariables false
set_option linter.unusedSimpArgs false
namespace Go.Proofs.YtmfihlcibephlaaDoor
open Go.RowKit
def DefRes0 (P:List Df) (a b c:Int) (W0 w:World) (e:Ending) (w':World):Prop:=Below w.heap.size w w' ∧
 ((∃ d C,P[fnd P a b c]? = some d ∧ e = .returned (.tuple #[.agg C.toArray,.bool true]) ∧ DfAt W0 d C) ∨ (P[fnd P a b c]? = none ∧ e = .returned (.tuple #[.agg z31.toArray,.bool false])))
set_option maxHeartbeats 4000000 in
set_option maxRecDepth 100000 in
theorem rdef_from (P:List Df) (a b c:Int) (W0 w:World) (v:Value) (h:PrAt W0 P v) (hb0:Below W0.heap.size W0 w) :
  Calls Tryd.prog 21 #[v,.agg #[.int .i64 a,.int .i64 b,.int .i64 c]] w (DefRes0 P a b c W0 w):=by
 obtain ⟨mv,A,cap,rfl,hm,hP⟩:=h
 obtain ⟨n,hn⟩:∃ n,P.length = n:=⟨_,rfl⟩
 rw [hn] at hm ⊢
 have HP:=Lib.hid hP
 have HB0:=Lib.hid hb0
 clear hb0
 have HN:=Lib.hid hn
 have HM:=Lib.hid hm
 have hni:(n:Int) ≤ 9223372036854775807:=by have:=hm.2;simp only [maxLen] at this;omega
 have P0:=p2_new w mv (.slice A n cap)
 have V0':=new_later w (.cells #[mv,.slice A n cap] 26)
 have Q0:=i3_new (w.alloc (.cells #[mv,.slice A n cap] 26)) a b c
 have P1:=P0.later (new_later _ (.cells #[.int .i64 a,.int .i64 b,.int .i64 c] 28))
 have V1:=later V0' (new_later _ (.cells #[.int .i64 a,.int .i64 b,.int .i64 c] 28))
 rw [World.size_alloc] at Q0
 have R0:=z31_new ((w.alloc (.cells #[mv,.slice A n cap] 26)).alloc (.cells #[.int .i64 a,.int .i64 b,.int .i64 c] 28))
 rw [World.size_alloc,World.size_alloc] at R0
 have P1x:=P1
 have R1:=new_later ((w.alloc (.cells #[mv,.slice A n cap] 26)).alloc (.cells #[.int .i64 a,.int .i64 b,.int .i64 c] 28)) (.cells z31.toArray 46)
 replace P1:=P1.later R1
 replace Q0:=Q0.later R1
 replace V1:=later V1 R1
 clear P1x R1
 clear P0 V0'
 generalize hW:((w.alloc (.cells #[mv,.slice A n cap] 26)).alloc (.cells #[.int .i64 a,.int .i64 b,.int .i64 c] 28)).alloc (.cells z31.toArray 46) = wa at P1 V1 Q0 R0
 have hc1:=P1.cell (j:=1) (v:=.slice A n cap) rfl
 have HP1:=Lib.hid P1
 have HQ1:=Lib.hid Q0
 have HR1:=Lib.hid R0
 have HV1:=Lib.hid V1
 have hzd:=zero_def
 have HOZ:Hid (∀ v ∈ z31,v.oneCell' = true):=Lib.hid (by decide)
 clear hP hn hm P1 Q0 V1 R0
 go_enter Tryd.func21,Tryd.ntmps21
 go_upto_region 1 with fail
 clear hW
 go_wp2_with fail
 clear hc1
 go_loopw [6] (fun i W => ∃ j:Nat,j ≤ n ∧ i = .int .i64 (j:Int) ∧ Arr W w.heap.size 2 26 [mv,.slice A n cap] ∧ Arr W (w.heap.size + 1) 3 28 [.int .i64 a,.int .i64 b,.int .i64 c] ∧ Arr W (w.heap.size + 1 + 1) 31 46 z31 ∧ Below w.heap.size w W ∧ Hid (∀ i (hi:i < P.length),i < j → (P[i]'hi).has a b c = false)) (fun i _ => n - (intOf i).toNat)
 case atStart => exact ⟨0,by omega,rfl,HP1.out,HQ1.out,HR1.out,HV1.out,Lib.hid fun i _ h => absurd h (by omega)⟩
 case round =>
  obtain ⟨j,hj,rfl,P2,Q2,R2,V2,HNO⟩:=hrel
  have hj0:(0:Int) ≤ (j:Int):=by omega
  have hA0:=P2.cell (j:=1) (v:=.slice A n cap) rfl
  by_cases hlt:j < n
  ·have hji:(j:Int) < (n:Int):=by omega
   have hjl:j < P.length:=by rw [HN.out];exact hlt
   obtain ⟨g,o,C,rfl,hrg,hdf⟩:=HP.out j _ (List.getElem?_eq_getElem hjl)
   have HDF:=Lib.hid hdf
   replace hrg:=range_below hrg HB0.out
   replace hdf:=hdf.later HB0.out
   obtain ⟨d1,d2,d3,d4⟩:=df_head (range_below hrg V2) (hdf.later V2)
   have b1:=Q2.cell (j:=0) (v:=.int .i64 a) rfl
   have b2:=Q2.cell (j:=1) (v:=.int .i64 b) rfl
   have b3:=Q2.cell (j:=2) (v:=.int .i64 c) rfl
   have HNE:Hid ((P[j]).has a b c = true → P[fnd P a b c]? = some P[j]):=Lib.hid fun h => by
    have h2:=fnd_at hjl h (fun i hi => HNO.out i (by omega) hi)
    rw [h2];exact List.getElem?_eq_getElem hjl
   have HNX:Hid ((P[j]).has a b c = false → ∀ i (hi:i < P.length),i < j + 1 → (P[i]'hi).has a b c = false):=Lib.hid fun h i hi hij => by
    by_cases e:i = j
    ·subst e;exact h
    ·exact HNO.out i hi (by omega)
   have heq:=fun W => eq_id (P[j]).a (P[j]).b (P[j]).c a b c W
   obtain ⟨E,hE⟩:∃ E,(P[j]).has a b c = E:=⟨_,rfl⟩
   rw [hE] at HNE HNX
   rw [show (decide ((P[j]).a = a) && (decide ((P[j]).b = b) && decide ((P[j]).c = c))) = E from hE] at heq
   generalize P[j] = d at heq d1 d2 d3 HDF HNE d4
   have hCl:=HDF.out.len
   have HCL:=Lib.hid hCl
   have HOC:Hid (∀ v ∈ C,v.oneCell' = true):=Lib.hid (DfAt.cells HDF.out)
   have HRG:Hid (∀ q,(wr.drewN q).rangeAt g (o + j * 31) C):=Lib.hid fun q => range_below hrg (below_drewN V2 q)
   have HIN:Hid ((Tryd.prog.info? 46).map (·.size) = some C.length):=Lib.hid (by rw [hCl];exact info_def)
   have HPP:=Lib.hid P2
   have HQQ:=Lib.hid Q2
   have HRR:=Lib.hid R2
   have HVV:=Lib.hid V2
   have HLT:=Lib.hid hlt
   clear d4 hE hrg hdf hjl P2 Q2 V2 R2 HNO hlt hCl
   cases E with
   | true =>
    have HZ:=Lib.hid (HNE.out rfl)
    go_wp2_with fail
    go_quiet (fail)
    go_wp2_with (first
     | (with_reducible refine wpList_load_mid rfl _ (.tmp 25) rfl g (o + j * 31) rfl C _ (HRG.out _) Tryd.underlying46 rfl HIN.out ?_)
     | (refine wpList_store_arr rfl _ (.tmp 4) (.tmp 26) rfl (w.heap.size + 1 + 1) 0 31 46 _ C z31 rfl rfl rfl (show Arr (wr.drewN _) _ _ _ _ from HRR.out) (by rw [HCL.out];omega) HIN.out HOC.out ?_;intro w7 f7 o7))
    rw [setAll_all _ _ (by rw [HCL.out];rfl)] at f7
    exact bodyPost_ret (results_cellB rfl _ _ (w.heap.size + 1 + 1) C _ rfl f7.range Tryd.underlying46 rfl HIN.out) rfl ⟨(below_drewN HVV.out _).trans (o7.bel.mono (by omega)),.inl ⟨d,C,HZ.out,rfl,HDF.out⟩⟩
   | false =>
    have HZ:=Lib.hid (HNX.out rfl)
    go_wp2_with fail
    go_quiet (fail)
    go_wp2_with fail
    refine ⟨⟨j + 1,by have:=HLT.out;omega,by go_num,HPP.out,HQQ.out,HRR.out,below_drewN HVV.out _,HZ⟩,by have:=HLT.out;simp [intOf];omega⟩
  ·obtain rfl:j = n:=by omega
   have HZ:Hid (P[fnd P a b c]? = none):=Lib.hid (by
    rw [fnd_none (fun i hi => HNO.out i hi (by rw [← HN.out];exact hi))]
    exact List.getElem?_eq_none (Nat.le_refl _))
   have HRR:=Lib.hid R2
   clear hlt HNO R2
   go_wp2_with (refine wpList_store_arr rfl _ (.tmp 4) (.tmp 27) rfl (w.heap.size + 1 + 1) 0 31 46 _ z31 z31 rfl rfl rfl HRR.out (by decide) (by exact info_def) HOZ.out ?_;intro w7 f7 o7)
   rw [setAll_all _ _ rfl] at f7
   exact bodyPost_ret (results_cellB rfl _ _ (w.heap.size + 1 + 1) z31 _ rfl f7.range Tryd.underlying46 rfl info_def) rfl ⟨V2.trans (o7.bel.mono (by omega)),.inr ⟨HZ.out,rfl⟩⟩
theorem df3 {w:World} {d:Df} {C:List Value} (h:DfAt w d C):C[3]? = some (.int .i64 d.kind):=by
 obtain ⟨sv,T,E,lv,rfl,_⟩:=h
 rfl
theorem df8 {w:World} {d:Df} {C:List Value} {sl:List Sl} {sn:Nat} (h:DfAt w d C) (hsl:d.slots = sl) (hsn:sl.length = sn):∃ SA scap,C[8]? = some (.slice SA sn scap) ∧ SlsAt w (.slice SA sn scap) sl:=by
 obtain ⟨sv,T,E,lv,rfl,_,hS,_⟩:=h
 have hS':=hS
 obtain ⟨A,cap,rfl,_⟩:=hS'
 subst hsl
 subst hsn
 exact ⟨A,cap,rfl,hS⟩
end Go.Proofs.YtmfihlcibephlaaDoor
namespace Go.Proofs.YtmfihlcibephlaaDoor
open Go.RowKit
set_option maxHeartbeats 4000000 in
set_option maxRecDepth 100000 in
theorem mk_R (P:List Df) (ls:List Int) (W:World) (n cap0:Nat) (LA:Option Addr) (ln' lc p d:Nat) (mv:Value) (A0:Option Addr) (t:Ty) (s q i:Int) (B:Option Addr) (ln cp:Nat)
  (hP:PrAt W P (.agg #[mv,.slice A0 n cap0])) (ht:TyAt W t (.agg (t5 3 s q i B ln cp).toArray)) (hN:Nums W ls LA ln') (hp:p ≤ 99999) (hd30:d ≤ 30) (d0:Df) (hdf:P[fnd P s q i]? = some d0) (hdk:d0.kind = 0) (N D:Nat) (hs3:d0.slots.length ≤ 3) (hpN:p + (1 + 3 * N) ≤ 100000) (hdD:d + (1 + D) ≤ 30) (ih:Hid (∀ (j:Nat) (x:Sl),d0.slots[j]? = some x → MC P ls x.ty N D)) (T:Nat → Ty) (hT:Hid (∀ (j:Nat) (x:Sl),d0.slots[j]? = some x → T j = x.ty)) (hft:Hid (∀ ks:List Tr,ks.length = d0.slots.length → ftL P ks T 0 = true → ft P (.node 2 0 ks) t = true))  :
  Calls Tryd.prog 52 #[.agg #[mv,.slice A0 n cap0],.agg (t5 3 s q i B ln cp).toArray,.slice LA ln' lc,.int .i64 (p:Int),.int .i64 (d:Int)] W (MRes P t (1 + 3 * N) (1 + D) p W):=by
 have HD1:Hid (∀ W',Below W.heap.size W W' → Calls Tryd.prog 21 #[.agg #[mv,.slice A0 n cap0],.agg #[.int .i64 s,.int .i64 q,.int .i64 i]] W' (fun e w' => Below W'.heap.size W' w' ∧ ∃ C:List Value,e = .returned (.tuple #[.agg C.toArray,.bool true]) ∧ DfAt W d0 C)):=Lib.hid fun W' hW' => (rdef_from P s q i W W' _ hP hW').mono (by
  rintro e w' ⟨hb,⟨d,C,h,rfl,hC⟩ | ⟨h,_⟩⟩
  ·rw [hdf] at h;cases h;exact ⟨hb,C,rfl,hC⟩
  ·rw [hdf] at h;exact absurd h (by simp))
 have hzd:=zero_def
 have HN0:=Lib.hid hN
 have HPN:=Lib.hid hpN
 have HDD:=Lib.hid hdD
 obtain ⟨sl,hsl⟩:∃ sl,d0.slots = sl:=⟨_,rfl⟩
 obtain ⟨sn,hsn⟩:∃ sn,sl.length = sn:=⟨_,rfl⟩
 rw [hsl] at hs3
 rw [hsn] at hs3
 have HS3:=Lib.hid hs3
 have HDK:=Lib.hid hdk
 have HSL:=Lib.hid hsl
 have HSN:=Lib.hid hsn
 clear hdf hdk hsl hsn hpN hdD
 have P0:=p2_new W mv (.slice A0 n cap0)
 have V0:=new_later W (.cells #[mv,.slice A0 n cap0] 26)
 have Q0:=t5_new (W.alloc (.cells #[mv,.slice A0 n cap0] 26)) 3 s q i B ln cp
 have b1:=new_later (W.alloc (.cells #[mv,.slice A0 n cap0] 26)) (.cells (t5 3 s q i B ln cp).toArray 31)
 have R0:Arr (((W.alloc (.cells #[mv,.slice A0 n cap0] 26)).alloc (.cells (t5 3 s q i B ln cp).toArray 31)).alloc (.cells #[.int .i64 0,.int .i64 0,.slice none 0 0] 53)) ((W.alloc (.cells #[mv,.slice A0 n cap0] 26)).alloc (.cells (t5 3 s q i B ln cp).toArray 31)).heap.size 3 53 zc3:=Arr.new' _ _ _ 3 zc3 rfl rfl (by decide)
 have b2:=new_later ((W.alloc (.cells #[mv,.slice A0 n cap0] 26)).alloc (.cells (t5 3 s q i B ln cp).toArray 31)) (.cells #[.int .i64 0,.int .i64 0,.slice none 0 0] 53)
 replace P0:=(P0.later b1).later b2
 replace Q0:=Q0.later b2
 have V1:=later (later V0 b1) b2
 rw [World.size_alloc] at Q0
 rw [World.size_alloc,World.size_alloc] at R0
 clear V0 b1 b2
 generalize hW:((W.alloc (.cells #[mv,.slice A0 n cap0] 26)).alloc (.cells (t5 3 s q i B ln cp).toArray 31)).alloc (.cells #[.int .i64 0,.int .i64 0,.slice none 0 0] 53) = wa at P0 Q0 R0 V1
 have y0:=Q0.cell (j:=0) (v:=.int .i64 3) rfl
 have y1:=Q0.cell (j:=1) (v:=.int .i64 s) rfl
 have y2:=Q0.cell (j:=2) (v:=.int .i64 q) rfl
 have y3:=Q0.cell (j:=3) (v:=.int .i64 i) rfl
 have y4:=Q0.cell (j:=4) (v:=.slice B ln cp) rfl
 have zz0:=P0.cell (j:=0) (v:=mv) rfl
 have zz1:=P0.cell (j:=1) (v:=.slice A0 n cap0) rfl
 have HPA:=Lib.hid (hP.later V1)
 have HP0:=Lib.hid hP
 have HTA:=Lib.hid (ht.later V1)
 have HV:=Lib.hid V1
 have HPB:=Lib.hid P0
 have HQB:=Lib.hid Q0
 have HRB:=Lib.hid R0
 have HIV:Hid ((Tryd.prog.info? 53).map (·.size) = some zc3.length):=Lib.hid info_val
 have hpi:(p:Int) ≤ 99999:=by omega
 have hp0:(0:Int) ≤ (p:Int):=by omega
 have hdi:(d:Int) ≤ 30:=by omega
 have hd0:(0:Int) ≤ (d:Int):=by omega
 have HN:=Lib.hid (hN.later V1)
 have HAT:Hid (∀ W',Nums W' ls LA ln' → Calls Tryd.prog 44 #[.slice LA ln' lc,.int .i64 (p:Int),.int .i64 1048576] W' fun e w' => e = .returned (.int .i64 ((at_ ls p 1048576:Nat):Int)) ∧ w' = W'):=Lib.hid fun W' h => At_any ls p 1048576 ln' W'.heap.size lc LA h.ln h.mx (by omega) (by omega) h.i64 W' h.rd
 have hX:=atl_lt ls p 1048576 (by omega)
 generalize at_ ls p 1048576 = X at HAT hX
 have hXi:(X:Int) < 1048576:=by omega
 have hX0:(0:Int) ≤ (X:Int):=by omega
 clear hP ht hN P0 Q0 R0 V1
 clear hX
 go_enter Tryd.func52,Tryd.ntmps52
 go_upto_region 1 with fail
 clear hW
 go_upto_region 12 with (go_at_call 44;(with_reducible refine (HAT.out _ HN.out).mono ?_);rintro e w2 ⟨rfl,hw2⟩;rw [hw2];clear hw2)
 have b11:=new_later wa (.cells #[.int .i64 4,.int .i64 0,.slice none 0 0] 53)
 have A11:Arr (wa.alloc (.cells #[.int .i64 4,.int .i64 0,.slice none 0 0] 53)) wa.heap.size 3 53 [.int .i64 4,.int .i64 0,.slice none 0 0]:=Arr.new' wa _ _ 3 _ rfl rfl (by decide)
 have hsz11:(wa.alloc (.cells #[.int .i64 4,.int .i64 0,.slice none 0 0] 53)).heap.size = wa.heap.size + 1:=by simp
 generalize wa.alloc (.cells #[.int .i64 4,.int .i64 0,.slice none 0 0] 53) = w5 at b11 A11 hsz11 ⊢
 have HPB5:=Lib.hid (HPB.out.later b11)
 have HQB5:=HQB.out.later b11
 have HRB5:=Lib.hid (HRB.out.later b11)
 have HV5:=Lib.hid (later HV.out b11)
 have HA11:=Lib.hid A11
 have HSZ:=Lib.hid hsz11
 have hgr:W.heap.size + 1 + 1 < wa.heap.size:=HRB.out.lt
 generalize hg11:wa.heap.size = g11 at HA11 HSZ hgr ⊢
 clear hg11 y0 y1 y2 y3 y4 zz0 zz1 HAT HPA HTA HV HPB HQB HRB b11 A11 hsz11
 have y05:=HQB5.cell (j:=0) (v:=.int .i64 3) rfl
 have y15:=HQB5.cell (j:=1) (v:=.int .i64 s) rfl
 have y25:=HQB5.cell (j:=2) (v:=.int .i64 q) rfl
 have y35:=HQB5.cell (j:=3) (v:=.int .i64 i) rfl
 have z05:=HPB5.out.cell (j:=0) (v:=mv) rfl
 have z15:=HPB5.out.cell (j:=1) (v:=.slice A0 n cap0) rfl
 clear HQB5
 go_upto_region 31 with (first
  | (go_at_call 21;(with_reducible refine (HD1.out _ HV5.out).mono ?_);rintro e w3 ⟨hb3,C,rfl,hC⟩;have HB3:=Lib.hid hb3;have HCL:=Lib.hid (DfAt.len hC);have HOC:Hid (∀ v ∈ C,v.oneCell' = true):=Lib.hid (DfAt.cells hC);have HIN:Hid ((Tryd.prog.info? 46).map (·.size) = some C.length):=Lib.hid (by rw [HCL.out];exact info_def);have HDC:=Lib.hid hC;clear hC hb3)
  | (refine wpList_store_arr rfl _ (.tmp 18) (.tmp 104) rfl w3.heap.size 0 31 46 _ C z31 rfl rfl rfl (z31_new w3) (by rw [HCL.out];omega) HIN.out HOC.out ?_;intro w4 f4 o4;rw [setAll_all _ _ (by rw [HCL.out];rfl)] at f4;have HF4:=Lib.hid f4;have HB4:=Lib.hid (later HB3.out ((new_later w3 _).trans o4.bel));have hck:=f4.cell (j:=3) (v:=.int .i64 0) (by have h:=df3 HDC.out;rw [HDK.out] at h;exact h);have A4:=HA11.out.later HB4.out;have hk0:=A4.cell (j:=0) (v:=.int .i64 4) rfl;have hfk:=A4.free 0;have HA4:=Lib.hid A4;clear f4 o4 A4))
 have hg3:g11 < w3.heap.size:=by have h1:=HB3.out.size;have h2:=HSZ.out;omega
 have HA6:Hid (Arr (w4.setCell ⟨g11,0,none⟩ (.int .i64 2)) g11 3 53 [.int .i64 2,.int .i64 0,.slice none 0 0]):=Lib.hid (HA4.out.set_ 0 _)
 have HD6:Hid (Arr (w4.setCell ⟨g11,0,none⟩ (.int .i64 2)) w3.heap.size 31 46 C):=Lib.hid (HF4.out.other (by omega) _)
 have HP6:Hid (Arr (w4.setCell ⟨g11,0,none⟩ (.int .i64 2)) W.heap.size 2 26 [mv,.slice A0 n cap0]):=Lib.hid ((HPB5.out.later HB4.out).other (by omega) _)
 have HX6:Hid (Arr (w4.setCell ⟨g11,0,none⟩ (.int .i64 2)) (W.heap.size + 1 + 1) 3 53 zc3):=Lib.hid ((HRB5.out.later HB4.out).other (by omega) _)
 have HV6:Hid (Below W.heap.size W (w4.setCell ⟨g11,0,none⟩ (.int .i64 2))):=Lib.hid ((later HV5.out HB4.out).setCell (p:=⟨g11,0,none⟩) (by show W.heap.size ≤ g11;omega) _)
 have HZ6:Hid (w3.heap.size < (w4.setCell ⟨g11,0,none⟩ (.int .i64 2)).heap.size):=Lib.hid (by rw [World.size_setCell];exact HF4.out.lt)
 obtain ⟨SA,scap,hc8,hss⟩:=df8 HDC.out HSL.out HSN.out
 have HC8:=Lib.hid hc8
 have HSS:=Lib.hid hss
 generalize w4.setCell ⟨g11,0,none⟩ (.int .i64 2) = w6 at HA6 HD6 HP6 HX6 HV6 HZ6 ⊢
 generalize w3.heap.size = gD at hg3 HD6 HZ6 ⊢
 generalize hBB:w6.heap.size = BB at HZ6
 have HBB:=Lib.hid hBB
 clear hBB hc8 hss y05 y15 y25 y35 z05 z15 hck hk0 hfk HA4 HF4 HB4 HB3 HDC HOC HIN HD1 HPB5 HRB5 HV5 HA11 HSZ hzd
 go_wp2_with fail
 go_loopw [3,22] (fun us ii W' => ∃ (j a':Nat) (v:Value) (acc:List Tr),j ≤ sn ∧ ii = .int .i64 (j:Int) ∧ us = .int .i64 (a':Int) ∧ acc.length = j ∧ (a' = p + 1 + nodesL acc ∧ nodesL acc ≤ j * N ∧ depL acc ≤ D) ∧ Hid (ftL P acc T 0 = true) ∧ Arr W' W.heap.size 2 26 [mv,.slice A0 n cap0] ∧ Arr W' (W.heap.size + 1 + 1) 3 53 zc3 ∧ Arr W' gD 31 46 C ∧ Arr W' g11 3 53 [.int .i64 2,.int .i64 0,v] ∧ Below W.heap.size W W' ∧ Grow W' BB v acc ∧ BB ≤ W'.heap.size) (fun _ ii _ => sn - (intOf ii).toNat)
 case atStart => exact ⟨0,p + 1,_,[],Nat.zero_le _,by go_num,by go_num,rfl,⟨by rw [nodesL],by rw [nodesL];exact Nat.zero_le _,by rw [depL];exact Nat.zero_le _⟩,Lib.hid (by rw [ftL]),HP6.out,HX6.out,HD6.out,HA6.out,HV6.out,Grow.nil _ _,by rw [HBB.out];exact Nat.le_refl _⟩
 case round =>
  clear HP6 HX6 HD6 HA6 HV6
  obtain ⟨j,a',v,acc,hj,rfl,rfl,hacc,hsum,HFA,P6,X6,D6,A6,V6,G6,hB6⟩:=hrel
  have PA6:=HP0.out.later V6
  have S6:=SlsAt.later HSS.out V6
  have hj0:(0:Int) ≤ (j:Int):=by omega
  have ha0:(0:Int) ≤ (a':Int):=by omega
  have d8:=D6.cell HC8.out
  by_cases hlt:j < sn
  ·have hjs:(j:Int) < (sn:Int):=by omega
   have hjm:(j:Int) + 1 ≤ 9223372036854775807:=by omega
   have hjl:j < sl.length:=by rw [HSN.out];exact hlt
   obtain ⟨g,o,TC,hA,HRg,HTx,HC5,HI5,HOT⟩:=slot_ty S6 (List.getElem?_eq_getElem hjl)
   cases hA
   have HMC:Hid (MC P ls (sl[j]).ty N D):=Lib.hid (ih.out j _ (by rw [HSL.out];exact List.getElem?_eq_getElem hjl))
   have HTJ:Hid (T j = (sl[j]).ty):=Lib.hid (hT.out j _ (by rw [HSL.out];exact List.getElem?_eq_getElem hjl))
   generalize sl[j] = sx at HMC HTJ HTx
   obtain ⟨tk,ts,tq,ti,tB,tl,tc,hsh⟩:=HTx.out.shape
   have hTl:TC = [.int .i64 tk,.int .i64 ts,.int .i64 tq,.int .i64 ti,.slice tB tl tc]:=by simpa [t5] using hsh
   subst hTl
   have hdw:wr.drew.heap.size = wr.heap.size:=rfl
   have hbd:Below wr.heap.size wr wr.drew:=below_drewN (Below.refl _ _) 1
   have HNB:Hid (a' + N ≤ 100000):=Lib.hid (by
    have h1:=HPN.out
    have h2:(j + 1) * N ≤ 3 * N:=Nat.mul_le_mul_right N (by have:=HS3.out;omega)
    rw [Nat.succ_mul] at h2
    omega)
   have N6:=HN0.out.later V6
   have HIJ:Hid (∀ W',Below wr.heap.size wr W' → Calls Tryd.prog 52 #[.agg #[mv,.slice A0 n cap0],.agg #[.int .i64 tk,.int .i64 ts,.int .i64 tq,.int .i64 ti,.slice tB tl tc],.slice LA ln' lc,.int .i64 (a':Int),.int .i64 (IntKind.i64.wrap ((d:Int) + 1))] W' (fun e w' => ∃ (x:Tr) (xk xn:Int) (xA:Option Addr) (xl xc a2:Nat),e = .returned (.tuple #[.agg #[.int .i64 xk,.int .i64 xn,.slice xA xl xc],.int .i64 (a2:Int)]) ∧ a2 = a' + x.nodes ∧ TrF (W'.heap.size ≤ ·) w' x (.agg #[.int .i64 xk,.int .i64 xn,.slice xA xl xc]) ∧ (ft P x sx.ty = true ∧ x.nodes ≤ N ∧ x.dep ≤ D) ∧ Below W'.heap.size W' w')):=Lib.hid fun W' h1 => by
    rw [show IntKind.i64.wrap ((d:Int) + 1) = (((d + 1:Nat)):Int) from (by have:=HDD.out;rw [IntKind.wrap_i64];omega)]
    refine (HMC.out W' _ _ LA ln' lc a' (d + 1) (PA6.later h1) (HTx.out.later h1) (N6.later h1) HNB.out (by have:=HDD.out;omega)).mono ?_
    rintro e w' ⟨x,xk,xn,xA,xl,xc,rfl,h2,h3,h4⟩
    exact ⟨x,xk,xn,xA,xl,xc,_,rfl,rfl,h2,h3,h4⟩
   have HPP6:=Lib.hid P6
   have HDD6:=Lib.hid D6
   have HS:Hid (∀ X,Below wr.heap.size wr X → (X.cell? ⟨W.heap.size,0,none⟩ = some mv ∧ X.cell? ⟨W.heap.size,1,none⟩ = some (.slice A0 n cap0) ∧ X.cell? ⟨gD,8,none⟩ = some (.slice (some ⟨g,o,none⟩) sn scap) ∧ X.cell? ⟨g,o + j * 11 + 4,none⟩ = some (.int .i64 tk) ∧ X.cell? ⟨g,o + j * 11 + 4 + 1,none⟩ = some (.int .i64 ts) ∧ X.cell? ⟨g,o + j * 11 + 4 + 2,none⟩ = some (.int .i64 tq) ∧ X.cell? ⟨g,o + j * 11 + 4 + 3,none⟩ = some (.int .i64 ti) ∧ X.cell? ⟨g,o + j * 11 + 4 + 4,none⟩ = some (.slice tB tl tc))):=Lib.hid fun X hX => ⟨(HPP6.out.later hX).cell (j:=0) rfl,(HPP6.out.later hX).cell (j:=1) rfl,(HDD6.out.later hX).cell HC8.out,range5 (range_below HRg.out hX)⟩
   have HX6:=Lib.hid X6
   have HA6:=Lib.hid A6
   have HV6:=Lib.hid V6
   have HG6:=Lib.hid G6
   have HLT:=Lib.hid hlt
   have HACC:=Lib.hid hacc
   have HB6:=Lib.hid hB6
   have HSU:=Lib.hid hsum
   have hd1:(d:Int) + 1 ≤ 9223372036854775807:=by have:=HDD.out;omega
   clear P6 D6 X6 A6 V6 PA6 S6 N6 G6 hlt hj hacc hjl hsh hdw hsum
   go_upto_region 34 with fail
   have hbd2:Below wr.heap.size wr ((wr.alloc (.cells #[.int .i64 0,.int .i64 0,.slice none 0 0] 53)).drew):=below_drewN (new_later wr _) 1
   have Z16:Arr ((wr.alloc (.cells #[.int .i64 0,.int .i64 0,.slice none 0 0] 53)).drew) wr.heap.size 3 53 zc3:=Arr.new' wr _ _ 3 zc3 rfl rfl (by decide)
   have hz16:((wr.alloc (.cells #[.int .i64 0,.int .i64 0,.slice none 0 0] 53)).drew).heap.size = wr.heap.size + 1:=by simp
   have HZ16:=Lib.hid Z16
   have HZS:=Lib.hid hz16
   clear Z16 hz16
   go_region_held3 (fun X => (X.cell? ⟨W.heap.size,0,none⟩ = some mv ∧ X.cell? ⟨W.heap.size,1,none⟩ = some (.slice A0 n cap0) ∧ X.cell? ⟨gD,8,none⟩ = some (.slice (some ⟨g,o,none⟩) sn scap) ∧ X.cell? ⟨g,o + j * 11 + 4,none⟩ = some (.int .i64 tk) ∧ X.cell? ⟨g,o + j * 11 + 4 + 1,none⟩ = some (.int .i64 ts) ∧ X.cell? ⟨g,o + j * 11 + 4 + 2,none⟩ = some (.int .i64 tq) ∧ X.cell? ⟨g,o + j * 11 + 4 + 3,none⟩ = some (.int .i64 ti) ∧ X.cell? ⟨g,o + j * 11 + 4 + 4,none⟩ = some (.slice tB tl tc)))
    (first | exact HS.out _ hbd | exact HS.out _ hbd2 | exact HS.out _ hb8 | exact HS.out _ (hbz _) | exact HS.out _ hbs)
    (first
    | (go_at_call 52;(with_reducible refine (HIJ.out _ hbd).mono ?_);rintro e w9 ⟨x,xk,xn,xA,xl,xc,a2,rfl,hu,hT9,hF9,hb7⟩;have hb8:=later hbd hb7;have hbz:=fun o => later hb8 (new_later w9 o);have HU:=Lib.hid hu;have HF9:=Lib.hid hF9;have HT9:=Lib.hid hT9;clear hu hT9 hF9)
    | (go_at_call 52;(with_reducible refine (HIJ.out _ hbd2).mono ?_);rintro e w9 ⟨x,xk,xn,xA,xl,xc,a2,rfl,hu,hT9,hF9,hb7⟩;have hb8:=later hbd2 hb7;have A16:=HZ16.out.later hb7;have a0:=A16.cell (j:=0) (v:=.int .i64 0) rfl;have a1:=A16.cell (j:=1) (v:=.int .i64 0) rfl;have a2':=A16.cell (j:=2) (v:=.slice none 0 0) rfl;have f0:=A16.free 0;have f1:=A16.free 1;have f2:=A16.free 2;have HU:=Lib.hid hu;have HF9:=Lib.hid hF9;have HT9:=Lib.hid hT9;have HA16:=Lib.hid A16;have hbs:Below wr.heap.size wr (((w9.setCell ⟨wr.heap.size,0,none⟩ (.int .i64 xk)).setCell ⟨wr.heap.size,1,none⟩ (.int .i64 xn)).setCell ⟨wr.heap.size,2,none⟩ (.slice xA xl xc)):=((hb8.setCell (p:=⟨wr.heap.size,0,none⟩) (Nat.le_refl _) _).setCell (p:=⟨wr.heap.size,1,none⟩) (Nat.le_refl _) _).setCell (p:=⟨wr.heap.size,2,none⟩) (Nat.le_refl _) _;clear hu hT9 hF9 A16))
   ·have HB10:=Lib.hid (hbz (.cells #[.int .i64 xk,.int .i64 xn,.slice xA xl xc] 53))
    have A14:Arr (w9.alloc (.cells #[.int .i64 xk,.int .i64 xn,.slice xA xl xc] 53)) w9.heap.size 3 53 [.int .i64 xk,.int .i64 xn,.slice xA xl xc]:=Arr.new' w9 _ _ 3 _ rfl rfl (by decide)
    have HT10:Hid (TrF (wr.heap.size ≤ ·) (w9.alloc (.cells #[.int .i64 xk,.int .i64 xn,.slice xA xl xc] 53)) x (.agg #[.int .i64 xk,.int .i64 xn,.slice xA xl xc])):=Lib.hid (HT9.out.keep (fun k hk => hk) (fun k _ hl => (new_later w9 _).block k hl))
    have hgN:wr.heap.size ≤ w9.heap.size:=hb8.size
    generalize w9.alloc (.cells #[.int .i64 xk,.int .i64 xn,.slice xA xl xc] 53) = w10 at HB10 A14 HT10 ⊢
    rename_i hHeld
    clear hHeld hb7 hbd hbd2 hb8 hbz HZ16 HZS HT9
    have hlw:wr.heap.size ≤ w10.heap.size:=HB10.out.size
    have hA10:Arr w10 g11 3 53 [.int .i64 2,.int .i64 0,v]:=HA6.out.later HB10.out
    have HG10:Hid (Grow w10 BB v acc):=Lib.hid (HG6.out.keep fun k hk hl => HB10.out.block k hl)
    have HTG:Hid (TrF (fun g => BB ≤ g ∧ v.ownBlock ≠ some g) w10 x (.agg ([.int .i64 xk,.int .i64 xn,.slice xA xl xc]:List Value).toArray)):=Lib.hid (by
     have hb6:=HB6.out
     obtain ⟨L,hown,_⟩:=HG6.out
     exact HT10.out.mono (fun k hk => ⟨by omega,fun hv => by have h:=(hown.lt k hv).2;omega⟩))
    have hB10:BB ≤ w10.heap.size:=Nat.le_trans HB6.out HB10.out.size
    have hal:acc.length + 1 ≤ 1000000000000:=by have:=HACC.out;have:=HS3.out;have:=HLT.out;omega
    have x0:=A14.cell (j:=0) (v:=.int .i64 xk) rfl
    have x1:=A14.cell (j:=1) (v:=.int .i64 xn) rfl
    have x2:=A14.cell (j:=2) (v:=.slice xA xl xc) rfl
    have hv11:=hA10.cell (j:=2) (v:=v) rfl
    have HA10:=Lib.hid hA10
    have HB10':=Lib.hid hB10
    have HAL:=Lib.hid hal
    have HLT11:Hid (g11 < BB):=Lib.hid (by have:=HZ6.out;omega)
    have hgg:W.heap.size + 1 + 1 < g11 ∧ g11 < gD ∧ gD < BB:=⟨by omega,hg3,HZ6.out⟩
    have HGG:=Lib.hid hgg
    clear A14 hA10 hB10 hal HIJ HS hgg HIV
    go_wp2_with (first
     | (at_builtin;refine wpList_putT (C:=[.int .i64 xk,.int .i64 xn,.slice xA xl xc]) rfl HG10.out HTG.out HB10'.out HAL.out rfl _ _ rfl rfl rfl ?_;intro gN capN w11 hG11 hb11;have HG11:=Lib.hid hG11;have HB11:=Lib.hid hb11;have hA11:=HA10.out.below hb11 HLT11.out;have hc112:=hA11.cell (j:=2) (v:=v) rfl;have hf112:=hA11.free 2;have HA11':=Lib.hid hA11;clear hG11 hb11 hA11 hv11 x0 x1 x2))
    have HAC:Hid ((acc ++ [x]).length = j + 1):=Lib.hid (by simp [HACC.out])
    have hg:=HGG.out
    have HP12:Hid (Arr (w11.setCell ⟨g11,2,none⟩ (.slice (some ⟨gN,0,none⟩) (acc.length + 1) capN)) W.heap.size 2 26 [mv,.slice A0 n cap0]):=Lib.hid (((HPP6.out.later HB10.out).below HB11.out (by omega)).other (by omega) _)
    have HD12:Hid (Arr (w11.setCell ⟨g11,2,none⟩ (.slice (some ⟨gN,0,none⟩) (acc.length + 1) capN)) gD 31 46 C):=Lib.hid (((HDD6.out.later HB10.out).below HB11.out (by omega)).other (by omega) _)
    have HX12:Hid (Arr (w11.setCell ⟨g11,2,none⟩ (.slice (some ⟨gN,0,none⟩) (acc.length + 1) capN)) (W.heap.size + 1 + 1) 3 53 zc3):=Lib.hid (((HX6.out.later HB10.out).below HB11.out (by omega)).other (by omega) _)
    have HA12:Hid (Arr (w11.setCell ⟨g11,2,none⟩ (.slice (some ⟨gN,0,none⟩) (acc.length + 1) capN)) g11 3 53 [.int .i64 2,.int .i64 0,.slice (some ⟨gN,0,none⟩) (acc.length + 1) capN]):=Lib.hid (HA11'.out.set_ 2 _)
    have hgw:g11 ≤ wr.heap.size:=by have:=HB6.out;omega
    have hWw:W.heap.size ≤ wr.heap.size:=HV6.out.size
    have HV12:Hid (Below W.heap.size W (w11.setCell ⟨g11,2,none⟩ (.slice (some ⟨gN,0,none⟩) (acc.length + 1) capN))):=Lib.hid (((HV6.out.trans (HB10.out.mono hWw)).trans (HB11.out.mono (by omega))).setCell (p:=⟨g11,2,none⟩) (by show W.heap.size ≤ g11;omega) _)
    have HG12:Hid (Grow (w11.setCell ⟨g11,2,none⟩ (.slice (some ⟨gN,0,none⟩) (acc.length + 1) capN)) BB (.slice (some ⟨gN,0,none⟩) (acc.length + 1) capN) (acc ++ [x])):=Lib.hid (HG11.out.keep fun k hk hl => Below.heap_setCell _ _ _ _ (by simp;omega))
    have HB12:Hid (BB ≤ (w11.setCell ⟨g11,2,none⟩ (.slice (some ⟨gN,0,none⟩) (acc.length + 1) capN)).heap.size):=Lib.hid (by rw [World.size_setCell];exact Nat.le_trans HB10'.out HB11.out.size)
    have HSUM:Hid (a2 = p + 1 + nodesL (acc ++ [x]) ∧ nodesL (acc ++ [x]) ≤ (j + 1) * N ∧ depL (acc ++ [x]) ≤ D):=Lib.hid (by
     rw [nodesL_snoc,depL_snoc,Nat.succ_mul]
     have h1:=HU.out
     have h2:=HF9.out
     have h3:=HSU.out
     exact ⟨by omega,by omega,Nat.max_le.2 ⟨h3.2.2,h2.2.2⟩⟩)
    have HFT:Hid (ftL P (acc ++ [x]) T 0 = true):=Lib.hid (by
     rw [ftL_snoc,HFA.out,Bool.true_and,Nat.zero_add,HACC.out,HTJ.out]
     exact HF9.out.1)
    have hlt':=HLT.out
    go_roundw
    case rel => exact ⟨j + 1,a2,_,acc ++ [x],hlt',by go_num,rfl,HAC.out,HSUM.out,HFT,HP12.out,HX12.out,HD12.out,HA12.out,HV12.out,HG12.out,HB12.out⟩
    case measure => simp [intOf];omega
   ·have HB10:=Lib.hid hbs
    have A14:Arr (((w9.setCell ⟨wr.heap.size,0,none⟩ (.int .i64 xk)).setCell ⟨wr.heap.size,1,none⟩ (.int .i64 xn)).setCell ⟨wr.heap.size,2,none⟩ (.slice xA xl xc)) wr.heap.size 3 53 [.int .i64 xk,.int .i64 xn,.slice xA xl xc]:=((HA16.out.set_ 0 (.int .i64 xk)).set_ 1 (.int .i64 xn)).set_ 2 (.slice xA xl xc)
    have HT10:Hid (TrF (wr.heap.size ≤ ·) (((w9.setCell ⟨wr.heap.size,0,none⟩ (.int .i64 xk)).setCell ⟨wr.heap.size,1,none⟩ (.int .i64 xn)).setCell ⟨wr.heap.size,2,none⟩ (.slice xA xl xc)) x (.agg #[.int .i64 xk,.int .i64 xn,.slice xA xl xc])):=Lib.hid (HT9.out.keep (fun k hk => by rw [HZS.out] at hk;omega) (fun k hk _ => by
     rw [HZS.out] at hk
     exact (Only.setCells wr.heap.size 0 [.int .i64 xk,.int .i64 xn,.slice xA xl xc] w9).2 k (by omega)))
    have hgN:wr.heap.size ≤ wr.heap.size:=Nat.le_refl _
    generalize ((w9.setCell ⟨wr.heap.size,0,none⟩ (.int .i64 xk)).setCell ⟨wr.heap.size,1,none⟩ (.int .i64 xn)).setCell ⟨wr.heap.size,2,none⟩ (.slice xA xl xc) = w10 at HB10 A14 HT10 ⊢
    rename_i hHeld
    clear hHeld hb7 hbd hbd2 hb8 hbs a0 a1 a2' f0 f1 f2 HA16 HZ16 HZS HT9
    have hlw:wr.heap.size ≤ w10.heap.size:=HB10.out.size
    have hA10:Arr w10 g11 3 53 [.int .i64 2,.int .i64 0,v]:=HA6.out.later HB10.out
    have HG10:Hid (Grow w10 BB v acc):=Lib.hid (HG6.out.keep fun k hk hl => HB10.out.block k hl)
    have HTG:Hid (TrF (fun g => BB ≤ g ∧ v.ownBlock ≠ some g) w10 x (.agg ([.int .i64 xk,.int .i64 xn,.slice xA xl xc]:List Value).toArray)):=Lib.hid (by
     have hb6:=HB6.out
     obtain ⟨L,hown,_⟩:=HG6.out
     exact HT10.out.mono (fun k hk => ⟨by omega,fun hv => by have h:=(hown.lt k hv).2;omega⟩))
    have hB10:BB ≤ w10.heap.size:=Nat.le_trans HB6.out HB10.out.size
    have hal:acc.length + 1 ≤ 1000000000000:=by have:=HACC.out;have:=HS3.out;have:=HLT.out;omega
    have x0:=A14.cell (j:=0) (v:=.int .i64 xk) rfl
    have x1:=A14.cell (j:=1) (v:=.int .i64 xn) rfl
    have x2:=A14.cell (j:=2) (v:=.slice xA xl xc) rfl
    have hv11:=hA10.cell (j:=2) (v:=v) rfl
    have HA10:=Lib.hid hA10
    have HB10':=Lib.hid hB10
    have HAL:=Lib.hid hal
    have HLT11:Hid (g11 < BB):=Lib.hid (by have:=HZ6.out;omega)
    have hgg:W.heap.size + 1 + 1 < g11 ∧ g11 < gD ∧ gD < BB:=⟨by omega,hg3,HZ6.out⟩
    have HGG:=Lib.hid hgg
    clear A14 hA10 hB10 hal HIJ HS hgg HIV
    go_wp2_with (first
     | (at_builtin;refine wpList_putT (C:=[.int .i64 xk,.int .i64 xn,.slice xA xl xc]) rfl HG10.out HTG.out HB10'.out HAL.out rfl _ _ rfl rfl rfl ?_;intro gN capN w11 hG11 hb11;have HG11:=Lib.hid hG11;have HB11:=Lib.hid hb11;have hA11:=HA10.out.below hb11 HLT11.out;have hc112:=hA11.cell (j:=2) (v:=v) rfl;have hf112:=hA11.free 2;have HA11':=Lib.hid hA11;clear hG11 hb11 hA11 hv11 x0 x1 x2))
    have HAC:Hid ((acc ++ [x]).length = j + 1):=Lib.hid (by simp [HACC.out])
    have hg:=HGG.out
    have HP12:Hid (Arr (w11.setCell ⟨g11,2,none⟩ (.slice (some ⟨gN,0,none⟩) (acc.length + 1) capN)) W.heap.size 2 26 [mv,.slice A0 n cap0]):=Lib.hid (((HPP6.out.later HB10.out).below HB11.out (by omega)).other (by omega) _)
    have HD12:Hid (Arr (w11.setCell ⟨g11,2,none⟩ (.slice (some ⟨gN,0,none⟩) (acc.length + 1) capN)) gD 31 46 C):=Lib.hid (((HDD6.out.later HB10.out).below HB11.out (by omega)).other (by omega) _)
    have HX12:Hid (Arr (w11.setCell ⟨g11,2,none⟩ (.slice (some ⟨gN,0,none⟩) (acc.length + 1) capN)) (W.heap.size + 1 + 1) 3 53 zc3):=Lib.hid (((HX6.out.later HB10.out).below HB11.out (by omega)).other (by omega) _)
    have HA12:Hid (Arr (w11.setCell ⟨g11,2,none⟩ (.slice (some ⟨gN,0,none⟩) (acc.length + 1) capN)) g11 3 53 [.int .i64 2,.int .i64 0,.slice (some ⟨gN,0,none⟩) (acc.length + 1) capN]):=Lib.hid (HA11'.out.set_ 2 _)
    have hgw:g11 ≤ wr.heap.size:=by have:=HB6.out;omega
    have hWw:W.heap.size ≤ wr.heap.size:=HV6.out.size
    have HV12:Hid (Below W.heap.size W (w11.setCell ⟨g11,2,none⟩ (.slice (some ⟨gN,0,none⟩) (acc.length + 1) capN))):=Lib.hid (((HV6.out.trans (HB10.out.mono hWw)).trans (HB11.out.mono (by omega))).setCell (p:=⟨g11,2,none⟩) (by show W.heap.size ≤ g11;omega) _)
    have HG12:Hid (Grow (w11.setCell ⟨g11,2,none⟩ (.slice (some ⟨gN,0,none⟩) (acc.length + 1) capN)) BB (.slice (some ⟨gN,0,none⟩) (acc.length + 1) capN) (acc ++ [x])):=Lib.hid (HG11.out.keep fun k hk hl => Below.heap_setCell _ _ _ _ (by simp;omega))
    have HB12:Hid (BB ≤ (w11.setCell ⟨g11,2,none⟩ (.slice (some ⟨gN,0,none⟩) (acc.length + 1) capN)).heap.size):=Lib.hid (by rw [World.size_setCell];exact Nat.le_trans HB10'.out HB11.out.size)
    have HSUM:Hid (a2 = p + 1 + nodesL (acc ++ [x]) ∧ nodesL (acc ++ [x]) ≤ (j + 1) * N ∧ depL (acc ++ [x]) ≤ D):=Lib.hid (by
     rw [nodesL_snoc,depL_snoc,Nat.succ_mul]
     have h1:=HU.out
     have h2:=HF9.out
     have h3:=HSU.out
     exact ⟨by omega,by omega,Nat.max_le.2 ⟨h3.2.2,h2.2.2⟩⟩)
    have HFT:Hid (ftL P (acc ++ [x]) T 0 = true):=Lib.hid (by
     rw [ftL_snoc,HFA.out,Bool.true_and,Nat.zero_add,HACC.out,HTJ.out]
     exact HF9.out.1)
    have hlt':=HLT.out
    go_roundw
    case rel => exact ⟨j + 1,a2,_,acc ++ [x],hlt',by go_num,rfl,HAC.out,HSUM.out,HFT,HP12.out,HX12.out,HD12.out,HA12.out,HV12.out,HG12.out,HB12.out⟩
    case measure => simp [intOf];omega
  ·have hge:¬ (j:Int) < (sn:Int):=by omega
   obtain ⟨VA,vcap,hvs,_,_⟩:=G6.shape
   subst hvs
   obtain ⟨hvl,hTV⟩:=G6.tree 2 0 (by unfold i64r;omega) (by unfold i64r;omega)
   have HTV:=Lib.hid hTV
   have HAE:Hid (a' = p + (nodesL acc + 1) ∧ nodesL acc + 1 ≤ 1 + 3 * N ∧ depL acc + 1 ≤ 1 + D):=Lib.hid (by
    have h2:j * N ≤ 3 * N:=Nat.mul_le_mul_right N (by have:=HS3.out;omega)
    omega)
   have HFW:Hid (ft P (.node 2 0 acc) t = true):=Lib.hid (hft.out acc (by rw [HSL.out,HSN.out];omega) HFA.out)
   generalize acc.length = al at hvl A6 HTV
   have x0:=A6.cell (j:=0) (v:=.int .i64 2) rfl
   have x1:=A6.cell (j:=1) (v:=.int .i64 0) rfl
   have x2:=A6.cell (j:=2) (v:=.slice VA al vcap) rfl
   have HX6:=Lib.hid X6
   have HV6:=Lib.hid V6
   have HI3:Hid ((Tryd.prog.info? 53).map (·.size) = some ([.int .i64 2,.int .i64 0,.slice VA al vcap]:List Value).length):=Lib.hid info_val
   have HO3:Hid (∀ v ∈ ([.int .i64 2,.int .i64 0,.slice VA al vcap]:List Value),v.oneCell' = true):=Lib.hid (by intro v hv;simp at hv;rcases hv with rfl | rfl | rfl <;> rfl)
   have hBW:W.heap.size + 1 + 1 < BB:=by have:=HZ6.out;omega
   clear hlt G6 hvl hTV A6 X6 V6 P6 D6 PA6 S6 hacc hj hsum
   go_wp2_with (refine wpList_store_arr rfl _ (.tmp 10) (.tmp 167) rfl (W.heap.size + 1 + 1) 0 3 53 _ [.int .i64 2,.int .i64 0,.slice VA al vcap] zc3 rfl rfl rfl HX6.out (show 0 + 3 ≤ 3 by omega) HI3.out HO3.out ?_;intro w12 f12 o12)
   rw [setAll_all zc3 [.int .i64 2,.int .i64 0,.slice VA al vcap] rfl] at f12
   refine bodyPost_ret (results_cellB rfl _ _ (W.heap.size + 1 + 1) [.int .i64 2,.int .i64 0,.slice VA al vcap] _ rfl f12.range Tryd.underlying53 rfl HI3.out) rfl ?_
   obtain ⟨e1,e2,e3⟩:=HAE.out
   rw [e1]
   exact ⟨.node 2 0 acc,_,_,_,_,_,by rw [nodes_node];rfl,HTV.out.keep (fun k hk => by omega) (fun k hk _ => o12.2 k (by omega)),⟨HFW.out,by rw [nodes_node];exact e2,by rw [dep_node];exact e3⟩,HV6.out.trans (o12.bel.mono (by omega))⟩
end Go.Proofs.YtmfihlcibephlaaDoor
