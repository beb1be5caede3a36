import Derived.Test.YtmfihlcibephlaaDoorZ02
import Derived.Test.YtmfihlcibephlaaDoorZ14
import Derived.Test.YtmfihlcibephlaaDoorZ25
import Derived.Deep.RegionHeld3
set_option linter.unusedVariables false
set_option linter.unusedSimpArgs false
namespace Go.Proofs.YtmfihlcibephlaaDoor
open Go.RowKit
theorem tr_one {S:Nat → Prop} {w:World} {g:Nat} {k n xk xn:Int} {xA:Option Addr} {xl xc:Nat} {x:Tr} (hk:i64r k) (hn:i64r n) (hg:S g) (hr:w.rangeAt g 0 [.int .i64 xk,.int .i64 xn,.slice xA xl xc]) (hx:TrF S w x (.agg #[.int .i64 xk,.int .i64 xn,.slice xA xl xc])) :
  TrF S w (.node k n [x]) (.agg #[.int .i64 k,.int .i64 n,.slice (some ⟨g,0,none⟩) 1 1]):=by
 unfold TrF
 refine ⟨some ⟨g,0,none⟩,1,rfl,⟨Nat.le_refl _,by simp [maxLen],hk,hn⟩,?_⟩
 unfold KsF
 refine ⟨⟨g,0,[.int .i64 xk,.int .i64 xn,.slice xA xl xc],rfl,hg,by simpa using hr,by simpa using hx⟩,?_⟩
 unfold KsF
 trivial
set_option maxHeartbeats 4000000 in
set_option maxRecDepth 100000 in
theorem mk_C (P:List Df) (ls:List Int) (W:World) (n cap0:Nat) (LA:Option Addr) (ln' lc p d:Nat) (mv:Value) (A0:Option Addr) (t:Ty) (s q i:Int) (B:Option Addr) (ln cp:Nat)
  (hP:PrAt W P (.agg #[mv,.slice A0 n cap0])) (ht:TyAt W t (.agg (t5 3 s q i B ln cp).toArray)) (hN:Nums W ls LA ln') (hp:p ≤ 99999) (hd30:d ≤ 30) (d0:Df) (hdf:P[fnd P s q i]? = some d0) (hdk:d0.kind = 1) (N D:Nat) (hs3:d0.slots.length ≤ 3) (hpN:p + (1 + 3 * N) ≤ 100000) (hdD:d + (1 + D) ≤ 30) (ih:Hid (∀ (j:Nat) (x:Sl),d0.slots[j]? = some x → MC P ls x.ty N D)) (hs1:1 ≤ d0.slots.length) (hft:Hid (∀ (k:Nat) (x:Tr) (s':Sl),d0.slots[k]? = some s' → ft P x s'.ty = true → ft P (.node 3 (k:Int) [x]) t = true))  :
  Calls Tryd.prog 52 #[.agg #[mv,.slice A0 n cap0],.agg (t5 3 s q i B ln cp).toArray,.slice LA ln' lc,.int .i64 (p:Int),.int .i64 (d:Int)] W (MRes P t (1 + 3 * N) (1 + D) p W):=by
 have HD1:Hid (∀ W',Below W.heap.size W W' → Calls Tryd.prog 21 #[.agg #[mv,.slice A0 n cap0],.agg #[.int .i64 s,.int .i64 q,.int .i64 i]] W' (fun e w' => Below W'.heap.size W' w' ∧ ∃ C:List Value,e = .returned (.tuple #[.agg C.toArray,.bool true]) ∧ DfAt W d0 C)):=Lib.hid fun W' hW' => (rdef_from P s q i W W' _ hP hW').mono (by
  rintro e w' ⟨hb,⟨d,C,h,rfl,hC⟩ | ⟨h,_⟩⟩
  ·rw [hdf] at h;cases h;exact ⟨hb,C,rfl,hC⟩
  ·rw [hdf] at h;exact absurd h (by simp))
 have hzd:=zero_def
 have HN0:=Lib.hid hN
 have HPN:=Lib.hid hpN
 have HDD:=Lib.hid hdD
 obtain ⟨sl,hsl⟩:∃ sl,d0.slots = sl:=⟨_,rfl⟩
 obtain ⟨sn,hsn⟩:∃ sn,sl.length = sn:=⟨_,rfl⟩
 rw [hsl] at hs3
 rw [hsn] at hs3
 have HS3:=Lib.hid hs3
 have HDK:=Lib.hid hdk
 have HSL:=Lib.hid hsl
 have HSN:=Lib.hid hsn
 clear hdf hdk hsl hsn hpN hdD
 have P0:=p2_new W mv (.slice A0 n cap0)
 have V0:=new_later W (.cells #[mv,.slice A0 n cap0] 26)
 have Q0:=t5_new (W.alloc (.cells #[mv,.slice A0 n cap0] 26)) 3 s q i B ln cp
 have b1:=new_later (W.alloc (.cells #[mv,.slice A0 n cap0] 26)) (.cells (t5 3 s q i B ln cp).toArray 31)
 have R0:Arr (((W.alloc (.cells #[mv,.slice A0 n cap0] 26)).alloc (.cells (t5 3 s q i B ln cp).toArray 31)).alloc (.cells #[.int .i64 0,.int .i64 0,.slice none 0 0] 53)) ((W.alloc (.cells #[mv,.slice A0 n cap0] 26)).alloc (.cells (t5 3 s q i B ln cp).toArray 31)).heap.size 3 53 zc3:=Arr.new' _ _ _ 3 zc3 rfl rfl (by decide)
 have b2:=new_later ((W.alloc (.cells #[mv,.slice A0 n cap0] 26)).alloc (.cells (t5 3 s q i B ln cp).toArray 31)) (.cells #[.int .i64 0,.int .i64 0,.slice none 0 0] 53)
 replace P0:=(P0.later b1).later b2
 replace Q0:=Q0.later b2
 have V1:=later (later V0 b1) b2
 rw [World.size_alloc] at Q0
 rw [World.size_alloc,World.size_alloc] at R0
 clear V0 b1 b2
 generalize hW:((W.alloc (.cells #[mv,.slice A0 n cap0] 26)).alloc (.cells (t5 3 s q i B ln cp).toArray 31)).alloc (.cells #[.int .i64 0,.int .i64 0,.slice none 0 0] 53) = wa at P0 Q0 R0 V1
 have y0:=Q0.cell (j:=0) (v:=.int .i64 3) rfl
 have y1:=Q0.cell (j:=1) (v:=.int .i64 s) rfl
 have y2:=Q0.cell (j:=2) (v:=.int .i64 q) rfl
 have y3:=Q0.cell (j:=3) (v:=.int .i64 i) rfl
 have y4:=Q0.cell (j:=4) (v:=.slice B ln cp) rfl
 have zz0:=P0.cell (j:=0) (v:=mv) rfl
 have zz1:=P0.cell (j:=1) (v:=.slice A0 n cap0) rfl
 have HPA:=Lib.hid (hP.later V1)
 have HP0:=Lib.hid hP
 have HTA:=Lib.hid (ht.later V1)
 have HV:=Lib.hid V1
 have HPB:=Lib.hid P0
 have HQB:=Lib.hid Q0
 have HRB:=Lib.hid R0
 have HIV:Hid ((Tryd.prog.info? 53).map (·.size) = some zc3.length):=Lib.hid info_val
 have hpi:(p:Int) ≤ 99999:=by omega
 have hp0:(0:Int) ≤ (p:Int):=by omega
 have hdi:(d:Int) ≤ 30:=by omega
 have hd0:(0:Int) ≤ (d:Int):=by omega
 have HN:=Lib.hid (hN.later V1)
 have HAT:Hid (∀ W',Nums W' ls LA ln' → Calls Tryd.prog 44 #[.slice LA ln' lc,.int .i64 (p:Int),.int .i64 1048576] W' fun e w' => e = .returned (.int .i64 ((at_ ls p 1048576:Nat):Int)) ∧ w' = W'):=Lib.hid fun W' h => At_any ls p 1048576 ln' W'.heap.size lc LA h.ln h.mx (by omega) (by omega) h.i64 W' h.rd
 have hX:=atl_lt ls p 1048576 (by omega)
 generalize at_ ls p 1048576 = X at HAT hX
 have hXi:(X:Int) < 1048576:=by omega
 have hX0:(0:Int) ≤ (X:Int):=by omega
 clear hP ht hN P0 Q0 R0 V1
 have hs1':1 ≤ sn:=by have h:=hs1;rw [HSL.out,HSN.out] at h;exact h
 obtain ⟨n0,hn0⟩:∃ n0,X % sn = n0:=⟨_,rfl⟩
 have hlt:n0 < sn:=by rw [← hn0];exact Nat.mod_lt _ (by omega)
 have e:((X:Int).tmod (sn:Int)) = (n0:Int):=by rw [← hn0,Int.tmod_eq_emod_of_nonneg (by omega),Int.natCast_emod]
 have hsn0:((sn:Int) == 0) = false:=by rw [beq_eq_false_iff_ne];omega
 have hn0i:(n0:Int) < (sn:Int):=by omega
 have hn00:(0:Int) ≤ (n0:Int):=by omega
 have hsni:(sn:Int) ≤ 3:=by omega
 have HLT:=Lib.hid hlt
 clear hX hs1 hs1' hn0 hlt
 go_enter Tryd.func52,Tryd.ntmps52
 go_upto_region 1 with fail
 clear hW
 go_upto_region 12 with (go_at_call 44;(with_reducible refine (HAT.out _ HN.out).mono ?_);rintro e w2 ⟨rfl,hw2⟩;rw [hw2];clear hw2)
 have b11:=new_later wa (.cells #[.int .i64 4,.int .i64 0,.slice none 0 0] 53)
 have A11:Arr (wa.alloc (.cells #[.int .i64 4,.int .i64 0,.slice none 0 0] 53)) wa.heap.size 3 53 [.int .i64 4,.int .i64 0,.slice none 0 0]:=Arr.new' wa _ _ 3 _ rfl rfl (by decide)
 have hsz11:(wa.alloc (.cells #[.int .i64 4,.int .i64 0,.slice none 0 0] 53)).heap.size = wa.heap.size + 1:=by simp
 generalize wa.alloc (.cells #[.int .i64 4,.int .i64 0,.slice none 0 0] 53) = w5 at b11 A11 hsz11 ⊢
 have HPB5:=Lib.hid (HPB.out.later b11)
 have HQB5:=HQB.out.later b11
 have HRB5:=Lib.hid (HRB.out.later b11)
 have HV5:=Lib.hid (later HV.out b11)
 have HA11:=Lib.hid A11
 have HSZ:=Lib.hid hsz11
 have hgr:W.heap.size + 1 + 1 < wa.heap.size:=HRB.out.lt
 generalize hg11:wa.heap.size = g11 at HA11 HSZ hgr ⊢
 clear hg11 y0 y1 y2 y3 y4 zz0 zz1 HAT HPA HTA HV HPB HQB HRB b11 A11 hsz11
 have y05:=HQB5.cell (j:=0) (v:=.int .i64 3) rfl
 have y15:=HQB5.cell (j:=1) (v:=.int .i64 s) rfl
 have y25:=HQB5.cell (j:=2) (v:=.int .i64 q) rfl
 have y35:=HQB5.cell (j:=3) (v:=.int .i64 i) rfl
 have z05:=HPB5.out.cell (j:=0) (v:=mv) rfl
 have z15:=HPB5.out.cell (j:=1) (v:=.slice A0 n cap0) rfl
 clear HQB5
 go_upto_region 27 with (first
  | (go_at_call 21;(with_reducible refine (HD1.out _ HV5.out).mono ?_);rintro e w3 ⟨hb3,C,rfl,hC⟩;have HB3:=Lib.hid hb3;have HCL:=Lib.hid (DfAt.len hC);have HOC:Hid (∀ v ∈ C,v.oneCell' = true):=Lib.hid (DfAt.cells hC);have HIN:Hid ((Tryd.prog.info? 46).map (·.size) = some C.length):=Lib.hid (by rw [HCL.out];exact info_def);have HDC:=Lib.hid hC;clear hC hb3)
  | (refine wpList_store_arr rfl _ (.tmp 18) (.tmp 104) rfl w3.heap.size 0 31 46 _ C z31 rfl rfl rfl (z31_new w3) (by rw [HCL.out];omega) HIN.out HOC.out ?_;intro w4 f4 o4;rw [setAll_all _ _ (by rw [HCL.out];rfl)] at f4;have HF4:=Lib.hid f4;have HB4:=Lib.hid (later HB3.out ((new_later w3 _).trans o4.bel));have hck:=f4.cell (j:=3) (v:=.int .i64 1) (by have h:=df3 HDC.out;rw [HDK.out] at h;exact h);have A4:=HA11.out.later HB4.out;have hk0:=A4.cell (j:=0) (v:=.int .i64 4) rfl;have hfk:=A4.free 0;have HA4:=Lib.hid A4;have hg3:g11 < w3.heap.size:=(by have h1:=HB3.out.size;have h2:=HSZ.out;omega);obtain ⟨SA,scap,hc8,hss⟩:=df8 HDC.out HSL.out HSN.out;have HC8:=Lib.hid hc8;have HSS:=Lib.hid hss;have D4:=f4.other (j:=0) (show g11 ≠ w3.heap.size by omega) (.int .i64 3);have hsv:=D4.cell hc8;have A5:=A4.set_ 0 (.int .i64 3);have hk1:=A5.cell (j:=1) (v:=.int .i64 0) rfl;have hfk1:=A5.free 1;clear hc8 hss D4 A5;clear f4 o4 A4))
 have HA6:Hid (Arr ((w4.setCell ⟨g11,0,none⟩ (.int .i64 3)).setCell ⟨g11,1,none⟩ (.int .i64 (n0:Int))) g11 3 53 [.int .i64 3,.int .i64 (n0:Int),.slice none 0 0]):=Lib.hid ((HA4.out.set_ 0 _).set_ 1 _)
 have HD6:Hid (Arr ((w4.setCell ⟨g11,0,none⟩ (.int .i64 3)).setCell ⟨g11,1,none⟩ (.int .i64 (n0:Int))) w3.heap.size 31 46 C):=Lib.hid ((HF4.out.other (by omega) _).other (by omega) _)
 have HPP6:Hid (Arr ((w4.setCell ⟨g11,0,none⟩ (.int .i64 3)).setCell ⟨g11,1,none⟩ (.int .i64 (n0:Int))) W.heap.size 2 26 [mv,.slice A0 n cap0]):=Lib.hid (((HPB5.out.later HB4.out).other (by omega) _).other (by omega) _)
 have HX6:Hid (Arr ((w4.setCell ⟨g11,0,none⟩ (.int .i64 3)).setCell ⟨g11,1,none⟩ (.int .i64 (n0:Int))) (W.heap.size + 1 + 1) 3 53 zc3):=Lib.hid (((HRB5.out.later HB4.out).other (by omega) _).other (by omega) _)
 have HV6:Hid (Below W.heap.size W ((w4.setCell ⟨g11,0,none⟩ (.int .i64 3)).setCell ⟨g11,1,none⟩ (.int .i64 (n0:Int)))):=Lib.hid (((later HV5.out HB4.out).setCell (p:=⟨g11,0,none⟩) (by show W.heap.size ≤ g11;omega) _).setCell (p:=⟨g11,1,none⟩) (by show W.heap.size ≤ g11;omega) _)
 have HZ6:Hid (w3.heap.size < (((w4.setCell ⟨g11,0,none⟩ (.int .i64 3)).setCell ⟨g11,1,none⟩ (.int .i64 (n0:Int)))).heap.size):=Lib.hid (by rw [World.size_setCell,World.size_setCell];exact HF4.out.lt)
 generalize ((w4.setCell ⟨g11,0,none⟩ (.int .i64 3)).setCell ⟨g11,1,none⟩ (.int .i64 (n0:Int))) = w6 at HA6 HD6 HPP6 HX6 HV6 HZ6 ⊢
 generalize w3.heap.size = gD at hg3 HD6 HZ6 ⊢
 clear y05 y15 y25 y35 z05 z15 hck hk0 hfk hk1 hfk1 hsv HA4 HF4 HB4 HB3 HDC HOC HIN HD1 HPB5 HRB5 HV5 HA11 HSZ hzd
 have PA6:=HP0.out.later HV6.out
 have S6:=SlsAt.later HSS.out HV6.out
 have hjl:n0 < sl.length:=by rw [HSN.out];exact HLT.out
 obtain ⟨g,o,TC,hA,HRg,HTx,HC5,HI5,HOT⟩:=slot_ty S6 (List.getElem?_eq_getElem hjl)
 cases hA
 have HMC:Hid (MC P ls (sl[n0]).ty N D):=Lib.hid (ih.out n0 _ (by rw [HSL.out];exact List.getElem?_eq_getElem hjl))
 have HFT:Hid (∀ x,ft P x (sl[n0]).ty = true → ft P (.node 3 (n0:Int) [x]) t = true):=Lib.hid fun x hx => hft.out n0 x _ (by rw [HSL.out];exact List.getElem?_eq_getElem hjl) hx
 generalize sl[n0] = sx at HMC HFT HTx
 obtain ⟨tk,ts,tq,ti,tB,tl,tc,hsh⟩:=HTx.out.shape
 have hTl:TC = [.int .i64 tk,.int .i64 ts,.int .i64 tq,.int .i64 ti,.slice tB tl tc]:=by simpa [t5] using hsh
 subst hTl
 have hdw:w6.drew.heap.size = w6.heap.size:=rfl
 have hbd:Below w6.heap.size w6 w6.drew:=below_drewN (Below.refl _ _) 1
 have HNB:Hid (p + 1 + N ≤ 100000):=Lib.hid (by have h1:=HPN.out;omega)
 have N6:=HN0.out.later HV6.out
 have HIJ:Hid (∀ W',Below w6.heap.size w6 W' → Calls Tryd.prog 52 #[.agg #[mv,.slice A0 n cap0],.agg #[.int .i64 tk,.int .i64 ts,.int .i64 tq,.int .i64 ti,.slice tB tl tc],.slice LA ln' lc,.int .i64 ((p:Int) + 1),.int .i64 (IntKind.i64.wrap ((d:Int) + 1))] W' (fun e w' => ∃ (x:Tr) (xk xn:Int) (xA:Option Addr) (xl xc a2:Nat),e = .returned (.tuple #[.agg #[.int .i64 xk,.int .i64 xn,.slice xA xl xc],.int .i64 (a2:Int)]) ∧ a2 = p + 1 + x.nodes ∧ TrF (W'.heap.size ≤ ·) w' x (.agg #[.int .i64 xk,.int .i64 xn,.slice xA xl xc]) ∧ (ft P x sx.ty = true ∧ x.nodes ≤ N ∧ x.dep ≤ D) ∧ Below W'.heap.size W' w')):=Lib.hid fun W' h1 => by
  rw [show IntKind.i64.wrap ((d:Int) + 1) = (((d + 1:Nat)):Int) from (by have:=HDD.out;rw [IntKind.wrap_i64];omega),show ((p:Int) + 1) = ((p + 1:Nat):Int) from (by omega)]
  refine (HMC.out W' _ _ LA ln' lc (p + 1) (d + 1) (PA6.later h1) (HTx.out.later h1) (N6.later h1) HNB.out (by have:=HDD.out;omega)).mono ?_
  rintro e w' ⟨x,xk,xn,xA,xl,xc,rfl,h2,h3,h4⟩
  exact ⟨x,xk,xn,xA,xl,xc,_,rfl,rfl,h2,h3,h4⟩
 have HS:Hid (∀ X,Below w6.heap.size w6 X → (X.cell? ⟨W.heap.size,0,none⟩ = some mv ∧ X.cell? ⟨W.heap.size,1,none⟩ = some (.slice A0 n cap0) ∧ X.cell? ⟨gD,8,none⟩ = some (.slice (some ⟨g,o,none⟩) sn scap) ∧ X.cell? ⟨g11,1,none⟩ = some (.int .i64 (n0:Int)) ∧ X.cell? ⟨g,o + n0 * 11 + 4,none⟩ = some (.int .i64 tk) ∧ X.cell? ⟨g,o + n0 * 11 + 4 + 1,none⟩ = some (.int .i64 ts) ∧ X.cell? ⟨g,o + n0 * 11 + 4 + 2,none⟩ = some (.int .i64 tq) ∧ X.cell? ⟨g,o + n0 * 11 + 4 + 3,none⟩ = some (.int .i64 ti) ∧ X.cell? ⟨g,o + n0 * 11 + 4 + 4,none⟩ = some (.slice tB tl tc))):=Lib.hid fun X hX => ⟨(HPP6.out.later hX).cell (j:=0) rfl,(HPP6.out.later hX).cell (j:=1) rfl,(HD6.out.later hX).cell HC8.out,(HA6.out.later hX).cell (j:=1) rfl,range5 (range_below HRg.out hX)⟩
 have hd1:(d:Int) + 1 ≤ 9223372036854775807:=by have:=HDD.out;omega
 have hZ16:Arr ((w6.alloc (.cells #[.int .i64 0,.int .i64 0,.slice none 0 0] 53)).drew) w6.heap.size 3 53 zc3:=Arr.new' w6 _ _ 3 zc3 rfl rfl (by decide)
 have hbd2:Below w6.heap.size w6 ((w6.alloc (.cells #[.int .i64 0,.int .i64 0,.slice none 0 0] 53)).drew):=below_drewN (new_later w6 _) 1
 have hz16:((w6.alloc (.cells #[.int .i64 0,.int .i64 0,.slice none 0 0] 53)).drew).heap.size = w6.heap.size + 1:=by simp
 have HZ16:=Lib.hid hZ16
 have HZS:=Lib.hid hz16
 clear hZ16 hz16 PA6 S6 N6 hjl hsh hdw e hsn0 hX0 hXi
 go_region_held3 (fun X => (X.cell? ⟨W.heap.size,0,none⟩ = some mv ∧ X.cell? ⟨W.heap.size,1,none⟩ = some (.slice A0 n cap0) ∧ X.cell? ⟨gD,8,none⟩ = some (.slice (some ⟨g,o,none⟩) sn scap) ∧ X.cell? ⟨g11,1,none⟩ = some (.int .i64 (n0:Int)) ∧ X.cell? ⟨g,o + n0 * 11 + 4,none⟩ = some (.int .i64 tk) ∧ X.cell? ⟨g,o + n0 * 11 + 4 + 1,none⟩ = some (.int .i64 ts) ∧ X.cell? ⟨g,o + n0 * 11 + 4 + 2,none⟩ = some (.int .i64 tq) ∧ X.cell? ⟨g,o + n0 * 11 + 4 + 3,none⟩ = some (.int .i64 ti) ∧ X.cell? ⟨g,o + n0 * 11 + 4 + 4,none⟩ = some (.slice tB tl tc)))
  (first | exact HS.out _ hbd | exact HS.out _ hbd2 | exact HS.out _ hb8 | exact HS.out _ (hbz _) | exact HS.out _ hbs)
  (first
  | (go_at_call 52;(with_reducible refine (HIJ.out _ hbd).mono ?_);rintro e w9 ⟨x,xk,xn,xA,xl,xc,a2,rfl,hu,hT9,hF9,hb7⟩;have hb8:=later hbd hb7;have hbz:=fun o => later hb8 (new_later w9 o);have HU:=Lib.hid hu;have HF9:=Lib.hid hF9;have HT9:=Lib.hid hT9;clear hu hT9 hF9)
  | (go_at_call 52;(with_reducible refine (HIJ.out _ hbd2).mono ?_);rintro e w9 ⟨x,xk,xn,xA,xl,xc,a2,rfl,hu,hT9,hF9,hb7⟩;have hb8:=later hbd2 hb7;have A16:=HZ16.out.later hb7;have a0:=A16.cell (j:=0) (v:=.int .i64 0) rfl;have a1:=A16.cell (j:=1) (v:=.int .i64 0) rfl;have a2':=A16.cell (j:=2) (v:=.slice none 0 0) rfl;have f0:=A16.free 0;have f1:=A16.free 1;have f2:=A16.free 2;have HU:=Lib.hid hu;have HF9:=Lib.hid hF9;have HT9:=Lib.hid hT9;have HA16:=Lib.hid A16;have hbs:Below w6.heap.size w6 (((w9.setCell ⟨w6.heap.size,0,none⟩ (.int .i64 xk)).setCell ⟨w6.heap.size,1,none⟩ (.int .i64 xn)).setCell ⟨w6.heap.size,2,none⟩ (.slice xA xl xc)):=((hb8.setCell (p:=⟨w6.heap.size,0,none⟩) (Nat.le_refl _) _).setCell (p:=⟨w6.heap.size,1,none⟩) (Nat.le_refl _) _).setCell (p:=⟨w6.heap.size,2,none⟩) (Nat.le_refl _) _;clear hu hT9 hF9 A16))
 ·have HB10:=Lib.hid (hbz (.cells #[.int .i64 xk,.int .i64 xn,.slice xA xl xc] 53))
  have A14:Arr (w9.alloc (.cells #[.int .i64 xk,.int .i64 xn,.slice xA xl xc] 53)) w9.heap.size 3 53 [.int .i64 xk,.int .i64 xn,.slice xA xl xc]:=Arr.new' w9 _ _ 3 _ rfl rfl (by decide)
  have HT10:Hid (TrF (w6.heap.size ≤ ·) (w9.alloc (.cells #[.int .i64 xk,.int .i64 xn,.slice xA xl xc] 53)) x (.agg #[.int .i64 xk,.int .i64 xn,.slice xA xl xc])):=Lib.hid (HT9.out.keep (fun k hk => hk) (fun k _ hl => (new_later w9 _).block k hl))
  have hgN:w6.heap.size ≤ w9.heap.size:=hb8.size
  generalize w9.alloc (.cells #[.int .i64 xk,.int .i64 xn,.slice xA xl xc] 53) = w10 at HB10 A14 HT10 ⊢
  rename_i hHeld
  clear hHeld hb7 hbd hbd2 hb8 hbz HZ16 HZS HT9
  have hlw:w6.heap.size ≤ w10.heap.size:=HB10.out.size
  have x0:=A14.cell (j:=0) (v:=.int .i64 xk) rfl
  have x1:=A14.cell (j:=1) (v:=.int .i64 xn) rfl
  have x2:=A14.cell (j:=2) (v:=.slice xA xl xc) rfl
  have hnw:=new_later w10 (.cells #[.int .i64 xk,.int .i64 xn,.slice xA xl xc] 53)
  have AK:Arr (w10.alloc (.cells #[.int .i64 xk,.int .i64 xn,.slice xA xl xc] 53)) w10.heap.size 3 53 [.int .i64 xk,.int .i64 xn,.slice xA xl xc]:=Arr.new' w10 _ _ 3 _ rfl rfl (by decide)
  have A10:Arr (w10.alloc (.cells #[.int .i64 xk,.int .i64 xn,.slice xA xl xc] 53)) g11 3 53 [.int .i64 3,.int .i64 (n0:Int),.slice none 0 0]:=(HA6.out.later HB10.out).later hnw
  have hc2:=A10.cell (j:=2) (v:=.slice none 0 0) rfl
  have hf2:=A10.free 2
  have A12:Arr ((w10.alloc (.cells #[.int .i64 xk,.int .i64 xn,.slice xA xl xc] 53)).setCell ⟨g11,2,none⟩ (.slice (some ⟨w10.heap.size,0,none⟩) 1 1)) g11 3 53 [.int .i64 3,.int .i64 (n0:Int),(.slice (some ⟨w10.heap.size,0,none⟩) 1 1)]:=A10.set_ 2 _
  have u0:=A12.cell (j:=0) (v:=.int .i64 3) rfl
  have u1:=A12.cell (j:=1) (v:=.int .i64 (n0:Int)) rfl
  have u2:=A12.cell (j:=2) (v:=(.slice (some ⟨w10.heap.size,0,none⟩) 1 1)) rfl
  have hzl:=HZ6.out
  have HX12:Hid (Arr ((w10.alloc (.cells #[.int .i64 xk,.int .i64 xn,.slice xA xl xc] 53)).setCell ⟨g11,2,none⟩ (.slice (some ⟨w10.heap.size,0,none⟩) 1 1)) (W.heap.size + 1 + 1) 3 53 zc3):=Lib.hid (((HX6.out.later HB10.out).later hnw).other (by omega) _)
  have HR12:Hid ((((w10.alloc (.cells #[.int .i64 xk,.int .i64 xn,.slice xA xl xc] 53)).setCell ⟨g11,2,none⟩ (.slice (some ⟨w10.heap.size,0,none⟩) 1 1))).rangeAt w10.heap.size 0 [.int .i64 xk,.int .i64 xn,.slice xA xl xc]):=Lib.hid (AK.other (by omega) _).range
  have HT12:Hid (TrF (w6.heap.size ≤ ·) ((w10.alloc (.cells #[.int .i64 xk,.int .i64 xn,.slice xA xl xc] 53)).setCell ⟨g11,2,none⟩ (.slice (some ⟨w10.heap.size,0,none⟩) 1 1)) x (.agg #[.int .i64 xk,.int .i64 xn,.slice xA xl xc])):=Lib.hid ((HT10.out.keep (fun k hk => hk) (fun k _ hl => hnw.block k hl)).keep (fun k hk => hk) (fun k hk _ => Below.heap_setCell _ _ _ _ (by show k ≠ g11;omega)))
  have HV12:Hid (Below W.heap.size W ((w10.alloc (.cells #[.int .i64 xk,.int .i64 xn,.slice xA xl xc] 53)).setCell ⟨g11,2,none⟩ (.slice (some ⟨w10.heap.size,0,none⟩) 1 1))):=Lib.hid ((later (later HV6.out HB10.out) hnw).setCell (p:=⟨g11,2,none⟩) (by show W.heap.size ≤ g11;omega) _)
  clear A14 AK A10 A12 hnw HIJ HS HT10
  go_wp2_with (refine wpList_store_arr rfl _ (.tmp 10) (.tmp 135) rfl (W.heap.size + 1 + 1) 0 3 53 _ [.int .i64 3,.int .i64 (n0:Int),(.slice (some ⟨w10.heap.size,0,none⟩) 1 1)] zc3 rfl rfl rfl HX12.out (show 0 + 3 ≤ 3 by omega) info_val (by intro v hv;simp at hv;rcases hv with rfl | rfl | rfl <;> rfl) ?_;intro w12 f12 o12)
  rw [setAll_all zc3 [.int .i64 3,.int .i64 (n0:Int),(.slice (some ⟨w10.heap.size,0,none⟩) 1 1)] rfl] at f12
  refine bodyPost_ret (results_cellB rfl _ _ (W.heap.size + 1 + 1) [.int .i64 3,.int .i64 (n0:Int),(.slice (some ⟨w10.heap.size,0,none⟩) 1 1)] _ rfl f12.range Tryd.underlying53 rfl info_val) rfl ?_
  have hF:=HF9.out
  have hU:=HU.out
  refine ⟨.node 3 (n0:Int) [x],_,_,_,_,_,?_,tr_one (by unfold i64r;omega) (by unfold i64r;omega) (by omega) (range_heap HR12.out fun _ => o12.2 _ (by omega)) (HT12.out.keep (fun k hk => by omega) (fun k hk _ => o12.2 k (by omega))),⟨HFT.out x hF.1,by rw [nodes_node,nodesL,nodesL];omega,by rw [dep_node,depL,depL];omega⟩,HV12.out.trans (o12.bel.mono (by omega))⟩
  rw [show p + (Tr.node 3 (n0:Int) [x]).nodes = a2 by rw [nodes_node,nodesL,nodesL];omega]
  rfl
 ·have HB10:=Lib.hid hbs
  have A14:Arr (((w9.setCell ⟨w6.heap.size,0,none⟩ (.int .i64 xk)).setCell ⟨w6.heap.size,1,none⟩ (.int .i64 xn)).setCell ⟨w6.heap.size,2,none⟩ (.slice xA xl xc)) w6.heap.size 3 53 [.int .i64 xk,.int .i64 xn,.slice xA xl xc]:=((HA16.out.set_ 0 (.int .i64 xk)).set_ 1 (.int .i64 xn)).set_ 2 (.slice xA xl xc)
  have HT10:Hid (TrF (w6.heap.size ≤ ·) (((w9.setCell ⟨w6.heap.size,0,none⟩ (.int .i64 xk)).setCell ⟨w6.heap.size,1,none⟩ (.int .i64 xn)).setCell ⟨w6.heap.size,2,none⟩ (.slice xA xl xc)) x (.agg #[.int .i64 xk,.int .i64 xn,.slice xA xl xc])):=Lib.hid (HT9.out.keep (fun k hk => by rw [HZS.out] at hk;omega) (fun k hk _ => by
   rw [HZS.out] at hk
   exact (Only.setCells w6.heap.size 0 [.int .i64 xk,.int .i64 xn,.slice xA xl xc] w9).2 k (by omega)))
  have hgN:w6.heap.size ≤ w6.heap.size:=Nat.le_refl _
  generalize ((w9.setCell ⟨w6.heap.size,0,none⟩ (.int .i64 xk)).setCell ⟨w6.heap.size,1,none⟩ (.int .i64 xn)).setCell ⟨w6.heap.size,2,none⟩ (.slice xA xl xc) = w10 at HB10 A14 HT10 ⊢
  rename_i hHeld
  clear hHeld hb7 hbd hbd2 hb8 hbs a0 a1 a2' f0 f1 f2 HA16 HZ16 HZS HT9
  have hlw:w6.heap.size ≤ w10.heap.size:=HB10.out.size
  have x0:=A14.cell (j:=0) (v:=.int .i64 xk) rfl
  have x1:=A14.cell (j:=1) (v:=.int .i64 xn) rfl
  have x2:=A14.cell (j:=2) (v:=.slice xA xl xc) rfl
  have hnw:=new_later w10 (.cells #[.int .i64 xk,.int .i64 xn,.slice xA xl xc] 53)
  have AK:Arr (w10.alloc (.cells #[.int .i64 xk,.int .i64 xn,.slice xA xl xc] 53)) w10.heap.size 3 53 [.int .i64 xk,.int .i64 xn,.slice xA xl xc]:=Arr.new' w10 _ _ 3 _ rfl rfl (by decide)
  have A10:Arr (w10.alloc (.cells #[.int .i64 xk,.int .i64 xn,.slice xA xl xc] 53)) g11 3 53 [.int .i64 3,.int .i64 (n0:Int),.slice none 0 0]:=(HA6.out.later HB10.out).later hnw
  have hc2:=A10.cell (j:=2) (v:=.slice none 0 0) rfl
  have hf2:=A10.free 2
  have A12:Arr ((w10.alloc (.cells #[.int .i64 xk,.int .i64 xn,.slice xA xl xc] 53)).setCell ⟨g11,2,none⟩ (.slice (some ⟨w10.heap.size,0,none⟩) 1 1)) g11 3 53 [.int .i64 3,.int .i64 (n0:Int),(.slice (some ⟨w10.heap.size,0,none⟩) 1 1)]:=A10.set_ 2 _
  have u0:=A12.cell (j:=0) (v:=.int .i64 3) rfl
  have u1:=A12.cell (j:=1) (v:=.int .i64 (n0:Int)) rfl
  have u2:=A12.cell (j:=2) (v:=(.slice (some ⟨w10.heap.size,0,none⟩) 1 1)) rfl
  have hzl:=HZ6.out
  have HX12:Hid (Arr ((w10.alloc (.cells #[.int .i64 xk,.int .i64 xn,.slice xA xl xc] 53)).setCell ⟨g11,2,none⟩ (.slice (some ⟨w10.heap.size,0,none⟩) 1 1)) (W.heap.size + 1 + 1) 3 53 zc3):=Lib.hid (((HX6.out.later HB10.out).later hnw).other (by omega) _)
  have HR12:Hid ((((w10.alloc (.cells #[.int .i64 xk,.int .i64 xn,.slice xA xl xc] 53)).setCell ⟨g11,2,none⟩ (.slice (some ⟨w10.heap.size,0,none⟩) 1 1))).rangeAt w10.heap.size 0 [.int .i64 xk,.int .i64 xn,.slice xA xl xc]):=Lib.hid (AK.other (by omega) _).range
  have HT12:Hid (TrF (w6.heap.size ≤ ·) ((w10.alloc (.cells #[.int .i64 xk,.int .i64 xn,.slice xA xl xc] 53)).setCell ⟨g11,2,none⟩ (.slice (some ⟨w10.heap.size,0,none⟩) 1 1)) x (.agg #[.int .i64 xk,.int .i64 xn,.slice xA xl xc])):=Lib.hid ((HT10.out.keep (fun k hk => hk) (fun k _ hl => hnw.block k hl)).keep (fun k hk => hk) (fun k hk _ => Below.heap_setCell _ _ _ _ (by show k ≠ g11;omega)))
  have HV12:Hid (Below W.heap.size W ((w10.alloc (.cells #[.int .i64 xk,.int .i64 xn,.slice xA xl xc] 53)).setCell ⟨g11,2,none⟩ (.slice (some ⟨w10.heap.size,0,none⟩) 1 1))):=Lib.hid ((later (later HV6.out HB10.out) hnw).setCell (p:=⟨g11,2,none⟩) (by show W.heap.size ≤ g11;omega) _)
  clear A14 AK A10 A12 hnw HIJ HS HT10
  go_wp2_with (refine wpList_store_arr rfl _ (.tmp 10) (.tmp 135) rfl (W.heap.size + 1 + 1) 0 3 53 _ [.int .i64 3,.int .i64 (n0:Int),(.slice (some ⟨w10.heap.size,0,none⟩) 1 1)] zc3 rfl rfl rfl HX12.out (show 0 + 3 ≤ 3 by omega) info_val (by intro v hv;simp at hv;rcases hv with rfl | rfl | rfl <;> rfl) ?_;intro w12 f12 o12)
  rw [setAll_all zc3 [.int .i64 3,.int .i64 (n0:Int),(.slice (some ⟨w10.heap.size,0,none⟩) 1 1)] rfl] at f12
  refine bodyPost_ret (results_cellB rfl _ _ (W.heap.size + 1 + 1) [.int .i64 3,.int .i64 (n0:Int),(.slice (some ⟨w10.heap.size,0,none⟩) 1 1)] _ rfl f12.range Tryd.underlying53 rfl info_val) rfl ?_
  have hF:=HF9.out
  have hU:=HU.out
  refine ⟨.node 3 (n0:Int) [x],_,_,_,_,_,?_,tr_one (by unfold i64r;omega) (by unfold i64r;omega) (by omega) (range_heap HR12.out fun _ => o12.2 _ (by omega)) (HT12.out.keep (fun k hk => by omega) (fun k hk _ => o12.2 k (by omega))),⟨HFT.out x hF.1,by rw [nodes_node,nodesL,nodesL];omega,by rw [dep_node,depL,depL];omega⟩,HV12.out.trans (o12.bel.mono (by omega))⟩
  rw [show p + (Tr.node 3 (n0:Int) [x]).nodes = a2 by rw [nodes_node,nodesL,nodesL];omega]
  rfl
end Go.Proofs.YtmfihlcibephlaaDoor
namespace Go.Proofs.YtmfihlcibephlaaDoor
open Go.RowKit
def MB:Nat → Nat
 | 0 => 3
 | i + 1 => 1 + 2 * (1 + 3 * MB i)
def DM:Nat → Nat
 | 0 => 2
 | i + 1 => 1 + (1 + DM i)
theorem MC.mono {P:List Df} {ls:List Int} {t:Ty} {N D N' D':Nat} (h:MC P ls t N D) (hN:N ≤ N') (hD:D ≤ D'):MC P ls t N' D':=fun W pv tv A n c at' d h1 h2 h3 h4 h5 =>
 (h W pv tv A n c at' d h1 h2 h3 (by omega) (by omega)).mono (by
  rintro e w ⟨x,xk,xn,xA,xl,xc,h6,h7,⟨h8,h9,h10⟩,h11⟩
  exact ⟨x,xk,xn,xA,xl,xc,h6,h7,⟨h8,by omega,by omega⟩,h11⟩)
theorem mc_I (P:List Df) (ls:List Int):MC P ls tI 1 1:=by
 intro W pv tv A n c at' d hP ht hN h1 h2
 have hP1:=hP
 obtain ⟨mv,A0,cap0,rfl,_,_⟩:=hP
 have ht1:=ht
 unfold tI at ht
 unfold TyAt at ht
 obtain ⟨B,cp,rfl,_⟩:=ht
 exact mk_I P ls W P.length cap0 A n c at' d mv A0 tI 0 0 0 B _ cp hP1 ht1 hN (by omega) (by omega)
theorem mc_B (P:List Df) (ls:List Int):MC P ls tB 1 1:=by
 intro W pv tv A n c at' d hP ht hN h1 h2
 have hP1:=hP
 obtain ⟨mv,A0,cap0,rfl,_,_⟩:=hP
 have ht1:=ht
 unfold tB at ht
 unfold TyAt at ht
 obtain ⟨B,cp,rfl,_⟩:=ht
 exact mk_T P ls W P.length cap0 A n c at' d mv A0 tB 0 0 0 B _ cp hP1 ht1 hN (by omega) (by omega)
theorem mc_L {P:List Df} {ls:List Int} {t':Ty} {N D:Nat} (h:MC P ls t' N D) (hv:vty P 23 t' = true):MC P ls (tL t') (1 + 2 * N) (1 + D):=by
 intro W pv tv A n c at' d hP ht hN h1 h2
 have hP1:=hP
 obtain ⟨mv,A0,cap0,rfl,_,_⟩:=hP
 have ht1:=ht
 unfold tL at ht
 unfold TyAt at ht
 obtain ⟨B,cp,rfl,_⟩:=ht
 have hX:=atl_lt ls at' 1048576 (by omega)
 by_cases h3:3 < d
 ·exact mk_L0 P ls W P.length cap0 A n c at' d mv A0 (tL t') 0 0 0 B _ cp hP1 ht1 hN (by omega) (by omega) t' N D rfl h1 h2 (Lib.hid h) hv hX h3
 ·exact mk_L1 P ls W P.length cap0 A n c at' d mv A0 (tL t') 0 0 0 B _ cp hP1 ht1 hN (by omega) (by omega) t' N D rfl h1 h2 (Lib.hid h) hv hX h3
theorem mc_D {P:List Df} {ls:List Int} (h:Snd P) {i:Nat} (hi:i < P.length) {N D:Nat} (hs:∀ (j:Nat) (x:Sl),P[i].slots[j]? = some x → MC P ls x.ty N D):MC P ls (tD i) (1 + 3 * N) (1 + D):=by
 intro W pv tv A n c at' d hP ht hN h1 h2
 have hP1:=hP
 obtain ⟨mv,A0,cap0,rfl,_,_⟩:=hP
 have ht1:=ht
 unfold tD at ht
 unfold TyAt at ht
 obtain ⟨B,cp,rfl,_⟩:=ht
 obtain ⟨s1,s2,_⟩:=h.slt i _ (List.getElem?_eq_getElem hi)
 rcases h.knd i _ (List.getElem?_eq_getElem hi) with hk | hk
 ·exact mk_R P ls W P.length cap0 A n c at' d mv A0 (tD i) 0 1 (1 + (i:Int)) B _ cp hP1 ht1 hN (by omega) (by omega) P[i] (h.get hi) hk N D s2 h1 h2 (Lib.hid hs)
   (kty (tD i) P[i].slots 2 0) (Lib.hid fun j s hs => by unfold kty;rw [if_pos rfl];simp [hs]) (Lib.hid fun ks hl hf => h.ft_rec hi hk ks hl hf)
 ·exact mk_C P ls W P.length cap0 A n c at' d mv A0 (tD i) 0 1 (1 + (i:Int)) B _ cp hP1 ht1 hN (by omega) (by omega) P[i] (h.get hi) hk N D s2 h1 h2 (Lib.hid hs) s1
   (Lib.hid fun k x s' hs hx => by
    obtain ⟨hk',rfl⟩:=List.getElem?_eq_some_iff.1 hs
    exact h.ft_case hi (by omega) k hk' x hx)
theorem Snd.make {P:List Df} (h:Snd P) (ls:List Int):∀ (j:Nat),j ≤ P.length → ∀ t,Gd j t → MC P ls t (MB j) (DM j)
 | 0,_,t,ht => by
  rcases ht with rfl | rfl | rfl | ⟨i,hi,_⟩
  ·exact (mc_I P ls).mono (by simp [MB]) (by simp [DM])
  ·exact (mc_B P ls).mono (by simp [MB]) (by simp [DM])
  ·exact mc_L (mc_I P ls) (vty_I P 22)
  ·omega
 | j + 1,hj,t,ht => by
  have ih:=Snd.make h ls j (by omega)
  have hD:MC P ls (tD j) (1 + 3 * MB j) (1 + DM j):=mc_D h (by omega) fun k x hx => ih x.ty ((h.slt j _ (List.getElem?_eq_getElem (by omega))).2.2 k x hx)
  rcases ht with rfl | rfl | rfl | ⟨i,hi,e⟩
  ·exact (ih _ (.inl rfl)).mono (by simp only [MB];omega) (by simp only [DM];omega)
  ·exact (ih _ (.inr (.inl rfl))).mono (by simp only [MB];omega) (by simp only [DM];omega)
  ·exact (ih _ (.inr (.inr (.inl rfl)))).mono (by simp only [MB];omega) (by simp only [DM];omega)
  ·by_cases hij:i < j
   ·exact (ih t (.inr (.inr (.inr ⟨i,hij,e⟩)))).mono (by simp only [MB];omega) (by simp only [DM];omega)
   ·obtain rfl:i = j:=by omega
    rcases e with rfl | rfl
    ·exact hD.mono (by simp only [MB];omega) (by simp only [DM];omega)
    ·exact mc_L hD (h.vty_D (by omega) 22)
theorem MB_4:∀ j,j ≤ 4 → MB j ≤ 4665:=by decide
theorem DM_4:∀ j,j ≤ 4 → DM j ≤ 10:=by decide
end Go.Proofs.YtmfihlcibephlaaDoor
namespace Go.Proofs.YtmfihlcibephlaaDoor
open Go.RowKit
theorem if_max (S X:Int):(if S < X then X else S) = max S X:=by split <;> omega
set_option maxHeartbeats 2000000 in
set_option maxRecDepth 100000 in
theorem depth_step (k n:Int) (ks:List Tr) (A:Option Addr) (cap:Nat) (w:World) (hk:KsAt w A 0 ks) (HM:Hid (ks.length ≤ cap ∧ cap ≤ maxLen ∧ i64r k ∧ i64r n))
  (ih:Hid (∀ (j:Nat) (x:Tr),ks[j]? = some x → ∀ W v,TrAt W x v → Calls Tryd.prog 53 #[v] W (NumRes x.dp W))) :
  Calls Tryd.prog 53 #[.agg (c3 k n A ks.length cap).toArray] w (NumRes (wrap64 (dpL 0 ks + 1)) w):=by
 have HK:=Lib.hid hk
 have P1:=c3_new w k n A ks.length cap
 have V0:=new_later w (.cells (c3 k n A ks.length cap).toArray 53)
 clear hk
 go_enter Tryd.func53,Tryd.ntmps53
 go_upto_region 1 with fail
 generalize w.alloc (.cells (c3 k n A ks.length cap).toArray 53) = wa at P1 V0 ⊢
 go_wp2_with fail
 go_loopw [3,4] (fun s i W => ∃ j:Nat,j ≤ ks.length ∧ i = .int .i64 (j:Int) ∧ s = .int .i64 (dpL 0 (ks.take j)) ∧ Below wa.heap.size wa W) (fun _ i _ => ks.length - (intOf i).toNat)
 case atStart => exact ⟨0,by omega,rfl,rfl,Below.refl _ _⟩
 case round =>
  obtain ⟨j,hj,rfl,rfl,V1⟩:=hrel
  have hc2:=(P1.later V1).cell (j:=2) (v:=.slice A ks.length cap) rfl
  by_cases hlt:j < ks.length
  ·have hji:(j:Int) < (ks.length:Int):=by omega
   have hj0:(0:Int) ≤ (j:Int):=by omega
   have hjm:(j:Int) + 1 ≤ 9223372036854775807:=by have:=HM.out;simp only [maxLen] at this;omega
   have hkj:ks[j]? = some ks[j]:=List.getElem?_eq_getElem hlt
   obtain ⟨g,o,C,hA,HR,HT,HC3,HI3,HOC⟩:=kid_at (HK.out.later (later V0 V1)) hkj
   subst hA
   have HSN:Hid (dpL 0 (ks.take (j + 1)) = max (dpL 0 (ks.take j)) ks[j].dp):=Lib.hid (by rw [List.take_succ_eq_append_getElem hlt];exact dpL_snoc _ _ _)
   have HIH:Hid (∀ W v,TrAt W ks[j] v → Calls Tryd.prog 53 #[v] W (NumRes ks[j].dp W)):=Lib.hid (ih.out j _ hkj)
   generalize ks[j] = x at HSN HIH HT
   generalize dpL 0 (ks.take j) = S at HSN ⊢
   generalize x.dp = X at HSN HIH
   clear hkj
   go_wp2_with (first
    | (with_reducible refine wpList_load_mid rfl _ (.tmp 16) rfl g (o + j * 3) rfl C _ HR.out Tryd.underlying53 rfl HI3.out ?_)
    | (go_at_call 53;(with_reducible refine (HIH.out _ _ HT.out).mono ?_);rintro e w6 ⟨rfl,hb6⟩;have V6:=later V1 hb6))
   refine ⟨⟨j + 1,hlt,by go_num,by rw [HSN.out,if_max],V6⟩,by simp [intOf];omega⟩
  ·have hje:j = ks.length:=by omega
   subst hje
   rw [List.take_length]
   go_wp2_with fail
   go_ret
   exact ⟨rfl,later V0 V1⟩
theorem depth_any:∀ (N:Nat) (x:Tr),x.nodes ≤ N → ∀ (w:World) (v:Value),TrAt w x v → Calls Tryd.prog 53 #[v] w (NumRes x.dp w)
 | 0,x,hN,_,_,_ => absurd hN (by have:=x.nodes_pos;omega)
 | N + 1,.node k n ks,hN,w,v,h => by
  unfold TrAt at h
  obtain ⟨A,cap,rfl,hm,hk⟩:=h
  rw [Tr.dp]
  exact depth_step k n ks A cap w hk (Lib.hid hm) (Lib.hid fun j x hx W v' h' => depth_any N x (by have:=Tr.kid_less (k:=k) (n:=n) hx;omega) W v' h')
end Go.Proofs.YtmfihlcibephlaaDoor
