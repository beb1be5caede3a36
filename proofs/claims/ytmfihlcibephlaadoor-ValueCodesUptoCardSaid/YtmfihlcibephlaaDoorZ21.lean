import Derived.Test.YtmfihlcibephlaaDoorZ20
import Derived.Deep.RegionHeld3
set_option linter.unusedVariables false
set_option linter.unusedSimpArgs false
namespace Go.Proofs.YtmfihlcibephlaaDoor
open Go.RowKit
theorem C8x {w:World} {g:Nat} {C:List Value} {v:Value} (h:Arr w g 31 46 C) (hv:w.cell? ⟨g,8,none⟩ = some v):C[8]? = some v:=by
 have h8:C[8]? = some (C[8]'(by have:=h.1;omega)):=List.getElem?_eq_getElem _
 rw [h8,← hv]
 exact (h.cell h8).symm
theorem c8 {w:World} {g:Nat} {C:List Value} {v:Value} (h:Arr w g 31 46 C) (hv:C[8]? = some v):w.cell? ⟨g,8,none⟩ = some v:=h.cell hv
set_option maxHeartbeats 16000000 in
set_option maxRecDepth 100000 in
theorem rz_D (P:List Df) (W:World) (c d n cap0:Nat) (mv:Value) (A0:Option Addr) (t:Ty) (s q i:Int) (B:Option Addr) (ln cp:Nat)
  (hP:PrAt W P (.agg #[mv,.slice A0 n cap0])) (ht:TyAt W t (.agg (t5 3 s q i B ln cp).toArray)) (hc:c ≤ 256) (hd25:d ≤ 25) (hvt:vty P 24 t = true) (hcd:c < 256 ∧ d ≤ 24) (d0:Df) (hdf:P[fnd P s q i]? = some d0) (hdk:d0.kind = 0) (f:Nat)
  (ih:Hid (∀ (t':Ty) (c':Nat) (W':World) (pv tv:Value),c' ≤ 256 → PrAt W' P pv → TyAt W' t' tv → Calls Tryd.prog 65 #[pv,tv,.int .i64 ((d + 1:Nat):Int),.int .i64 (c':Int)] W' (RZ (zr P f t' c').1 (zr P f t' c').2.1 (zr P f t' c').2.2 W'))) :
  Calls Tryd.prog 65 #[.agg #[mv,.slice A0 n cap0],.agg (t5 3 s q i B ln cp).toArray,.int .i64 (d:Int),.int .i64 (c:Int)] W (RZ (zrL (zr P f) 2 (d0.slots.take d0.slots.length) [] (c + 1)).1 (zrL (zr P f) 2 (d0.slots.take d0.slots.length) [] (c + 1)).2.1 (zrL (zr P f) 2 (d0.slots.take d0.slots.length) [] (c + 1)).2.2 W):=by
 have HVT:Hid (∀ W',PrAt W' P (.agg #[mv,.slice A0 n cap0]) → TyAt W' t (.agg (t5 3 s q i B ln cp).toArray) → Calls Tryd.prog 17 #[.agg #[mv,.slice A0 n cap0],.agg #[.int .i64 3,.int .i64 s,.int .i64 q,.int .i64 i,.slice B ln cp]] W' (BRes true W')):=Lib.hid fun W' h1 h2 => by rw [← hvt];exact rvalidtype_any P t W' _ _ h1 h2
 have P0:=p2_new W mv (.slice A0 n cap0)
 have V0:=new_later W (.cells #[mv,.slice A0 n cap0] 26)
 have Q0:=t5_new (W.alloc (.cells #[mv,.slice A0 n cap0] 26)) 3 s q i B ln cp
 have b1:=new_later (W.alloc (.cells #[mv,.slice A0 n cap0] 26)) (.cells (t5 3 s q i B ln cp).toArray 31)
 have R0:Arr (((W.alloc (.cells #[mv,.slice A0 n cap0] 26)).alloc (.cells (t5 3 s q i B ln cp).toArray 31)).alloc (.cells #[.int .i64 0,.int .i64 0,.slice none 0 0] 53)) ((W.alloc (.cells #[mv,.slice A0 n cap0] 26)).alloc (.cells (t5 3 s q i B ln cp).toArray 31)).heap.size 3 53 zc3:=Arr.new' _ _ _ 3 zc3 rfl rfl (by decide)
 have b2:=new_later ((W.alloc (.cells #[mv,.slice A0 n cap0] 26)).alloc (.cells (t5 3 s q i B ln cp).toArray 31)) (.cells #[.int .i64 0,.int .i64 0,.slice none 0 0] 53)
 replace P0:=(P0.later b1).later b2
 replace Q0:=Q0.later b2
 have V1:=later (later V0 b1) b2
 rw [World.size_alloc] at Q0
 rw [World.size_alloc,World.size_alloc] at R0
 clear V0 b1 b2
 generalize hW:((W.alloc (.cells #[mv,.slice A0 n cap0] 26)).alloc (.cells (t5 3 s q i B ln cp).toArray 31)).alloc (.cells #[.int .i64 0,.int .i64 0,.slice none 0 0] 53) = wa at P0 Q0 R0 V1
 have y0:=Q0.cell (j:=0) (v:=.int .i64 3) rfl
 have y1:=Q0.cell (j:=1) (v:=.int .i64 s) rfl
 have y2:=Q0.cell (j:=2) (v:=.int .i64 q) rfl
 have y3:=Q0.cell (j:=3) (v:=.int .i64 i) rfl
 have y4:=Q0.cell (j:=4) (v:=.slice B ln cp) rfl
 have zz0:=P0.cell (j:=0) (v:=mv) rfl
 have zz1:=P0.cell (j:=1) (v:=.slice A0 n cap0) rfl
 have HPA:=Lib.hid (hP.later V1)
 have HP0:=Lib.hid hP
 have HTA:=Lib.hid (ht.later V1)
 have HV:=Lib.hid V1
 have HPB:=Lib.hid P0
 have HQB:=Lib.hid Q0
 have HRB:=Lib.hid R0
 have HIV:Hid ((Tryd.prog.info? 53).map (·.size) = some zc3.length):=Lib.hid info_val
 have hci:(c:Int) ≤ 256:=by omega
 have hc0:(0:Int) ≤ (c:Int):=by omega
 have hdi:(d:Int) ≤ 25:=by omega
 have hd0:(0:Int) ≤ (d:Int):=by omega
 clear hvt hP ht P0 Q0 R0 V1
 have HD1:Hid (∀ W',PrAt W' P (.agg #[mv,.slice A0 n cap0]) → Calls Tryd.prog 21 #[.agg #[mv,.slice A0 n cap0],.agg #[.int .i64 s,.int .i64 q,.int .i64 i]] W' (fun e w' => Below W'.heap.size W' w' ∧ ∃ C:List Value,e = .returned (.tuple #[.agg C.toArray,.bool true]) ∧ DfAt W' d0 C)):=Lib.hid fun W' hW' => (rdef_any P s q i W' _ hW').mono (by
  rintro e w' ⟨hb,⟨d,C,h,rfl,hC⟩ | ⟨h,_⟩⟩
  ·rw [hdf] at h;cases h;exact ⟨hb,C,rfl,hC⟩
  ·rw [hdf] at h;exact absurd h (by simp))
 have hzd:=zero_def
 have h1:¬ (256:Int) < (c:Int) + 1:=by omega
 have h2:¬ (24:Int) < (d:Int):=by omega
 obtain ⟨DK,hDK⟩:∃ DK,d0.kind = DK:=⟨_,rfl⟩
 obtain ⟨sl,hsl⟩:∃ sl,d0.slots = sl:=⟨_,rfl⟩
 obtain ⟨sn,hsn⟩:∃ sn,sl.length = sn:=⟨_,rfl⟩
 have HDK:=Lib.hid hDK
 have HSL:=Lib.hid hsl
 have HSN:=Lib.hid hsn
 have HCD:=Lib.hid hcd
 obtain ⟨R,hR⟩:∃ R,zrL (zr P f) 2 (d0.slots.take d0.slots.length) [] (c + 1) = R:=⟨_,rfl⟩
 rw [hR]
 rw [hsl,hsn] at hR
 have HR:=Lib.hid hR
 have hd1:DK = 0:=by rw [← hDK];exact hdk
 have HMS:Hid (sn ≤ sn):=Lib.hid (by exact Nat.le_refl _)
 have HC8:Hid (∀ (W':World) (C:List Value),DfAt W' d0 C → ∃ SA' scap',C[8]? = some (.slice SA' sn scap')):=Lib.hid fun W' C h => by
  obtain ⟨sv,T,E,lv,rfl,_,⟨A',cap',hv,_⟩,_⟩:=h
  rw [hv,hsl,hsn];exact ⟨_,_,rfl⟩
 subst hd1
 clear hDK hsn hdf hR
 go_enter Tryd.func65,Tryd.ntmps65
 go_upto_region 1 with fail
 clear hW
 go_upto_region 20 with (first
  | (go_at_call 17;(with_reducible refine (HVT.out _ HPA.out HTA.out).mono ?_);rintro e w2 ⟨rfl,hb2⟩;have HB2:=Lib.hid hb2;have HR2:=Lib.hid (HRB.out.later hb2);have hyk:=(HQB.out.later hb2).cell (j:=0) (v:=.int .i64 3) rfl;have hys:=(HQB.out.later hb2).cell (j:=1) (v:=.int .i64 s) rfl;have hyq:=(HQB.out.later hb2).cell (j:=2) (v:=.int .i64 q) rfl;have hyi:=(HQB.out.later hb2).cell (j:=3) (v:=.int .i64 i) rfl;have hpz0:=(HPB.out.later hb2).cell (j:=0) (v:=mv) rfl;have hpz1:=(HPB.out.later hb2).cell (j:=1) (v:=.slice A0 n cap0) rfl;clear hb2)
  | (go_at_call 21;(with_reducible refine (HD1.out _ (HPA.out.later HB2.out)).mono ?_);rintro e w3 ⟨hb3,C,rfl,hC⟩;have HB3:=Lib.hid hb3;have HCL:=Lib.hid (DfAt.len hC);have HOC:Hid (∀ v ∈ C,v.oneCell' = true):=Lib.hid (DfAt.cells hC);have HIN:Hid ((Tryd.prog.info? 46).map (·.size) = some C.length):=Lib.hid (by rw [HCL.out];exact info_def);have HDC:=Lib.hid hC;clear hC hb3)
  | (refine wpList_store_arr rfl _ (.tmp 11) (.tmp 55) rfl w3.heap.size 0 31 46 _ C z31 rfl rfl rfl (z31_new w3) (by rw [HCL.out];omega) HIN.out HOC.out ?_;intro w4 f4 o4;rw [setAll_all _ _ (by rw [HCL.out];rfl)] at f4;have HF4:=Lib.hid f4;have HB4:=Lib.hid (later HB3.out ((new_later w3 _).trans o4.bel));have hdh:=df_head f4.range (HDC.out.later HB4.out);have hck:w4.cell? ⟨w3.heap.size,3,none⟩ = some (.int .i64 0):=(by have h:=hdh.2.2.2;rw [HDK.out] at h;simpa using h);obtain ⟨SA,scap,hsv,hss⟩:=slots4 f4.range (HDC.out.later HB4.out) HSL.out HSN.out;have HSS:=Lib.hid hss;have hsv':w4.cell? ⟨w3.heap.size,8,none⟩ = some (.slice SA sn scap):=(by simpa using hsv);have hna:=new_later w4 (.cells #[.int .i64 2,.int .i64 0,.slice none 0 0] 53);have hck5:(w4.alloc (.cells #[.int .i64 2,.int .i64 0,.slice none 0 0] 53)).cell? ⟨w3.heap.size,3,none⟩ = some (.int .i64 0):=(hna.cell (p:=⟨w3.heap.size,3,none⟩) (World.block_lt_of_cell? w4 _ hck)).trans hck;have hsv5:(w4.alloc (.cells #[.int .i64 2,.int .i64 0,.slice none 0 0] 53)).cell? ⟨w3.heap.size,8,none⟩ = some (.slice SA sn scap):=(hna.cell (p:=⟨w3.heap.size,8,none⟩) (World.block_lt_of_cell? w4 _ hsv')).trans hsv';have HSV':=Lib.hid hsv';clear f4 o4 hdh hss hsv hck hsv' hna))
 have HC8':=Lib.hid (C8x HF4.out HSV'.out)
 have b11:=new_later w4 (.cells #[.int .i64 2,.int .i64 0,.slice none 0 0] 53)
 have A11:Arr (w4.alloc (.cells #[.int .i64 2,.int .i64 0,.slice none 0 0] 53)) w4.heap.size 3 53 [.int .i64 2,.int .i64 0,.slice none 0 0]:=Arr.new' w4 _ _ 3 _ rfl rfl (by decide)
 have hsz11:(w4.alloc (.cells #[.int .i64 2,.int .i64 0,.slice none 0 0] 53)).heap.size = w4.heap.size + 1:=by simp
 generalize w4.alloc (.cells #[.int .i64 2,.int .i64 0,.slice none 0 0] 53) = w5 at b11 A11 hsz11 ⊢
 have hb24:=later HB2.out HB4.out
 have HPB5:=Lib.hid ((HPB.out.later hb24).later b11)
 have HRB5:=Lib.hid ((HR2.out.later HB4.out).later b11)
 have HD5:=Lib.hid (HF4.out.later b11)
 have HV5:=Lib.hid (later (later HV.out hb24) b11)
 have HA11:=Lib.hid A11
 have HSZ:=Lib.hid hsz11
 have hgd:w3.heap.size < w4.heap.size:=HF4.out.lt
 have hgr:W.heap.size + 1 + 1 < w3.heap.size:=(HR2.out.later HB3.out).lt
 generalize hgD:w3.heap.size = gD at HD5 hgd hgr ⊢
 have HO5:Hid (Below w4.heap.size w4 w5):=Lib.hid b11
 have HSS4:=HSS
 generalize hg11:w4.heap.size = g11 at HA11 HSZ hgd HO5 ⊢
 have HG11:=Lib.hid hg11
 generalize hBB:w5.heap.size = BB at HSZ
 have HBB:=Lib.hid hBB
 clear hck5 hsv5 HSV' b11 A11 hsz11 hb24 hgD hg11 hBB HB2 HB3 HB4 HR2 HF4 HSS hyk hys hyq hyi hpz0 hpz1 HD1 HVT HPA HTA HV HPB HQB HRB HDC HDK HCL HOC HIN HSL y0 y1 y2 y3 y4 zz0 zz1 hzd h1 h2
 go_wp2_with fail
 go_loopw [3,15] (fun us ii W' => ∃ (j c':Nat) (v:Value) (acc:List Tr),j ≤ sn ∧ ii = .int .i64 (j:Int) ∧ us = .int .i64 (c':Int) ∧ acc.length = j ∧ j ≤ c' ∧ c' ≤ 256 ∧ Arr W' W.heap.size 2 26 [mv,.slice A0 n cap0] ∧ Arr W' (W.heap.size + 1 + 1) 3 53 zc3 ∧ Arr W' gD 31 46 C ∧ Arr W' g11 3 53 [.int .i64 2,.int .i64 0,v] ∧ Below W.heap.size W W' ∧ Below g11 w4 W' ∧ Grow W' BB v acc ∧ BB ≤ W'.heap.size ∧ Hid (zrL (zr P f) 2 ((sl.take sn).drop j) acc c' = R)) (fun _ ii _ => sn - (intOf ii).toNat)
 case atStart => exact ⟨0,c + 1,_,[],by omega,rfl,by go_num,rfl,by omega,by have:=HCD.out.1;omega,HPB5.out,HRB5.out,HD5.out,HA11.out,HV5.out,HO5.out,Grow.nil _ _,by rw [HBB.out];exact Nat.le_refl _,Lib.hid (by rw [List.drop_zero];exact HR.out)⟩
 case round =>
  obtain ⟨j,c',v,acc,hj,rfl,rfl,hacc,hjc,hc',P6,X6,D6,A6,V6,O6,G6,hB6,HRJ⟩:=hrel
  have PA6:=HP0.out.later V6
  have S6:=SlsAt.later HSS4.out (show Below w4.heap.size w4 wr by rw [HG11.out];exact O6)
  have hj0:(0:Int) ≤ (j:Int):=by omega
  have hc'i:(c':Int) ≤ 256:=by omega
  have hc'0:(0:Int) ≤ (c':Int):=by omega
  by_cases hlt:j < sn
  ·have hji:(j:Int) < (sn:Int):=by omega
   have hjs:(j:Int) < (sn:Int):=by have:=HMS.out;omega
   have hjm:(j:Int) + 1 ≤ 9223372036854775807:=by omega
   have hjl:j < sl.length:=by have:=HMS.out;rw [HSN.out];omega
   have hjx:j < (sl.take sn).length:=by rw [List.length_take];omega
   have hrj:=HRJ.out
   rw [List.drop_eq_getElem_cons hjx,zrL] at hrj
   rw [List.getElem_take] at hrj
   obtain ⟨g,o,TC,hA,HRg,HTx,HC5,HI5,HOT⟩:=slot_ty S6 (List.getElem?_eq_getElem hjl)
   cases hA
   generalize sl[j] = sx at hrj HTx
   obtain ⟨tk,ts,tq,ti,tB,tl,tc,hsh⟩:=HTx.out.shape
   have hTl:TC = [.int .i64 tk,.int .i64 ts,.int .i64 tq,.int .i64 ti,.slice tB tl tc]:=by simpa [t5] using hsh
   subst hTl
   have hdw:wr.drew.heap.size = wr.heap.size:=rfl
   have hbd:Below wr.heap.size wr wr.drew:=below_drewN (Below.refl _ _) 1
   have HIJ:Hid (∀ W',Below wr.heap.size wr W' → Calls Tryd.prog 65 #[.agg #[mv,.slice A0 n cap0],.agg #[.int .i64 tk,.int .i64 ts,.int .i64 tq,.int .i64 ti,.slice tB tl tc],.int .i64 (IntKind.i64.wrap ((d:Int) + 1)),.int .i64 (c':Int)] W' (RZ (zr P f sx.ty c').1 (zr P f sx.ty c').2.1 (zr P f sx.ty c').2.2 W')):=Lib.hid fun W' h1 => by
    rw [show IntKind.i64.wrap ((d:Int) + 1) = (((d + 1:Nat)):Int) from (by have:=HCD.out.2;rw [IntKind.wrap_i64];omega)]
    exact ih.out sx.ty c' W' _ _ hc' (PA6.later h1) (HTx.out.later h1)
   have HPV:=Lib.hid (zr_cnt P f sx.ty c' hc')
   have HRR:=Lib.hid hrj
   obtain ⟨⟨er,x,c2⟩,hpv⟩:∃ bc,zr P f sx.ty c' = bc:=⟨_,rfl⟩
   rw [hpv] at HIJ HPV HRR
   replace HIJ:Hid (∀ W',Below wr.heap.size wr W' → Calls Tryd.prog 65 #[.agg #[mv,.slice A0 n cap0],.agg #[.int .i64 tk,.int .i64 ts,.int .i64 tq,.int .i64 ti,.slice tB tl tc],.int .i64 (IntKind.i64.wrap ((d:Int) + 1)),.int .i64 (c':Int)] W' (RZ er x c2 W')):=HIJ
   replace HPV:Hid (c2 ≤ 256 ∧ c' ≤ c2 ∧ (er = 0 → c' + 1 ≤ c2)):=HPV
   replace HRR:Hid (if er = 0 then zrL (zr P f) 2 ((sl.take sn).drop (j + 1)) (acc ++ [x]) c2 = R else (er,z0,c2) = R):=Lib.hid (by
    have h:=HRR.out
    by_cases he:er = 0
    ·rw [if_pos he];rw [if_pos he] at h;exact h
    ·rw [if_neg he];rw [if_neg he] at h;exact h)
   have HPP6:=Lib.hid P6
   have HDD6:=Lib.hid D6
   have HS:Hid (∀ X,Below wr.heap.size wr X → (X.cell? ⟨W.heap.size,0,none⟩ = some mv ∧ X.cell? ⟨W.heap.size,1,none⟩ = some (.slice A0 n cap0) ∧ X.cell? ⟨gD,8,none⟩ = some (.slice (some ⟨g,o,none⟩) sn scap) ∧ X.cell? ⟨g,o + j * 11 + 4,none⟩ = some (.int .i64 tk) ∧ X.cell? ⟨g,o + j * 11 + 4 + 1,none⟩ = some (.int .i64 ts) ∧ X.cell? ⟨g,o + j * 11 + 4 + 2,none⟩ = some (.int .i64 tq) ∧ X.cell? ⟨g,o + j * 11 + 4 + 3,none⟩ = some (.int .i64 ti) ∧ X.cell? ⟨g,o + j * 11 + 4 + 4,none⟩ = some (.slice tB tl tc))):=Lib.hid fun X hX => ⟨(HPP6.out.later hX).cell (j:=0) rfl,(HPP6.out.later hX).cell (j:=1) rfl,c8 (HDD6.out.later hX) HC8'.out,range5 (range_below HRg.out hX)⟩
   have HX6:=Lib.hid X6
   have HA6:=Lib.hid A6
   have HV6:=Lib.hid V6
   have HO6:=Lib.hid O6
   have HG6:=Lib.hid G6
   have HLT:=Lib.hid hlt
   have HC':=Lib.hid hc'
   have HACC:=Lib.hid hacc
   have HB6:=Lib.hid hB6
   have hd1:(d:Int) + 1 ≤ 9223372036854775807:=by omega
   clear hpv hrj ih P6 X6 D6 A6 V6 O6 PA6 S6 G6 HRJ hlt hj hacc hjx hjl hsh hdw
   go_upto_region 23 with fail
   have hbd2:Below wr.heap.size wr ((wr.alloc (.cells #[.int .i64 0,.int .i64 0,.slice none 0 0] 53)).drew):=below_drewN (new_later wr _) 1
   have Z16:Arr ((wr.alloc (.cells #[.int .i64 0,.int .i64 0,.slice none 0 0] 53)).drew) wr.heap.size 3 53 zc3:=Arr.new' wr _ _ 3 zc3 rfl rfl (by decide)
   have hz16:((wr.alloc (.cells #[.int .i64 0,.int .i64 0,.slice none 0 0] 53)).drew).heap.size = wr.heap.size + 1:=by simp
   have HZ16:=Lib.hid Z16
   have HZS:=Lib.hid hz16
   clear Z16 hz16
   go_region_held3 (fun X => (X.cell? ⟨W.heap.size,0,none⟩ = some mv ∧ X.cell? ⟨W.heap.size,1,none⟩ = some (.slice A0 n cap0) ∧ X.cell? ⟨gD,8,none⟩ = some (.slice (some ⟨g,o,none⟩) sn scap) ∧ X.cell? ⟨g,o + j * 11 + 4,none⟩ = some (.int .i64 tk) ∧ X.cell? ⟨g,o + j * 11 + 4 + 1,none⟩ = some (.int .i64 ts) ∧ X.cell? ⟨g,o + j * 11 + 4 + 2,none⟩ = some (.int .i64 tq) ∧ X.cell? ⟨g,o + j * 11 + 4 + 3,none⟩ = some (.int .i64 ti) ∧ X.cell? ⟨g,o + j * 11 + 4 + 4,none⟩ = some (.slice tB tl tc)))
    (first | exact HS.out _ hbd | exact HS.out _ hbd2 | exact HS.out _ hb8 | exact HS.out _ (hbz _) | exact HS.out _ hbs)
    (first
    | (go_at_call 65;(with_reducible refine (HIJ.out _ hbd).mono ?_);rintro e w9 ⟨xk,xn,xA,xl,xc,u,rfl,hu,hT9,hb7⟩;have hb8:=later hbd hb7;have hbz:=fun o => later hb8 (new_later w9 o);have HU:=Lib.hid hu;have HT9:=Lib.hid hT9;clear hu hT9)
    | (go_at_call 65;(with_reducible refine (HIJ.out _ hbd2).mono ?_);rintro e w9 ⟨xk,xn,xA,xl,xc,u,rfl,hu,hT9,hb7⟩;have hb8:=later hbd2 hb7;have A16:=HZ16.out.later hb7;have a0:=A16.cell (j:=0) (v:=.int .i64 0) rfl;have a1:=A16.cell (j:=1) (v:=.int .i64 0) rfl;have a2:=A16.cell (j:=2) (v:=.slice none 0 0) rfl;have f0:=A16.free 0;have f1:=A16.free 1;have f2:=A16.free 2;have HU:=Lib.hid hu;have HT9:=Lib.hid hT9;have HA16:=Lib.hid A16;have hbs:Below wr.heap.size wr (((w9.setCell ⟨wr.heap.size,0,none⟩ (.int .i64 xk)).setCell ⟨wr.heap.size,1,none⟩ (.int .i64 xn)).setCell ⟨wr.heap.size,2,none⟩ (.slice xA xl xc)):=((hb8.setCell (p:=⟨wr.heap.size,0,none⟩) (Nat.le_refl _) _).setCell (p:=⟨wr.heap.size,1,none⟩) (Nat.le_refl _) _).setCell (p:=⟨wr.heap.size,2,none⟩) (Nat.le_refl _) _;clear hu hT9 A16))
   ·have HB10:=Lib.hid (hbz (.cells #[.int .i64 xk,.int .i64 xn,.slice xA xl xc] 53))
    have A14:Arr (w9.alloc (.cells #[.int .i64 xk,.int .i64 xn,.slice xA xl xc] 53)) w9.heap.size 3 53 [.int .i64 xk,.int .i64 xn,.slice xA xl xc]:=Arr.new' w9 _ _ 3 _ rfl rfl (by decide)
    have HT10:Hid (TrF (wr.heap.size ≤ ·) (w9.alloc (.cells #[.int .i64 xk,.int .i64 xn,.slice xA xl xc] 53)) x (.agg #[.int .i64 xk,.int .i64 xn,.slice xA xl xc])):=Lib.hid (HT9.out.keep (fun k hk => hk) (fun k _ hl => (new_later w9 _).block k hl))
    have hgN:wr.heap.size ≤ w9.heap.size:=hb8.size
    generalize w9.alloc (.cells #[.int .i64 xk,.int .i64 xn,.slice xA xl xc] 53) = w10 at HB10 A14 HT10 ⊢
    rename_i hHeld
    clear hHeld hb8 hbz hb7 hbd hbd2 HZ16 HZS HT9
    have hlw:wr.heap.size ≤ w10.heap.size:=HB10.out.size
    by_cases he:er = 0
    ·have hneq:(er != 0) = false:=by rw [bne_eq_false_iff_eq];exact he
     obtain rfl:=HU.out he
     have HE0:=Lib.hid he
     have hA10:Arr w10 g11 3 53 [.int .i64 2,.int .i64 0,v]:=HA6.out.later HB10.out
     have HG10:Hid (Grow w10 BB v acc):=Lib.hid (HG6.out.keep fun k hk hl => HB10.out.block k hl)
     have HTG:Hid (TrF (fun g => BB ≤ g ∧ v.ownBlock ≠ some g) w10 x (.agg ([.int .i64 xk,.int .i64 xn,.slice xA xl xc]:List Value).toArray)):=Lib.hid (by
      have hb6:=HB6.out
      obtain ⟨L,hown,_⟩:=HG6.out
      exact HT10.out.mono (fun k hk => ⟨by omega,fun hv => by have h:=(hown.lt k hv).2;omega⟩))
     have hB10:BB ≤ w10.heap.size:=Nat.le_trans HB6.out HB10.out.size
     have hal:acc.length + 1 ≤ 1000000000000:=by have:=HACC.out;have:=HC'.out;omega
     have x0:=A14.cell (j:=0) (v:=.int .i64 xk) rfl
     have x1:=A14.cell (j:=1) (v:=.int .i64 xn) rfl
     have x2:=A14.cell (j:=2) (v:=.slice xA xl xc) rfl
     have hv11:=hA10.cell (j:=2) (v:=v) rfl
     have HA10:=Lib.hid hA10
     have HB10':=Lib.hid hB10
     have HAL:=Lib.hid hal
     have HLT11:Hid (g11 < BB):=Lib.hid (by have:=HSZ.out;omega)
     have hgg:W.heap.size + 1 + 1 < g11 ∧ gD < g11 ∧ g11 < BB:=⟨by omega,hgd,HLT11.out⟩
     have HGG:=Lib.hid hgg
     clear A14 hA10 hB10 hal HIJ HS he hgg HIV
     go_wp2_with (first
      | (at_builtin;refine wpList_putT (C:=[.int .i64 xk,.int .i64 xn,.slice xA xl xc]) rfl HG10.out HTG.out HB10'.out HAL.out rfl _ _ rfl rfl rfl ?_;intro gN capN w11 hG11 hb11;have HG11:=Lib.hid hG11;have HB11:=Lib.hid hb11;have hA11:=HA10.out.below hb11 HLT11.out;have hc112:=hA11.cell (j:=2) (v:=v) rfl;have hf112:=hA11.free 2;have HA11':=Lib.hid hA11;clear hG11 hb11 hA11 hv11 x0 x1 x2))
     have HAC:Hid ((acc ++ [x]).length = j + 1):=Lib.hid (by simp [HACC.out])
     have HZ:Hid (zrL (zr P f) 2 (List.drop (j + 1) (sl.take sn)) (acc ++ [x]) c2 = R):=Lib.hid (by have h:=HRR.out;rw [if_pos HE0.out] at h;exact h)
     have hg:=HGG.out
     have HP12:Hid (Arr (w11.setCell ⟨g11,2,none⟩ (.slice (some ⟨gN,0,none⟩) (acc.length + 1) capN)) W.heap.size 2 26 [mv,.slice A0 n cap0]):=Lib.hid (((HPP6.out.later HB10.out).below HB11.out (by omega)).other (by omega) _)
     have HX12:Hid (Arr (w11.setCell ⟨g11,2,none⟩ (.slice (some ⟨gN,0,none⟩) (acc.length + 1) capN)) (W.heap.size + 1 + 1) 3 53 zc3):=Lib.hid (((HX6.out.later HB10.out).below HB11.out (by omega)).other (by omega) _)
     have HD12:Hid (Arr (w11.setCell ⟨g11,2,none⟩ (.slice (some ⟨gN,0,none⟩) (acc.length + 1) capN)) gD 31 46 C):=Lib.hid (((HDD6.out.later HB10.out).below HB11.out (by omega)).other (by omega) _)
     have HA12:Hid (Arr (w11.setCell ⟨g11,2,none⟩ (.slice (some ⟨gN,0,none⟩) (acc.length + 1) capN)) g11 3 53 [.int .i64 2,.int .i64 0,.slice (some ⟨gN,0,none⟩) (acc.length + 1) capN]):=Lib.hid (HA11'.out.set_ 2 _)
     have hgw:g11 ≤ wr.heap.size:=by have:=HB6.out;omega
     have hWw:W.heap.size ≤ wr.heap.size:=HV6.out.size
     have HO12:Hid (Below g11 w4 (w11.setCell ⟨g11,2,none⟩ (.slice (some ⟨gN,0,none⟩) (acc.length + 1) capN))):=Lib.hid (((HO6.out.trans (HB10.out.mono hgw)).trans (HB11.out.mono (by omega))).setCell (p:=⟨g11,2,none⟩) (Nat.le_refl _) _)
     have HV12:Hid (Below W.heap.size W (w11.setCell ⟨g11,2,none⟩ (.slice (some ⟨gN,0,none⟩) (acc.length + 1) capN))):=Lib.hid (((HV6.out.trans (HB10.out.mono hWw)).trans (HB11.out.mono (by omega))).setCell (p:=⟨g11,2,none⟩) (by show W.heap.size ≤ g11;omega) _)
     have HG12:Hid (Grow (w11.setCell ⟨g11,2,none⟩ (.slice (some ⟨gN,0,none⟩) (acc.length + 1) capN)) BB (.slice (some ⟨gN,0,none⟩) (acc.length + 1) capN) (acc ++ [x])):=Lib.hid (HG11.out.keep fun k hk hl => Below.heap_setCell _ _ _ _ (by simp;omega))
     have HB12:Hid (BB ≤ (w11.setCell ⟨g11,2,none⟩ (.slice (some ⟨gN,0,none⟩) (acc.length + 1) capN)).heap.size):=Lib.hid (by rw [World.size_setCell];exact Nat.le_trans HB10'.out HB11.out.size)
     have hlt':=HLT.out
     go_roundw
     case rel => exact ⟨j + 1,c2,_,acc ++ [x],hlt',by go_num,rfl,HAC.out,by have:=HPV.out.2.2 HE0.out;omega,HPV.out.1,HP12.out,HX12.out,HD12.out,HA12.out,HV12.out,HO12.out,HG12.out,HB12.out,HZ⟩
     case measure => simp [intOf];omega
    ·have hneq:(er != 0) = true:=by rw [bne_iff_ne];exact he
     have HE0:=Lib.hid he
     have HX10:=Lib.hid (HX6.out.later HB10.out)
     have HZ:Hid ((er,z0,c2) = R):=Lib.hid (by have h:=HRR.out;rw [if_neg he] at h;exact h)
     clear A14 HIJ HS he
     go_wp2_with (refine wpList_store_arr rfl _ (.tmp 8) (.tmp 91) rfl (W.heap.size + 1 + 1) 0 3 53 _ zc3 zc3 rfl rfl rfl HX10.out (by decide) HIV.out zc3_one ?_;intro w12 f12 o12)
     rw [setAll_all _ _ rfl] at f12
     refine bodyPost_ret (results_cellBB rfl _ _ (W.heap.size + 1 + 1) zc3 _ rfl f12.range Tryd.underlying53 rfl HIV.out) rfl ?_
     rw [← HZ.out]
     exact RZ.bad HE0.out ((HV6.out.trans (HB10.out.mono (by have:=HV6.out.size;omega))).trans (o12.bel.mono (by omega)))
   ·have HB10:=Lib.hid hbs
    have A14:Arr (((w9.setCell ⟨wr.heap.size,0,none⟩ (.int .i64 xk)).setCell ⟨wr.heap.size,1,none⟩ (.int .i64 xn)).setCell ⟨wr.heap.size,2,none⟩ (.slice xA xl xc)) wr.heap.size 3 53 [.int .i64 xk,.int .i64 xn,.slice xA xl xc]:=((HA16.out.set_ 0 (.int .i64 xk)).set_ 1 (.int .i64 xn)).set_ 2 (.slice xA xl xc)
    have HT10:Hid (TrF (wr.heap.size ≤ ·) (((w9.setCell ⟨wr.heap.size,0,none⟩ (.int .i64 xk)).setCell ⟨wr.heap.size,1,none⟩ (.int .i64 xn)).setCell ⟨wr.heap.size,2,none⟩ (.slice xA xl xc)) x (.agg #[.int .i64 xk,.int .i64 xn,.slice xA xl xc])):=Lib.hid (HT9.out.keep (fun k hk => by rw [HZS.out] at hk;omega) (fun k hk _ => by
     rw [HZS.out] at hk
     exact (Only.setCells wr.heap.size 0 [.int .i64 xk,.int .i64 xn,.slice xA xl xc] w9).2 k (by omega)))
    have hgN:wr.heap.size ≤ wr.heap.size:=Nat.le_refl _
    generalize ((w9.setCell ⟨wr.heap.size,0,none⟩ (.int .i64 xk)).setCell ⟨wr.heap.size,1,none⟩ (.int .i64 xn)).setCell ⟨wr.heap.size,2,none⟩ (.slice xA xl xc) = w10 at HB10 A14 HT10 ⊢
    rename_i hHeld
    clear hHeld hb8 hb7 hbd hbd2 hbs a0 a1 a2 f0 f1 f2 HA16 HZ16 HZS HT9
    have hlw:wr.heap.size ≤ w10.heap.size:=HB10.out.size
    by_cases he:er = 0
    ·have hneq:(er != 0) = false:=by rw [bne_eq_false_iff_eq];exact he
     obtain rfl:=HU.out he
     have HE0:=Lib.hid he
     have hA10:Arr w10 g11 3 53 [.int .i64 2,.int .i64 0,v]:=HA6.out.later HB10.out
     have HG10:Hid (Grow w10 BB v acc):=Lib.hid (HG6.out.keep fun k hk hl => HB10.out.block k hl)
     have HTG:Hid (TrF (fun g => BB ≤ g ∧ v.ownBlock ≠ some g) w10 x (.agg ([.int .i64 xk,.int .i64 xn,.slice xA xl xc]:List Value).toArray)):=Lib.hid (by
      have hb6:=HB6.out
      obtain ⟨L,hown,_⟩:=HG6.out
      exact HT10.out.mono (fun k hk => ⟨by omega,fun hv => by have h:=(hown.lt k hv).2;omega⟩))
     have hB10:BB ≤ w10.heap.size:=Nat.le_trans HB6.out HB10.out.size
     have hal:acc.length + 1 ≤ 1000000000000:=by have:=HACC.out;have:=HC'.out;omega
     have x0:=A14.cell (j:=0) (v:=.int .i64 xk) rfl
     have x1:=A14.cell (j:=1) (v:=.int .i64 xn) rfl
     have x2:=A14.cell (j:=2) (v:=.slice xA xl xc) rfl
     have hv11:=hA10.cell (j:=2) (v:=v) rfl
     have HA10:=Lib.hid hA10
     have HB10':=Lib.hid hB10
     have HAL:=Lib.hid hal
     have HLT11:Hid (g11 < BB):=Lib.hid (by have:=HSZ.out;omega)
     have hgg:W.heap.size + 1 + 1 < g11 ∧ gD < g11 ∧ g11 < BB:=⟨by omega,hgd,HLT11.out⟩
     have HGG:=Lib.hid hgg
     clear A14 hA10 hB10 hal HIJ HS he hgg HIV
     go_wp2_with (first
      | (at_builtin;refine wpList_putT (C:=[.int .i64 xk,.int .i64 xn,.slice xA xl xc]) rfl HG10.out HTG.out HB10'.out HAL.out rfl _ _ rfl rfl rfl ?_;intro gN capN w11 hG11 hb11;have HG11:=Lib.hid hG11;have HB11:=Lib.hid hb11;have hA11:=HA10.out.below hb11 HLT11.out;have hc112:=hA11.cell (j:=2) (v:=v) rfl;have hf112:=hA11.free 2;have HA11':=Lib.hid hA11;clear hG11 hb11 hA11 hv11 x0 x1 x2))
     have HAC:Hid ((acc ++ [x]).length = j + 1):=Lib.hid (by simp [HACC.out])
     have HZ:Hid (zrL (zr P f) 2 (List.drop (j + 1) (sl.take sn)) (acc ++ [x]) c2 = R):=Lib.hid (by have h:=HRR.out;rw [if_pos HE0.out] at h;exact h)
     have hg:=HGG.out
     have HP12:Hid (Arr (w11.setCell ⟨g11,2,none⟩ (.slice (some ⟨gN,0,none⟩) (acc.length + 1) capN)) W.heap.size 2 26 [mv,.slice A0 n cap0]):=Lib.hid (((HPP6.out.later HB10.out).below HB11.out (by omega)).other (by omega) _)
     have HX12:Hid (Arr (w11.setCell ⟨g11,2,none⟩ (.slice (some ⟨gN,0,none⟩) (acc.length + 1) capN)) (W.heap.size + 1 + 1) 3 53 zc3):=Lib.hid (((HX6.out.later HB10.out).below HB11.out (by omega)).other (by omega) _)
     have HD12:Hid (Arr (w11.setCell ⟨g11,2,none⟩ (.slice (some ⟨gN,0,none⟩) (acc.length + 1) capN)) gD 31 46 C):=Lib.hid (((HDD6.out.later HB10.out).below HB11.out (by omega)).other (by omega) _)
     have HA12:Hid (Arr (w11.setCell ⟨g11,2,none⟩ (.slice (some ⟨gN,0,none⟩) (acc.length + 1) capN)) g11 3 53 [.int .i64 2,.int .i64 0,.slice (some ⟨gN,0,none⟩) (acc.length + 1) capN]):=Lib.hid (HA11'.out.set_ 2 _)
     have hgw:g11 ≤ wr.heap.size:=by have:=HB6.out;omega
     have hWw:W.heap.size ≤ wr.heap.size:=HV6.out.size
     have HO12:Hid (Below g11 w4 (w11.setCell ⟨g11,2,none⟩ (.slice (some ⟨gN,0,none⟩) (acc.length + 1) capN))):=Lib.hid (((HO6.out.trans (HB10.out.mono hgw)).trans (HB11.out.mono (by omega))).setCell (p:=⟨g11,2,none⟩) (Nat.le_refl _) _)
     have HV12:Hid (Below W.heap.size W (w11.setCell ⟨g11,2,none⟩ (.slice (some ⟨gN,0,none⟩) (acc.length + 1) capN))):=Lib.hid (((HV6.out.trans (HB10.out.mono hWw)).trans (HB11.out.mono (by omega))).setCell (p:=⟨g11,2,none⟩) (by show W.heap.size ≤ g11;omega) _)
     have HG12:Hid (Grow (w11.setCell ⟨g11,2,none⟩ (.slice (some ⟨gN,0,none⟩) (acc.length + 1) capN)) BB (.slice (some ⟨gN,0,none⟩) (acc.length + 1) capN) (acc ++ [x])):=Lib.hid (HG11.out.keep fun k hk hl => Below.heap_setCell _ _ _ _ (by simp;omega))
     have HB12:Hid (BB ≤ (w11.setCell ⟨g11,2,none⟩ (.slice (some ⟨gN,0,none⟩) (acc.length + 1) capN)).heap.size):=Lib.hid (by rw [World.size_setCell];exact Nat.le_trans HB10'.out HB11.out.size)
     have hlt':=HLT.out
     go_roundw
     case rel => exact ⟨j + 1,c2,_,acc ++ [x],hlt',by go_num,rfl,HAC.out,by have:=HPV.out.2.2 HE0.out;omega,HPV.out.1,HP12.out,HX12.out,HD12.out,HA12.out,HV12.out,HO12.out,HG12.out,HB12.out,HZ⟩
     case measure => simp [intOf];omega
    ·have hneq:(er != 0) = true:=by rw [bne_iff_ne];exact he
     have HE0:=Lib.hid he
     have HX10:=Lib.hid (HX6.out.later HB10.out)
     have HZ:Hid ((er,z0,c2) = R):=Lib.hid (by have h:=HRR.out;rw [if_neg he] at h;exact h)
     clear A14 HIJ HS he
     go_wp2_with (refine wpList_store_arr rfl _ (.tmp 8) (.tmp 91) rfl (W.heap.size + 1 + 1) 0 3 53 _ zc3 zc3 rfl rfl rfl HX10.out (by decide) HIV.out zc3_one ?_;intro w12 f12 o12)
     rw [setAll_all _ _ rfl] at f12
     refine bodyPost_ret (results_cellBB rfl _ _ (W.heap.size + 1 + 1) zc3 _ rfl f12.range Tryd.underlying53 rfl HIV.out) rfl ?_
     rw [← HZ.out]
     exact RZ.bad HE0.out ((HV6.out.trans (HB10.out.mono (by have:=HV6.out.size;omega))).trans (o12.bel.mono (by omega)))
  ·have hge:¬ (j:Int) < (sn:Int):=by omega
   have hz:=HRJ.out
   rw [List.drop_of_length_le (by rw [List.length_take];have:=HMS.out;rw [HSN.out];omega),zrL] at hz
   have HZ:=Lib.hid hz
   obtain ⟨VA,vcap,hvs,_,_⟩:=G6.shape
   subst hvs
   obtain ⟨hvl,hTV⟩:=G6.tree 2 0 (by unfold i64r;omega) (by unfold i64r;omega)
   have HTV:=Lib.hid hTV
   generalize acc.length = al at hvl A6 HTV
   have x0:=A6.cell (j:=0) (v:=.int .i64 2) rfl
   have x1:=A6.cell (j:=1) (v:=.int .i64 0) rfl
   have x2:=A6.cell (j:=2) (v:=.slice VA al vcap) rfl
   have HX6:=Lib.hid X6
   have HV6:=Lib.hid V6
   have HI3:Hid ((Tryd.prog.info? 53).map (·.size) = some ([.int .i64 2,.int .i64 0,.slice VA al vcap]:List Value).length):=Lib.hid info_val
   have HO3:Hid (∀ v ∈ ([.int .i64 2,.int .i64 0,.slice VA al vcap]:List Value),v.oneCell' = true):=Lib.hid (by intro v hv;simp at hv;rcases hv with rfl | rfl | rfl <;> rfl)
   have hBW:W.heap.size + 1 + 1 < BB:=by have:=HSZ.out;omega
   clear hz HRJ hlt G6 hvl hTV A6 X6 V6 P6 D6 O6 PA6 S6 hacc hjc hj
   go_wp2_with (refine wpList_store_arr rfl _ (.tmp 8) (.tmp 101) rfl (W.heap.size + 1 + 1) 0 3 53 _ [.int .i64 2,.int .i64 0,.slice VA al vcap] zc3 rfl rfl rfl HX6.out (show 0 + 3 ≤ 3 by omega) HI3.out HO3.out ?_;intro w12 f12 o12)
   rw [setAll_all zc3 [.int .i64 2,.int .i64 0,.slice VA al vcap] rfl] at f12
   refine bodyPost_ret (results_cellBB rfl _ _ (W.heap.size + 1 + 1) [.int .i64 2,.int .i64 0,.slice VA al vcap] _ rfl f12.range Tryd.underlying53 rfl HI3.out) rfl ?_
   rw [← HZ.out]
   exact ⟨_,_,_,_,_,(c':Int),rfl,fun _ => rfl,HTV.out.keep (fun k hk => by omega) (fun k hk _ => o12.2 k (by omega)),HV6.out.trans (o12.bel.mono (by omega))⟩
end Go.Proofs.YtmfihlcibephlaaDoor
