import Derived.Test.YtmfihlcibephlaaDoorZ05
import Derived.Test.YtmfihlcibephlaaDoorZ17
import Derived.Deep.RegionHeld3
import Derived.Laws.EntriesVeiled
set_option linter.unusedVariables false
set_option linter.unusedSimpArgs false
namespace Go.Proofs.YtmfihlcibephlaaDoor
open Go.RowKit
set_option maxHeartbeats 8000000 in
set_option maxRecDepth 100000 in
theorem vclo_D (P:List Df) (W0 W:World) (gp gm gf gn c d n cap0:Nat) (mv:Value) (A0 A:Option Addr) (k nn:Int) (len cap:Nat) (t:Ty) (kt s q i:Int) (B:Option Addr) (ln cp:Nat)
  (hP:PrAt W0 P (.agg #[mv,.slice A0 n cap0])) (hKv:Kv W0) (hE:VEnv W0 W gp gm gf gn c mv A0 n cap0) (ht:TyAt W0 t (.agg (t5 kt s q i B ln cp).toArray)) (hvt:vty P 24 t = true) (hcd:c < 256 ∧ d ≤ 24) (hkh:k = shK P t ∧ hfit k nn len (shS P t).length = true) (ks:List Tr) (hlen:ks.length = len) (hks:KsAt W0 A 0 ks) (hm:len ≤ cap ∧ cap ≤ maxLen) (f:Nat)
  (ih:Hid (∀ (j:Nat) (x:Tr),ks[j]? = some x → ∀ (t':Ty) (c':Nat) (W':World) (v tv:Value),c' ≤ 256 → TrAt W0 x v → TyAt W0 t' tv → VEnv W0 W' gp gm gf gn c' mv A0 n cap0 → Calls Tryd.prog 55 #[tv,v,.int .i64 ((d + 1:Nat):Int),.pointer (some ⟨gp,0,none⟩),.pointer (some ⟨gm,0,none⟩),.pointer (some ⟨gf,0,none⟩)] W' (VRes gn (pv P x t' f c').1 (pv P x t' f c').2 W'))) :
  Calls Tryd.prog 55 #[.agg (t5 kt s q i B ln cp).toArray,.agg (c3 k nn A len cap).toArray,.int .i64 (d:Int),.pointer (some ⟨gp,0,none⟩),.pointer (some ⟨gm,0,none⟩),.pointer (some ⟨gf,0,none⟩)] W (VRes gn (pvL P ks (kty t (shS P t) k nn) 0 f (c + 1)).1 (pvL P ks (kty t (shS P t) k nn) 0 f (c + 1)).2 W):=by
 have HCD:=Lib.hid hcd
 clear hcd
 have HKH:=Lib.hid hkh
 clear hkh
 have HKS:=Lib.hid hks
 have HM:=Lib.hid hm
 have HLEN:=Lib.hid hlen
 have hcp64:(len:Int) ≤ 9223372036854775807:=by have:=hm.1;have:=hm.2;simp only [maxLen] at this;omega
 clear hks hm hlen
 have HVT:Hid (∀ W',PrAt W' P (.agg #[mv,.slice A0 n cap0]) → TyAt W' t (.agg (t5 kt s q i B ln cp).toArray) → Calls Tryd.prog 16 #[.agg #[mv,.slice A0 n cap0],.agg #[.int .i64 kt,.int .i64 s,.int .i64 q,.int .i64 i,.slice B ln cp]] W' (BRes true W')):=Lib.hid fun W' h1 h2 => by rw [← hvt];exact validtype_any P t W' _ _ h1 h2
 have HSH:Hid (∀ W',Below W0.heap.size W0 W' → Kv W' → Calls Tryd.prog 56 #[.agg #[mv,.slice A0 n cap0],.agg #[.int .i64 kt,.int .i64 s,.int .i64 q,.int .i64 i,.slice B ln cp]] W' fun e w' => ∃ SA scap,e = .returned (.tuple #[.int .i64 (shK P t),.slice SA (shS P t).length scap]) ∧ SlsAt W0 (.slice SA (shS P t).length scap) (shS P t) ∧ Below W'.heap.size W' w'):=Lib.hid fun W' h1 h2 => (shape_any P t W0 W' _ _ hP ht h1 hvt h2).mono (by
  rintro e w' ⟨sv,rfl,hs,hb⟩
  have hs':=hs
  obtain ⟨SA,scap,rfl,_⟩:=hs
  exact ⟨SA,scap,rfl,hs',hb⟩)
 have HKT:Hid (∀ (j:Nat) W' SA scap,j < len → Below W0.heap.size W0 W' → SlsAt W0 (.slice SA (shS P t).length scap) (shS P t) → Calls Tryd.prog 58 #[.agg #[.int .i64 kt,.int .i64 s,.int .i64 q,.int .i64 i,.slice B ln cp],.slice SA (shS P t).length scap,.agg #[.int .i64 k,.int .i64 nn,.slice A len cap],.int .i64 (j:Int)] W' (TyRes W0 (kty t (shS P t) k nn j) W')):=Lib.hid fun j W' SA scap hj hb hs => by
  obtain ⟨a2,a3,a4⟩:=kty_ok hvt HKH.out.1 HKH.out.2 hj
  exact kidType_any t (shS P t) k nn j len A cap W0 W' _ _ ht hs hb (by omega) a2 a3 a4
 obtain ⟨K,hK⟩:∃ K,shK P t = K:=⟨_,rfl⟩
 rw [hK] at HSH HKH
 have hkb:(k != K) = false:=by rw [bne_eq_false_iff_eq];exact HKH.out.1
 have HHF:Hid (∀ W',Calls Tryd.prog 57 #[.agg #[.int .i64 k,.int .i64 nn,.slice A len cap],.int .i64 ((shS P t).length:Int)] W' (BRes true W')):=Lib.hid fun W' => by rw [← HKH.out.2];exact headFits_any k nn len _ A cap W'
 clear HKH
 generalize shS P t = sl at HSH HHF HKT ⊢
 obtain ⟨sn,hsn⟩:∃ sn,sl.length = sn:=⟨_,rfl⟩
 rw [hsn] at HSH HHF HKT
 generalize kty t sl k nn = T at HKT ⊢
 obtain ⟨R,hR⟩:∃ R,pvL P ks T 0 f (c + 1) = R:=⟨_,rfl⟩
 rw [hR]
 have HR:=Lib.hid hR
 clear hK hR hsn
 have P0:=t5_new W kt s q i B ln cp
 have V0':=new_later W (.cells (t5 kt s q i B ln cp).toArray 31)
 have Q0:=c3_new (W.alloc (.cells (t5 kt s q i B ln cp).toArray 31)) k nn A len cap
 have P1:=P0.later (new_later _ (.cells (c3 k nn A len cap).toArray 53))
 have V1:=later V0' (new_later _ (.cells (c3 k nn A len cap).toArray 53))
 rw [World.size_alloc] at Q0
 clear P0 V0'
 generalize hW:(W.alloc (.cells (t5 kt s q i B ln cp).toArray 31)).alloc (.cells (c3 k nn A len cap).toArray 53) = wa at P1 V1 Q0
 have E1:=hE.later V1
 have F1:Fr gn W wa:=Fr.of_below V1 (Nat.le_of_lt hE.cn.lt)
 have hn1:W.heap.size ≠ gn:=by have:=hE.cn.lt;omega
 have hn2:W.heap.size + 1 ≠ gn:=by have:=hE.cn.lt;omega
 have hgl:gn ≤ W.heap.size:=Nat.le_of_lt hE.cn.lt
 have y0:=P1.cell (j:=0) (v:=.int .i64 kt) rfl
 have y1:=P1.cell (j:=1) (v:=.int .i64 s) rfl
 have y2:=P1.cell (j:=2) (v:=.int .i64 q) rfl
 have y3:=P1.cell (j:=3) (v:=.int .i64 i) rfl
 have y4:=P1.cell (j:=4) (v:=.slice B ln cp) rfl
 have z0:=E1.cp.cell (j:=0) (v:=mv) rfl
 have z1:=E1.cp.cell (j:=1) (v:=.slice A0 n cap0) rfl
 have hf23:Hid (∀ w2 w3,Below wa.heap.size wa w2 → Fr gn w2 w3 → Fr gn wa w3):=Lib.hid fun w2 w3 h1 h2 => (Fr.of_below h1 (Nat.le_of_lt E1.cn.lt)).trans h2
 have HPA:=Lib.hid (hP.later E1.bl)
 have HTA:=Lib.hid (ht.later E1.bl)
 have HP:=Lib.hid hP
 have HT:=Lib.hid ht
 have HK:=Lib.hid hKv
 have HY:=Lib.hid P1
 have HX:=Lib.hid Q0
 have HE1:=Lib.hid E1
 have HF1:=Lib.hid F1
 clear hvt hP ht hKv hE P1 Q0 V1 E1 F1
 go_enter Tryd.func55,Tryd.ntmps55
 go_upto_region 1 with fail
 clear hW
 go_upto_region 6 with (first
  | (go_at_call 16;(with_reducible refine (HVT.out _ HPA.out HTA.out).mono ?_);rintro e w2 ⟨rfl,hb2⟩;have E2:=HE1.out.later hb2;have F2:=HF1.out.trans (Fr.of_below hb2 (Nat.le_of_lt HE1.out.cn.lt));have hcm:w2.cell? ⟨gm,0,none⟩ = some (.func (.func 80) #[] #[.pointer (some ⟨gn,0,none⟩)]):=E2.cm)
  | (go_at_call 80;(with_reducible refine (more_yes gn c d _ E2.cn HCD.out.1 HCD.out.2).mono ?_);rintro e w3 ⟨rfl,hc3,hf3⟩;have E3:=E2.fr hf3 hc3;have F3:=F2.trans hf3;have HP3:=Lib.hid (HP.out.later E3.bl);have HT3:=Lib.hid (HT.out.later E3.bl);have Y3:=HY.out.fr (hf23.out _ _ hb2 hf3) hn1;have X3:=HX.out.fr (hf23.out _ _ hb2 hf3) hn2;have hy0:=Y3.cell (j:=0) (v:=.int .i64 kt) rfl;have hy1:=Y3.cell (j:=1) (v:=.int .i64 s) rfl;have hy2:=Y3.cell (j:=2) (v:=.int .i64 q) rfl;have hy3:=Y3.cell (j:=3) (v:=.int .i64 i) rfl;have hy4:=Y3.cell (j:=4) (v:=.slice B ln cp) rfl;have hz0:=E3.cp.cell (j:=0) (v:=mv) rfl;have hz1:=E3.cp.cell (j:=1) (v:=.slice A0 n cap0) rfl;have hK3:=Lib.hid (E3.kv HK.out))
  | (go_at_call 56;(with_reducible refine (HSH.out _ E3.bl hK3.out).mono ?_);rintro e w4 ⟨SA,scap,rfl,hsl,hb4⟩;have HSL:=Lib.hid hsl;clear hsl;have E4:=E3.later hb4;have F4:=F3.trans (Fr.of_below hb4 (Nat.le_of_lt E3.cn.lt));have Y4:=Y3.later hb4;have X4:=X3.later hb4;have hx0:=X4.cell (j:=0) (v:=.int .i64 k) rfl;have hx1:=X4.cell (j:=1) (v:=.int .i64 nn) rfl;have hx2:=X4.cell (j:=2) (v:=.slice A len cap) rfl)
  | (go_at_call 57;(with_reducible refine (HHF.out _).mono ?_);rintro e w5 ⟨rfl,hb5⟩;have E5:=E4.later hb5;have F5:=F4.trans (Fr.of_below hb5 (Nat.le_of_lt E4.cn.lt));have Y5:=Y4.later hb5;have X5:=X4.later hb5;have hx52:=X5.cell (j:=2) (v:=.slice A len cap) rfl))
 have HE5:=Lib.hid E5
 have HF5:=Lib.hid F5
 have HY5:=Lib.hid Y5
 have HX5:=Lib.hid X5
 clear hcm hz0 hz1 hy0 hy1 hy2 hy3 hy4 hx0 hx1 hx2 E2 F2 E3 F3 E4 F4 E5 F5 X3 Y3 X4 Y4 X5 Y5 hb2 hb4 hb5 hf3 hc3 HPA HTA HVT HSH HHF HE1 HF1 HY HX HP3 HT3 hK3 hf23
 go_wp2_with fail
 go_loopw [44] (fun i W' => ∃ (j c':Nat),j ≤ len ∧ i = .int .i64 (j:Int) ∧ c' ≤ 256 ∧ VEnv W0 W' gp gm gf gn c' mv A0 n cap0 ∧ Fr gn w5 W' ∧ Hid (pvL P (ks.drop j) T j f c' = R)) (fun i _ => len - (intOf i).toNat)
 case atStart => exact ⟨0,c + 1,by omega,rfl,by have:=HCD.out.1;omega,HE5.out,Fr.refl _ _,Lib.hid (by rw [List.drop_zero];exact HR.out)⟩
 case round =>
  obtain ⟨j,c',hj,rfl,hc',E6,F6,HRJ⟩:=hrel
  have hj0:(0:Int) ≤ (j:Int):=by omega
  by_cases hlt:j < len
  ·have hji:(j:Int) < (len:Int):=by omega
   have hjx:j < ks.length:=by rw [HLEN.out];exact hlt
   have hkx:ks[j]? = some ks[j]:=List.getElem?_eq_getElem hjx
   have hrj:=HRJ.out
   rw [List.drop_eq_getElem_cons hjx,pvL] at hrj
   have HIH:=Lib.hid (ih.out j _ hkx)
   obtain ⟨g,o,C,hA,HRa,HTr,HC3,HI3,HOC⟩:=kid_at HKS.out hkx
   subst hA
   generalize ks[j] = x at hrj HIH HTr
   obtain ⟨xk,xn,xA,xl,xc,hsh⟩:=HTr.out.shape
   have hC:C = [.int .i64 xk,.int .i64 xn,.slice xA xl xc]:=by simpa [c3] using hsh
   subst hC
   have HRb:=Lib.hid (range_below HRa.out E6.bl)
   have HE6:=Lib.hid E6
   have HF6:=Lib.hid F6
   have HLT:=Lib.hid hlt
   have HC':=Lib.hid hc'
   have hgw:gn < wr.heap.size:=E6.cn.lt
   clear hkx hjx hsh HRa E6 F6 HRJ hlt hc' hj
   go_upto_region 9 with (first
    | (with_reducible refine wpList_load_mid rfl _ (.tmp 47) rfl g (o + j * 3) rfl [.int .i64 xk,.int .i64 xn,.slice xA xl xc] _ HRb.out Tryd.underlying53 rfl HI3.out ?_)
    | (refine wpList_store_new rfl _ (.tmp 13) (.tmp 48) rfl rfl rfl info_val rfl rfl (all_oneCell_toArray HOC.out) ?_;intro w7 hbel7 hrow7 hsz7;have T7:Arr w7 wr.heap.size 3 53 [.int .i64 xk,.int .i64 xn,.slice xA xl xc]:=Arr.of_row hrow7 rfl (by decide);clear hrow7))
   have hbd:Below w7.heap.size w7 w7.drew:=below_drewN (Below.refl _ _) 1
   have E7:VEnv W0 w7.drew gp gm gf gn c' mv A0 n cap0:=(HE6.out.later hbel7).later hbd
   have F7:Fr gn wr w7.drew:=Fr.of_below (later hbel7 hbd) (Nat.le_of_lt hgw)
   have T7':Arr w7.drew wr.heap.size 3 53 [.int .i64 xk,.int .i64 xn,.slice xA xl xc]:=T7.later hbd
   have HS:Hid (∀ Z,Fr gn w7.drew Z → (Z.cell? ⟨gf,0,none⟩ = some (.func (.func 55) #[] #[.pointer (some ⟨gp,0,none⟩),.pointer (some ⟨gm,0,none⟩),.pointer (some ⟨gf,0,none⟩)]) ∧ Z.cell? ⟨W.heap.size,0,none⟩ = some (.int .i64 kt) ∧ Z.cell? ⟨W.heap.size,1,none⟩ = some (.int .i64 s) ∧ Z.cell? ⟨W.heap.size,2,none⟩ = some (.int .i64 q) ∧ Z.cell? ⟨W.heap.size,3,none⟩ = some (.int .i64 i) ∧ Z.cell? ⟨W.heap.size,4,none⟩ = some (.slice B ln cp) ∧ Z.cell? ⟨W.heap.size + 1,0,none⟩ = some (.int .i64 k) ∧ Z.cell? ⟨W.heap.size + 1,1,none⟩ = some (.int .i64 nn) ∧ Z.cell? ⟨W.heap.size + 1,2,none⟩ = some (.slice (some ⟨g,o,none⟩) len cap) ∧ Z.cell? ⟨wr.heap.size,0,none⟩ = some (.int .i64 xk) ∧ Z.cell? ⟨wr.heap.size,1,none⟩ = some (.int .i64 xn) ∧ Z.cell? ⟨wr.heap.size,2,none⟩ = some (.slice xA xl xc))):=Lib.hid fun X hX => by
    have a:=(HY5.out.fr (HF6.out.trans (F7.trans hX)) hn1)
    have b:=(HX5.out.fr (HF6.out.trans (F7.trans hX)) hn2)
    have e:=T7'.fr hX (by omega)
    exact ⟨hX.cell E7.nf E7.cf,a.cell (j:=0) rfl,a.cell (j:=1) rfl,a.cell (j:=2) rfl,a.cell (j:=3) rfl,a.cell (j:=4) rfl,b.cell (j:=0) rfl,b.cell (j:=1) rfl,b.cell (j:=2) rfl,e.cell (j:=0) rfl,e.cell (j:=1) rfl,e.cell (j:=2) rfl⟩
   have G0:=Fr.refl gn w7.drew
   have HKJ:Hid (∀ W',Below W0.heap.size W0 W' → Calls Tryd.prog 58 #[.agg #[.int .i64 kt,.int .i64 s,.int .i64 q,.int .i64 i,.slice B ln cp],.slice SA sn scap,.agg #[.int .i64 k,.int .i64 nn,.slice (some ⟨g,o,none⟩) len cap],.int .i64 (j:Int)] W' (TyRes W0 (T j) W')):=Lib.hid fun W' hW' => HKT.out j W' SA scap HLT.out hW' HSL.out
   have HIJ:Hid (∀ W' Y,TyAt W0 (T j) (.agg Y) → VEnv W0 W' gp gm gf gn c' mv A0 n cap0 → Calls Tryd.prog 55 #[.agg Y,.agg #[.int .i64 xk,.int .i64 xn,.slice xA xl xc],.int .i64 (IntKind.i64.wrap ((d:Int) + 1)),.pointer (some ⟨gp,0,none⟩),.pointer (some ⟨gm,0,none⟩),.pointer (some ⟨gf,0,none⟩)] W' (VRes gn (pv P x (T j) f c').1 (pv P x (T j) f c').2 W')):=Lib.hid fun W' Y h1 h2 => by
    rw [show IntKind.i64.wrap ((d:Int) + 1) = (((d + 1:Nat)):Int) from (by have:=HCD.out.2;rw [IntKind.wrap_i64];omega)]
    exact HIH.out (T j) c' W' _ _ HC'.out HTr.out h1 h2
   have HPV:=Lib.hid (pv_ok P x (T j) f c' HC'.out).1
   have HRR:=Lib.hid hrj
   obtain ⟨⟨b,c2⟩,hpv⟩:∃ bc,pv P x (T j) f c' = bc:=⟨_,rfl⟩
   rw [hpv] at HIJ HPV HRR
   have HBC:Hid (if b = true then pvL P (List.drop (j + 1) ks) T (j + 1) f c2 = R else (false,c2) = R):=Lib.hid (by have h:=HRR.out;cases b <;> simpa using h)
   replace HIJ:Hid (∀ W' Y,TyAt W0 (T j) (.agg Y) → VEnv W0 W' gp gm gf gn c' mv A0 n cap0 → Calls Tryd.prog 55 #[.agg Y,.agg #[.int .i64 xk,.int .i64 xn,.slice xA xl xc],.int .i64 (IntKind.i64.wrap ((d:Int) + 1)),.pointer (some ⟨gp,0,none⟩),.pointer (some ⟨gm,0,none⟩),.pointer (some ⟨gf,0,none⟩)] W' (VRes gn b c2 W')):=HIJ
   replace HPV:Hid (c2 ≤ 256):=HPV
   clear hpv HRR hrj HIH HKT HRb T7 ih HKS
   cases b with
   | false =>
    go_region_held3 (fun X => X.cell? ⟨gf,0,none⟩ = some (.func (.func 55) #[] #[.pointer (some ⟨gp,0,none⟩),.pointer (some ⟨gm,0,none⟩),.pointer (some ⟨gf,0,none⟩)]) ∧ X.cell? ⟨W.heap.size,0,none⟩ = some (.int .i64 kt) ∧ X.cell? ⟨W.heap.size,1,none⟩ = some (.int .i64 s) ∧ X.cell? ⟨W.heap.size,2,none⟩ = some (.int .i64 q) ∧ X.cell? ⟨W.heap.size,3,none⟩ = some (.int .i64 i) ∧ X.cell? ⟨W.heap.size,4,none⟩ = some (.slice B ln cp) ∧ X.cell? ⟨W.heap.size + 1,0,none⟩ = some (.int .i64 k) ∧ X.cell? ⟨W.heap.size + 1,1,none⟩ = some (.int .i64 nn) ∧ X.cell? ⟨W.heap.size + 1,2,none⟩ = some (.slice (some ⟨g,o,none⟩) len cap) ∧ X.cell? ⟨wr.heap.size,0,none⟩ = some (.int .i64 xk) ∧ X.cell? ⟨wr.heap.size,1,none⟩ = some (.int .i64 xn) ∧ X.cell? ⟨wr.heap.size,2,none⟩ = some (.slice xA xl xc))
     (first | exact HS.out _ G0 | exact HS.out _ G1 | exact HS.out _ G2)
     (first
     | (go_at_call 58;(with_reducible refine (HKJ.out _ E7.bl).mono ?_);rintro e w8 ⟨Y,rfl,hY5,hY,hb8⟩;have E8:=E7.later hb8;have G1:=G0.trans (Fr.of_below hb8 (Nat.le_of_lt E7.cn.lt)))
     | (go_at_call 55;(with_reducible refine (HIJ.out _ _ hY E8).mono ?_);rintro e w9 ⟨rfl,hc9,hf9⟩;have G2:=G1.trans hf9))
    have HZ:Hid ((false,c2) = R):=Lib.hid (by have h:=HBC.out;simpa using h)
    go_wp2_with fail
    go_ret
    rw [← HZ.out]
    exact ⟨rfl,hc9,HF5.out.trans (HF6.out.trans (F7.trans G2))⟩
   | true =>
    go_region_held3 (fun X => X.cell? ⟨gf,0,none⟩ = some (.func (.func 55) #[] #[.pointer (some ⟨gp,0,none⟩),.pointer (some ⟨gm,0,none⟩),.pointer (some ⟨gf,0,none⟩)]) ∧ X.cell? ⟨W.heap.size,0,none⟩ = some (.int .i64 kt) ∧ X.cell? ⟨W.heap.size,1,none⟩ = some (.int .i64 s) ∧ X.cell? ⟨W.heap.size,2,none⟩ = some (.int .i64 q) ∧ X.cell? ⟨W.heap.size,3,none⟩ = some (.int .i64 i) ∧ X.cell? ⟨W.heap.size,4,none⟩ = some (.slice B ln cp) ∧ X.cell? ⟨W.heap.size + 1,0,none⟩ = some (.int .i64 k) ∧ X.cell? ⟨W.heap.size + 1,1,none⟩ = some (.int .i64 nn) ∧ X.cell? ⟨W.heap.size + 1,2,none⟩ = some (.slice (some ⟨g,o,none⟩) len cap) ∧ X.cell? ⟨wr.heap.size,0,none⟩ = some (.int .i64 xk) ∧ X.cell? ⟨wr.heap.size,1,none⟩ = some (.int .i64 xn) ∧ X.cell? ⟨wr.heap.size,2,none⟩ = some (.slice xA xl xc))
     (first | exact HS.out _ G0 | exact HS.out _ G1 | exact HS.out _ G2)
     (first
     | (go_at_call 58;(with_reducible refine (HKJ.out _ E7.bl).mono ?_);rintro e w8 ⟨Y,rfl,hY5,hY,hb8⟩;have E8:=E7.later hb8;have G1:=G0.trans (Fr.of_below hb8 (Nat.le_of_lt E7.cn.lt)))
     | (go_at_call 55;(with_reducible refine (HIJ.out _ _ hY E8).mono ?_);rintro e w9 ⟨rfl,hc9,hf9⟩;have G2:=G1.trans hf9))
    have HZ:Hid (pvL P (List.drop (j + 1) ks) T (j + 1) f c2 = R):=Lib.hid (by have h:=HBC.out;simpa using h)
    have hji2:(j:Int) + 1 ≤ 9223372036854775807:=by omega
    have HE9:=Lib.hid (E8.fr hf9 hc9)
    have HF9:=Lib.hid (HF6.out.trans (F7.trans G2))
    clear G0 G1 G2 hf9 hc9 E7 E8 F7 T7' HS HKJ HIJ
    go_wp2_with fail
    refine ⟨⟨j + 1,c2,by have:=HLT.out;omega,by go_num,HPV.out,HE9.out,HF9.out,HZ⟩,by have:=HLT.out;simp [intOf];omega⟩
  ·obtain rfl:j = len:=by omega
   have hz:=HRJ.out
   rw [List.drop_of_length_le (by rw [HLEN.out];omega),pvL] at hz
   have HZ:=Lib.hid hz
   clear hz HRJ hlt
   go_wp2_with fail
   go_ret
   rw [← HZ.out]
   exact ⟨rfl,E6.cn,HF5.out.trans F6⟩
theorem vclo_any (P:List Df) (W0:World) (gp gm gf gn n cap0:Nat) (mv:Value) (A0:Option Addr) (hP:PrAt W0 P (.agg #[mv,.slice A0 n cap0])) (hKv:Kv W0):∀ (N:Nat) (x:Tr),x.nodes ≤ N → ∀ (t:Ty) (d f c:Nat) (W:World) (v tv:Value),d + f = 25 → c ≤ 256 → TrAt W0 x v → TyAt W0 t tv → VEnv W0 W gp gm gf gn c mv A0 n cap0 →
  Calls Tryd.prog 55 #[tv,v,.int .i64 (d:Int),.pointer (some ⟨gp,0,none⟩),.pointer (some ⟨gm,0,none⟩),.pointer (some ⟨gf,0,none⟩)] W (VRes gn (pv P x t f c).1 (pv P x t f c).2 W)
 | 0,x,hN => absurd hN (by have:=x.nodes_pos;omega)
 | N + 1,.node k nn ks,hN => by
  intro t d f c W v tv hd hc hx ht hE
  unfold TrAt at hx
  obtain ⟨A,cap,rfl,hm,hks⟩:=hx
  obtain ⟨kt,s,q,i,B,ln,cp,rfl⟩:=ht.shape
  rw [pv]
  by_cases h1:vty P 24 t = false
  ·rw [if_pos h1]
   exact vclo_A P W0 W gp gm gf gn c d n cap0 mv A0 A k nn ks.length cap t kt s q i B ln cp hP hKv hE ht h1
  ·rw [if_neg h1]
   have h1':vty P 24 t = true:=by simpa using h1
   by_cases h2:f = 0 ∨ c = 256
   ·rw [if_pos h2]
    exact vclo_B P W0 W gp gm gf gn c d n cap0 mv A0 A k nn ks.length cap t kt s q i B ln cp hP hKv hE ht h1' (by omega)
   ·rw [if_neg h2]
    by_cases h3:k = shK P t ∧ hfit k nn ks.length (shS P t).length = true
    ·rw [if_pos h3]
     refine vclo_D P W0 W gp gm gf gn c d n cap0 mv A0 A k nn ks.length cap t kt s q i B ln cp hP hKv hE ht h1' ⟨by omega,by omega⟩ h3 ks rfl hks ⟨hm.1,hm.2.1⟩ (f - 1) (Lib.hid ?_)
     intro j x hx t' c' W' v' tv' hc' hx' ht' hE'
     exact vclo_any P W0 gp gm gf gn n cap0 mv A0 hP hKv N x (by have:=Tr.kid_less (k:=k) (n:=nn) hx;omega) t' (d + 1) (f - 1) c' W' v' tv' (by omega) hc' hx' ht' hE'
    ·rw [if_neg h3]
     by_cases h4:k = shK P t
     ·exact vclo_C2 P W0 W gp gm gf gn c d n cap0 mv A0 A k nn ks.length cap t kt s q i B ln cp hP hKv hE ht h1' ⟨by omega,by omega⟩ ⟨h4,by cases h:hfit k nn ks.length (shS P t).length <;> simp_all⟩
     ·exact vclo_C1 P W0 W gp gm gf gn c d n cap0 mv A0 A k nn ks.length cap t kt s q i B ln cp hP hKv hE ht h1' ⟨by omega,by omega⟩ h4
end Go.Proofs.YtmfihlcibephlaaDoor
namespace Go.Proofs.YtmfihlcibephlaaDoor
open Go.RowKit
theorem duo_cells {w:World} {u v:Value} {a b:TypeId}:((w.alloc (.cells #[u] a)).alloc (.cells #[v] b)).cell? ⟨w.heap.size,0,none⟩ = some u ∧ ((w.alloc (.cells #[u] a)).alloc (.cells #[v] b)).cell? ⟨w.heap.size + 1,0,none⟩ = some v :=
 ⟨by simp [go_sem],by simp [go_sem]⟩
set_option maxHeartbeats 4000000 in
set_option maxRecDepth 100000 in
theorem valid_any (P:List Df) (t:Ty) (x:Tr) (w:World) (v tv pv0:Value) (hP0:PrAt w P pv0) (ht:TyAt w t tv) (hx:TrAt w x v) (hK:Kv w) :
  Calls Tryd.prog 25 #[pv0,tv,v] w (BRes (pv P x t 24 0).1 w):=by
 have hP1:=hP0
 obtain ⟨mv,A0,cap0,rfl,hm,hP⟩:=hP0
 obtain ⟨n,hn⟩:∃ n,P.length = n:=⟨_,rfl⟩
 rw [hn] at hP1 ⊢
 obtain ⟨kt,s,q,i,B,ln,cp,rfl⟩:=ht.shape
 obtain ⟨k,nn,A,len,cap,rfl⟩:=hx.shape
 have P0:=p2_new w mv (.slice A0 n cap0)
 have V0:=new_later w (.cells #[mv,.slice A0 n cap0] 26)
 have Q0:=t5_new (w.alloc (.cells #[mv,.slice A0 n cap0] 26)) kt s q i B ln cp
 have b1:=new_later (w.alloc (.cells #[mv,.slice A0 n cap0] 26)) (.cells (t5 kt s q i B ln cp).toArray 31)
 have R0:=c3_new ((w.alloc (.cells #[mv,.slice A0 n cap0] 26)).alloc (.cells (t5 kt s q i B ln cp).toArray 31)) k nn A len cap
 have b2:=new_later ((w.alloc (.cells #[mv,.slice A0 n cap0] 26)).alloc (.cells (t5 kt s q i B ln cp).toArray 31)) (.cells (c3 k nn A len cap).toArray 53)
 replace P0:=(P0.later b1).later b2
 replace Q0:=Q0.later b2
 have V1:=later (later V0 b1) b2
 rw [World.size_alloc] at Q0
 rw [World.size_alloc,World.size_alloc] at R0
 have hsz:(((w.alloc (.cells #[mv,.slice A0 n cap0] 26)).alloc (.cells (t5 kt s q i B ln cp).toArray 31)).alloc (.cells (c3 k nn A len cap).toArray 53)).heap.size = w.heap.size + 1 + 1 + 1:=by simp
 clear V0 b1 b2
 generalize hW:((w.alloc (.cells #[mv,.slice A0 n cap0] 26)).alloc (.cells (t5 kt s q i B ln cp).toArray 31)).alloc (.cells (c3 k nn A len cap).toArray 53) = wa at P0 Q0 R0 V1 hsz
 have HC:Hid (∀ W gm gf gn,VEnv w W w.heap.size gm gf gn 0 mv A0 n cap0 → Calls Tryd.prog 55 #[.agg #[.int .i64 kt,.int .i64 s,.int .i64 q,.int .i64 i,.slice B ln cp],.agg #[.int .i64 k,.int .i64 nn,.slice A len cap],.int .i64 1,.pointer (some ⟨w.heap.size,0,none⟩),.pointer (some ⟨gm,0,none⟩),.pointer (some ⟨gf,0,none⟩)] W (VRes gn (pv P x t 24 0).1 (pv P x t 24 0).2 W)):=Lib.hid fun W gm gf gn hE =>
  vclo_any P w w.heap.size gm gf gn n cap0 mv A0 hP1 hK x.nodes x (Nat.le_refl _) t 1 24 0 W _ _ rfl (by omega) hx ht hE
 generalize (pv P x t 24 0).1 = Z at HC ⊢
 generalize (pv P x t 24 0).2 = c2 at HC
 have HP:=Lib.hid P0
 have HQ:=Lib.hid Q0
 have HR:=Lib.hid R0
 have HV:=Lib.hid V1
 have HSZ:=Lib.hid hsz
 clear P0 Q0 R0 V1 hsz hP1 hP hm hn ht hx hK
 have HCT:Hid (∀ W,Calls Tryd.prog 54 #[] W fun e w' => e = .returned (.func (.func 80) #[] #[.pointer (some ⟨W.heap.size,0,none⟩)]) ∧ Cnt w' W.heap.size 0 ∧ Below W.heap.size W w' ∧ W.heap.size < w'.heap.size):=Lib.hid fun W => counter_any W
 go_enter Tryd.func25,Tryd.ntmps25
 go_upto_region 1 with fail
 clear hW
 go_upto_region 4 with (first
  | (go_at_call 54;(with_reducible refine (HCT.out _).mono ?_);rintro e w2 ⟨rfl,hc2,hb2,hl2⟩;have HC2:=Lib.hid hc2;have HB2:=Lib.hid hb2;have HL2:=Lib.hid hl2;clear hc2 hb2 hl2))
 have HW3:=Lib.hid (duo_cells (w:=w2) (u:=.func (.func 80) #[] #[.pointer (some ⟨wa.heap.size,0,none⟩)]) (v:=.func (.func 55) #[] #[.pointer (some ⟨w.heap.size,0,none⟩),.pointer (some ⟨w2.heap.size,0,none⟩),.pointer (some ⟨w2.heap.size + 1,0,none⟩)]) (a:=95) (b:=97))
 have HB3:=Lib.hid (later (new_later w2 (.cells #[.func (.func 80) #[] #[.pointer (some ⟨wa.heap.size,0,none⟩)]] 95)) (new_later _ (.cells #[.func (.func 55) #[] #[.pointer (some ⟨w.heap.size,0,none⟩),.pointer (some ⟨w2.heap.size,0,none⟩),.pointer (some ⟨w2.heap.size + 1,0,none⟩)]] 97)))
 generalize (w2.alloc (.cells #[.func (.func 80) #[] #[.pointer (some ⟨wa.heap.size,0,none⟩)]] 95)).alloc (.cells #[.func (.func 55) #[] #[.pointer (some ⟨w.heap.size,0,none⟩),.pointer (some ⟨w2.heap.size,0,none⟩),.pointer (some ⟨w2.heap.size + 1,0,none⟩)]] 97) = w3 at HW3 HB3 ⊢
 have hB13:=later HB2.out HB3.out
 have hQ3:=HQ.out.later hB13
 have hR3:=HR.out.later hB13
 have hV3:=later HV.out hB13
 have HE3:Hid (VEnv w w3 w.heap.size w2.heap.size (w2.heap.size + 1) wa.heap.size 0 mv A0 n cap0):=Lib.hid (by
  have h1:=HL2.out
  have h2:=HSZ.out
  exact ⟨hV3,HP.out.later hB13,HW3.out.1,HW3.out.2,HC2.out.later HB3.out,by omega,by omega,by omega,by omega⟩)
 have hwl:w.heap.size ≤ wa.heap.size:=by have:=HSZ.out;omega
 have hcf:=HW3.out.2
 have y0:=hQ3.cell (j:=0) (v:=.int .i64 kt) rfl
 have y1:=hQ3.cell (j:=1) (v:=.int .i64 s) rfl
 have y2:=hQ3.cell (j:=2) (v:=.int .i64 q) rfl
 have y3:=hQ3.cell (j:=3) (v:=.int .i64 i) rfl
 have y4:=hQ3.cell (j:=4) (v:=.slice B ln cp) rfl
 have x0:=hR3.cell (j:=0) (v:=.int .i64 k) rfl
 have x1:=hR3.cell (j:=1) (v:=.int .i64 nn) rfl
 have x2:=hR3.cell (j:=2) (v:=.slice A len cap) rfl
 have HV3:=Lib.hid hV3
 clear hQ3 hR3 hV3 hB13
 go_wp2_with (first
  | (go_at_call 55;(with_reducible refine (HC.out _ _ _ _ HE3.out).mono ?_);rintro e w9 ⟨rfl,hc9,hf9⟩))
 go_ret
 exact ⟨rfl,HV3.out.trans (hf9.1.mono hwl)⟩
end Go.Proofs.YtmfihlcibephlaaDoor
namespace Go.Proofs.YtmfihlcibephlaaDoor
open Go.RowKit
def ZeroRes (er:Int) (x:Tr) (w:World) (e:Ending) (w':World):Prop:=∃ xk xn xA xl xc,e = .returned (.tuple #[.agg #[.int .i64 xk,.int .i64 xn,.slice xA xl xc],.int .i64 er]) ∧ TrF (w.heap.size ≤ ·) w' x (.agg #[.int .i64 xk,.int .i64 xn,.slice xA xl xc]) ∧ Below w.heap.size w w'
set_option maxHeartbeats 4000000 in
set_option maxRecDepth 100000 in
theorem zero_any (P:List Df) (t:Ty) (w:World) (tv pv0:Value) (hP0:PrAt w P pv0) (ht:TyAt w t tv) (hK:Kv w) :
  Calls Tryd.prog 34 #[pv0,tv] w (ZeroRes (zr P 24 t 0).1 (zr P 24 t 0).2.1 w):=by
 have hP1:=hP0
 obtain ⟨mv,A0,cap0,rfl,hm,hP⟩:=hP0
 obtain ⟨n,hn⟩:∃ n,P.length = n:=⟨_,rfl⟩
 rw [hn] at hP1 ⊢
 obtain ⟨kt,s,q,i,B,ln,cp,rfl⟩:=ht.shape
 have P0:=p2_new w mv (.slice A0 n cap0)
 have V0:=new_later w (.cells #[mv,.slice A0 n cap0] 26)
 have Q0:=t5_new (w.alloc (.cells #[mv,.slice A0 n cap0] 26)) kt s q i B ln cp
 have b1:=new_later (w.alloc (.cells #[mv,.slice A0 n cap0] 26)) (.cells (t5 kt s q i B ln cp).toArray 31)
 have R0:Arr (((w.alloc (.cells #[mv,.slice A0 n cap0] 26)).alloc (.cells (t5 kt s q i B ln cp).toArray 31)).alloc (.cells #[.int .i64 0,.int .i64 0,.slice none 0 0] 53)) ((w.alloc (.cells #[mv,.slice A0 n cap0] 26)).alloc (.cells (t5 kt s q i B ln cp).toArray 31)).heap.size 3 53 zc3:=Arr.new' _ _ _ 3 zc3 rfl rfl (by decide)
 have b2:=new_later ((w.alloc (.cells #[mv,.slice A0 n cap0] 26)).alloc (.cells (t5 kt s q i B ln cp).toArray 31)) (.cells #[.int .i64 0,.int .i64 0,.slice none 0 0] 53)
 replace P0:=(P0.later b1).later b2
 replace Q0:=Q0.later b2
 have V1:=later (later V0 b1) b2
 rw [World.size_alloc] at Q0
 rw [World.size_alloc,World.size_alloc] at R0
 have hsz:(((w.alloc (.cells #[mv,.slice A0 n cap0] 26)).alloc (.cells (t5 kt s q i B ln cp).toArray 31)).alloc (.cells #[.int .i64 0,.int .i64 0,.slice none 0 0] 53)).heap.size = w.heap.size + 1 + 1 + 1:=by simp
 clear V0 b1 b2
 generalize hW:((w.alloc (.cells #[mv,.slice A0 n cap0] 26)).alloc (.cells (t5 kt s q i B ln cp).toArray 31)).alloc (.cells #[.int .i64 0,.int .i64 0,.slice none 0 0] 53) = wa at P0 Q0 R0 V1 hsz
 have HC:Hid (∀ W gm gf gn,ZEnv w W w.heap.size gm gf gn 0 mv A0 n cap0 → Calls Tryd.prog 64 #[.agg #[.int .i64 kt,.int .i64 s,.int .i64 q,.int .i64 i,.slice B ln cp],.int .i64 1,.pointer (some ⟨w.heap.size,0,none⟩),.pointer (some ⟨gm,0,none⟩),.pointer (some ⟨gf,0,none⟩)] W (ZRes gn (zr P 24 t 0).1 (zr P 24 t 0).2.1 (zr P 24 t 0).2.2 W)):=Lib.hid fun W gm gf gn hE =>
  zclo_any P w w.heap.size gm gf gn n cap0 mv A0 hP1 hK 24 t 1 0 W _ rfl (by omega) ht hE
 generalize (zr P 24 t 0).1 = er at HC ⊢
 generalize (zr P 24 t 0).2.1 = Z at HC ⊢
 generalize (zr P 24 t 0).2.2 = c2 at HC
 have HP:=Lib.hid P0
 have HQ:=Lib.hid Q0
 have HR:=Lib.hid R0
 have HV:=Lib.hid V1
 have HSZ:=Lib.hid hsz
 clear P0 Q0 R0 V1 hsz hP1 hP hm hn ht hK
 have HCT:Hid (∀ W,Calls Tryd.prog 54 #[] W fun e w' => e = .returned (.func (.func 80) #[] #[.pointer (some ⟨W.heap.size,0,none⟩)]) ∧ Cnt w' W.heap.size 0 ∧ Below W.heap.size W w' ∧ W.heap.size < w'.heap.size):=Lib.hid fun W => counter_any W
 go_enter Tryd.func34,Tryd.ntmps34
 go_upto_region 1 with fail
 clear hW
 go_upto_region 4 with (first
  | (go_at_call 54;(with_reducible refine (HCT.out _).mono ?_);rintro e w2 ⟨rfl,hc2,hb2,hl2⟩;have HC2:=Lib.hid hc2;have HB2:=Lib.hid hb2;have HL2:=Lib.hid hl2;clear hc2 hb2 hl2))
 have HW3:=Lib.hid (duo_cells (w:=w2) (u:=.func (.func 80) #[] #[.pointer (some ⟨wa.heap.size,0,none⟩)]) (v:=.func (.func 64) #[] #[.pointer (some ⟨w.heap.size,0,none⟩),.pointer (some ⟨w2.heap.size,0,none⟩),.pointer (some ⟨w2.heap.size + 1,0,none⟩)]) (a:=95) (b:=105))
 have HB3:=Lib.hid (later (new_later w2 (.cells #[.func (.func 80) #[] #[.pointer (some ⟨wa.heap.size,0,none⟩)]] 95)) (new_later _ (.cells #[.func (.func 64) #[] #[.pointer (some ⟨w.heap.size,0,none⟩),.pointer (some ⟨w2.heap.size,0,none⟩),.pointer (some ⟨w2.heap.size + 1,0,none⟩)]] 105)))
 generalize (w2.alloc (.cells #[.func (.func 80) #[] #[.pointer (some ⟨wa.heap.size,0,none⟩)]] 95)).alloc (.cells #[.func (.func 64) #[] #[.pointer (some ⟨w.heap.size,0,none⟩),.pointer (some ⟨w2.heap.size,0,none⟩),.pointer (some ⟨w2.heap.size + 1,0,none⟩)]] 105) = w3 at HW3 HB3 ⊢
 have hB13:=later HB2.out HB3.out
 have hQ3:=HQ.out.later hB13
 have HR3:=Lib.hid (HR.out.later hB13)
 have hV3:=later HV.out hB13
 have HE3:Hid (ZEnv w w3 w.heap.size w2.heap.size (w2.heap.size + 1) wa.heap.size 0 mv A0 n cap0):=Lib.hid (by
  have h1:=HL2.out
  have h2:=HSZ.out
  exact ⟨hV3,HP.out.later hB13,HW3.out.1,HW3.out.2,HC2.out.later HB3.out,by omega,by omega,by omega,by omega⟩)
 have hwl:w.heap.size ≤ wa.heap.size:=by have:=HSZ.out;omega
 have hw3l:w.heap.size + 3 ≤ w3.heap.size:=by have:=HSZ.out;have:=hB13.size;omega
 have hne:w.heap.size + 1 + 1 ≠ wa.heap.size:=by have:=HSZ.out;omega
 have hcf:=HW3.out.2
 have y0:=hQ3.cell (j:=0) (v:=.int .i64 kt) rfl
 have y1:=hQ3.cell (j:=1) (v:=.int .i64 s) rfl
 have y2:=hQ3.cell (j:=2) (v:=.int .i64 q) rfl
 have y3:=hQ3.cell (j:=3) (v:=.int .i64 i) rfl
 have y4:=hQ3.cell (j:=4) (v:=.slice B ln cp) rfl
 have HV3:=Lib.hid hV3
 have HB13:=Lib.hid hB13
 clear hQ3 hV3 hB13
 go_wp2_with (first
  | (go_at_call 64;(with_reducible refine (HC.out _ _ _ _ HE3.out).mono ?_);rintro e w9 ⟨xk,xn,xA,xl,xc,rfl,hT9,hc9,hf9⟩;have HT9:=Lib.hid hT9;have HF9:=Lib.hid hf9;have HR9:=Lib.hid (HR3.out.fr hf9 hne);have HI3:Hid ((Tryd.prog.info? 53).map (·.size) = some ([.int .i64 xk,.int .i64 xn,.slice xA xl xc]:List Value).length):=Lib.hid info_val;have HO3:Hid (∀ v ∈ ([.int .i64 xk,.int .i64 xn,.slice xA xl xc]:List Value),v.oneCell' = true):=Lib.hid (by intro v hv;simp at hv;rcases hv with rfl | rfl | rfl <;> rfl);clear hT9 hc9 hf9)
  | (refine wpList_store_arr rfl _ (.tmp 4) (.tmp 13) rfl (w.heap.size + 1 + 1) 0 3 53 _ [.int .i64 xk,.int .i64 xn,.slice xA xl xc] zc3 rfl rfl rfl HR9.out (show 0 + 3 ≤ 3 by omega) HI3.out HO3.out ?_;intro w12 f12 o12))
 rw [setAll_all zc3 [.int .i64 xk,.int .i64 xn,.slice xA xl xc] rfl] at f12
 refine bodyPost_ret (results_cellB rfl _ _ (w.heap.size + 1 + 1) [.int .i64 xk,.int .i64 xn,.slice xA xl xc] _ rfl f12.range Tryd.underlying53 rfl HI3.out) rfl ?_
 exact ⟨_,_,_,_,_,rfl,HT9.out.keep (fun k hk => by omega) (fun k hk _ => o12.2 k (by omega)),(HV3.out.trans (HF9.out.1.mono hwl)).trans (o12.bel.mono (by omega))⟩
end Go.Proofs.YtmfihlcibephlaaDoor
