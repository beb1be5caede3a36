import Derived.Test.YtmfihlcibephlaaDoorZ07
set_option linter.unusedVariables false
set_option linter.unusedSimpArgs false
namespace Go.Proofs.YtmfihlcibephlaaDoor
open Go.RowKit
theorem shK_r {P:List Df} {t:Ty} (h:vty P 24 t = true):-1 ≤ shK P t ∧ shK P t ≤ 4:=by
 cases t with
 | node k s q i ks =>
  rcases vty_kind h with ⟨rfl,_⟩ | ⟨rfl,_⟩ | ⟨rfl,_⟩ | ⟨rfl,_,d,hd,hdk⟩
  ·exact (show (-1:Int) ≤ 0 ∧ (0:Int) ≤ 4 by decide)
  ·exact (show (-1:Int) ≤ 1 ∧ (1:Int) ≤ 4 by decide)
  ·exact (show (-1:Int) ≤ 4 ∧ (4:Int) ≤ 4 by decide)
  ·have e:shK P (.node 3 s q i ks) = if d.kind = 0 then 2 else 3:=shK_def rfl hd
   rw [e];split <;> omega
set_option maxHeartbeats 8000000 in
set_option maxRecDepth 100000 in
theorem zclo_D (P:List Df) (W0 W:World) (gp gm gf gn c d n cap0:Nat) (mv:Value) (A0:Option Addr) (t:Ty) (kt s q i:Int) (B:Option Addr) (ln cp:Nat)
  (hP:PrAt W0 P (.agg #[mv,.slice A0 n cap0])) (hKv:Kv W0) (hE:ZEnv W0 W gp gm gf gn c mv A0 n cap0) (ht:TyAt W0 t (.agg (t5 kt s q i B ln cp).toArray)) (hvt:vty P 24 t = true) (hcd:c < 256 ∧ d ≤ 24) (hk3:shK P t ≠ 3) (f:Nat)
  (ih:Hid (∀ (t':Ty) (c':Nat) (W':World) (tv:Value),c' ≤ 256 → TyAt W0 t' tv → ZEnv W0 W' gp gm gf gn c' mv A0 n cap0 → Calls Tryd.prog 64 #[tv,.int .i64 ((d + 1:Nat):Int),.pointer (some ⟨gp,0,none⟩),.pointer (some ⟨gm,0,none⟩),.pointer (some ⟨gf,0,none⟩)] W' (ZRes gn (zr P f t' c').1 (zr P f t' c').2.1 (zr P f t' c').2.2 W'))) :
  Calls Tryd.prog 64 #[.agg (t5 kt s q i B ln cp).toArray,.int .i64 (d:Int),.pointer (some ⟨gp,0,none⟩),.pointer (some ⟨gm,0,none⟩),.pointer (some ⟨gf,0,none⟩)] W (ZRes gn (zrL (zr P f) (shK P t) (shS P t) [] (c + 1)).1 (zrL (zr P f) (shK P t) (shS P t) [] (c + 1)).2.1 (zrL (zr P f) (shK P t) (shS P t) [] (c + 1)).2.2 W):=by
 have HCD:=Lib.hid hcd
 clear hcd
 have HVT:Hid (∀ W',PrAt W' P (.agg #[mv,.slice A0 n cap0]) → TyAt W' t (.agg (t5 kt s q i B ln cp).toArray) → Calls Tryd.prog 16 #[.agg #[mv,.slice A0 n cap0],.agg #[.int .i64 kt,.int .i64 s,.int .i64 q,.int .i64 i,.slice B ln cp]] W' (BRes true W')):=Lib.hid fun W' h1 h2 => by rw [← hvt];exact validtype_any P t W' _ _ h1 h2
 have HSH:Hid (∀ W',Below W0.heap.size W0 W' → Kv W' → Calls Tryd.prog 56 #[.agg #[mv,.slice A0 n cap0],.agg #[.int .i64 kt,.int .i64 s,.int .i64 q,.int .i64 i,.slice B ln cp]] W' fun e w' => ∃ SA scap,e = .returned (.tuple #[.int .i64 (shK P t),.slice SA (shS P t).length scap]) ∧ SlsAt W0 (.slice SA (shS P t).length scap) (shS P t) ∧ Below W'.heap.size W' w'):=Lib.hid fun W' h1 h2 => (shape_any P t W0 W' _ _ hP ht h1 hvt h2).mono (by
  rintro e w' ⟨sv,rfl,hs,hb⟩
  have hs':=hs
  obtain ⟨SA,scap,rfl,_⟩:=hs
  exact ⟨SA,scap,rfl,hs',hb⟩)
 have hkr:-1 ≤ shK P t ∧ shK P t ≤ 4:=shK_r hvt
 obtain ⟨K,hK⟩:∃ K,shK P t = K:=⟨_,rfl⟩
 rw [hK] at HSH hkr hk3
 rw [hK]
 have HKR:=Lib.hid hkr
 generalize shS P t = sl at HSH ⊢
 obtain ⟨m,hm⟩:∃ m,sl.length = m:=⟨_,rfl⟩
 rw [hm] at HSH
 have hkb:(K == 3) = false:=by rw [beq_eq_false_iff_ne];exact hk3
 obtain ⟨R,hR⟩:∃ R,zrL (zr P f) K sl [] (c + 1) = R:=⟨_,rfl⟩
 rw [hR]
 have HR:=Lib.hid hR
 have HM:=Lib.hid hm
 clear hK hR hm hkr hk3
 have P0:=t5_new W kt s q i B ln cp
 have V0':=new_later W (.cells (t5 kt s q i B ln cp).toArray 31)
 have Q0:Arr ((W.alloc (.cells (t5 kt s q i B ln cp).toArray 31)).alloc (.cells #[.int .i64 0,.int .i64 0,.slice none 0 0] 53)) (W.alloc (.cells (t5 kt s q i B ln cp).toArray 31)).heap.size 3 53 zc3:=Arr.new' _ _ _ 3 zc3 rfl rfl (by decide)
 have P1:=P0.later (new_later _ (.cells #[.int .i64 0,.int .i64 0,.slice none 0 0] 53))
 have V1:=later V0' (new_later _ (.cells #[.int .i64 0,.int .i64 0,.slice none 0 0] 53))
 rw [World.size_alloc] at Q0
 clear P0 V0'
 generalize hW:(W.alloc (.cells (t5 kt s q i B ln cp).toArray 31)).alloc (.cells #[.int .i64 0,.int .i64 0,.slice none 0 0] 53) = wa at P1 V1 Q0
 have E1:=hE.later V1
 have F1:Fr gn W wa:=Fr.of_below V1 (Nat.le_of_lt hE.cn.lt)
 have hn1:W.heap.size ≠ gn:=by have:=hE.cn.lt;omega
 have hn2:W.heap.size + 1 ≠ gn:=by have:=hE.cn.lt;omega
 have hgl:gn ≤ W.heap.size:=Nat.le_of_lt hE.cn.lt
 have HLTS:=Lib.hid hE.lts
 have y0:=P1.cell (j:=0) (v:=.int .i64 kt) rfl
 have y1:=P1.cell (j:=1) (v:=.int .i64 s) rfl
 have y2:=P1.cell (j:=2) (v:=.int .i64 q) rfl
 have y3:=P1.cell (j:=3) (v:=.int .i64 i) rfl
 have y4:=P1.cell (j:=4) (v:=.slice B ln cp) rfl
 have zz0:=E1.cp.cell (j:=0) (v:=mv) rfl
 have z1:=E1.cp.cell (j:=1) (v:=.slice A0 n cap0) rfl
 have hf23:Hid (∀ w2 w3,Below wa.heap.size wa w2 → Fr gn w2 w3 → Fr gn wa w3):=Lib.hid fun w2 w3 h1 h2 => (Fr.of_below h1 (Nat.le_of_lt E1.cn.lt)).trans h2
 have HPA:=Lib.hid (hP.later E1.bl)
 have HTA:=Lib.hid (ht.later E1.bl)
 have HP:=Lib.hid hP
 have HT:=Lib.hid ht
 have HK:=Lib.hid hKv
 have HY:=Lib.hid P1
 have HX:=Lib.hid Q0
 have HE1:=Lib.hid E1
 have HF1:=Lib.hid F1
 have HIV:Hid ((Tryd.prog.info? 53).map (·.size) = some zc3.length):=Lib.hid info_val
 clear hvt hP ht hKv hE P1 Q0 V1 E1 F1
 go_enter Tryd.func64,Tryd.ntmps64
 go_upto_region 1 with fail
 clear hW
 go_upto_region 11 with (first
  | (go_at_call 16;(with_reducible refine (HVT.out _ HPA.out HTA.out).mono ?_);rintro e w2 ⟨rfl,hb2⟩;have E2:=HE1.out.later hb2;have F2:=HF1.out.trans (Fr.of_below hb2 (Nat.le_of_lt HE1.out.cn.lt));have X2:=HX.out.later hb2;have hcm:w2.cell? ⟨gm,0,none⟩ = some (.func (.func 80) #[] #[.pointer (some ⟨gn,0,none⟩)]):=E2.cm)
  | (go_at_call 80;(with_reducible refine (more_yes gn c d _ E2.cn HCD.out.1 HCD.out.2).mono ?_);rintro e w3 ⟨rfl,hc3,hf3⟩;have E3:=E2.fr hf3 hc3;have F3:=F2.trans hf3;have HP3:=Lib.hid (HP.out.later E3.bl);have HT3:=Lib.hid (HT.out.later E3.bl);have Y3:=HY.out.fr (hf23.out _ _ hb2 hf3) hn1;have X3:=HX.out.fr (hf23.out _ _ hb2 hf3) hn2;have hy0:=Y3.cell (j:=0) (v:=.int .i64 kt) rfl;have hy1:=Y3.cell (j:=1) (v:=.int .i64 s) rfl;have hy2:=Y3.cell (j:=2) (v:=.int .i64 q) rfl;have hy3:=Y3.cell (j:=3) (v:=.int .i64 i) rfl;have hy4:=Y3.cell (j:=4) (v:=.slice B ln cp) rfl;have hz0:=E3.cp.cell (j:=0) (v:=mv) rfl;have hz1:=E3.cp.cell (j:=1) (v:=.slice A0 n cap0) rfl;have hK3:=Lib.hid (E3.kv HK.out))
  | (go_at_call 56;(with_reducible refine (HSH.out _ E3.bl hK3.out).mono ?_);rintro e w4 ⟨SA,scap,rfl,hsl,hb4⟩;have HSL:=Lib.hid hsl;clear hsl;have E4:=E3.later hb4;have F4:=F3.trans (Fr.of_below hb4 (Nat.le_of_lt E3.cn.lt));have X4:=X3.later hb4))
 have HSL':=HSL
 have hmx:(m:Int) ≤ 9223372036854775807:=by
  obtain ⟨A',cap',hv,hm',_⟩:=HSL.out
  have h1:=HM.out
  have:=hm'.1;have:=hm'.2;simp only [maxLen] at this;omega
 have b11:=new_later w4 (.cells #[.int .i64 K,.int .i64 0,.slice none 0 0] 53)
 have A11:Arr (w4.alloc (.cells #[.int .i64 K,.int .i64 0,.slice none 0 0] 53)) w4.heap.size 3 53 [.int .i64 K,.int .i64 0,.slice none 0 0]:=Arr.new' w4 _ _ 3 _ rfl rfl (by decide)
 have hsz11:(w4.alloc (.cells #[.int .i64 K,.int .i64 0,.slice none 0 0] 53)).heap.size = w4.heap.size + 1:=by simp
 generalize w4.alloc (.cells #[.int .i64 K,.int .i64 0,.slice none 0 0] 53) = w5 at b11 A11 hsz11 ⊢
 have HE5:=Lib.hid (E4.later b11)
 have HF5:=Lib.hid (F4.trans (Fr.of_below b11 (Nat.le_of_lt E4.cn.lt)))
 have HX5:=Lib.hid (X4.later b11)
 have hW4:W.heap.size + 1 < w4.heap.size:=X4.lt
 have HA11:=Lib.hid A11
 have HSZ:=Lib.hid hsz11
 clear hcm hz0 hz1 hy0 hy1 hy2 hy3 hy4 E2 F2 E3 F3 E4 F4 X2 X3 X4 Y3 hb2 hb4 hf3 hc3 HPA HTA HVT HSH HE1 HF1 HY HX HP3 HT3 hK3 hf23 b11 A11 hsz11
 generalize hg11:w4.heap.size = g11 at HA11 HSZ hW4 ⊢
 generalize hBB:w5.heap.size = BB at HSZ
 have HBB:=Lib.hid hBB
 clear hg11 hBB
 go_wp2_with fail
 go_loopw [44] (fun ii W' => ∃ (j c':Nat) (v:Value) (acc:List Tr),j ≤ m ∧ ii = .int .i64 (j:Int) ∧ acc.length = j ∧ j ≤ c' ∧ c' ≤ 256 ∧ ZEnv W0 W' gp gm gf gn c' mv A0 n cap0 ∧ Arr W' (W.heap.size + 1) 3 53 zc3 ∧ Arr W' g11 3 53 [.int .i64 K,.int .i64 0,v] ∧ Fr gn W W' ∧ Grow W' BB v acc ∧ BB ≤ W'.heap.size ∧ Hid (zrL (zr P f) K (sl.drop j) acc c' = R)) (fun ii _ => m - (intOf ii).toNat)
 case atStart => exact ⟨0,c + 1,_,[],by omega,rfl,rfl,by omega,by have:=HCD.out.1;omega,HE5.out,HX5.out,HA11.out,HF5.out,Grow.nil _ _,by rw [HBB.out];exact Nat.le_refl _,Lib.hid (by rw [List.drop_zero];exact HR.out)⟩
 case round =>
  obtain ⟨j,c',v,acc,hj,rfl,hacc,hjc,hc',E6,X6,A6,F6,G6,hB6,HRJ⟩:=hrel
  have hj0:(0:Int) ≤ (j:Int):=by omega
  by_cases hlt:j < m
  ·have hji:(j:Int) < (m:Int):=by omega
   have hjm:(j:Int) + 1 ≤ 9223372036854775807:=by omega
   have hjx:j < sl.length:=by rw [HM.out];exact hlt
   have hrj:=HRJ.out
   rw [List.drop_eq_getElem_cons hjx,zrL] at hrj
   obtain ⟨g,o,C,hA,hrg,hsa⟩:=SlsAt.get HSL'.out (List.getElem?_eq_getElem hjx)
   cases hA
   generalize sl[j] = sx at hrj hsa
   obtain ⟨T,hC,hT5,hTT⟩:=hsa
   have HC11:Hid (C.length = 11):=Lib.hid (by rw [hC];simp [hT5])
   have HIS:Hid ((Tryd.prog.info? 66).map (·.size) = some C.length):=Lib.hid (by rw [HC11.out];exact info_slot)
   obtain ⟨tk,ts,tq,ti,tB,tl,tc,hsh⟩:=hTT.shape
   have hTl:T = [.int .i64 tk,.int .i64 ts,.int .i64 tq,.int .i64 ti,.slice tB tl tc]:=by simpa [t5] using hsh
   subst hTl
   have HOC:Hid (∀ v ∈ C,v.oneCell' = true):=Lib.hid (by
    rw [hC];intro v hv;simp at hv
    rcases hv with rfl | rfl | rfl | rfl | rfl | rfl | rfl | rfl | rfl | rfl | rfl <;> rfl)
   have HRb:=Lib.hid (range_below hrg E6.bl)
   have HTT:=Lib.hid hTT
   have HCE:=Lib.hid hC
   have HIT:Hid ((Tryd.prog.info? 31).map (·.size) = some ([.int .i64 tk,.int .i64 ts,.int .i64 tq,.int .i64 ti,.slice tB tl tc]:List Value).length):=Lib.hid info_type
   have HE6:=Lib.hid E6
   have HF6:=Lib.hid F6
   have HX6:=Lib.hid X6
   have HA6:=Lib.hid A6
   have HG6:=Lib.hid G6
   have HLT:=Lib.hid hlt
   have HC':=Lib.hid hc'
   have HACC:=Lib.hid hacc
   have HB6:=Lib.hid hB6
   clear hjx hsh hrg hTT hC E6 F6 X6 A6 G6 HRJ hlt hj hacc hT5
   go_upto_region 14 with (first
    | (with_reducible refine wpList_load_mid rfl _ (.tmp 46) rfl g (o + j * 11) rfl C _ HRb.out Tryd.underlying66 rfl HIS.out ?_)
    | (refine wpList_store_new rfl _ (.tmp 13) (.tmp 47) rfl rfl rfl info_slot HC11.out rfl (all_oneCell_toArray HOC.out) ?_;intro w7 hbel7 hrow7 hsz7;have T7:Arr w7 wr.heap.size 11 66 C:=Arr.of_row hrow7 HC11.out (by decide);clear hrow7))
   have HR7:Hid (w7.rangeAt wr.heap.size 4 [.int .i64 tk,.int .i64 ts,.int .i64 tq,.int .i64 ti,.slice tB tl tc]):=Lib.hid fun p u hu => by
    have hp:p < 5:=(List.getElem?_eq_some_iff.1 hu).1
    exact T7.cell (j:=4 + p) (by rw [HCE.out,List.append_assoc,List.getElem?_append_right (by simp),List.getElem?_append_left (by simp;omega)];simpa using hu)
   have HE7:=Lib.hid (HE6.out.later hbel7)
   have hcf7:w7.cell? ⟨gf,0,none⟩ = some (.func (.func 64) #[] #[.pointer (some ⟨gp,0,none⟩),.pointer (some ⟨gm,0,none⟩),.pointer (some ⟨gf,0,none⟩)]):=HE7.out.cf
   have HB7:=Lib.hid hbel7
   have HIJ:Hid (∀ W',ZEnv W0 W' gp gm gf gn c' mv A0 n cap0 → Calls Tryd.prog 64 #[.agg ([.int .i64 tk,.int .i64 ts,.int .i64 tq,.int .i64 ti,.slice tB tl tc]:List Value).toArray,.int .i64 ((d:Int) + 1),.pointer (some ⟨gp,0,none⟩),.pointer (some ⟨gm,0,none⟩),.pointer (some ⟨gf,0,none⟩)] W' (ZRes gn (zr P f sx.ty c').1 (zr P f sx.ty c').2.1 (zr P f sx.ty c').2.2 W')):=Lib.hid fun W' h1 => by
    rw [show ((d:Int) + 1) = (((d + 1:Nat)):Int) from by omega]
    exact ih.out sx.ty c' W' _ HC'.out HTT.out h1
   have HPV:=Lib.hid (zr_cnt P f sx.ty c' HC'.out)
   have HRR:=Lib.hid hrj
   obtain ⟨⟨er,x,c2⟩,hpv⟩:∃ bc,zr P f sx.ty c' = bc:=⟨_,rfl⟩
   rw [hpv] at HIJ HPV HRR
   replace HIJ:Hid (∀ W',ZEnv W0 W' gp gm gf gn c' mv A0 n cap0 → Calls Tryd.prog 64 #[.agg #[.int .i64 tk,.int .i64 ts,.int .i64 tq,.int .i64 ti,.slice tB tl tc],.int .i64 ((d:Int) + 1),.pointer (some ⟨gp,0,none⟩),.pointer (some ⟨gm,0,none⟩),.pointer (some ⟨gf,0,none⟩)] W' (ZRes gn er x c2 W')):=HIJ
   replace HPV:Hid (c2 ≤ 256 ∧ c' ≤ c2 ∧ (er = 0 → c' + 1 ≤ c2)):=HPV
   replace HRR:Hid (if er = 0 then zrL (zr P f) K (sl.drop (j + 1)) (acc ++ [x]) c2 = R else (er,z0,c2) = R):=Lib.hid (by
    have h:=HRR.out
    by_cases he:er = 0
    ·rw [if_pos he];rw [if_pos he] at h;exact h
    ·rw [if_neg he];rw [if_neg he] at h;exact h)
   have hd64:(d:Int) + 1 ≤ 9223372036854775807:=by have:=HCD.out.2;omega
   have hd0:(0:Int) ≤ (d:Int):=by omega
   clear hpv hrj ih HRb T7 hbel7 hsz7 HCE
   by_cases he:er = 0
   ·have HE0:=Lib.hid he
    clear he
    go_upto_region 15 with (first
     | (with_reducible refine wpList_load_mid rfl _ (.tmp 50) rfl wr.heap.size 4 rfl [.int .i64 tk,.int .i64 ts,.int .i64 tq,.int .i64 ti,.slice tB tl tc] _ HR7.out Tryd.underlying31 rfl HIT.out ?_)
     | (go_at_call 64;(with_reducible refine (HIJ.out _ HE7.out).mono ?_);rintro e w9 ⟨xk,xn,xA,xl,xc,rfl,hT9,hc9,hf9⟩;have HT9:=Lib.hid hT9;have HC9:=Lib.hid hc9;have HF9:=Lib.hid hf9;clear hT9 hc9 hf9))
    have hneq:(er != 0) = false:=by rw [bne_eq_false_iff_eq];exact HE0.out
    have b10:=new_later w9 (.cells #[.int .i64 xk,.int .i64 xn,.slice xA xl xc] 53)
    have A14:Arr (w9.alloc (.cells #[.int .i64 xk,.int .i64 xn,.slice xA xl xc] 53)) w9.heap.size 3 53 [.int .i64 xk,.int .i64 xn,.slice xA xl xc]:=Arr.new' w9 _ _ 3 _ rfl rfl (by decide)
    generalize w9.alloc (.cells #[.int .i64 xk,.int .i64 xn,.slice xA xl xc] 53) = w10 at b10 A14 ⊢
    have HF10:Hid (Fr gn wr w10):=Lib.hid ((Fr.of_below HB7.out (Nat.le_of_lt HE6.out.cn.lt)).trans (HF9.out.more (b10.mono HF9.out.1.size) (Nat.le_of_lt HE7.out.cn.lt)))
    have HE10:Hid (ZEnv W0 w10 gp gm gf gn c2 mv A0 n cap0):=Lib.hid ((HE7.out.fr HF9.out HC9.out).later b10)
    have hA10:Arr w10 g11 3 53 [.int .i64 K,.int .i64 0,v]:=HA6.out.fr HF10.out (by omega)
    have HG10:Hid (Grow w10 BB v acc):=Lib.hid (HG6.out.keep fun k hk hl => HF10.out.2 k (by have:=HSZ.out;omega) hl)
    have hlw:wr.heap.size ≤ w7.heap.size:=HB7.out.size
    have HT10:Hid (TrF (fun g => BB ≤ g ∧ v.ownBlock ≠ some g) w10 x (.agg ([.int .i64 xk,.int .i64 xn,.slice xA xl xc]:List Value).toArray)):=Lib.hid (by
     have hb6:=HB6.out
     have h1:=TrF.both HT9.out HT9.out.at_.old
     obtain ⟨L,hown,_⟩:=HG6.out
     exact h1.keep (fun k hk => ⟨by have:=hk.1;omega,fun hv => by have h:=(hown.lt k hv).2;have:=hk.1;omega⟩) (fun k hk _ => b10.block k hk.2))
    have hB10:BB ≤ w10.heap.size:=Nat.le_trans HB6.out HF10.out.1.size
    have hal:acc.length + 1 ≤ 1000000000000:=by have:=HACC.out;have:=HC'.out;omega
    have x0:=A14.cell (j:=0) (v:=.int .i64 xk) rfl
    have x1:=A14.cell (j:=1) (v:=.int .i64 xn) rfl
    have x2:=A14.cell (j:=2) (v:=.slice xA xl xc) rfl
    have hv11:=hA10.cell (j:=2) (v:=v) rfl
    have HA10:=Lib.hid hA10
    have HB10:=Lib.hid hB10
    have HAL:=Lib.hid hal
    clear b10 A14 hA10 hB10 hal hcf7 HR7 HIJ HIT
    have HLT11:Hid (g11 < BB):=Lib.hid (by have:=HSZ.out;omega)
    go_wp2_with (first
     | (at_builtin;refine wpList_putT (C:=[.int .i64 xk,.int .i64 xn,.slice xA xl xc]) rfl HG10.out HT10.out HB10.out HAL.out rfl _ _ rfl rfl rfl ?_;intro gN capN w11 hG11 hb11;have HG11:=Lib.hid hG11;have HB11:=Lib.hid hb11;have hA11:=HA10.out.below hb11 HLT11.out;have hc112:=hA11.cell (j:=2) (v:=v) rfl;have hf112:=hA11.free 2;have HA11':=Lib.hid hA11;clear hG11 hb11 hA11 hv11 x0 x1 x2))
    have HAC:Hid ((acc ++ [x]).length = j + 1):=Lib.hid (by simp [HACC.out])
    have HZ:Hid (zrL (zr P f) K (List.drop (j + 1) sl) (acc ++ [x]) c2 = R):=Lib.hid (by have h:=HRR.out;rw [if_pos HE0.out] at h;exact h)
    have hgW:W.heap.size ≤ g11:=by omega
    have hgB:=HLT11.out
    have hWB:W.heap.size ≤ BB:=by omega
    have hW0B:W0.heap.size ≤ W.heap.size:=Nat.le_trans HE10.out.ng hgl
    have E11:ZEnv W0 w11 gp gm gf gn c2 mv A0 n cap0:=HE10.out.keep (S:=W.heap.size) HLTS.out (fun k hk => HB11.out.block k (by omega)) (HE10.out.bl.trans (HB11.out.mono (by omega)))
    have HE12:Hid (ZEnv W0 (w11.setCell ⟨g11,2,none⟩ (.slice (some ⟨gN,0,none⟩) (acc.length + 1) capN)) gp gm gf gn c2 mv A0 n cap0):=Lib.hid (E11.keep (S:=W.heap.size) HLTS.out (fun k hk => Below.heap_setCell _ _ _ _ (by simp;omega)) (E11.bl.setCell (p:=⟨g11,2,none⟩) (by show W0.heap.size ≤ g11;omega) _))
    have HX12:Hid (Arr (w11.setCell ⟨g11,2,none⟩ (.slice (some ⟨gN,0,none⟩) (acc.length + 1) capN)) (W.heap.size + 1) 3 53 zc3):=Lib.hid (((HX6.out.fr HF10.out hn2).below HB11.out (by omega)).other (by omega) _)
    have HA12:Hid (Arr (w11.setCell ⟨g11,2,none⟩ (.slice (some ⟨gN,0,none⟩) (acc.length + 1) capN)) g11 3 53 [.int .i64 K,.int .i64 0,.slice (some ⟨gN,0,none⟩) (acc.length + 1) capN]):=Lib.hid (HA11'.out.set_ 2 _)
    have HF12:Hid (Fr gn W (w11.setCell ⟨g11,2,none⟩ (.slice (some ⟨gN,0,none⟩) (acc.length + 1) capN))):=Lib.hid (((HF6.out.trans HF10.out).more (HB11.out.mono hWB) hgl).other (by omega) hgW _)
    have HG12:Hid (Grow (w11.setCell ⟨g11,2,none⟩ (.slice (some ⟨gN,0,none⟩) (acc.length + 1) capN)) BB (.slice (some ⟨gN,0,none⟩) (acc.length + 1) capN) (acc ++ [x])):=Lib.hid (HG11.out.keep fun k hk hl => Below.heap_setCell _ _ _ _ (by simp;omega))
    have HB12:Hid (BB ≤ (w11.setCell ⟨g11,2,none⟩ (.slice (some ⟨gN,0,none⟩) (acc.length + 1) capN)).heap.size):=Lib.hid (by rw [World.size_setCell];exact Nat.le_trans HB10.out HB11.out.size)
    have hlt':=HLT.out
    exact ⟨⟨j + 1,c2,_,acc ++ [x],hlt',by go_num,HAC.out,by have:=HPV.out.2.2 HE0.out;omega,HPV.out.1,HE12.out,HX12.out,HA12.out,HF12.out,HG12.out,HB12.out,HZ⟩,by simp [intOf];omega⟩
   ·have HE0:=Lib.hid he
    clear he
    go_upto_region 15 with (first
     | (with_reducible refine wpList_load_mid rfl _ (.tmp 50) rfl wr.heap.size 4 rfl [.int .i64 tk,.int .i64 ts,.int .i64 tq,.int .i64 ti,.slice tB tl tc] _ HR7.out Tryd.underlying31 rfl HIT.out ?_)
     | (go_at_call 64;(with_reducible refine (HIJ.out _ HE7.out).mono ?_);rintro e w9 ⟨xk,xn,xA,xl,xc,rfl,hT9,hc9,hf9⟩;have HC9:=Lib.hid hc9;have HF9:=Lib.hid hf9;clear hT9 hc9 hf9))
    have hneq:(er != 0) = true:=by rw [bne_iff_ne];exact HE0.out
    have b10:=new_later w9 (.cells #[.int .i64 xk,.int .i64 xn,.slice xA xl xc] 53)
    generalize w9.alloc (.cells #[.int .i64 xk,.int .i64 xn,.slice xA xl xc] 53) = w10 at b10 ⊢
    have HF10:Hid (Fr gn wr w10):=Lib.hid ((Fr.of_below HB7.out (Nat.le_of_lt HE6.out.cn.lt)).trans (HF9.out.more (b10.mono HF9.out.1.size) (Nat.le_of_lt HE7.out.cn.lt)))
    have HX10:=Lib.hid (HX6.out.fr HF10.out hn2)
    have HC10:=Lib.hid (HC9.out.later b10)
    have HZ:Hid ((er,z0,c2) = R):=Lib.hid (by have h:=HRR.out;rw [if_neg HE0.out] at h;exact h)
    clear b10 hcf7 HR7 HIJ HIT
    go_wp2_with (refine wpList_store_arr rfl _ (.tmp 7) (.tmp 59) rfl (W.heap.size + 1) 0 3 53 _ zc3 zc3 rfl rfl rfl HX10.out (by decide) HIV.out zc3_one ?_;intro w12 f12 o12)
    rw [setAll_all _ _ rfl] at f12
    refine bodyPost_ret (results_cellB rfl _ _ (W.heap.size + 1) zc3 _ rfl f12.range Tryd.underlying53 rfl HIV.out) rfl ?_
    rw [← HZ.out]
    exact ⟨0,0,none,0,0,rfl,tr_z0 _ _,Arr.only HC10.out o12 (by omega),(HF6.out.trans HF10.out).more (o12.bel.mono (by omega)) hgl⟩
  ·obtain rfl:j = m:=by omega
   have hz:=HRJ.out
   rw [List.drop_of_length_le (by rw [HM.out];omega),zrL] at hz
   have HZ:=Lib.hid hz
   obtain ⟨VA,vcap,hvs,_,_⟩:=G6.shape
   subst hvs
   obtain ⟨hvl,hTV⟩:=G6.tree K 0 (by unfold i64r;have:=HKR.out;omega) (by unfold i64r;omega)
   have HTV:=Lib.hid hTV
   generalize acc.length = al at hvl A6 HTV
   have x0:=A6.cell (j:=0) (v:=.int .i64 K) rfl
   have x1:=A6.cell (j:=1) (v:=.int .i64 0) rfl
   have x2:=A6.cell (j:=2) (v:=.slice VA al vcap) rfl
   have HX6:=Lib.hid X6
   have HE6:=Lib.hid E6
   have HF6:=Lib.hid F6
   have HI3:Hid ((Tryd.prog.info? 53).map (·.size) = some ([.int .i64 K,.int .i64 0,.slice VA al vcap]:List Value).length):=Lib.hid info_val
   have HO3:Hid (∀ v ∈ ([.int .i64 K,.int .i64 0,.slice VA al vcap]:List Value),v.oneCell' = true):=Lib.hid (by intro v hv;simp at hv;rcases hv with rfl | rfl | rfl <;> rfl)
   have hBW:W.heap.size + 2 ≤ BB:=by have:=HSZ.out;omega
   clear hz HRJ hlt G6 hvl hTV A6 X6 E6 F6 hacc hjc hj
   go_wp2_with (refine wpList_store_arr rfl _ (.tmp 7) (.tmp 68) rfl (W.heap.size + 1) 0 3 53 _ [.int .i64 K,.int .i64 0,.slice VA al vcap] zc3 rfl rfl rfl HX6.out (show 0 + 3 ≤ 3 by omega) HI3.out HO3.out ?_;intro w12 f12 o12)
   rw [setAll_all zc3 [.int .i64 K,.int .i64 0,.slice VA al vcap] rfl] at f12
   refine bodyPost_ret (results_cellB rfl _ _ (W.heap.size + 1) [.int .i64 K,.int .i64 0,.slice VA al vcap] _ rfl f12.range Tryd.underlying53 rfl HI3.out) rfl ?_
   rw [← HZ.out]
   exact ⟨_,_,_,_,_,rfl,HTV.out.keep (fun k hk => by omega) (fun k hk _ => o12.2 k (by omega)),Arr.only HE6.out.cn o12 (by omega),HF6.out.more (o12.bel.mono (by omega)) hgl⟩
end Go.Proofs.YtmfihlcibephlaaDoor
