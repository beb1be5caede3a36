import Derived.Test.YtmfihlcibephlaaDoorZ06
import Derived.Test.YtmfihlcibephlaaDoorZ08
set_option linter.unusedVariables false
set_option linter.unusedSimpArgs false
namespace Go.Proofs.YtmfihlcibephlaaDoor
open Go.RowKit
structure DEnv (W0 W:World) (gm gb gu gf gn p c:Nat) (A:Option Addr) (m cap:Nat):Prop where
 bl:Below W0.heap.size W0 W
 cm:W.cell? ⟨gm,0,none⟩ = some (.func (.func 80) #[] #[.pointer (some ⟨gn,0,none⟩)])
 cb:W.cell? ⟨gb,0,none⟩ = some (.slice A m cap)
 cf:W.cell? ⟨gf,0,none⟩ = some (.func (.func 68) #[] #[.pointer (some ⟨gm,0,none⟩),.pointer (some ⟨gb,0,none⟩),.pointer (some ⟨gu,0,none⟩),.pointer (some ⟨gf,0,none⟩)])
 cn:Cnt W gn c
 cu:Cnt W gu p
 ng:W0.heap.size ≤ gn
 nu:W0.heap.size ≤ gu
 n1:gm ≠ gn
 n2:gm ≠ gu
 n3:gb ≠ gn
 n4:gb ≠ gu
 n5:gf ≠ gn
 n6:gf ≠ gu
 n7:gn ≠ gu
section
variable {W0 W W':World} {gm gb gu gf gn p p' c c' m cap:Nat} {A:Option Addr}
theorem DEnv.fr (e:DEnv W0 W gm gb gu gf gn p c A m cap) (f:Fr2 W0.heap.size gn gu W W') (h:Cnt W' gn c') (h':Cnt W' gu p'):DEnv W0 W' gm gb gu gf gn p' c' A m cap :=
 ⟨e.bl.trans f.1,f.cell e.n1 e.n2 e.cm,f.cell e.n3 e.n4 e.cb,f.cell e.n5 e.n6 e.cf,h,h',e.ng,e.nu,e.n1,e.n2,e.n3,e.n4,e.n5,e.n6,e.n7⟩
theorem DEnv.sz (e:DEnv W0 W gm gb gu gf gn p c A m cap):W0.heap.size ≤ W.heap.size:=e.bl.size
theorem DEnv.later (e:DEnv W0 W gm gb gu gf gn p c A m cap) (h:Below W.heap.size W W'):DEnv W0 W' gm gb gu gf gn p c A m cap :=
 e.fr (Fr2.of_below h e.sz) (e.cn.later h) (e.cu.later h)
theorem DEnv.lts (e:DEnv W0 W gm gb gu gf gn p c A m cap):gm < W.heap.size ∧ gb < W.heap.size ∧ gf < W.heap.size ∧ gn < W.heap.size ∧ gu < W.heap.size :=
 ⟨World.block_lt_of_cell? W _ e.cm,World.block_lt_of_cell? W _ e.cb,World.block_lt_of_cell? W _ e.cf,e.cn.lt,e.cu.lt⟩
theorem DEnv.keep {S:Nat} (e:DEnv W0 W gm gb gu gf gn p c A m cap) (hS:gm < S ∧ gb < S ∧ gf < S ∧ gn < S ∧ gu < S) (h:∀ k,k < S → W'.heap[k]? = W.heap[k]?) (hb:Below W0.heap.size W0 W'):DEnv W0 W' gm gb gu gf gn p c A m cap :=
 ⟨hb,(cell_heap (p:=⟨gm,0,none⟩) (h _ hS.1)).trans e.cm,(cell_heap (p:=⟨gb,0,none⟩) (h _ hS.2.1)).trans e.cb,(cell_heap (p:=⟨gf,0,none⟩) (h _ hS.2.2.1)).trans e.cf,Arr.same e.cn (h _ hS.2.2.2.1),Arr.same e.cu (h _ hS.2.2.2.2),e.ng,e.nu,e.n1,e.n2,e.n3,e.n4,e.n5,e.n6,e.n7⟩
end
def DRes (B gn gu:Nat) (er:Int) (x:Tr) (p c:Nat) (W:World) (e:Ending) (w':World):Prop:=∃ xk xn xA xl xc,e = .returned (.tuple #[.agg #[.int .i64 xk,.int .i64 xn,.slice xA xl xc],.int .i64 er]) ∧ TrF (W.heap.size ≤ ·) w' x (.agg #[.int .i64 xk,.int .i64 xn,.slice xA xl xc]) ∧ Cnt w' gn c ∧ Cnt w' gu p ∧ Fr2 B gn gu W w'
theorem Cnt.only {W W':World} {g k c:Nat} (h:Cnt W g c) (o:Only k W W') (hk:g ≠ k):Cnt W' g c:=Arr.only h o hk
set_option maxHeartbeats 16000000 in
set_option maxRecDepth 100000 in
theorem dclo_A (zs:List Nat) (W0 W:World) (gm gb gu gf gn p c d m cap:Nat) (A:Option Addr) (hzs:zs.length = m) (hall:∀ b ∈ zs,b < 256) (hcap:m ≤ cap ∧ cap ≤ maxLen) (hrd:Rd W0 W0.heap.size A (bs zs)) (hp:p ≤ m) (hE:DEnv W0 W gm gb gu gf gn p c A m cap) (hfc:c = 256 ∨ 24 < d) :
  Calls Tryd.prog 68 #[.int .i64 (d:Int),.pointer (some ⟨gm,0,none⟩),.pointer (some ⟨gb,0,none⟩),.pointer (some ⟨gu,0,none⟩),.pointer (some ⟨gf,0,none⟩)] W (DRes W0.heap.size gn gu 4 z0 p c W):=by
 have HFC:=Lib.hid hfc
 clear hfc
 have Q0:Arr (W.alloc (.cells #[.int .i64 0,.int .i64 0,.slice none 0 0] 53)) W.heap.size 3 53 zc3:=Arr.new' _ _ _ 3 zc3 rfl rfl (by decide)
 have V1:=new_later W (.cells #[.int .i64 0,.int .i64 0,.slice none 0 0] 53)
 generalize hW:W.alloc (.cells #[.int .i64 0,.int .i64 0,.slice none 0 0] 53) = wa at V1 Q0
 have E1:=hE.later V1
 have hcm:=E1.cm
 have HLTS:=Lib.hid hE.lts
 have HSW:=Lib.hid hE.sz
 have HX:=Lib.hid Q0
 have HE1:=Lib.hid E1
 have HF1:Hid (Fr2 W0.heap.size gn gu W wa):=Lib.hid (Fr2.of_below V1 hE.sz)
 have HIV:Hid ((Tryd.prog.info? 53).map (·.size) = some zc3.length):=Lib.hid info_val
 have HZS:=Lib.hid hzs
 have HALL:=Lib.hid hall
 have HCAP:=Lib.hid hcap
 have HRD:=Lib.hid hrd
 clear hzs hall hcap hrd hE Q0 V1 E1
 go_enter Tryd.func68,Tryd.ntmps68
 go_upto_region 1 with fail
 clear hW
 go_wp2_with (first
  | (go_at_call 80;(with_reducible refine (more_no gn c d _ HE1.out.cn HFC.out).mono ?_);rintro e w3 ⟨rfl,hw⟩;subst hw)
  | (refine wpList_store_arr rfl _ (.tmp 6) (.tmp 20) rfl W.heap.size 0 3 53 _ zc3 zc3 rfl rfl rfl HX.out (by decide) HIV.out zc3_one ?_;intro w12 f12 o12))
 rw [setAll_all _ _ rfl] at f12
 refine bodyPost_ret (results_cellB rfl _ _ W.heap.size zc3 _ rfl f12.range Tryd.underlying53 rfl HIV.out) rfl ?_
 have hl:=HLTS.out
 exact ⟨0,0,none,0,0,rfl,tr_z0 _ _,HE1.out.cn.only o12 (by omega),HE1.out.cu.only o12 (by omega),HF1.out.only o12 HSW.out (.inr (.inr (Nat.le_refl _)))⟩
set_option maxHeartbeats 16000000 in
set_option maxRecDepth 100000 in
theorem dclo_B (
        zs:List Nat) (W0 W:World) (gm gb gu gf gn p c d m cap:Nat) (A:Option Addr) (hzs:zs.length = m) (hall:∀ b ∈ zs,b < 256) (hcap:m ≤ cap ∧ cap ≤ maxLen) (hrd:Rd W0 W0.heap.size A (bs zs)) (hp:p ≤ m) (hE:DEnv W0 W gm gb gu gf gn p c A m cap) (hcd:c < 256 ∧ d ≤ 24) (f:Nat)
  (ih:Hid (∀ (p' c':Nat) (W':World),p' ≤ m → c' ≤ 256 → DEnv W0 W' gm gb gu gf gn p' c' A m cap → Calls Tryd.prog 68 #[.int .i64 ((d + 1:Nat):Int),.pointer (some ⟨gm,0,none⟩),.pointer (some ⟨gb,0,none⟩),.pointer (some ⟨gu,0,none⟩),.pointer (some ⟨gf,0,none⟩)] W' (DRes W0.heap.size gn gu (dz zs f p' c').1 (dz zs f p' c').2.1 (dz zs f p' c').2.2.1 (dz zs f p' c').2.2.2 W'))) :
  Calls Tryd.prog 68 #[.int .i64 (d:Int),.pointer (some ⟨gm,0,none⟩),.pointer (some ⟨gb,0,none⟩),.pointer (some ⟨gu,0,none⟩),.pointer (some ⟨gf,0,none⟩)] W (DRes W0.heap.size gn gu (dz zs (f + 1) p c).1 (dz zs (f + 1) p c).2.1 (dz zs (f + 1) p c).2.2.1 (dz zs (f + 1) p c).2.2.2 W):=by
 rw [dz_form,if_neg (by omega:¬ c = 256)]
 have hdo:=(dh_ok (zs:=zs) (p:=p) (by rw [hzs];exact hp))
 obtain ⟨R,hR⟩:∃ R,dh0 zs p = R:=⟨_,rfl⟩
 rw [hR] at hdo ⊢
 obtain ⟨R2,hR2⟩:∃ R2,(if R.1 ≠ 0 then ((R.1:Int),z0,R.2.2.2.2,c + 1) else if R.2.2.2.1 < 0 then (2,z0,R.2.2.2.2,c + 1) else dzL (dz zs f) R.2.1 R.2.2.1 R.2.2.2.1.toNat [] R.2.2.2.2 (c + 1)) = R2:=⟨_,rfl⟩
 rw [hR2]
 have HR:=Lib.hid hR
 have HR2:=Lib.hid hR2
 have HDO:=Lib.hid hdo
 have HCD:=Lib.hid hcd
 have HPM:=Lib.hid hp
 clear hR hR2 hdo hcd hp
 have Q0:Arr (W.alloc (.cells #[.int .i64 0,.int .i64 0,.slice none 0 0] 53)) W.heap.size 3 53 zc3:=Arr.new' _ _ _ 3 zc3 rfl rfl (by decide)
 have V1:=new_later W (.cells #[.int .i64 0,.int .i64 0,.slice none 0 0] 53)
 generalize hW:W.alloc (.cells #[.int .i64 0,.int .i64 0,.slice none 0 0] 53) = wa at V1 Q0
 have E1:=hE.later V1
 have hcm:=E1.cm
 have HLTS:=Lib.hid hE.lts
 have HSW:=Lib.hid hE.sz
 have HX:=Lib.hid Q0
 have HE1:=Lib.hid E1
 have HF1:Hid (Fr2 W0.heap.size gn gu W wa):=Lib.hid (Fr2.of_below V1 hE.sz)
 have HIV:Hid ((Tryd.prog.info? 53).map (·.size) = some zc3.length):=Lib.hid info_val
 have HZS:=Lib.hid hzs
 have HALL:=Lib.hid hall
 have HCAP:=Lib.hid hcap
 have HRD:=Lib.hid hrd
 clear hzs hall hcap hrd hE Q0 V1 E1
 go_enter Tryd.func68,Tryd.ntmps68
 go_upto_region 1 with fail
 clear hW
 go_upto_region 3 with (first
  | (go_at_call 80;(with_reducible refine (more_yes gn c d _ HE1.out.cn HCD.out.1 HCD.out.2).mono ?_);rintro e w3 ⟨rfl,hc3,hf3⟩;have HC3:=Lib.hid hc3;have HF3:=Lib.hid hf3;clear hc3 hf3))
 have E3:DEnv W0 w3 gm gb gu gf gn p (c + 1) A m cap:=HE1.out.fr (Fr2.of_fr HF3.out HE1.out.ng) HC3.out (Arr.fr HE1.out.cu HF3.out (Ne.symm HE1.out.n7))
 have X3:Arr w3 W.heap.size 3 53 zc3:=HX.out.fr HF3.out (by have:=HLTS.out;omega)
 have F3:Fr2 W0.heap.size gn gu W w3:=HF1.out.trans (Fr2.of_fr HF3.out HE1.out.ng)
 have hx3:W.heap.size < w3.heap.size:=X3.lt
 have b4:=new_later w3 (.cells #[.int .i64 0,.int .i64 0,.int .i64 0] 110)
 have A4:Arr (w3.alloc (.cells #[.int .i64 0,.int .i64 0,.int .i64 0] 110)) w3.heap.size 3 110 [.int .i64 0,.int .i64 0,.int .i64 0]:=Arr.new' w3 _ _ 3 _ rfl rfl (by decide)
 go_upto_region 4 with fail
 have hsz4:(w3.alloc (.cells #[.int .i64 0,.int .i64 0,.int .i64 0] 110)).heap.size = w3.heap.size + 1:=by simp
 generalize w3.alloc (.cells #[.int .i64 0,.int .i64 0,.int .i64 0] 110) = w4 at b4 A4 hsz4 ⊢
 have HE4:=Lib.hid (E3.later b4)
 have HX4:=Lib.hid (X3.later b4)
 have HF4:=Lib.hid (F3.more (b4.mono F3.1.size) HSW.out)
 have HA4:=Lib.hid A4
 have hgn3:gn < w3.heap.size ∧ gu < w3.heap.size:=⟨E3.cn.lt,E3.cu.lt⟩
 generalize w3.heap.size = g8 at hx3 HA4 hsz4 hgn3 ⊢
 have HG8:=Lib.hid (⟨hgn3.1,hgn3.2,hsz4⟩:gn < g8 ∧ gu < g8 ∧ w4.heap.size = g8 + 1)
 clear E3 X3 F3 b4 A4 hcm HC3 HF3 hsz4 hgn3
 go_wp2_with fail
 go_loopw [21] (fun ii W' => ∃ (j q:Nat) (a b cc:Int),j ≤ 3 ∧ ii = .int .i64 (j:Int) ∧ q ≤ m ∧ DEnv W0 W' gm gb gu gf gn q (c + 1) A m cap ∧ Arr W' W.heap.size 3 53 zc3 ∧ Arr W' g8 3 110 [.int .i64 a,.int .i64 b,.int .i64 cc] ∧ Fr2 W0.heap.size gn gu W W' ∧ g8 < W'.heap.size ∧ Hid ((j = 0 ∧ b = 0 ∧ cc = 0 ∧ dh0 zs q = R) ∨ (j = 1 ∧ cc = 0 ∧ dh1 zs a q = R) ∨ (j = 2 ∧ dh2 zs a b q = R) ∨ (j = 3 ∧ (0,a,b,cc,q) = R))) (fun ii _ => 3 - (intOf ii).toNat)
 case atStart => exact ⟨0,p,0,0,0,by omega,rfl,HPM.out,HE4.out,HX4.out,HA4.out,HF4.out,HA4.out.lt,Lib.hid (.inl ⟨rfl,rfl,rfl,HR.out⟩)⟩
 case round =>
  obtain ⟨j,q,a,b,cc,hj,rfl,hq,E5,X5,A5,F5,L5,HCJ⟩:=hrel
  have hj0:(0:Int) ≤ (j:Int):=by omega
  have hcb:=E5.cb
  have hcu:=Arr.cell E5.cu (j:=0) (v:=.int .i64 (q:Int)) rfl
  by_cases hlt:j < 3
  ·have hji:(j:Int) < 3:=by omega
   obtain ⟨A',hsl,hrd2⟩:=slice_fromB A m cap q hq HCAP.out.1 HCAP.out.2
   have HR5:=Lib.hid (hrd2 wr wr.heap.size zs HZS.out ((HRD.out.below E5.bl).more E5.sz))
   have HLD:Hid (m - q = (zs.drop q).length):=Lib.hid (by rw [List.length_drop,HZS.out])
   have HGI:Hid (Calls Tryd.prog 69 #[.slice A' (m - q) (cap - q)] wr (DecRes wr (dec (zs.drop q)))):=Lib.hid (getInt_any (m - q) wr.heap.size (cap - q) A' (zs.drop q) wr HLD.out HR5.out (fun x hx => HALL.out x (List.mem_of_mem_drop hx)) (by have:=HCAP.out;omega) (by have:=HCAP.out;omega))
   have HDD:=Lib.hid (dec_drop (zs:=zs) (p:=q) (by rw [HZS.out];exact hq))
   have HCJ2:Hid ((dec (zs.drop q)).2.2 ≠ 0 → R = ((dec (zs.drop q)).2.2,0,0,0,q)):=Lib.hid fun hne => by
    rcases HCJ.out with ⟨_,_,_,h⟩ | ⟨_,_,h⟩ | ⟨_,h⟩ | ⟨h,_⟩
    ·rw [← h];unfold dh0;rw [if_neg hne]
    ·rw [← h];unfold dh1;rw [if_neg hne]
    ·rw [← h];unfold dh2;rw [if_neg hne]
    ·omega
   have HCJ3:Hid ((dec (zs.drop q)).2.2 = 0 → (j = 0 ∧ cc = 0 ∧ dh1 zs (dec (zs.drop q)).1 (q + (dec (zs.drop q)).2.1) = R) ∨ (j = 1 ∧ dh2 zs a (dec (zs.drop q)).1 (q + (dec (zs.drop q)).2.1) = R) ∨ (j = 2 ∧ (0,a,b,(dec (zs.drop q)).1,q + (dec (zs.drop q)).2.1) = R)):=Lib.hid fun he => by
    rcases HCJ.out with ⟨h0,_,h1,h⟩ | ⟨h0,_,h⟩ | ⟨h0,h⟩ | ⟨h0,_⟩
    ·left;refine ⟨h0,h1,?_⟩;rw [← h];unfold dh0;rw [if_pos he]
    ·right;left;refine ⟨h0,?_⟩;rw [← h];unfold dh1;rw [if_pos he]
    ·right;right;refine ⟨h0,?_⟩;rw [← h];unfold dh2;rw [if_pos he]
    ·omega
   obtain ⟨⟨N,U,er⟩,hdec⟩:∃ r,dec (zs.drop q) = r:=⟨_,rfl⟩
   rw [hdec] at HGI HDD HCJ2 HCJ3
   replace HGI:Hid (Calls Tryd.prog 69 #[.slice A' (m - q) (cap - q)] wr (DecRes wr (N,U,er))):=HGI
   replace HDD:Hid (er = 0 → q + U ≤ zs.length ∧ i64r N):=HDD
   replace HCJ2:Hid (er ≠ 0 → R = (er,0,0,0,q)):=HCJ2
   replace HCJ3:Hid (er = 0 → (j = 0 ∧ cc = 0 ∧ dh1 zs N (q + U) = R) ∨ (j = 1 ∧ dh2 zs a N (q + U) = R) ∨ (j = 2 ∧ (0,a,b,N,q + U) = R)):=HCJ3
   have HE5:=Lib.hid E5
   have HX5:=Lib.hid X5
   have HA5:=Lib.hid A5
   have HF5:=Lib.hid F5
   have HQ:=Lib.hid hq
   have HLT:=Lib.hid hlt
   have hqi:(q:Int) ≤ (m:Int):=by omega
   have hq0:(0:Int) ≤ (q:Int):=by omega
   have hm64:(m:Int) ≤ 9223372036854775807:=by have:=HCAP.out;simp only [maxLen] at this;omega
   clear hdec hrd2 HR5 HLD HCJ E5 X5 A5 F5 hlt hj hq
   by_cases he:er = 0
   ·have hne:((er:Int) != 0) = false:=by rw [bne_eq_false_iff_eq];omega
    have HE0:=Lib.hid he
    have HUL:Hid (q + U ≤ m):=Lib.hid (by have h:=(HDD.out he).1;rwa [HZS.out] at h)
    have hul:(q:Int) + (U:Int) ≤ 9223372036854775807:=by have:=HUL.out;omega
    have hu0:(0:Int) ≤ (U:Int):=by omega
    clear he
    have hgj:Arr.free (j:=j) HA5.out = Arr.free (j:=j) HA5.out:=rfl
    clear hgj
    go_upto_region 10 with (first
     | (go_at_call 69;(with_reducible refine HGI.out.mono ?_);rintro e w6 ⟨rfl,kd,rfl⟩))
    have b6:Below wr.heap.size wr (wr.drewN kd):=below_drewN (Below.refl _ _) kd
    generalize wr.drewN kd = w6 at b6 ⊢
    have E6:=HE5.out.later b6
    have A6:=HA5.out.later b6
    have X6:=HX5.out.later b6
    have F6:=HF5.out.more (b6.mono HF5.out.1.size) HSW.out
    have hc6:w6.cell? ⟨g8,j,none⟩ = some (([.int .i64 a,.int .i64 b,.int .i64 cc]:List Value)[j]'(by have:=HLT.out;simpa using this)):=A6.cell (List.getElem?_eq_getElem _)
    have hf6:=A6.free j
    have A7:=A6.set_ j (.int .i64 N)
    have hg:=HG8.out
    have hne8:g8 ≠ gu:=by omega
    have E7:DEnv W0 (w6.setCell ⟨g8,j,none⟩ (.int .i64 N)) gm gb gu gf gn q (c + 1) A m cap:=E6.keep (S:=W.heap.size) HLTS.out (fun k hk => Below.heap_setCell _ _ _ _ (by simp;omega)) (E6.bl.setCell (p:=⟨g8,j,none⟩) (by show W0.heap.size ≤ g8;have:=HSW.out;omega) _)
    have X7:Arr (w6.setCell ⟨g8,j,none⟩ (.int .i64 N)) W.heap.size 3 53 zc3:=X6.other (by omega) _
    have F7:Fr2 W0.heap.size gn gu W (w6.setCell ⟨g8,j,none⟩ (.int .i64 N)):=F6.set (by have:=HSW.out;omega) (.inr (.inr (by omega))) _
    have hsz7:g8 < (w6.setCell ⟨g8,j,none⟩ (.int .i64 N)).heap.size:=by rw [World.size_setCell];exact Nat.lt_of_lt_of_le L5 b6.size
    go_upto_region 11 with fail
    have HA7:=Lib.hid A7
    have HE7:=Lib.hid E7
    have HX7:=Lib.hid X7
    have HF7:=Lib.hid F7
    have HS7:=Lib.hid hsz7
    clear hc6 hf6 A6 X6 F6 E6 b6 A7 E7 X7 F7 hsz7
    generalize w6.setCell ⟨g8,j,none⟩ (.int .i64 N) = w7 at HA7 HE7 HX7 HF7 HS7 ⊢
    have hcu7:=Arr.cell HE7.out.cu (j:=0) (v:=.int .i64 (q:Int)) rfl
    have hfu7:=Arr.free HE7.out.cu 0
    have CU8:Cnt (w7.setCell ⟨gu,0,none⟩ (.int .i64 ((q:Int) + (U:Int)))) gu (q + U):=by
     have h:=Arr.set_ HE7.out.cu 0 (.int .i64 ((q:Int) + (U:Int)))
     unfold Cnt
     rw [show (((q + U:Nat)):Int) = (q:Int) + (U:Int) from by omega]
     exact h
    have F78:Fr2 W0.heap.size gn gu w7 (w7.setCell ⟨gu,0,none⟩ (.int .i64 ((q:Int) + (U:Int)))):=(Fr2.refl _ _ _ _).set HE7.out.nu (.inr (.inl rfl)) _
    have HE8:Hid (DEnv W0 (w7.setCell ⟨gu,0,none⟩ (.int .i64 ((q:Int) + (U:Int)))) gm gb gu gf gn (q + U) (c + 1) A m cap):=Lib.hid (HE7.out.fr F78 (Arr.other HE7.out.cn (Ne.symm (Ne.symm (Ne.symm HE7.out.n7))) _) CU8)
    have HX8:Hid (Arr (w7.setCell ⟨gu,0,none⟩ (.int .i64 ((q:Int) + (U:Int)))) W.heap.size 3 53 zc3):=Lib.hid (HX7.out.other (by have:=HLTS.out;omega) _)
    have HA8:Hid (Arr (w7.setCell ⟨gu,0,none⟩ (.int .i64 ((q:Int) + (U:Int)))) g8 3 110 (([.int .i64 a,.int .i64 b,.int .i64 cc]:List Value).set j (.int .i64 N))):=Lib.hid (HA7.out.other (Ne.symm hne8) _)
    have HF8:Hid (Fr2 W0.heap.size gn gu W (w7.setCell ⟨gu,0,none⟩ (.int .i64 ((q:Int) + (U:Int))))):=Lib.hid (HF7.out.trans F78)
    have HS8:Hid (g8 < (w7.setCell ⟨gu,0,none⟩ (.int .i64 ((q:Int) + (U:Int)))).heap.size):=Lib.hid (by rw [World.size_setCell];exact HS7.out)
    clear CU8 F78 hcb hcu hsl
    go_wp2_with fail
    rcases HCJ3.out HE0.out with ⟨rfl,h1,h2⟩ | ⟨rfl,h2⟩ | ⟨rfl,h2⟩
    ·exact ⟨⟨1,q + U,N,b,cc,by omega,rfl,HUL.out,HE8.out,HX8.out,HA8.out,HF8.out,HS8.out,Lib.hid (.inr (.inl ⟨rfl,h1,h2⟩))⟩,by simp [intOf]⟩
    ·exact ⟨⟨2,q + U,a,N,cc,by omega,rfl,HUL.out,HE8.out,HX8.out,HA8.out,HF8.out,HS8.out,Lib.hid (.inr (.inr (.inl ⟨rfl,h2⟩)))⟩,by simp [intOf]⟩
    ·exact ⟨⟨3,q + U,a,b,N,by omega,rfl,HUL.out,HE8.out,HX8.out,HA8.out,HF8.out,HS8.out,Lib.hid (.inr (.inr (.inr ⟨rfl,h2⟩)))⟩,by simp [intOf]⟩
   ·have hne:((er:Int) != 0) = true:=by rw [bne_iff_ne];omega
    have HRE:=Lib.hid (HCJ2.out he)
    have HNE:=Lib.hid he
    have HX6:Hid (∀ k,Arr (wr.drewN k) W.heap.size 3 53 zc3):=Lib.hid fun k => HX5.out
    clear he
    go_wp2_with (first
     | (go_at_call 69;(with_reducible refine HGI.out.mono ?_);rintro e w6 ⟨rfl,kd,rfl⟩)
     | (refine wpList_store_arr rfl _ (.tmp 6) (.tmp 34) rfl W.heap.size 0 3 53 _ zc3 zc3 rfl rfl rfl (HX6.out _) (by decide) HIV.out zc3_one ?_;intro w12 f12 o12))
    rw [setAll_all _ _ rfl] at f12
    refine bodyPost_ret (results_cellB rfl _ _ W.heap.size zc3 _ rfl f12.range Tryd.underlying53 rfl HIV.out) rfl ?_
    have hl:=HLTS.out
    have h2:=HR2.out
    rw [HRE.out,if_pos (show er ≠ 0 from HNE.out)] at h2
    rw [← h2]
    have cn6:Cnt (wr.drewN kd) gn (c + 1):=HE5.out.cn
    have cu6:Cnt (wr.drewN kd) gu q:=HE5.out.cu
    have fr6:Fr2 W0.heap.size gn gu W (wr.drewN kd):=HF5.out.more (below_drewN (Below.refl _ _) kd) HSW.out
    exact ⟨0,0,none,0,0,rfl,tr_z0 _ _,cn6.only o12 (by omega),cu6.only o12 (by omega),fr6.only o12 HSW.out (.inr (.inr (Nat.le_refl _)))⟩
  ·obtain rfl:j = 3:=by omega
   have HQR:Hid ((0,a,b,cc,q) = R):=Lib.hid (by
    rcases HCJ.out with ⟨h,_⟩ | ⟨h,_⟩ | ⟨h,_⟩ | ⟨_,h⟩
    ·omega
    ·omega
    ·omega
    ·exact h)
   have hdo:=HDO.out
   rw [← HQR.out] at hdo
   have h2:=HR2.out
   rw [← HQR.out] at h2
   have HDR:Hid (i64r a ∧ i64r b ∧ i64r cc):=Lib.hid hdo.2
   have HR3:Hid ((if cc < 0 then ((2:Int),z0,q,c + 1) else dzL (dz zs f) a b cc.toNat [] q (c + 1)) = R2):=Lib.hid (by rw [if_neg (by simp)] at h2;exact h2)
   have k0:=A5.cell (j:=0) (v:=.int .i64 a) rfl
   have k1:=A5.cell (j:=1) (v:=.int .i64 b) rfl
   have k2:=A5.cell (j:=2) (v:=.int .i64 cc) rfl
   have HE5:=Lib.hid E5
   have HX5:=Lib.hid X5
   have HF5:=Lib.hid F5
   have HA5:=Lib.hid A5
   have HQ:=Lib.hid hq
   clear hdo h2 HCJ hlt hj E5 X5 F5 A5 hcb hcu
   by_cases hneg:cc < 0
   ·have HNG:=Lib.hid hneg
    go_wp2_with (refine wpList_store_arr rfl _ (.tmp 6) (.tmp 46) rfl W.heap.size 0 3 53 _ zc3 zc3 rfl rfl rfl HX5.out (by decide) HIV.out zc3_one ?_;intro w12 f12 o12)
    rw [setAll_all _ _ rfl] at f12
    refine bodyPost_ret (results_cellB rfl _ _ W.heap.size zc3 _ rfl f12.range Tryd.underlying53 rfl HIV.out) rfl ?_
    have hl:=HLTS.out
    have h3:=HR3.out
    rw [if_pos HNG.out] at h3
    rw [← h3]
    exact ⟨0,0,none,0,0,rfl,tr_z0 _ _,HE5.out.cn.only o12 (by omega),HE5.out.cu.only o12 (by omega),HF5.out.only o12 HSW.out (.inr (.inr (Nat.le_refl _)))⟩
   ·obtain ⟨M,rfl⟩:=Int.eq_ofNat_of_zero_le (show 0 ≤ cc by omega)
    have HR4:Hid (dzL (dz zs f) a b M [] q (c + 1) = R2):=Lib.hid (by have h:=HR3.out;rw [if_neg hneg,Int.toNat_natCast] at h;exact h)
    have hM64:(M:Int) ≤ 9223372036854775807:=HDR.out.2.2.2
    clear HR3 hneg
    go_upto_region 16 with fail
    have b11:=new_later wr (.cells #[.int .i64 a,.int .i64 b,.slice none 0 0] 53)
    have A11:Arr (wr.alloc (.cells #[.int .i64 a,.int .i64 b,.slice none 0 0] 53)) wr.heap.size 3 53 [.int .i64 a,.int .i64 b,.slice none 0 0]:=Arr.new' wr _ _ 3 _ rfl rfl (by decide)
    have hsz11:(wr.alloc (.cells #[.int .i64 a,.int .i64 b,.slice none 0 0] 53)).heap.size = wr.heap.size + 1:=by simp
    have k2':=(HA5.out.later b11).cell (j:=2) (v:=.int .i64 (M:Int)) rfl
    generalize wr.alloc (.cells #[.int .i64 a,.int .i64 b,.slice none 0 0] 53) = w5 at b11 A11 hsz11 k2' ⊢
    have HE6:=Lib.hid (HE5.out.later b11)
    have HF6:=Lib.hid (HF5.out.more (b11.mono HF5.out.1.size) HSW.out)
    have HX6:=Lib.hid (HX5.out.later b11)
    have HA11:=Lib.hid A11
    have HSZ:=Lib.hid hsz11
    have hWr:W.heap.size < wr.heap.size:=HX5.out.lt
    clear k0 k1 k2 b11 A11 hsz11
    generalize hg11:wr.heap.size = g11 at HA11 HSZ hWr L5 ⊢
    generalize hBB:w5.heap.size = BB at HSZ
    have HBB:=Lib.hid hBB
    clear hg11 hBB
    go_wp2_with fail
    clear k2'
    go_loopw [54] (fun ii W' => ∃ (j c' q':Nat) (v:Value) (acc:List Tr),j ≤ M ∧ ii = .int .i64 (j:Int) ∧ acc.length = j ∧ j ≤ c' ∧ c' ≤ 256 ∧ q' ≤ m ∧ DEnv W0 W' gm gb gu gf gn q' c' A m cap ∧ Arr W' W.heap.size 3 53 zc3 ∧ Arr W' g11 3 53 [.int .i64 a,.int .i64 b,v] ∧ Fr2 W0.heap.size gn gu W W' ∧ Grow W' BB v acc ∧ BB ≤ W'.heap.size ∧ Hid (dzL (dz zs f) a b (M - j) acc q' c' = R2)) (fun ii _ => M - (intOf ii).toNat)
    case atStart => exact ⟨0,c + 1,q,_,[],by omega,rfl,rfl,by omega,by have:=HCD.out.1;omega,HQ.out,HE6.out,HX6.out,HA11.out,HF6.out,Grow.nil _ _,by rw [HBB.out];exact Nat.le_refl _,Lib.hid (by rw [Nat.sub_zero];exact HR4.out)⟩
    case round =>
     obtain ⟨j,c',q',v,acc,hj,rfl,hacc,hjc,hc',hq',E7,X7,A7,F7,G7,hB7,HRJ⟩:=hrel
     have hj0:(0:Int) ≤ (j:Int):=by omega
     have hjm:(j:Int) + 1 ≤ 9223372036854775807:=by omega
     by_cases hlt:j < M
     ·have hji:(j:Int) < (M:Int):=by omega
      have hrj:=HRJ.out
      rw [show M - j = (M - (j + 1)) + 1 from by omega,dzL] at hrj
      have hcf7:=E7.cf
      have HIJ:Hid (∀ W',DEnv W0 W' gm gb gu gf gn q' c' A m cap → Calls Tryd.prog 68 #[.int .i64 ((d:Int) + 1),.pointer (some ⟨gm,0,none⟩),.pointer (some ⟨gb,0,none⟩),.pointer (some ⟨gu,0,none⟩),.pointer (some ⟨gf,0,none⟩)] W' (DRes W0.heap.size gn gu (dz zs f q' c').1 (dz zs f q' c').2.1 (dz zs f q' c').2.2.1 (dz zs f q' c').2.2.2 W')):=Lib.hid fun W' h1 => by
       rw [show ((d:Int) + 1) = (((d + 1:Nat)):Int) from by omega]
       exact ih.out q' c' W' hq' hc' h1
      have HPV:=Lib.hid (dz_ok zs f q' c' (by rw [HZS.out];exact hq') hc')
      have HRR:=Lib.hid hrj
      obtain ⟨⟨er,x,q2,c2⟩,hpv⟩:∃ bc,dz zs f q' c' = bc:=⟨_,rfl⟩
      rw [hpv] at HIJ HPV HRR
      replace HIJ:Hid (∀ W',DEnv W0 W' gm gb gu gf gn q' c' A m cap → Calls Tryd.prog 68 #[.int .i64 ((d:Int) + 1),.pointer (some ⟨gm,0,none⟩),.pointer (some ⟨gb,0,none⟩),.pointer (some ⟨gu,0,none⟩),.pointer (some ⟨gf,0,none⟩)] W' (DRes W0.heap.size gn gu er x q2 c2 W')):=HIJ
      replace HPV:Hid (q2 ≤ zs.length ∧ c2 ≤ 256 ∧ c' ≤ c2 ∧ (er = 0 → c' + 1 ≤ c2)):=HPV
      replace HRR:Hid (if er = 0 then dzL (dz zs f) a b (M - (j + 1)) (acc ++ [x]) q2 c2 = R2 else (er,z0,q2,c2) = R2):=Lib.hid (by
       have h:=HRR.out
       by_cases he:er = 0
       ·rw [if_pos he];rw [if_pos he] at h;exact h
       ·rw [if_neg he];rw [if_neg he] at h;exact h)
      have hd64:(d:Int) + 1 ≤ 9223372036854775807:=by have:=HCD.out.2;omega
      have hd0:(0:Int) ≤ (d:Int):=by omega
      have HE7:=Lib.hid E7
      have HF7:=Lib.hid F7
      have HX7:=Lib.hid X7
      have HA7:=Lib.hid A7
      have HG7:=Lib.hid G7
      have HLT:=Lib.hid hlt
      have HC':=Lib.hid hc'
      have HACC:=Lib.hid hacc
      have HB7:=Lib.hid hB7
      have HQ2:Hid (q2 ≤ m):=Lib.hid (by have h:=HPV.out.1;rwa [HZS.out] at h)
      clear hpv hrj ih E7 F7 X7 A7 G7 HRJ hlt hj hacc hq' hc'
      by_cases he:er = 0
      ·have HE0:=Lib.hid he
       clear he
       go_upto_region 19 with (first
        | (go_at_call 68;(with_reducible refine (HIJ.out _ HE7.out).mono ?_);rintro e w9 ⟨xk,xn,xA,xl,xc,rfl,hT9,hc9,hu9,hf9⟩;have HT9:=Lib.hid hT9;have HC9:=Lib.hid hc9;have HU9:=Lib.hid hu9;have HF9:=Lib.hid hf9;clear hT9 hc9 hu9 hf9))
       have hneq:(er != 0) = false:=by rw [bne_eq_false_iff_eq];exact HE0.out
       have b10:=new_later w9 (.cells #[.int .i64 xk,.int .i64 xn,.slice xA xl xc] 53)
       have A14:Arr (w9.alloc (.cells #[.int .i64 xk,.int .i64 xn,.slice xA xl xc] 53)) w9.heap.size 3 53 [.int .i64 xk,.int .i64 xn,.slice xA xl xc]:=Arr.new' w9 _ _ 3 _ rfl rfl (by decide)
       generalize w9.alloc (.cells #[.int .i64 xk,.int .i64 xn,.slice xA xl xc] 53) = w10 at b10 A14 ⊢
       have HF10:Hid (Fr2 W0.heap.size gn gu wr w10):=Lib.hid (HF9.out.more (b10.mono HF9.out.1.size) HE7.out.sz)
       have HE10:Hid (DEnv W0 w10 gm gb gu gf gn q2 c2 A m cap):=Lib.hid ((HE7.out.fr HF9.out HC9.out HU9.out).later b10)
       have hgg:=HG8.out
       have hg8:g8 < g11:=L5
       have hA10:Arr w10 g11 3 53 [.int .i64 a,.int .i64 b,v]:=HA7.out.fr2 HF10.out (by omega) (by omega)
       have hszz:=HSZ.out
       have HG10:Hid (Grow w10 BB v acc):=Lib.hid (HG7.out.keep fun k hk hl => HF10.out.2 k (by omega) (by omega) hl)
       have HT10:Hid (TrF (fun g => BB ≤ g ∧ v.ownBlock ≠ some g) w10 x (.agg ([.int .i64 xk,.int .i64 xn,.slice xA xl xc]:List Value).toArray)):=Lib.hid (by
        have hb6:=HB7.out
        have h1:=TrF.both HT9.out HT9.out.at_.old
        obtain ⟨L,hown,_⟩:=HG7.out
        exact h1.keep (fun k hk => ⟨by have:=hk.1;omega,fun hv => by have h:=(hown.lt k hv).2;have:=hk.1;omega⟩) (fun k hk _ => b10.block k hk.2))
       have hB10:BB ≤ w10.heap.size:=Nat.le_trans HB7.out HF10.out.1.size
       have hal:acc.length + 1 ≤ 1000000000000:=by have:=HACC.out;have:=HC'.out;omega
       have x0:=A14.cell (j:=0) (v:=.int .i64 xk) rfl
       have x1:=A14.cell (j:=1) (v:=.int .i64 xn) rfl
       have x2:=A14.cell (j:=2) (v:=.slice xA xl xc) rfl
       have hv11:=hA10.cell (j:=2) (v:=v) rfl
       have HA10:=Lib.hid hA10
       have HB10:=Lib.hid hB10
       have HAL:=Lib.hid hal
       clear b10 A14 hA10 hB10 hal hcf7 HIJ
       have HLT11:Hid (g11 < BB):=Lib.hid (by omega)
       go_wp2_with (first
        | (at_builtin;refine wpList_putT (C:=[.int .i64 xk,.int .i64 xn,.slice xA xl xc]) rfl HG10.out HT10.out HB10.out HAL.out rfl _ _ rfl rfl rfl ?_;intro gN capN w11 hG11 hb11;have HG11:=Lib.hid hG11;have HB11:=Lib.hid hb11;have hA11:=HA10.out.below hb11 HLT11.out;have hc112:=hA11.cell (j:=2) (v:=v) rfl;have hf112:=hA11.free 2;have HA11':=Lib.hid hA11;clear hG11 hb11 hA11 hv11 x0 x1 x2))
       have HAC:Hid ((acc ++ [x]).length = j + 1):=Lib.hid (by simp [HACC.out])
       have HZ:Hid (dzL (dz zs f) a b (M - (j + 1)) (acc ++ [x]) q2 c2 = R2):=Lib.hid (by have h:=HRR.out;rw [if_pos HE0.out] at h;exact h)
       have hgW:W.heap.size ≤ g11:=by omega
       have hgB:=HLT11.out
       have hWB:W.heap.size ≤ BB:=by omega
       have hW0B:W0.heap.size ≤ W.heap.size:=HSW.out
       have E11:DEnv W0 w11 gm gb gu gf gn q2 c2 A m cap:=HE10.out.keep (S:=W.heap.size) HLTS.out (fun k hk => HB11.out.block k (by omega)) (HE10.out.bl.trans (HB11.out.mono (by omega)))
       have HE12:Hid (DEnv W0 (w11.setCell ⟨g11,2,none⟩ (.slice (some ⟨gN,0,none⟩) (acc.length + 1) capN)) gm gb gu gf gn q2 c2 A m cap):=Lib.hid (E11.keep (S:=W.heap.size) HLTS.out (fun k hk => Below.heap_setCell _ _ _ _ (by simp;omega)) (E11.bl.setCell (p:=⟨g11,2,none⟩) (by show W0.heap.size ≤ g11;omega) _))
       have HX12:Hid (Arr (w11.setCell ⟨g11,2,none⟩ (.slice (some ⟨gN,0,none⟩) (acc.length + 1) capN)) W.heap.size 3 53 zc3):=Lib.hid (((HX7.out.fr2 HF10.out (by have:=HLTS.out;omega) (by have:=HLTS.out;omega)).below HB11.out (by omega)).other (by omega) _)
       have HA12:Hid (Arr (w11.setCell ⟨g11,2,none⟩ (.slice (some ⟨gN,0,none⟩) (acc.length + 1) capN)) g11 3 53 [.int .i64 a,.int .i64 b,.slice (some ⟨gN,0,none⟩) (acc.length + 1) capN]):=Lib.hid (HA11'.out.set_ 2 _)
       have HF12:Hid (Fr2 W0.heap.size gn gu W (w11.setCell ⟨g11,2,none⟩ (.slice (some ⟨gN,0,none⟩) (acc.length + 1) capN))):=Lib.hid (((HF7.out.trans HF10.out).more (HB11.out.mono hWB) hW0B).set (by omega) (.inr (.inr hgW)) _)
       have HG12:Hid (Grow (w11.setCell ⟨g11,2,none⟩ (.slice (some ⟨gN,0,none⟩) (acc.length + 1) capN)) BB (.slice (some ⟨gN,0,none⟩) (acc.length + 1) capN) (acc ++ [x])):=Lib.hid (HG11.out.keep fun k hk hl => Below.heap_setCell _ _ _ _ (by simp;omega))
       have HB12:Hid (BB ≤ (w11.setCell ⟨g11,2,none⟩ (.slice (some ⟨gN,0,none⟩) (acc.length + 1) capN)).heap.size):=Lib.hid (by rw [World.size_setCell];exact Nat.le_trans HB10.out HB11.out.size)
       have hlt':=HLT.out
       exact ⟨⟨_,_,_,_,_,_,_,_,_,_,_,_,_,_,_,_,_,_,_,_,_,_,_,⟨j + 1,c2,q2,_,acc ++ [x],hlt',by go_num,HAC.out,by have:=HPV.out.2.2.2 HE0.out;omega,HPV.out.2.1,HQ2.out,HE12.out,HX12.out,HA12.out,HF12.out,HG12.out,HB12.out,HZ⟩,rfl⟩,by simp [intOf];omega⟩
      ·have HE0:=Lib.hid he
       clear he
       go_upto_region 19 with (first
        | (go_at_call 68;(with_reducible refine (HIJ.out _ HE7.out).mono ?_);rintro e w9 ⟨xk,xn,xA,xl,xc,rfl,hT9,hc9,hu9,hf9⟩;have HC9:=Lib.hid hc9;have HU9:=Lib.hid hu9;have HF9:=Lib.hid hf9;clear hT9 hc9 hu9 hf9))
       have hneq:(er != 0) = true:=by rw [bne_iff_ne];exact HE0.out
       have b10:=new_later w9 (.cells #[.int .i64 xk,.int .i64 xn,.slice xA xl xc] 53)
       generalize w9.alloc (.cells #[.int .i64 xk,.int .i64 xn,.slice xA xl xc] 53) = w10 at b10 ⊢
       have HF10:Hid (Fr2 W0.heap.size gn gu wr w10):=Lib.hid (HF9.out.more (b10.mono HF9.out.1.size) HE7.out.sz)
       have HX10:=Lib.hid (HX7.out.fr2 HF10.out (by have:=HLTS.out;omega) (by have:=HLTS.out;omega))
       have HC10:=Lib.hid (HC9.out.later b10)
       have HU10:=Lib.hid (HU9.out.later b10)
       have HZ:Hid ((er,z0,q2,c2) = R2):=Lib.hid (by have h:=HRR.out;rw [if_neg HE0.out] at h;exact h)
       clear b10 hcf7 HIJ
       go_wp2_with (refine wpList_store_arr rfl _ (.tmp 6) (.tmp 65) rfl W.heap.size 0 3 53 _ zc3 zc3 rfl rfl rfl HX10.out (by decide) HIV.out zc3_one ?_;intro w12 f12 o12)
       rw [setAll_all _ _ rfl] at f12
       refine bodyPost_ret (results_cellB rfl _ _ W.heap.size zc3 _ rfl f12.range Tryd.underlying53 rfl HIV.out) rfl ?_
       rw [← HZ.out]
       have hl:=HLTS.out
       exact ⟨0,0,none,0,0,rfl,tr_z0 _ _,HC10.out.only o12 (by omega),HU10.out.only o12 (by omega),(HF7.out.trans HF10.out).only o12 HSW.out (.inr (.inr (Nat.le_refl _)))⟩
     ·obtain rfl:j = M:=by omega
      have hz:=HRJ.out
      rw [Nat.sub_self,dzL] at hz
      have HZ:=Lib.hid hz
      obtain ⟨VA,vcap,hvs,_,_⟩:=G7.shape
      subst hvs
      obtain ⟨hvl,hTV⟩:=G7.tree a b HDR.out.1 HDR.out.2.1
      have HTV:=Lib.hid hTV
      generalize acc.length = al at hvl A7 HTV
      have x0:=A7.cell (j:=0) (v:=.int .i64 a) rfl
      have x1:=A7.cell (j:=1) (v:=.int .i64 b) rfl
      have x2:=A7.cell (j:=2) (v:=.slice VA al vcap) rfl
      have HX7:=Lib.hid X7
      have HE7:=Lib.hid E7
      have HF7:=Lib.hid F7
      have HI3:Hid ((Tryd.prog.info? 53).map (·.size) = some ([.int .i64 a,.int .i64 b,.slice VA al vcap]:List Value).length):=Lib.hid info_val
      have HO3:Hid (∀ v ∈ ([.int .i64 a,.int .i64 b,.slice VA al vcap]:List Value),v.oneCell' = true):=Lib.hid (by intro v hv;simp at hv;rcases hv with rfl | rfl | rfl <;> rfl)
      have hBW:W.heap.size + 2 ≤ BB:=by have:=HSZ.out;omega
      clear hz HRJ hlt G7 hvl hTV A7 X7 E7 F7 hacc hjc hj
      go_wp2_with (refine wpList_store_arr rfl _ (.tmp 6) (.tmp 74) rfl W.heap.size 0 3 53 _ [.int .i64 a,.int .i64 b,.slice VA al vcap] zc3 rfl rfl rfl HX7.out (show 0 + 3 ≤ 3 by omega) HI3.out HO3.out ?_;intro w12 f12 o12)
      rw [setAll_all zc3 [.int .i64 a,.int .i64 b,.slice VA al vcap] rfl] at f12
      refine bodyPost_ret (results_cellB rfl _ _ W.heap.size [.int .i64 a,.int .i64 b,.slice VA al vcap] _ rfl f12.range Tryd.underlying53 rfl HI3.out) rfl ?_
      rw [← HZ.out]
      have hl:=HLTS.out
      exact ⟨_,_,_,_,_,rfl,HTV.out.keep (fun k hk => by omega) (fun k hk _ => o12.2 k (by omega)),HE7.out.cn.only o12 (by omega),HE7.out.cu.only o12 (by omega),HF7.out.only o12 HSW.out (.inr (.inr (Nat.le_refl _)))⟩
theorem dclo_any (zs:List Nat) (W0:World) (gm gb gu gf gn m cap:Nat) (A:Option Addr) (hzs:zs.length = m) (hall:∀ b ∈ zs,b < 256) (hcap:m ≤ cap ∧ cap ≤ maxLen) (hrd:Rd W0 W0.heap.size A (bs zs)):∀ (f d p c:Nat) (W:World),d + f = 25 → p ≤ m → c ≤ 256 → DEnv W0 W gm gb gu gf gn p c A m cap →
  Calls Tryd.prog 68 #[.int .i64 (d:Int),.pointer (some ⟨gm,0,none⟩),.pointer (some ⟨gb,0,none⟩),.pointer (some ⟨gu,0,none⟩),.pointer (some ⟨gf,0,none⟩)] W (DRes W0.heap.size gn gu (dz zs f p c).1 (dz zs f p c).2.1 (dz zs f p c).2.2.1 (dz zs f p c).2.2.2 W)
 | 0,d,p,c,W,hd,hp,hc,hE => dclo_A zs W0 W gm gb gu gf gn p c d m cap A hzs hall hcap hrd hp hE (.inr (by omega))
 | f + 1,d,p,c,W,hd,hp,hc,hE => by
  by_cases h:c = 256
  ·rw [dz_form,if_pos h]
   exact dclo_A zs W0 W gm gb gu gf gn p c d m cap A hzs hall hcap hrd hp hE (.inl h)
  ·exact dclo_B zs W0 W gm gb gu gf gn p c d m cap A hzs hall hcap hrd hp hE ⟨by omega,by omega⟩ f (Lib.hid fun p' c' W' hp' hc' hE' => dclo_any zs W0 gm gb gu gf gn m cap A hzs hall hcap hrd f (d + 1) p' c' W' (by omega) hp' hc' hE')
end Go.Proofs.YtmfihlcibephlaaDoor
