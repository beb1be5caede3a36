import Derived.Test.YtmfihlcibephlaaDoorZ04
set_option linter.unusedVariables false
set_option linter.unusedSimpArgs false
namespace Go.Proofs.YtmfihlcibephlaaDoor
open Go.RowKit
theorem results_one {P:Program} {fn:Func} {p:Tmp} {ty:TypeId} (h:fn.results = #[.cell p ty]) (tmps:Array Value) (w:World) (g:Nat) (cs:List Value) (d:TypeDesc)
  (hp:tmps.getD p undef = .pointer (some ⟨g,0,none⟩)) (hg:w.rangeAt g 0 cs)
  (hu:P.underlying ty = some d) (hd:d.isRow = true) (hi:(P.info? ty).map (·.size) = some cs.length) :
  (results fn tmps).run P w = .ok (.agg cs.toArray) w:=by
 have hp':tmps[p]?.getD undef = .pointer (some ⟨g,0,none⟩):=by simpa using hp
 simp [results,h,hp',asAddr,run_loadVar_mid w g 0 ty cs d hg hu hd hi]
def z5:List Value:=[.int .i64 0,.int .i64 0,.int .i64 0,.int .i64 0,.slice none 0 0]
theorem slot_ty {w:World} {A:Option Addr} {len cap:Nat} {L:List Sl} {j:Nat} {x:Sl} (h:SlsAt w (.slice A len cap) L) (hx:L[j]? = some x) :
  ∃ g o C,A = some ⟨g,o,none⟩ ∧ Hid (w.rangeAt g (o + j * 11 + 4) C) ∧ Hid (TyAt w x.ty (.agg C.toArray)) ∧ Hid (C.length = 5) ∧ Hid ((Tryd.prog.info? 31).map (·.size) = some C.length) ∧ Hid (∀ v ∈ C,v.oneCell' = true):=by
 obtain ⟨A',cap',hv,_,hL⟩:=h
 cases hv
 obtain ⟨g,o,C,hA,hr,hs⟩:=hL j x hx
 obtain ⟨T,rfl,h5,hT⟩:=hs
 obtain ⟨k',s',q',i',B,len',cp,hsh⟩:=hT.shape
 have hT':T = t5 k' s' q' i' B len' cp:=by simpa using hsh
 subst hT'
 refine ⟨g,o,_,hA,Lib.hid fun n v hv => ?_,Lib.hid hT,Lib.hid rfl,Lib.hid info_type,Lib.hid (by intro v hv;simp [t5] at hv;rcases hv with rfl | rfl | rfl | rfl | rfl <;> rfl)⟩
 have hn:n < 5:=(List.getElem?_eq_some_iff.1 hv).1
 have:=hr (4 + n) v (by rw [List.append_assoc,List.getElem?_append_right (by simp),List.getElem?_append_left (by simp [t5];omega)];simpa using hv)
 rwa [show o + j * 11 + (4 + n) = o + j * 11 + 4 + n by omega] at this
def TyRes (W0:World) (t:Ty) (w:World) (e:Ending) (w':World):Prop:=∃ C:List Value,e = .returned (.agg C.toArray) ∧ C.length = 5 ∧ TyAt W0 t (.agg C.toArray) ∧ Below w.heap.size w w'
set_option maxHeartbeats 4000000 in
set_option maxRecDepth 100000 in
theorem kidType_any (t:Ty) (sl:List Sl) (k n:Int) (j len:Nat) (A:Option Addr) (cap:Nat) (W0 w:World) (tv sv:Value) (ht:TyAt W0 t tv) (hs:SlsAt W0 sv sl) (hb:Below W0.heap.size W0 w) (hj:(j:Int) ≤ 9223372036854775807)
  (h2:k = 2 → j < sl.length) (h3:k = 3 → 0 ≤ n ∧ n < (sl.length:Int)) (h4:k ≠ 2 → k ≠ 3 → t.kids ≠ []) :
  Calls Tryd.prog 58 #[tv,sv,.agg (c3 k n A len cap).toArray,.int .i64 (j:Int)] w (TyRes W0 (kty t sl k n j) w):=by
 obtain ⟨kt,s,q,i,B,ln,cp,rfl⟩:=ht.shape
 have hs':=hs
 obtain ⟨SA,scap,rfl,hm,hL⟩:=hs
 obtain ⟨sn,hsn⟩:∃ sn,sl.length = sn:=⟨_,rfl⟩
 rw [hsn] at h2 h3 hm hs' ⊢
 have P0:=t5_new w kt s q i B ln cp
 have V0':=new_later w (.cells (t5 kt s q i B ln cp).toArray 31)
 have Q0:=c3_new (w.alloc (.cells (t5 kt s q i B ln cp).toArray 31)) k n A len cap
 have P1:=P0.later (new_later _ (.cells (c3 k n A len cap).toArray 53))
 have V1:=later V0' (new_later _ (.cells (c3 k n A len cap).toArray 53))
 rw [World.size_alloc] at Q0
 clear P0 V0'
 have R0:=Arr.new' ((w.alloc (.cells (t5 kt s q i B ln cp).toArray 31)).alloc (.cells (c3 k n A len cap).toArray 53)) 31 #[.int .i64 0,.int .i64 0,.int .i64 0,.int .i64 0,.slice none 0 0] 5 z5 rfl rfl (by decide)
 have R1:=new_later ((w.alloc (.cells (t5 kt s q i B ln cp).toArray 31)).alloc (.cells (c3 k n A len cap).toArray 53)) (.cells #[.int .i64 0,.int .i64 0,.int .i64 0,.int .i64 0,.slice none 0 0] 31)
 rw [World.size_alloc,World.size_alloc] at R0
 replace P1:=P1.later R1
 replace Q0:=Q0.later R1
 replace V1:=later V1 R1
 clear R1
 generalize hW:((w.alloc (.cells (t5 kt s q i B ln cp).toArray 31)).alloc (.cells (c3 k n A len cap).toArray 53)).alloc (.cells #[.int .i64 0,.int .i64 0,.int .i64 0,.int .i64 0,.slice none 0 0] 31) = wa at P1 V1 Q0 R0
 have x0:=Q0.cell (j:=0) (v:=.int .i64 k) rfl
 have x1:=Q0.cell (j:=1) (v:=.int .i64 n) rfl
 have y4:=P1.cell (j:=4) (v:=.slice B ln cp) rfl
 have HVV:=Lib.hid V1
 have HB:=Lib.hid hb
 have HR:=Lib.hid R0
 have hj0:(0:Int) ≤ (j:Int):=by omega
 have HS:=Lib.hid hs'
 have HSN:=Lib.hid hsn
 have HT:=Lib.hid ht
 clear P1 V1 Q0 hb hL R0 hs' hsn ht
 by_cases hk2:k = 2
 ·have hjl:=h2 hk2
  have HKT:Hid (∀ x,sl[j]? = some x → kty t sl k n j = x.ty):=Lib.hid fun x hx => by unfold kty;rw [if_pos hk2,hx];rfl
  have hk:=hk2
  clear hk2 h2 h3 h4 y4 x1
  obtain ⟨x,hx⟩:∃ x,sl[j]? = some x:=⟨_,List.getElem?_eq_getElem (by rw [HSN.out];exact hjl)⟩
  obtain ⟨g,o,C,hA,HRg,HTx,HC5,HI5,HOC⟩:=slot_ty HS.out hx
  subst hA
  rw [HKT.out x hx]
  have HRb:=Lib.hid (range_below HRg.out (later HB.out HVV.out))
  have hji:(j:Int) < (sn:Int):=by omega
  clear hx hjl HKT
  subst hk
  go_enter Tryd.func58,Tryd.ntmps58
  go_upto_region 1 with fail
  clear hW
  go_wp2_with (first
   | (with_reducible refine wpList_load_mid rfl _ (.tmp 16) rfl g (o + j * 11 + 4) rfl C _ HRb.out Tryd.underlying31 rfl HI5.out ?_)
   | (refine wpList_store_arr rfl _ (.tmp 8) (.tmp 17) rfl (w.heap.size + 1 + 1) 0 5 31 _ C z5 rfl rfl rfl HR.out (by rw [HC5.out];omega) HI5.out HOC.out ?_;intro w7 f7 o7))
  rw [setAll_all _ _ (by rw [HC5.out];rfl)] at f7
  exact bodyPost_ret (results_one rfl _ _ (w.heap.size + 1 + 1) C _ rfl f7.range Tryd.underlying31 rfl HI5.out) rfl ⟨C,rfl,HC5.out,HTx.out,HVV.out.trans (o7.bel.mono (by omega))⟩
 by_cases hk3:k = 3
 ·obtain ⟨hn0,hn1⟩:=h3 hk3
  obtain ⟨m,rfl⟩:=Int.eq_ofNat_of_zero_le hn0
  have hml:m < sn:=by omega
  have HKT:Hid (∀ x,sl[m]? = some x → kty t sl k (m:Int) j = x.ty):=Lib.hid fun x hx => by unfold kty;rw [if_neg hk2,if_pos hk3,Int.toNat_natCast,hx];rfl
  have hk:=hk3
  clear hk2 hk3 h2 h3 h4 y4 hj0
  obtain ⟨x,hx⟩:∃ x,sl[m]? = some x:=⟨_,List.getElem?_eq_getElem (by rw [HSN.out];exact hml)⟩
  obtain ⟨g,o,C,hA,HRg,HTx,HC5,HI5,HOC⟩:=slot_ty HS.out hx
  subst hA
  rw [HKT.out x hx]
  have HRb:=Lib.hid (range_below HRg.out (later HB.out HVV.out))
  clear hx hml HKT
  subst hk
  go_enter Tryd.func58,Tryd.ntmps58
  go_upto_region 1 with fail
  clear hW
  go_wp2_with (first
   | (with_reducible refine wpList_load_mid rfl _ (.tmp 24) rfl g (o + m * 11 + 4) rfl C _ HRb.out Tryd.underlying31 rfl HI5.out ?_)
   | (refine wpList_store_arr rfl _ (.tmp 8) (.tmp 25) rfl (w.heap.size + 1 + 1) 0 5 31 _ C z5 rfl rfl rfl HR.out (by rw [HC5.out];omega) HI5.out HOC.out ?_;intro w7 f7 o7))
  rw [setAll_all _ _ (by rw [HC5.out];rfl)] at f7
  exact bodyPost_ret (results_one rfl _ _ (w.heap.size + 1 + 1) C _ rfl f7.range Tryd.underlying31 rfl HI5.out) rfl ⟨C,rfl,HC5.out,HTx.out,HVV.out.trans (o7.bel.mono (by omega))⟩
 ·have h5:=h4 hk2 hk3
  have hkb2:(k == 2) = false:=by rw [beq_eq_false_iff_ne];exact hk2
  have hkb3:(k == 3) = false:=by rw [beq_eq_false_iff_ne];exact hk3
  cases t with
  | node kt' s' q' i' ks =>
  cases ks with
  | nil => exact absurd rfl h5
  | cons x xs =>
   have hT:=HT.out
   unfold TyAt at hT
   obtain ⟨B',cp',hv,hm',hks⟩:=hT
   have hv':t5 kt s q i B ln cp = t5 kt' s' q' i' B' (x :: xs).length cp':=by simpa using hv
   simp only [t5,List.cons.injEq,Value.int.injEq,Value.slice.injEq,true_and,and_true] at hv'
   obtain ⟨rfl,rfl,rfl,rfl,rfl,rfl,rfl⟩:=hv'
   obtain ⟨g,o,C,hA,HRg,HTx,HC5,HI5,HOC⟩:=tkid_at hks (j:=0) (x:=x) rfl
   subst hA
   have HKT:Hid (kty (.node kt s q i (x :: xs)) sl k n j = x):=Lib.hid (by unfold kty;rw [if_neg hk2,if_neg hk3];rfl)
   rw [HKT.out]
   have HRb:Hid (wa.rangeAt g o C):=Lib.hid (by have h:=range_below HRg.out (later HB.out HVV.out);simpa using h)
   have hli:(0:Int) < ((x :: xs).length:Int):=by simp only [List.length_cons];omega
   have hln:0 < (x :: xs).length:=by simp
   generalize (x :: xs).length = ll at hli hln y4 hW
   clear hk2 hk3 h2 h3 h4 h5 HKT hv hks HRg
   go_enter Tryd.func58,Tryd.ntmps58
   go_upto_region 1 with fail
   clear hW
   go_wp2_with (first
    | (with_reducible refine wpList_load_mid rfl _ (.tmp 28) rfl g o rfl C _ HRb.out Tryd.underlying31 rfl HI5.out ?_)
    | (refine wpList_store_arr rfl _ (.tmp 8) (.tmp 29) rfl (w.heap.size + 1 + 1) 0 5 31 _ C z5 rfl rfl rfl HR.out (by rw [HC5.out];omega) HI5.out HOC.out ?_;intro w7 f7 o7))
   rw [setAll_all _ _ (by rw [HC5.out];rfl)] at f7
   exact bodyPost_ret (results_one rfl _ _ (w.heap.size + 1 + 1) C _ rfl f7.range Tryd.underlying31 rfl HI5.out) rfl ⟨C,rfl,HC5.out,HTx.out,HVV.out.trans (o7.bel.mono (by omega))⟩
end Go.Proofs.YtmfihlcibephlaaDoor
namespace Go.Proofs.YtmfihlcibephlaaDoor
open Go.RowKit
set_option maxHeartbeats 4000000 in
set_option maxRecDepth 100000 in
theorem headFits_any (k n:Int) (len m:Nat) (A:Option Addr) (cap:Nat) (w:World) :
  Calls Tryd.prog 57 #[.agg (c3 k n A len cap).toArray,.int .i64 (m:Int)] w (BRes (hfit k n len m) w):=by
 have P1:=c3_new w k n A len cap
 have V1:=new_later w (.cells (c3 k n A len cap).toArray 53)
 generalize hW:w.alloc (.cells (c3 k n A len cap).toArray 53) = wa at P1 V1
 have x0:=P1.cell (j:=0) (v:=.int .i64 k) rfl
 have x1:=P1.cell (j:=1) (v:=.int .i64 n) rfl
 have x2:=P1.cell (j:=2) (v:=.slice A len cap) rfl
 clear P1
 have hl0:((len:Int) == 0) = decide (len = 0):=by rw [beq_int];exact decide_eq_decide.2 (by omega)
 have hl1:((len:Int) == 1) = decide (len = 1):=by rw [beq_int];exact decide_eq_decide.2 (by omega)
 have hlm:((len:Int) == (m:Int)) = decide (len = m):=by rw [beq_int];exact decide_eq_decide.2 (by omega)
 have hn0:(n == 0) = decide (n = 0):=beq_int n 0
 have hn1:(n == 1) = decide (n = 1):=beq_int n 1
 have hf0:∀ b c d e:Bool,decide (len = 0) = b → decide (-1099511627776 ≤ n) = c → decide (n ≤ 1099511627776) = d → hfit 0 n len m = (b && (c && d)):=fun b c d e h1 h2 h3 => by unfold hfit;rw [if_pos rfl,h1,h2,h3]
 by_cases hk0:k = 0
 ·have HZ:Hid (hfit k n len m = (decide (len = 0) && (decide (-1099511627776 ≤ n) && decide (n ≤ 1099511627776)))):=Lib.hid (by unfold hfit;rw [if_pos hk0])
  have hk:=hk0
  clear hk0 hf0 hl1 hlm hn0 hn1
  obtain ⟨Z,hZ⟩:∃ Z,hfit k n len m = Z:=⟨_,rfl⟩
  rw [hZ] at HZ ⊢
  clear hZ
  subst hk
  generalize decide (len = 0) = b at hl0 HZ
  by_cases hc:-1099511627776 ≤ n
  ·rw [decide_eq_true hc] at HZ
   by_cases hd:n ≤ 1099511627776
   ·rw [decide_eq_true hd] at HZ
    cases b
    all_goals
     go_enter Tryd.func57,Tryd.ntmps57
     go_upto_region 1 with fail
     clear hW
     go_wp2_with fail
     go_ret
     exact ⟨by rw [HZ.out];rfl,V1⟩
   ·rw [decide_eq_false hd] at HZ
    cases b
    all_goals
     go_enter Tryd.func57,Tryd.ntmps57
     go_upto_region 1 with fail
     clear hW
     go_wp2_with fail
     go_ret
     exact ⟨by rw [HZ.out];rfl,V1⟩
  ·rw [decide_eq_false hc] at HZ
   cases b
   all_goals
    go_enter Tryd.func57,Tryd.ntmps57
    go_upto_region 1 with fail
    clear hW
    go_wp2_with fail
    go_ret
    exact ⟨by rw [HZ.out];rfl,V1⟩
 by_cases hk1:k = 1
 ·have HZ:Hid (hfit k n len m = (decide (len = 0) && (decide (n = 0) || decide (n = 1)))):=Lib.hid (by unfold hfit;rw [if_neg hk0,if_pos hk1])
  have hk:=hk1
  clear hk0 hk1 hf0 hl1 hlm
  obtain ⟨Z,hZ⟩:∃ Z,hfit k n len m = Z:=⟨_,rfl⟩
  rw [hZ] at HZ ⊢
  clear hZ
  subst hk
  generalize decide (len = 0) = b at hl0 HZ
  generalize decide (n = 0) = c at hn0 HZ
  generalize decide (n = 1) = d at hn1 HZ
  cases b
  all_goals cases c
  all_goals cases d
  all_goals
   go_enter Tryd.func57,Tryd.ntmps57
   go_upto_region 1 with fail
   clear hW
   go_wp2_with fail
   go_ret
   exact ⟨by rw [HZ.out];rfl,V1⟩
 by_cases hk2:k = 2
 ·have HZ:Hid (hfit k n len m = (decide (len = m) && decide (n = 0))):=Lib.hid (by unfold hfit;rw [if_neg hk0,if_neg hk1,if_pos hk2])
  have hk:=hk2
  clear hk0 hk1 hk2 hf0 hl0 hl1 hn1
  obtain ⟨Z,hZ⟩:∃ Z,hfit k n len m = Z:=⟨_,rfl⟩
  rw [hZ] at HZ ⊢
  clear hZ
  subst hk
  generalize decide (len = m) = b at hlm HZ
  generalize decide (n = 0) = c at hn0 HZ
  cases b
  all_goals cases c
  all_goals
   go_enter Tryd.func57,Tryd.ntmps57
   go_upto_region 1 with fail
   clear hW
   go_wp2_with fail
   go_ret
   exact ⟨by rw [HZ.out];rfl,V1⟩
 by_cases hk3:k = 3
 ·have HZ:Hid (hfit k n len m = (decide (len = 1) && (decide (0 ≤ n) && decide (n < (m:Int))))):=Lib.hid (by unfold hfit;rw [if_neg hk0,if_neg hk1,if_neg hk2,if_pos hk3])
  have hk:=hk3
  clear hk0 hk1 hk2 hk3 hf0 hl0 hlm hn0 hn1
  obtain ⟨Z,hZ⟩:∃ Z,hfit k n len m = Z:=⟨_,rfl⟩
  rw [hZ] at HZ ⊢
  clear hZ
  subst hk
  generalize decide (len = 1) = b at hl1 HZ
  by_cases hc:0 ≤ n
  ·rw [decide_eq_true hc] at HZ
   by_cases hd:n < (m:Int)
   ·rw [decide_eq_true hd] at HZ
    cases b
    all_goals
     go_enter Tryd.func57,Tryd.ntmps57
     go_upto_region 1 with fail
     clear hW
     go_wp2_with fail
     go_ret
     exact ⟨by rw [HZ.out];rfl,V1⟩
   ·rw [decide_eq_false hd] at HZ
    cases b
    all_goals
     go_enter Tryd.func57,Tryd.ntmps57
     go_upto_region 1 with fail
     clear hW
     go_wp2_with fail
     go_ret
     exact ⟨by rw [HZ.out];rfl,V1⟩
  ·rw [decide_eq_false hc] at HZ
   cases b
   all_goals
    go_enter Tryd.func57,Tryd.ntmps57
    go_upto_region 1 with fail
    clear hW
    go_wp2_with fail
    go_ret
    exact ⟨by rw [HZ.out];rfl,V1⟩
 ·have HZ:Hid (hfit k n len m = decide (n = 0)):=Lib.hid (by unfold hfit;rw [if_neg hk0,if_neg hk1,if_neg hk2,if_neg hk3])
  have hkb0:(k == 0) = false:=by rw [beq_eq_false_iff_ne];exact hk0
  have hkb1:(k == 1) = false:=by rw [beq_eq_false_iff_ne];exact hk1
  have hkb2:(k == 2) = false:=by rw [beq_eq_false_iff_ne];exact hk2
  have hkb3:(k == 3) = false:=by rw [beq_eq_false_iff_ne];exact hk3
  clear hk0 hk1 hk2 hk3 hf0 hl0 hl1 hlm hn1
  obtain ⟨Z,hZ⟩:∃ Z,hfit k n len m = Z:=⟨_,rfl⟩
  rw [hZ] at HZ ⊢
  clear hZ
  generalize decide (n = 0) = c at hn0 HZ
  go_enter Tryd.func57,Tryd.ntmps57
  go_upto_region 1 with fail
  clear hW
  go_wp2_with fail
  go_ret
  exact ⟨by rw [HZ.out];rfl,V1⟩
end Go.Proofs.YtmfihlcibephlaaDoor
namespace Go.Proofs.YtmfihlcibephlaaDoor
open Go.RowKit
def fitsV (gp gm gf:Nat):Value:=.func (.func 55) #[] #[.pointer (some ⟨gp,0,none⟩),.pointer (some ⟨gm,0,none⟩),.pointer (some ⟨gf,0,none⟩)]
structure VEnv (W0 W:World) (gp gm gf gn c:Nat) (mv:Value) (A0:Option Addr) (n cap0:Nat):Prop where
 bl:Below W0.heap.size W0 W
 cp:Arr W gp 2 26 [mv,.slice A0 n cap0]
 cm:W.cell? ⟨gm,0,none⟩ = some (moreV gn)
 cf:W.cell? ⟨gf,0,none⟩ = some (fitsV gp gm gf)
 cn:Cnt W gn c
 ng:W0.heap.size ≤ gn
 np:gp ≠ gn
 nm:gm ≠ gn
 nf:gf ≠ gn
theorem VEnv.fr {W0 W W':World} {gp gm gf gn c c':Nat} {mv:Value} {A0:Option Addr} {n cap0:Nat} (e:VEnv W0 W gp gm gf gn c mv A0 n cap0) (f:Fr gn W W') (h:Cnt W' gn c'):VEnv W0 W' gp gm gf gn c' mv A0 n cap0 :=
 ⟨e.bl.trans (f.1.mono e.ng),e.cp.fr f e.np,f.cell e.nm e.cm,f.cell e.nf e.cf,h,e.ng,e.np,e.nm,e.nf⟩
theorem Cnt.later {W W':World} {gn c:Nat} (h:Cnt W gn c) (hb:Below W.heap.size W W'):Cnt W' gn c:=Arr.later h hb
theorem Cnt.lt {W:World} {gn c:Nat} (h:Cnt W gn c):gn < W.heap.size:=Arr.lt h
theorem VEnv.later {W0 W W':World} {gp gm gf gn c:Nat} {mv:Value} {A0:Option Addr} {n cap0:Nat} (e:VEnv W0 W gp gm gf gn c mv A0 n cap0) (h:Below W.heap.size W W'):VEnv W0 W' gp gm gf gn c mv A0 n cap0 :=
 e.fr (Fr.of_below h (Nat.le_of_lt e.cn.lt)) (e.cn.later h)
theorem VEnv.kv {W0 W:World} {gp gm gf gn c:Nat} {mv:Value} {A0:Option Addr} {n cap0:Nat} (e:VEnv W0 W gp gm gf gn c mv A0 n cap0) (h:Kv W0):Kv W:=h.later e.bl
def VRes (gn:Nat) (b:Bool) (c:Nat) (W:World) (e:Ending) (w':World):Prop:=e = .returned (.bool b) ∧ Cnt w' gn c ∧ Fr gn W w'
theorem kty_ok {P:List Df} {t:Ty} {k n:Int} {len j:Nat} (hv:vty P 24 t = true) (hk:k = shK P t) (hf:hfit k n len (shS P t).length = true) (hj:j < len) :
  (k = 2 → j < (shS P t).length) ∧ (k = 3 → 0 ≤ n ∧ n < ((shS P t).length:Int)) ∧ (k ≠ 2 → k ≠ 3 → t.kids ≠ []):=by
 refine ⟨fun h => ?_,fun h => ?_,fun h2 h3 => ?_⟩
 ·unfold hfit at hf
  rw [if_neg (by omega),if_neg (by omega),if_pos h] at hf
  simp only [Bool.and_eq_true,decide_eq_true_eq] at hf
  omega
 ·unfold hfit at hf
  rw [if_neg (by omega),if_neg (by omega),if_neg (by omega),if_pos h] at hf
  simp only [Bool.and_eq_true,decide_eq_true_eq] at hf
  exact hf.2
 ·cases t with
  | node kt s q i ks =>
   rcases vty_kind hv with ⟨rfl,_⟩ | ⟨rfl,_⟩ | ⟨rfl,x,rfl⟩ | ⟨rfl,_,dd,hd,hdk⟩
   ·have:k = 0:=hk
    subst this
    unfold hfit at hf;simp at hf;omega
   ·have:k = 1:=hk
    subst this
    unfold hfit at hf;simp at hf;omega
   ·simp [Ty.kids]
   ·have e:shK P (.node 3 s q i ks) = if dd.kind = 0 then 2 else 3:=shK_def rfl hd
    rw [e] at hk
    split at hk <;> omega
set_option maxHeartbeats 8000000 in
set_option maxRecDepth 100000 in
theorem vclo_A (P:List Df) (W0 W:World) (gp gm gf gn c d n cap0:Nat) (mv:Value) (A0 A:Option Addr) (k nn:Int) (len cap:Nat) (t:Ty) (kt s q i:Int) (B:Option Addr) (ln cp:Nat)
  (hP:PrAt W0 P (.agg #[mv,.slice A0 n cap0])) (hKv:Kv W0) (hE:VEnv W0 W gp gm gf gn c mv A0 n cap0) (ht:TyAt W0 t (.agg (t5 kt s q i B ln cp).toArray)) (hvt:vty P 24 t = false) :
  Calls Tryd.prog 55 #[.agg (t5 kt s q i B ln cp).toArray,.agg (c3 k nn A len cap).toArray,.int .i64 (d:Int),.pointer (some ⟨gp,0,none⟩),.pointer (some ⟨gm,0,none⟩),.pointer (some ⟨gf,0,none⟩)] W (VRes gn false c W):=by
 have HVT:Hid (∀ W',PrAt W' P (.agg #[mv,.slice A0 n cap0]) → TyAt W' t (.agg (t5 kt s q i B ln cp).toArray) → Calls Tryd.prog 16 #[.agg #[mv,.slice A0 n cap0],.agg #[.int .i64 kt,.int .i64 s,.int .i64 q,.int .i64 i,.slice B ln cp]] W' (BRes false W')):=Lib.hid fun W' h1 h2 => by rw [← hvt];exact validtype_any P t W' _ _ h1 h2
 have P0:=t5_new W kt s q i B ln cp
 have V0':=new_later W (.cells (t5 kt s q i B ln cp).toArray 31)
 have Q0:=c3_new (W.alloc (.cells (t5 kt s q i B ln cp).toArray 31)) k nn A len cap
 have P1:=P0.later (new_later _ (.cells (c3 k nn A len cap).toArray 53))
 have V1:=later V0' (new_later _ (.cells (c3 k nn A len cap).toArray 53))
 rw [World.size_alloc] at Q0
 clear P0 V0'
 generalize hW:(W.alloc (.cells (t5 kt s q i B ln cp).toArray 31)).alloc (.cells (c3 k nn A len cap).toArray 53) = wa at P1 V1 Q0
 have E1:=hE.later V1
 have F1:Fr gn W wa:=Fr.of_below V1 (Nat.le_of_lt hE.cn.lt)
 have hn1:W.heap.size ≠ gn:=by have:=hE.cn.lt;omega
 have hn2:W.heap.size + 1 ≠ gn:=by have:=hE.cn.lt;omega
 have hgl:gn ≤ W.heap.size:=Nat.le_of_lt hE.cn.lt
 have y0:=P1.cell (j:=0) (v:=.int .i64 kt) rfl
 have y1:=P1.cell (j:=1) (v:=.int .i64 s) rfl
 have y2:=P1.cell (j:=2) (v:=.int .i64 q) rfl
 have y3:=P1.cell (j:=3) (v:=.int .i64 i) rfl
 have y4:=P1.cell (j:=4) (v:=.slice B ln cp) rfl
 have z0:=E1.cp.cell (j:=0) (v:=mv) rfl
 have z1:=E1.cp.cell (j:=1) (v:=.slice A0 n cap0) rfl
 have HPA:=Lib.hid (hP.later E1.bl)
 have HTA:=Lib.hid (ht.later E1.bl)
 have HP:=Lib.hid hP
 have HT:=Lib.hid ht
 have HK:=Lib.hid hKv
 have HY:=Lib.hid P1
 have HX:=Lib.hid Q0
 have HE1:=Lib.hid E1
 have HF1:=Lib.hid F1
 clear hvt hP ht hKv hE P1 Q0 V1 E1 F1
 go_enter Tryd.func55,Tryd.ntmps55
 go_upto_region 1 with fail
 clear hW
 go_wp2_with (first
  | (go_at_call 16;(with_reducible refine (HVT.out _ HPA.out HTA.out).mono ?_);rintro e w2 ⟨rfl,hb2⟩;have E2:=HE1.out.later hb2;have F2:=HF1.out.trans (Fr.of_below hb2 (Nat.le_of_lt HE1.out.cn.lt))))
 go_ret
 exact ⟨rfl,E2.cn,F2⟩
set_option maxHeartbeats 8000000 in
set_option maxRecDepth 100000 in
theorem vclo_B (P:List Df) (W0 W:World) (gp gm gf gn c d n cap0:Nat) (mv:Value) (A0 A:Option Addr) (k nn:Int) (len cap:Nat) (t:Ty) (kt s q i:Int) (B:Option Addr) (ln cp:Nat)
  (hP:PrAt W0 P (.agg #[mv,.slice A0 n cap0])) (hKv:Kv W0) (hE:VEnv W0 W gp gm gf gn c mv A0 n cap0) (ht:TyAt W0 t (.agg (t5 kt s q i B ln cp).toArray)) (hvt:vty P 24 t = true) (hfc:c = 256 ∨ 24 < d) :
  Calls Tryd.prog 55 #[.agg (t5 kt s q i B ln cp).toArray,.agg (c3 k nn A len cap).toArray,.int .i64 (d:Int),.pointer (some ⟨gp,0,none⟩),.pointer (some ⟨gm,0,none⟩),.pointer (some ⟨gf,0,none⟩)] W (VRes gn false c W):=by
 have HFC:=Lib.hid hfc
 clear hfc
 have HVT:Hid (∀ W',PrAt W' P (.agg #[mv,.slice A0 n cap0]) → TyAt W' t (.agg (t5 kt s q i B ln cp).toArray) → Calls Tryd.prog 16 #[.agg #[mv,.slice A0 n cap0],.agg #[.int .i64 kt,.int .i64 s,.int .i64 q,.int .i64 i,.slice B ln cp]] W' (BRes true W')):=Lib.hid fun W' h1 h2 => by rw [← hvt];exact validtype_any P t W' _ _ h1 h2
 have P0:=t5_new W kt s q i B ln cp
 have V0':=new_later W (.cells (t5 kt s q i B ln cp).toArray 31)
 have Q0:=c3_new (W.alloc (.cells (t5 kt s q i B ln cp).toArray 31)) k nn A len cap
 have P1:=P0.later (new_later _ (.cells (c3 k nn A len cap).toArray 53))
 have V1:=later V0' (new_later _ (.cells (c3 k nn A len cap).toArray 53))
 rw [World.size_alloc] at Q0
 clear P0 V0'
 generalize hW:(W.alloc (.cells (t5 kt s q i B ln cp).toArray 31)).alloc (.cells (c3 k nn A len cap).toArray 53) = wa at P1 V1 Q0
 have E1:=hE.later V1
 have F1:Fr gn W wa:=Fr.of_below V1 (Nat.le_of_lt hE.cn.lt)
 have hn1:W.heap.size ≠ gn:=by have:=hE.cn.lt;omega
 have hn2:W.heap.size + 1 ≠ gn:=by have:=hE.cn.lt;omega
 have hgl:gn ≤ W.heap.size:=Nat.le_of_lt hE.cn.lt
 have y0:=P1.cell (j:=0) (v:=.int .i64 kt) rfl
 have y1:=P1.cell (j:=1) (v:=.int .i64 s) rfl
 have y2:=P1.cell (j:=2) (v:=.int .i64 q) rfl
 have y3:=P1.cell (j:=3) (v:=.int .i64 i) rfl
 have y4:=P1.cell (j:=4) (v:=.slice B ln cp) rfl
 have z0:=E1.cp.cell (j:=0) (v:=mv) rfl
 have z1:=E1.cp.cell (j:=1) (v:=.slice A0 n cap0) rfl
 have HPA:=Lib.hid (hP.later E1.bl)
 have HTA:=Lib.hid (ht.later E1.bl)
 have HP:=Lib.hid hP
 have HT:=Lib.hid ht
 have HK:=Lib.hid hKv
 have HY:=Lib.hid P1
 have HX:=Lib.hid Q0
 have HE1:=Lib.hid E1
 have HF1:=Lib.hid F1
 clear hvt hP ht hKv hE P1 Q0 V1 E1 F1
 go_enter Tryd.func55,Tryd.ntmps55
 go_upto_region 1 with fail
 clear hW
 go_wp2_with (first
  | (go_at_call 16;(with_reducible refine (HVT.out _ HPA.out HTA.out).mono ?_);rintro e w2 ⟨rfl,hb2⟩;have E2:=HE1.out.later hb2;have F2:=HF1.out.trans (Fr.of_below hb2 (Nat.le_of_lt HE1.out.cn.lt));have hcm:w2.cell? ⟨gm,0,none⟩ = some (.func (.func 80) #[] #[.pointer (some ⟨gn,0,none⟩)]):=E2.cm)
  | (go_at_call 80;(with_reducible refine (more_no gn c d _ E2.cn HFC.out).mono ?_);rintro e w3 ⟨rfl,hw⟩;subst hw))
 go_ret
 exact ⟨rfl,E2.cn,F2⟩
set_option maxHeartbeats 8000000 in
set_option maxRecDepth 100000 in
theorem vclo_C1 (P:List Df) (W0 W:World) (gp gm gf gn c d n cap0:Nat) (mv:Value) (A0 A:Option Addr) (k nn:Int) (len cap:Nat) (t:Ty) (kt s q i:Int) (B:Option Addr) (ln cp:Nat)
  (hP:PrAt W0 P (.agg #[mv,.slice A0 n cap0])) (hKv:Kv W0) (hE:VEnv W0 W gp gm gf gn c mv A0 n cap0) (ht:TyAt W0 t (.agg (t5 kt s q i B ln cp).toArray)) (hvt:vty P 24 t = true) (hcd:c < 256 ∧ d ≤ 24) (hkh:k ≠ shK P t) :
  Calls Tryd.prog 55 #[.agg (t5 kt s q i B ln cp).toArray,.agg (c3 k nn A len cap).toArray,.int .i64 (d:Int),.pointer (some ⟨gp,0,none⟩),.pointer (some ⟨gm,0,none⟩),.pointer (some ⟨gf,0,none⟩)] W (VRes gn false (c + 1) W):=by
 have HCD:=Lib.hid hcd
 clear hcd
 have HKH:=Lib.hid hkh
 clear hkh
 have HVT:Hid (∀ W',PrAt W' P (.agg #[mv,.slice A0 n cap0]) → TyAt W' t (.agg (t5 kt s q i B ln cp).toArray) → Calls Tryd.prog 16 #[.agg #[mv,.slice A0 n cap0],.agg #[.int .i64 kt,.int .i64 s,.int .i64 q,.int .i64 i,.slice B ln cp]] W' (BRes true W')):=Lib.hid fun W' h1 h2 => by rw [← hvt];exact validtype_any P t W' _ _ h1 h2
 have HSH:Hid (∀ W',Below W0.heap.size W0 W' → Kv W' → Calls Tryd.prog 56 #[.agg #[mv,.slice A0 n cap0],.agg #[.int .i64 kt,.int .i64 s,.int .i64 q,.int .i64 i,.slice B ln cp]] W' fun e w' => ∃ SA scap,e = .returned (.tuple #[.int .i64 (shK P t),.slice SA (shS P t).length scap]) ∧ SlsAt W0 (.slice SA (shS P t).length scap) (shS P t) ∧ Below W'.heap.size W' w'):=Lib.hid fun W' h1 h2 => (shape_any P t W0 W' _ _ hP ht h1 hvt h2).mono (by
  rintro e w' ⟨sv,rfl,hs,hb⟩
  have hs':=hs
  obtain ⟨SA,scap,rfl,_⟩:=hs
  exact ⟨SA,scap,rfl,hs',hb⟩)
 obtain ⟨K,hK⟩:∃ K,shK P t = K:=⟨_,rfl⟩
 rw [hK] at HSH HKH
 have hkb:(k != K) = true:=by rw [bne_iff_ne];exact HKH.out
 generalize (shS P t).length = sn at HSH
 clear hK
 have P0:=t5_new W kt s q i B ln cp
 have V0':=new_later W (.cells (t5 kt s q i B ln cp).toArray 31)
 have Q0:=c3_new (W.alloc (.cells (t5 kt s q i B ln cp).toArray 31)) k nn A len cap
 have P1:=P0.later (new_later _ (.cells (c3 k nn A len cap).toArray 53))
 have V1:=later V0' (new_later _ (.cells (c3 k nn A len cap).toArray 53))
 rw [World.size_alloc] at Q0
 clear P0 V0'
 generalize hW:(W.alloc (.cells (t5 kt s q i B ln cp).toArray 31)).alloc (.cells (c3 k nn A len cap).toArray 53) = wa at P1 V1 Q0
 have E1:=hE.later V1
 have F1:Fr gn W wa:=Fr.of_below V1 (Nat.le_of_lt hE.cn.lt)
 have hn1:W.heap.size ≠ gn:=by have:=hE.cn.lt;omega
 have hn2:W.heap.size + 1 ≠ gn:=by have:=hE.cn.lt;omega
 have hgl:gn ≤ W.heap.size:=Nat.le_of_lt hE.cn.lt
 have y0:=P1.cell (j:=0) (v:=.int .i64 kt) rfl
 have y1:=P1.cell (j:=1) (v:=.int .i64 s) rfl
 have y2:=P1.cell (j:=2) (v:=.int .i64 q) rfl
 have y3:=P1.cell (j:=3) (v:=.int .i64 i) rfl
 have y4:=P1.cell (j:=4) (v:=.slice B ln cp) rfl
 have z0:=E1.cp.cell (j:=0) (v:=mv) rfl
 have z1:=E1.cp.cell (j:=1) (v:=.slice A0 n cap0) rfl
 have hf23:Hid (∀ w2 w3,Below wa.heap.size wa w2 → Fr gn w2 w3 → Fr gn wa w3):=Lib.hid fun w2 w3 h1 h2 => (Fr.of_below h1 (Nat.le_of_lt E1.cn.lt)).trans h2
 have HPA:=Lib.hid (hP.later E1.bl)
 have HTA:=Lib.hid (ht.later E1.bl)
 have HP:=Lib.hid hP
 have HT:=Lib.hid ht
 have HK:=Lib.hid hKv
 have HY:=Lib.hid P1
 have HX:=Lib.hid Q0
 have HE1:=Lib.hid E1
 have HF1:=Lib.hid F1
 clear hvt hP ht hKv hE P1 Q0 V1 E1 F1
 go_enter Tryd.func55,Tryd.ntmps55
 go_upto_region 1 with fail
 clear hW
 go_wp2_with (first
  | (go_at_call 16;(with_reducible refine (HVT.out _ HPA.out HTA.out).mono ?_);rintro e w2 ⟨rfl,hb2⟩;have E2:=HE1.out.later hb2;have F2:=HF1.out.trans (Fr.of_below hb2 (Nat.le_of_lt HE1.out.cn.lt));have hcm:w2.cell? ⟨gm,0,none⟩ = some (.func (.func 80) #[] #[.pointer (some ⟨gn,0,none⟩)]):=E2.cm)
  | (go_at_call 80;(with_reducible refine (more_yes gn c d _ E2.cn HCD.out.1 HCD.out.2).mono ?_);rintro e w3 ⟨rfl,hc3,hf3⟩;have E3:=E2.fr hf3 hc3;have F3:=F2.trans hf3;have HP3:=Lib.hid (HP.out.later E3.bl);have HT3:=Lib.hid (HT.out.later E3.bl);have Y3:=HY.out.fr (hf23.out _ _ hb2 hf3) hn1;have X3:=HX.out.fr (hf23.out _ _ hb2 hf3) hn2;have hy0:=Y3.cell (j:=0) (v:=.int .i64 kt) rfl;have hy1:=Y3.cell (j:=1) (v:=.int .i64 s) rfl;have hy2:=Y3.cell (j:=2) (v:=.int .i64 q) rfl;have hy3:=Y3.cell (j:=3) (v:=.int .i64 i) rfl;have hy4:=Y3.cell (j:=4) (v:=.slice B ln cp) rfl;have hz0:=E3.cp.cell (j:=0) (v:=mv) rfl;have hz1:=E3.cp.cell (j:=1) (v:=.slice A0 n cap0) rfl;have hK3:=Lib.hid (E3.kv HK.out))
  | (go_at_call 56;(with_reducible refine (HSH.out _ E3.bl hK3.out).mono ?_);rintro e w4 ⟨SA,scap,rfl,hsl,hb4⟩;have HSL:=Lib.hid hsl;clear hsl;have E4:=E3.later hb4;have F4:=F3.trans (Fr.of_below hb4 (Nat.le_of_lt E3.cn.lt));have Y4:=Y3.later hb4;have X4:=X3.later hb4;have hx0:=X4.cell (j:=0) (v:=.int .i64 k) rfl;have hx1:=X4.cell (j:=1) (v:=.int .i64 nn) rfl;have hx2:=X4.cell (j:=2) (v:=.slice A len cap) rfl))
 go_ret
 exact ⟨rfl,E4.cn,F4⟩
set_option maxHeartbeats 8000000 in
set_option maxRecDepth 100000 in
theorem vclo_C2 (P:List Df) (W0 W:World) (gp gm gf gn c d n cap0:Nat) (mv:Value) (A0 A:Option Addr) (k nn:Int) (len cap:Nat) (t:Ty) (kt s q i:Int) (B:Option Addr) (ln cp:Nat)
  (hP:PrAt W0 P (.agg #[mv,.slice A0 n cap0])) (hKv:Kv W0) (hE:VEnv W0 W gp gm gf gn c mv A0 n cap0) (ht:TyAt W0 t (.agg (t5 kt s q i B ln cp).toArray)) (hvt:vty P 24 t = true) (hcd:c < 256 ∧ d ≤ 24) (hkh:k = shK P t ∧ hfit k nn len (shS P t).length = false) :
  Calls Tryd.prog 55 #[.agg (t5 kt s q i B ln cp).toArray,.agg (c3 k nn A len cap).toArray,.int .i64 (d:Int),.pointer (some ⟨gp,0,none⟩),.pointer (some ⟨gm,0,none⟩),.pointer (some ⟨gf,0,none⟩)] W (VRes gn false (c + 1) W):=by
 have HCD:=Lib.hid hcd
 clear hcd
 have HKH:=Lib.hid hkh
 clear hkh
 have HVT:Hid (∀ W',PrAt W' P (.agg #[mv,.slice A0 n cap0]) → TyAt W' t (.agg (t5 kt s q i B ln cp).toArray) → Calls Tryd.prog 16 #[.agg #[mv,.slice A0 n cap0],.agg #[.int .i64 kt,.int .i64 s,.int .i64 q,.int .i64 i,.slice B ln cp]] W' (BRes true W')):=Lib.hid fun W' h1 h2 => by rw [← hvt];exact validtype_any P t W' _ _ h1 h2
 have HSH:Hid (∀ W',Below W0.heap.size W0 W' → Kv W' → Calls Tryd.prog 56 #[.agg #[mv,.slice A0 n cap0],.agg #[.int .i64 kt,.int .i64 s,.int .i64 q,.int .i64 i,.slice B ln cp]] W' fun e w' => ∃ SA scap,e = .returned (.tuple #[.int .i64 (shK P t),.slice SA (shS P t).length scap]) ∧ SlsAt W0 (.slice SA (shS P t).length scap) (shS P t) ∧ Below W'.heap.size W' w'):=Lib.hid fun W' h1 h2 => (shape_any P t W0 W' _ _ hP ht h1 hvt h2).mono (by
  rintro e w' ⟨sv,rfl,hs,hb⟩
  have hs':=hs
  obtain ⟨SA,scap,rfl,_⟩:=hs
  exact ⟨SA,scap,rfl,hs',hb⟩)
 obtain ⟨K,hK⟩:∃ K,shK P t = K:=⟨_,rfl⟩
 rw [hK] at HSH HKH
 have hkb:(k != K) = false:=by rw [bne_eq_false_iff_eq];exact HKH.out.1
 have HHF:Hid (∀ W',Calls Tryd.prog 57 #[.agg #[.int .i64 k,.int .i64 nn,.slice A len cap],.int .i64 ((shS P t).length:Int)] W' (BRes false W')):=Lib.hid fun W' => by rw [← HKH.out.2];exact headFits_any k nn len _ A cap W'
 clear HKH
 generalize (shS P t).length = sn at HSH HHF
 clear hK
 have P0:=t5_new W kt s q i B ln cp
 have V0':=new_later W (.cells (t5 kt s q i B ln cp).toArray 31)
 have Q0:=c3_new (W.alloc (.cells (t5 kt s q i B ln cp).toArray 31)) k nn A len cap
 have P1:=P0.later (new_later _ (.cells (c3 k nn A len cap).toArray 53))
 have V1:=later V0' (new_later _ (.cells (c3 k nn A len cap).toArray 53))
 rw [World.size_alloc] at Q0
 clear P0 V0'
 generalize hW:(W.alloc (.cells (t5 kt s q i B ln cp).toArray 31)).alloc (.cells (c3 k nn A len cap).toArray 53) = wa at P1 V1 Q0
 have E1:=hE.later V1
 have F1:Fr gn W wa:=Fr.of_below V1 (Nat.le_of_lt hE.cn.lt)
 have hn1:W.heap.size ≠ gn:=by have:=hE.cn.lt;omega
 have hn2:W.heap.size + 1 ≠ gn:=by have:=hE.cn.lt;omega
 have hgl:gn ≤ W.heap.size:=Nat.le_of_lt hE.cn.lt
 have y0:=P1.cell (j:=0) (v:=.int .i64 kt) rfl
 have y1:=P1.cell (j:=1) (v:=.int .i64 s) rfl
 have y2:=P1.cell (j:=2) (v:=.int .i64 q) rfl
 have y3:=P1.cell (j:=3) (v:=.int .i64 i) rfl
 have y4:=P1.cell (j:=4) (v:=.slice B ln cp) rfl
 have z0:=E1.cp.cell (j:=0) (v:=mv) rfl
 have z1:=E1.cp.cell (j:=1) (v:=.slice A0 n cap0) rfl
 have hf23:Hid (∀ w2 w3,Below wa.heap.size wa w2 → Fr gn w2 w3 → Fr gn wa w3):=Lib.hid fun w2 w3 h1 h2 => (Fr.of_below h1 (Nat.le_of_lt E1.cn.lt)).trans h2
 have HPA:=Lib.hid (hP.later E1.bl)
 have HTA:=Lib.hid (ht.later E1.bl)
 have HP:=Lib.hid hP
 have HT:=Lib.hid ht
 have HK:=Lib.hid hKv
 have HY:=Lib.hid P1
 have HX:=Lib.hid Q0
 have HE1:=Lib.hid E1
 have HF1:=Lib.hid F1
 clear hvt hP ht hKv hE P1 Q0 V1 E1 F1
 go_enter Tryd.func55,Tryd.ntmps55
 go_upto_region 1 with fail
 clear hW
 go_wp2_with (first
  | (go_at_call 16;(with_reducible refine (HVT.out _ HPA.out HTA.out).mono ?_);rintro e w2 ⟨rfl,hb2⟩;have E2:=HE1.out.later hb2;have F2:=HF1.out.trans (Fr.of_below hb2 (Nat.le_of_lt HE1.out.cn.lt));have hcm:w2.cell? ⟨gm,0,none⟩ = some (.func (.func 80) #[] #[.pointer (some ⟨gn,0,none⟩)]):=E2.cm)
  | (go_at_call 80;(with_reducible refine (more_yes gn c d _ E2.cn HCD.out.1 HCD.out.2).mono ?_);rintro e w3 ⟨rfl,hc3,hf3⟩;have E3:=E2.fr hf3 hc3;have F3:=F2.trans hf3;have HP3:=Lib.hid (HP.out.later E3.bl);have HT3:=Lib.hid (HT.out.later E3.bl);have Y3:=HY.out.fr (hf23.out _ _ hb2 hf3) hn1;have X3:=HX.out.fr (hf23.out _ _ hb2 hf3) hn2;have hy0:=Y3.cell (j:=0) (v:=.int .i64 kt) rfl;have hy1:=Y3.cell (j:=1) (v:=.int .i64 s) rfl;have hy2:=Y3.cell (j:=2) (v:=.int .i64 q) rfl;have hy3:=Y3.cell (j:=3) (v:=.int .i64 i) rfl;have hy4:=Y3.cell (j:=4) (v:=.slice B ln cp) rfl;have hz0:=E3.cp.cell (j:=0) (v:=mv) rfl;have hz1:=E3.cp.cell (j:=1) (v:=.slice A0 n cap0) rfl;have hK3:=Lib.hid (E3.kv HK.out))
  | (go_at_call 56;(with_reducible refine (HSH.out _ E3.bl hK3.out).mono ?_);rintro e w4 ⟨SA,scap,rfl,hsl,hb4⟩;have HSL:=Lib.hid hsl;clear hsl;have E4:=E3.later hb4;have F4:=F3.trans (Fr.of_below hb4 (Nat.le_of_lt E3.cn.lt));have Y4:=Y3.later hb4;have X4:=X3.later hb4;have hx0:=X4.cell (j:=0) (v:=.int .i64 k) rfl;have hx1:=X4.cell (j:=1) (v:=.int .i64 nn) rfl;have hx2:=X4.cell (j:=2) (v:=.slice A len cap) rfl)
  | (go_at_call 57;(with_reducible refine (HHF.out _).mono ?_);rintro e w5 ⟨rfl,hb5⟩;have E5:=E4.later hb5;have F5:=F4.trans (Fr.of_below hb5 (Nat.le_of_lt E4.cn.lt));have Y5:=Y4.later hb5;have X5:=X4.later hb5;have hx52:=X5.cell (j:=2) (v:=.slice A len cap) rfl))
 go_ret
 exact ⟨rfl,E5.cn,F5⟩
end Go.Proofs.YtmfihlcibephlaaDoor
