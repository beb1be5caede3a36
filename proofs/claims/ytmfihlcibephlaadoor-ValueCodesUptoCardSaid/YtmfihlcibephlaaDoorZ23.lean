import Derived.Test.YtmfihlcibephlaaDoorZ13
import Derived.Test.YtmfihlcibephlaaDoorZ18
import Derived.Test.YtmfihlcibephlaaDoorZ20
import Derived.Test.YtmfihlcibephlaaDoorZ22
set_option linter.unusedVariables false
set_option linter.unusedSimpArgs false
namespace Go.Proofs.YtmfihlcibephlaaDoor
open Go.RowKit
theorem zr_bad (P:List Df):∀ (f:Nat) (t:Ty) (c:Nat),(zr P f t c).1 ≠ 0 → (zr P f t c).2.1 = z0
 | 0,t,c,h => by
  unfold zr at h ⊢
  split <;> rfl
 | f + 1,t,c,h => by
  have hL:∀ (k:Int) (sl:List Sl) (acc:List Tr) (c:Nat),(zrL (zr P f) k sl acc c).1 ≠ 0 → (zrL (zr P f) k sl acc c).2.1 = z0:=by
   intro k sl
   induction sl with
   | nil => intro acc c h;exact absurd rfl h
   | cons s r ih =>
    intro acc c h
    unfold zrL at h ⊢
    split
    ·rename_i h0;rw [if_pos h0] at h;exact ih _ _ h
    ·rfl
  rw [zr_form] at h ⊢
  split
  ·rfl
  ·rename_i h1
   split
   ·rfl
   ·rename_i h2
    split
    ·rfl
    ·rename_i h3
     rw [if_neg h1,if_neg h2,if_neg h3] at h
     exact hL _ _ _ _ h
set_option maxHeartbeats 4000000 in
set_option maxRecDepth 100000 in
theorem rZero_any (P:List Df) (t:Ty) (w:World) (tv pv0:Value) (hP0:PrAt w P pv0) (ht:TyAt w t tv) :
  Calls Tryd.prog 35 #[pv0,tv] w (ZeroRes (zr P 24 t 0).1 (zr P 24 t 0).2.1 w):=by
 have hP1:=hP0
 obtain ⟨mv,A0,cap0,rfl,hm,hP⟩:=hP0
 obtain ⟨n,hn⟩:∃ n,P.length = n:=⟨_,rfl⟩
 rw [hn] at hP1 ⊢
 obtain ⟨kt,s,q,i,B,ln,cp,rfl⟩:=ht.shape
 have P0:=p2_new w mv (.slice A0 n cap0)
 have V0:=new_later w (.cells #[mv,.slice A0 n cap0] 26)
 have Q0:=t5_new (w.alloc (.cells #[mv,.slice A0 n cap0] 26)) kt s q i B ln cp
 have b1:=new_later (w.alloc (.cells #[mv,.slice A0 n cap0] 26)) (.cells (t5 kt s q i B ln cp).toArray 31)
 have R0:Arr (((w.alloc (.cells #[mv,.slice A0 n cap0] 26)).alloc (.cells (t5 kt s q i B ln cp).toArray 31)).alloc (.cells #[.int .i64 0,.int .i64 0,.slice none 0 0] 53)) ((w.alloc (.cells #[mv,.slice A0 n cap0] 26)).alloc (.cells (t5 kt s q i B ln cp).toArray 31)).heap.size 3 53 zc3:=Arr.new' _ _ _ 3 zc3 rfl rfl (by decide)
 have b2:=new_later ((w.alloc (.cells #[mv,.slice A0 n cap0] 26)).alloc (.cells (t5 kt s q i B ln cp).toArray 31)) (.cells #[.int .i64 0,.int .i64 0,.slice none 0 0] 53)
 replace P0:=(P0.later b1).later b2
 replace Q0:=Q0.later b2
 have V1:=later (later V0 b1) b2
 rw [World.size_alloc] at Q0
 rw [World.size_alloc,World.size_alloc] at R0
 clear V0 b1 b2
 generalize hW:((w.alloc (.cells #[mv,.slice A0 n cap0] 26)).alloc (.cells (t5 kt s q i B ln cp).toArray 31)).alloc (.cells #[.int .i64 0,.int .i64 0,.slice none 0 0] 53) = wa at P0 Q0 R0 V1
 have HC:Hid (Calls Tryd.prog 65 #[.agg #[mv,.slice A0 n cap0],.agg #[.int .i64 kt,.int .i64 s,.int .i64 q,.int .i64 i,.slice B ln cp],.int .i64 1,.int .i64 0] wa (RZ (zr P 24 t 0).1 (zr P 24 t 0).2.1 (zr P 24 t 0).2.2 wa)):=Lib.hid (rzero_any P 24 t 1 0 wa _ _ rfl (by omega) (hP1.later V1) (ht.later V1))
 have HZB:=Lib.hid (zr_bad P 24 t 0)
 generalize (zr P 24 t 0).1 = er at HC HZB ⊢
 generalize (zr P 24 t 0).2.1 = Z at HC HZB ⊢
 generalize (zr P 24 t 0).2.2 = c2 at HC
 have y0:=Q0.cell (j:=0) (v:=.int .i64 kt) rfl
 have y1:=Q0.cell (j:=1) (v:=.int .i64 s) rfl
 have y2:=Q0.cell (j:=2) (v:=.int .i64 q) rfl
 have y3:=Q0.cell (j:=3) (v:=.int .i64 i) rfl
 have y4:=Q0.cell (j:=4) (v:=.slice B ln cp) rfl
 have zz0:=P0.cell (j:=0) (v:=mv) rfl
 have zz1:=P0.cell (j:=1) (v:=.slice A0 n cap0) rfl
 have HR:=Lib.hid R0
 have HV:=Lib.hid V1
 have HIV:Hid ((Tryd.prog.info? 53).map (·.size) = some zc3.length):=Lib.hid info_val
 clear P0 Q0 R0 V1 hP1 hP hm hn ht
 go_enter Tryd.func35,Tryd.ntmps35
 go_upto_region 1 with fail
 clear hW
 go_upto_region 2 with (first
  | (go_at_call 65;(with_reducible refine HC.out.mono ?_);rintro e w9 ⟨xk,xn,xA,xl,xc,u,rfl,_,hT9,hb9⟩;have HT9:=Lib.hid hT9;have HB9:=Lib.hid hb9;clear hT9 hb9))
 have b10:=new_later w9 (.cells #[.int .i64 xk,.int .i64 xn,.slice xA xl xc] 53)
 have A14:Arr (w9.alloc (.cells #[.int .i64 xk,.int .i64 xn,.slice xA xl xc] 53)) w9.heap.size 3 53 [.int .i64 xk,.int .i64 xn,.slice xA xl xc]:=Arr.new' w9 _ _ 3 _ rfl rfl (by decide)
 have HT10:Hid (TrF (wa.heap.size ≤ ·) (w9.alloc (.cells #[.int .i64 xk,.int .i64 xn,.slice xA xl xc] 53)) Z (.agg #[.int .i64 xk,.int .i64 xn,.slice xA xl xc])):=Lib.hid (HT9.out.keep (fun k hk => hk) (fun k _ hl => b10.block k hl))
 generalize w9.alloc (.cells #[.int .i64 xk,.int .i64 xn,.slice xA xl xc] 53) = w10 at b10 A14 HT10 ⊢
 have x0:=A14.cell (j:=0) (v:=.int .i64 xk) rfl
 have x1:=A14.cell (j:=1) (v:=.int .i64 xn) rfl
 have x2:=A14.cell (j:=2) (v:=.slice xA xl xc) rfl
 have HR10:=Lib.hid ((HR.out.later HB9.out).later b10)
 have HV10:=Lib.hid (later (later HV.out HB9.out) b10)
 have hwa:w.heap.size + 1 + 1 < wa.heap.size:=HR.out.lt
 clear b10 A14
 by_cases he:er = 0
 ·have hne:(er != 0) = false:=by rw [bne_eq_false_iff_eq];exact he
  have HE:=Lib.hid he
  have HI3:Hid ((Tryd.prog.info? 53).map (·.size) = some ([.int .i64 xk,.int .i64 xn,.slice xA xl xc]:List Value).length):=Lib.hid info_val
  have HO3:Hid (∀ v ∈ ([.int .i64 xk,.int .i64 xn,.slice xA xl xc]:List Value),v.oneCell' = true):=Lib.hid (by intro v hv;simp at hv;rcases hv with rfl | rfl | rfl <;> rfl)
  clear he
  go_wp2_with (refine wpList_store_arr rfl _ (.tmp 4) (.tmp 20) rfl (w.heap.size + 1 + 1) 0 3 53 _ [.int .i64 xk,.int .i64 xn,.slice xA xl xc] zc3 rfl rfl rfl HR10.out (show 0 + 3 ≤ 3 by omega) HI3.out HO3.out ?_;intro w12 f12 o12)
  rw [setAll_all zc3 [.int .i64 xk,.int .i64 xn,.slice xA xl xc] rfl] at f12
  refine bodyPost_ret (results_cellB rfl _ _ (w.heap.size + 1 + 1) [.int .i64 xk,.int .i64 xn,.slice xA xl xc] _ rfl f12.range Tryd.underlying53 rfl HI3.out) rfl ?_
  exact ⟨_,_,_,_,_,by rw [HE.out];rfl,HT10.out.keep (fun k hk => by omega) (fun k hk _ => o12.2 k (by omega)),HV10.out.trans (o12.bel.mono (by omega))⟩
 ·have hne:(er != 0) = true:=by rw [bne_iff_ne];exact he
  have HE:=Lib.hid (HZB.out he)
  clear he
  go_wp2_with (refine wpList_store_arr rfl _ (.tmp 4) (.tmp 18) rfl (w.heap.size + 1 + 1) 0 3 53 _ zc3 zc3 rfl rfl rfl HR10.out (by decide) HIV.out zc3_one ?_;intro w12 f12 o12)
  rw [setAll_all _ _ rfl] at f12
  refine bodyPost_ret (results_cellB rfl _ _ (w.heap.size + 1 + 1) zc3 _ rfl f12.range Tryd.underlying53 rfl HIV.out) rfl ?_
  rw [HE.out]
  exact ⟨0,0,none,0,0,rfl,tr_z0 _ _,HV10.out.trans (o12.bel.mono (by omega))⟩
end Go.Proofs.YtmfihlcibephlaaDoor
namespace Go.Proofs.YtmfihlcibephlaaDoor
open Go.RowKit
def MRes (P:List Df) (t:Ty) (N D at':Nat) (w:World) (e:Ending) (w':World):Prop:=∃ (x:Tr) (xk xn:Int) (xA:Option Addr) (xl xc:Nat),e = .returned (.tuple #[.agg #[.int .i64 xk,.int .i64 xn,.slice xA xl xc],.int .i64 ((at' + x.nodes:Nat):Int)]) ∧ TrF (w.heap.size ≤ ·) w' x (.agg #[.int .i64 xk,.int .i64 xn,.slice xA xl xc]) ∧ (ft P x t = true ∧ x.nodes ≤ N ∧ x.dep ≤ D) ∧ Below w.heap.size w w'
structure Nums (W:World) (ls:List Int) (A:Option Addr) (n:Nat):Prop where
 rd:Rd W W.heap.size A (iv ls)
 ln:n = ls.length
 mx:n ≤ maxLen
 i64:∀ x ∈ ls,i64r x
theorem Nums.later {W W':World} {ls:List Int} {A:Option Addr} {n:Nat} (h:Nums W ls A n) (hb:Below W.heap.size W W'):Nums W' ls A n:=⟨h.rd.later hb,h.ln,h.mx,h.i64⟩
def MC (P:List Df) (ls:List Int) (t:Ty) (N D:Nat):Prop:=∀ (W:World) (pv tv:Value) (A:Option Addr) (n c at' d:Nat),PrAt W P pv → TyAt W t tv → Nums W ls A n → at' + N ≤ 100000 → d + D ≤ 30 →
 Calls Tryd.prog 52 #[pv,tv,.slice A n c,.int .i64 (at':Int),.int .i64 (d:Int)] W (MRes P t N D at' W)
theorem atl_lt (ls:List Int) (i m:Nat) (hm:0 < m):at_ ls i m < m:=by unfold at_;split;exact ar_lt _ _ hm;exact hm
theorem tr_leaf2 (S:Nat → Prop) (w:World) (k n:Int) (hk:i64r k) (hn:i64r n):TrF S w (.node k n []) (.agg #[.int .i64 k,.int .i64 n,.slice none 0 0]):=by
 unfold TrF
 exact ⟨none,0,rfl,⟨Nat.le_refl _,by simp [maxLen],hk,hn⟩,by unfold KsF;trivial⟩
set_option maxHeartbeats 2000000 in
set_option maxRecDepth 100000 in
theorem mk_I (P:List Df) (ls:List Int) (W:World) (n cap0:Nat) (LA:Option Addr) (ln' lc p d:Nat) (mv:Value) (A0:Option Addr) (t:Ty) (s q i:Int) (B:Option Addr) (ln cp:Nat)
  (hP:PrAt W P (.agg #[mv,.slice A0 n cap0])) (ht:TyAt W t (.agg (t5 0 s q i B ln cp).toArray)) (hN:Nums W ls LA ln') (hp:p ≤ 99999) (hd30:d ≤ 30)  :
  Calls Tryd.prog 52 #[.agg #[mv,.slice A0 n cap0],.agg (t5 0 s q i B ln cp).toArray,.slice LA ln' lc,.int .i64 (p:Int),.int .i64 (d:Int)] W (MRes P tI 1 1 p W):=by
 have P0:=p2_new W mv (.slice A0 n cap0)
 have V0:=new_later W (.cells #[mv,.slice A0 n cap0] 26)
 have Q0:=t5_new (W.alloc (.cells #[mv,.slice A0 n cap0] 26)) 0 s q i B ln cp
 have b1:=new_later (W.alloc (.cells #[mv,.slice A0 n cap0] 26)) (.cells (t5 0 s q i B ln cp).toArray 31)
 have R0:Arr (((W.alloc (.cells #[mv,.slice A0 n cap0] 26)).alloc (.cells (t5 0 s q i B ln cp).toArray 31)).alloc (.cells #[.int .i64 0,.int .i64 0,.slice none 0 0] 53)) ((W.alloc (.cells #[mv,.slice A0 n cap0] 26)).alloc (.cells (t5 0 s q i B ln cp).toArray 31)).heap.size 3 53 zc3:=Arr.new' _ _ _ 3 zc3 rfl rfl (by decide)
 have b2:=new_later ((W.alloc (.cells #[mv,.slice A0 n cap0] 26)).alloc (.cells (t5 0 s q i B ln cp).toArray 31)) (.cells #[.int .i64 0,.int .i64 0,.slice none 0 0] 53)
 replace P0:=(P0.later b1).later b2
 replace Q0:=Q0.later b2
 have V1:=later (later V0 b1) b2
 rw [World.size_alloc] at Q0
 rw [World.size_alloc,World.size_alloc] at R0
 clear V0 b1 b2
 generalize hW:((W.alloc (.cells #[mv,.slice A0 n cap0] 26)).alloc (.cells (t5 0 s q i B ln cp).toArray 31)).alloc (.cells #[.int .i64 0,.int .i64 0,.slice none 0 0] 53) = wa at P0 Q0 R0 V1
 have y0:=Q0.cell (j:=0) (v:=.int .i64 0) rfl
 have y1:=Q0.cell (j:=1) (v:=.int .i64 s) rfl
 have y2:=Q0.cell (j:=2) (v:=.int .i64 q) rfl
 have y3:=Q0.cell (j:=3) (v:=.int .i64 i) rfl
 have y4:=Q0.cell (j:=4) (v:=.slice B ln cp) rfl
 have zz0:=P0.cell (j:=0) (v:=mv) rfl
 have zz1:=P0.cell (j:=1) (v:=.slice A0 n cap0) rfl
 have HPA:=Lib.hid (hP.later V1)
 have HP0:=Lib.hid hP
 have HTA:=Lib.hid (ht.later V1)
 have HV:=Lib.hid V1
 have HPB:=Lib.hid P0
 have HQB:=Lib.hid Q0
 have HRB:=Lib.hid R0
 have HIV:Hid ((Tryd.prog.info? 53).map (·.size) = some zc3.length):=Lib.hid info_val
 have hpi:(p:Int) ≤ 99999:=by omega
 have hp0:(0:Int) ≤ (p:Int):=by omega
 have hdi:(d:Int) ≤ 30:=by omega
 have hd0:(0:Int) ≤ (d:Int):=by omega
 have HN:=Lib.hid (hN.later V1)
 have HAT:Hid (∀ W',Nums W' ls LA ln' → Calls Tryd.prog 44 #[.slice LA ln' lc,.int .i64 (p:Int),.int .i64 1048576] W' fun e w' => e = .returned (.int .i64 ((at_ ls p 1048576:Nat):Int)) ∧ w' = W'):=Lib.hid fun W' h => At_any ls p 1048576 ln' W'.heap.size lc LA h.ln h.mx (by omega) (by omega) h.i64 W' h.rd
 have hX:=atl_lt ls p 1048576 (by omega)
 generalize at_ ls p 1048576 = X at HAT hX
 have hXi:(X:Int) < 1048576:=by omega
 have hX0:(0:Int) ≤ (X:Int):=by omega
 clear hP ht hN P0 Q0 R0 V1
 obtain ⟨Q,hQ⟩:∃ Q,X / 16 = Q:=⟨_,rfl⟩
 have hq:(X:Int) / 16 = (Q:Int):=by omega
 have hQi:(Q:Int) ≤ 65536:=by omega
 have hQ0:(0:Int) ≤ (Q:Int):=by omega
 obtain ⟨R,hR⟩:∃ R,X % 16 = R:=⟨_,rfl⟩
 have hr:(X:Int) % 16 = (R:Int):=by omega
 have hRi:(R:Int) < 16:=by omega
 have hR0:(0:Int) ≤ (R:Int):=by omega
 obtain ⟨S,hS⟩:∃ S,Q % 3 = S:=⟨_,rfl⟩
 have hs:(Q:Int) % 3 = (S:Int):=by omega
 have hSi:(S:Int) < 3:=by omega
 have hS0:(0:Int) ≤ (S:Int):=by omega
 obtain ⟨U,hU⟩:∃ U,Q % 9 = U:=⟨_,rfl⟩
 have hu:(Q:Int) % 9 = (U:Int):=by omega
 have hUi:(U:Int) < 9:=by omega
 have hU0:(0:Int) ≤ (U:Int):=by omega
 clear hQ hR hS hU hX
 have HSi:=Lib.hid hSi
 have HUi:=Lib.hid hUi
 by_cases hcase:R = 0
 ·have e0:((R:Int) == 0) = true:=by rw [beq_iff_eq];omega
  clear hcase
  go_enter Tryd.func52,Tryd.ntmps52
  go_upto_region 1 with fail
  clear hW
  go_wp2_with (first
   | (go_at_call 44;(with_reducible refine (HAT.out _ HN.out).mono ?_);rintro e w2 ⟨rfl,hw2⟩;rw [hw2];clear hw2)
   | (refine wpList_store_arr rfl _ (.tmp 10) (.tmp 40) rfl (W.heap.size + 1 + 1) 0 3 53 _ [.int .i64 0,.int .i64 (1099511627776 - (S:Int)),.slice none 0 0] zc3 rfl rfl rfl HRB.out (show 0 + 3 ≤ 3 by omega) info_val (by intro v hv;simp at hv;rcases hv with rfl | rfl | rfl <;> rfl) ?_;intro w12 f12 o12))
  rw [setAll_all zc3 [.int .i64 0,.int .i64 (1099511627776 - (S:Int)),.slice none 0 0] rfl] at f12
  refine bodyPost_ret (results_cellB rfl _ _ (W.heap.size + 1 + 1) [.int .i64 0,.int .i64 (1099511627776 - (S:Int)),.slice none 0 0] _ rfl f12.range Tryd.underlying53 rfl info_val) rfl ?_
  exact ⟨.node 0 (1099511627776 - (S:Int)) [],_,_,_,_,_,by rw [nodes_node,nodesL];rfl,tr_leaf2 _ _ _ _ (by unfold i64r;omega) (by unfold i64r;omega),⟨ft_I P _ (by omega),by rw [nodes_node,nodesL];omega,by rw [dep_node,depL];omega⟩,HV.out.trans (o12.bel.mono (by omega))⟩
 by_cases hcase1:R = 1
 ·have e0:((R:Int) == 0) = false:=by rw [beq_eq_false_iff_ne];omega
  have e1:((R:Int) == 1) = true:=by rw [beq_iff_eq];omega
  clear hcase hcase1
  go_enter Tryd.func52,Tryd.ntmps52
  go_upto_region 1 with fail
  clear hW
  go_wp2_with (first
   | (go_at_call 44;(with_reducible refine (HAT.out _ HN.out).mono ?_);rintro e w2 ⟨rfl,hw2⟩;rw [hw2];clear hw2)
   | (refine wpList_store_arr rfl _ (.tmp 10) (.tmp 49) rfl (W.heap.size + 1 + 1) 0 3 53 _ [.int .i64 0,.int .i64 (-1099511627776 + (S:Int)),.slice none 0 0] zc3 rfl rfl rfl HRB.out (show 0 + 3 ≤ 3 by omega) info_val (by intro v hv;simp at hv;rcases hv with rfl | rfl | rfl <;> rfl) ?_;intro w12 f12 o12))
  rw [setAll_all zc3 [.int .i64 0,.int .i64 (-1099511627776 + (S:Int)),.slice none 0 0] rfl] at f12
  refine bodyPost_ret (results_cellB rfl _ _ (W.heap.size + 1 + 1) [.int .i64 0,.int .i64 (-1099511627776 + (S:Int)),.slice none 0 0] _ rfl f12.range Tryd.underlying53 rfl info_val) rfl ?_
  exact ⟨.node 0 (-1099511627776 + (S:Int)) [],_,_,_,_,_,by rw [nodes_node,nodesL];rfl,tr_leaf2 _ _ _ _ (by unfold i64r;omega) (by unfold i64r;omega),⟨ft_I P _ (by omega),by rw [nodes_node,nodesL];omega,by rw [dep_node,depL];omega⟩,HV.out.trans (o12.bel.mono (by omega))⟩
 ·have e0:((R:Int) == 0) = false:=by rw [beq_eq_false_iff_ne];omega
  have e1:((R:Int) == 1) = false:=by rw [beq_eq_false_iff_ne];omega
  clear hcase hcase1
  go_enter Tryd.func52,Tryd.ntmps52
  go_upto_region 1 with fail
  clear hW
  go_wp2_with (first
   | (go_at_call 44;(with_reducible refine (HAT.out _ HN.out).mono ?_);rintro e w2 ⟨rfl,hw2⟩;rw [hw2];clear hw2)
   | (refine wpList_store_arr rfl _ (.tmp 10) (.tmp 55) rfl (W.heap.size + 1 + 1) 0 3 53 _ [.int .i64 0,.int .i64 ((U:Int) - 4),.slice none 0 0] zc3 rfl rfl rfl HRB.out (show 0 + 3 ≤ 3 by omega) info_val (by intro v hv;simp at hv;rcases hv with rfl | rfl | rfl <;> rfl) ?_;intro w12 f12 o12))
  rw [setAll_all zc3 [.int .i64 0,.int .i64 ((U:Int) - 4),.slice none 0 0] rfl] at f12
  refine bodyPost_ret (results_cellB rfl _ _ (W.heap.size + 1 + 1) [.int .i64 0,.int .i64 ((U:Int) - 4),.slice none 0 0] _ rfl f12.range Tryd.underlying53 rfl info_val) rfl ?_
  exact ⟨.node 0 ((U:Int) - 4) [],_,_,_,_,_,by rw [nodes_node,nodesL];rfl,tr_leaf2 _ _ _ _ (by unfold i64r;omega) (by unfold i64r;omega),⟨ft_I P _ (by omega),by rw [nodes_node,nodesL];omega,by rw [dep_node,depL];omega⟩,HV.out.trans (o12.bel.mono (by omega))⟩
set_option maxHeartbeats 2000000 in
set_option maxRecDepth 100000 in
theorem mk_T (P:List Df) (ls:List Int) (W:World) (n cap0:Nat) (LA:Option Addr) (ln' lc p d:Nat) (mv:Value) (A0:Option Addr) (t:Ty) (s q i:Int) (B:Option Addr) (ln cp:Nat)
  (hP:PrAt W P (.agg #[mv,.slice A0 n cap0])) (ht:TyAt W t (.agg (t5 1 s q i B ln cp).toArray)) (hN:Nums W ls LA ln') (hp:p ≤ 99999) (hd30:d ≤ 30)  :
  Calls Tryd.prog 52 #[.agg #[mv,.slice A0 n cap0],.agg (t5 1 s q i B ln cp).toArray,.slice LA ln' lc,.int .i64 (p:Int),.int .i64 (d:Int)] W (MRes P tB 1 1 p W):=by
 have P0:=p2_new W mv (.slice A0 n cap0)
 have V0:=new_later W (.cells #[mv,.slice A0 n cap0] 26)
 have Q0:=t5_new (W.alloc (.cells #[mv,.slice A0 n cap0] 26)) 1 s q i B ln cp
 have b1:=new_later (W.alloc (.cells #[mv,.slice A0 n cap0] 26)) (.cells (t5 1 s q i B ln cp).toArray 31)
 have R0:Arr (((W.alloc (.cells #[mv,.slice A0 n cap0] 26)).alloc (.cells (t5 1 s q i B ln cp).toArray 31)).alloc (.cells #[.int .i64 0,.int .i64 0,.slice none 0 0] 53)) ((W.alloc (.cells #[mv,.slice A0 n cap0] 26)).alloc (.cells (t5 1 s q i B ln cp).toArray 31)).heap.size 3 53 zc3:=Arr.new' _ _ _ 3 zc3 rfl rfl (by decide)
 have b2:=new_later ((W.alloc (.cells #[mv,.slice A0 n cap0] 26)).alloc (.cells (t5 1 s q i B ln cp).toArray 31)) (.cells #[.int .i64 0,.int .i64 0,.slice none 0 0] 53)
 replace P0:=(P0.later b1).later b2
 replace Q0:=Q0.later b2
 have V1:=later (later V0 b1) b2
 rw [World.size_alloc] at Q0
 rw [World.size_alloc,World.size_alloc] at R0
 clear V0 b1 b2
 generalize hW:((W.alloc (.cells #[mv,.slice A0 n cap0] 26)).alloc (.cells (t5 1 s q i B ln cp).toArray 31)).alloc (.cells #[.int .i64 0,.int .i64 0,.slice none 0 0] 53) = wa at P0 Q0 R0 V1
 have y0:=Q0.cell (j:=0) (v:=.int .i64 1) rfl
 have y1:=Q0.cell (j:=1) (v:=.int .i64 s) rfl
 have y2:=Q0.cell (j:=2) (v:=.int .i64 q) rfl
 have y3:=Q0.cell (j:=3) (v:=.int .i64 i) rfl
 have y4:=Q0.cell (j:=4) (v:=.slice B ln cp) rfl
 have zz0:=P0.cell (j:=0) (v:=mv) rfl
 have zz1:=P0.cell (j:=1) (v:=.slice A0 n cap0) rfl
 have HPA:=Lib.hid (hP.later V1)
 have HP0:=Lib.hid hP
 have HTA:=Lib.hid (ht.later V1)
 have HV:=Lib.hid V1
 have HPB:=Lib.hid P0
 have HQB:=Lib.hid Q0
 have HRB:=Lib.hid R0
 have HIV:Hid ((Tryd.prog.info? 53).map (·.size) = some zc3.length):=Lib.hid info_val
 have hpi:(p:Int) ≤ 99999:=by omega
 have hp0:(0:Int) ≤ (p:Int):=by omega
 have hdi:(d:Int) ≤ 30:=by omega
 have hd0:(0:Int) ≤ (d:Int):=by omega
 have HN:=Lib.hid (hN.later V1)
 have HAT:Hid (∀ W',Nums W' ls LA ln' → Calls Tryd.prog 44 #[.slice LA ln' lc,.int .i64 (p:Int),.int .i64 1048576] W' fun e w' => e = .returned (.int .i64 ((at_ ls p 1048576:Nat):Int)) ∧ w' = W'):=Lib.hid fun W' h => At_any ls p 1048576 ln' W'.heap.size lc LA h.ln h.mx (by omega) (by omega) h.i64 W' h.rd
 have hX:=atl_lt ls p 1048576 (by omega)
 generalize at_ ls p 1048576 = X at HAT hX
 have hXi:(X:Int) < 1048576:=by omega
 have hX0:(0:Int) ≤ (X:Int):=by omega
 clear hP ht hN P0 Q0 R0 V1
 obtain ⟨R,hR⟩:∃ R,X % 2 = R:=⟨_,rfl⟩
 have hr:(X:Int) % 2 = (R:Int):=by omega
 have hRi:(R:Int) < 2:=by omega
 have hR0:(0:Int) ≤ (R:Int):=by omega
 clear hR hX
 have hcase:True:=trivial
 clear hcase
 go_enter Tryd.func52,Tryd.ntmps52
 go_upto_region 1 with fail
 clear hW
 go_wp2_with (first
  | (go_at_call 44;(with_reducible refine (HAT.out _ HN.out).mono ?_);rintro e w2 ⟨rfl,hw2⟩;rw [hw2];clear hw2)
  | (refine wpList_store_arr rfl _ (.tmp 10) (.tmp 62) rfl (W.heap.size + 1 + 1) 0 3 53 _ [.int .i64 1,.int .i64 ((R:Int)),.slice none 0 0] zc3 rfl rfl rfl HRB.out (show 0 + 3 ≤ 3 by omega) info_val (by intro v hv;simp at hv;rcases hv with rfl | rfl | rfl <;> rfl) ?_;intro w12 f12 o12))
 rw [setAll_all zc3 [.int .i64 1,.int .i64 ((R:Int)),.slice none 0 0] rfl] at f12
 refine bodyPost_ret (results_cellB rfl _ _ (W.heap.size + 1 + 1) [.int .i64 1,.int .i64 ((R:Int)),.slice none 0 0] _ rfl f12.range Tryd.underlying53 rfl info_val) rfl ?_
 exact ⟨.node 1 ((R:Int)) [],_,_,_,_,_,by rw [nodes_node,nodesL];rfl,tr_leaf2 _ _ _ _ (by unfold i64r;omega) (by unfold i64r;omega),⟨ft_B P _ (by omega),by rw [nodes_node,nodesL];omega,by rw [dep_node,depL];omega⟩,HV.out.trans (o12.bel.mono (by omega))⟩
end Go.Proofs.YtmfihlcibephlaaDoor
