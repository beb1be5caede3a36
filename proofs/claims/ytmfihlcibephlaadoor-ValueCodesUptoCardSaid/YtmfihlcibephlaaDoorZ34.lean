import Derived.Test.YtmfihlcibephlaaDoorZ02
import Derived.Test.YtmfihlcibephlaaDoorZ27
import Derived.Test.YtmfihlcibephlaaDoorZ33
set_option linter.unusedVariables false
set_option linter.unusedSimpArgs false
namespace Go.Proofs.YtmfihlcibephlaaDoor
open Go.RowKit
structure VarAt (W:World) (g:Nat) (x:Tr) (C:List Value):Prop where
 rg:W.rangeAt g 0 C
 ln:C.length = 3
 tr:TrAt W x (.agg C.toArray)
theorem VarAt.later {W W':World} {g:Nat} {x:Tr} {C:List Value} (h:VarAt W g x C) (hb:Below W.heap.size W W'):VarAt W' g x C:=⟨range_below h.rg hb,h.ln,h.tr.later hb⟩
theorem tD_at (w:World) (j:Nat) (hj:j < 10):TyAt w (tD j) (.agg #[.int .i64 3,.int .i64 0,.int .i64 1,.int .i64 (1 + (j:Int)),.slice none 0 0]):=ty_now 3 0 1 (1 + (j:Int)) (by unfold i64r;omega) (by unfold i64r;omega) (by unfold i64r;omega) (by unfold i64r;omega) w
theorem tD_at0 (w:World):TyAt w (tD 0) (.agg #[.int .i64 3,.int .i64 0,.int .i64 1,.int .i64 1,.slice none 0 0]):=tD_at w 0 (by omega)
theorem tD_at1 (w:World):TyAt w (tD 1) (.agg #[.int .i64 3,.int .i64 0,.int .i64 1,.int .i64 2,.slice none 0 0]):=tD_at w 1 (by omega)
theorem tD_at2 (w:World):TyAt w (tD 2) (.agg #[.int .i64 3,.int .i64 0,.int .i64 1,.int .i64 3,.slice none 0 0]):=tD_at w 2 (by omega)
theorem lf_node {w:World} {n:Int} (hn:i64r n):TrAt w (lf n) (.agg #[.int .i64 0,.int .i64 n,.slice none 0 0]):=by
 unfold lf TrAt
 exact ⟨none,0,rfl,⟨Nat.le_refl _,by simp [maxLen],by unfold i64r;omega,hn⟩,by unfold KsAt;trivial⟩
def Never (_ _:World):Prop:=False
def fl17 (g g1 g2 gP gT1 gT2:Nat) (S:Nat):Nat → Value → World → Prop
 | 0,v,w => v = .agg ([.slice none 0 0,.slice (some ⟨g,0,none⟩) 2 2]:List Value).toArray
 | 1,v,w => v = .agg ([.int .i64 3,.int .i64 0,.int .i64 1,.int .i64 2,.slice none 0 0]:List Value).toArray
 | 2,v,w => v = .bool true
 | 3,v,w => v = .bool true
 | 4,v,w => v = .agg ([.slice none 0 0,.slice (some ⟨g,0,none⟩) 2 2]:List Value).toArray
 | 5,v,w => v = .agg #[.int .i64 0,.int .i64 1,.int .i64 3]
 | 6,v,w => v = .agg #[.int .i64 3,.int .i64 0,.int .i64 1,.int .i64 3,.slice none 0 0]
 | 7,v,w => v = .bool false
 | 8,v,w => v = .bool true
 | 9,v,w => v = .bool true
 | 10,v,w => v = .bool true
 | 11,v,w => v = .agg ([.int .i64 3,.int .i64 0,.int .i64 1,.int .i64 2,.slice none 0 0]:List Value).toArray
 | 12,v,w => v = .agg ([.int .i64 3,.int .i64 0,.int .i64 1,.int .i64 2,.slice none 0 0]:List Value).toArray
 | 13,v,w => v = .bool true
 | 14,v,w => v = .bool true
 | 15,v,w => v = .bool true
 | 16,v,w => v = .agg ([.int .i64 3,.int .i64 0,.int .i64 1,.int .i64 2,.slice none 0 0]:List Value).toArray
 | 17,v,w => v = .agg ([.int .i64 3,.int .i64 0,.int .i64 1,.int .i64 1,.slice none 0 0]:List Value).toArray
 | 18,v,w => v = .bool false
 | 19,v,w => v = .bool true
 | 20,v,w => v = .bool true
 | _,_,_ => True
theorem fl17_ext (g g1 g2 gP gT1 gT2:Nat) (S:Nat):∀ j v w w',j < 21 → (Ext S w w' ∨ (j ≠ 999 ∧ Never w w')) → fl17 g g1 g2 gP gT1 gT2 S j v w → fl17 g g1 g2 gP gT1 gT2 S j v w':=by
 intro j v w w' hj he h
 match j,hj,he,h with
 | 0,_,he,h => exact h
 | 1,_,he,h => exact h
 | 2,_,he,h => exact h
 | 3,_,he,h => exact h
 | 4,_,he,h => exact h
 | 5,_,he,h => exact h
 | 6,_,he,h => exact h
 | 7,_,he,h => exact h
 | 8,_,he,h => exact h
 | 9,_,he,h => exact h
 | 10,_,he,h => exact h
 | 11,_,he,h => exact h
 | 12,_,he,h => exact h
 | 13,_,he,h => exact h
 | 14,_,he,h => exact h
 | 15,_,he,h => exact h
 | 16,_,he,h => exact h
 | 17,_,he,h => exact h
 | 18,_,he,h => exact h
 | 19,_,he,h => exact h
 | 20,_,he,h => exact h
 | n + 21,hn,_,_ => exact absurd hn (by omega)
def Dl17:List Nat:=[106,107,108,109,110,111,112,113,114,115,116,117,118,119,120,121,122,123,124,125,126]
def dl17 (k:Nat):Nat:=[106,107,108,109,110,111,112,113,114,115,116,117,118,119,120,121,122,123,124,125,126].getD k 0
theorem dl17_mem:∀ k,k < 21 → dl17 k < 195 ∧ dl17 k ∈ Dl17:=by decide
theorem dl17_inj:∀ i,i < 21 → ∀ k,k < 21 → k ≠ i → dl17 i ≠ dl17 k:=by decide
set_option maxHeartbeats 2000000 in
set_option maxRecDepth 100000 in
theorem regl17 {Q:Exit → Act → World → Prop} {id:Nat} {ops:Array Oper} (hops:ops = ((Tryd.f22.body).bind (opsOf 17)).getD #[]) (a0:Act) (w0:World) (g g1 g2 gP gT1 gT2:Nat) (hsz:a0.tmps.size = 195)
  (h1:ag a0 1 = .pointer (some ⟨gP,0,none⟩)) (h2:ag a0 2 = .pointer (some ⟨gT1,0,none⟩)) (h3:ag a0 3 = .pointer (some ⟨gT2,0,none⟩))
  (hP:w0.rangeAt gP 0 [.slice none 0 0,.slice (some ⟨g,0,none⟩) 2 2]) (hT1:w0.rangeAt gT1 0 [.int .i64 3,.int .i64 0,.int .i64 1,.int .i64 1,.slice none 0 0]) (hT2:w0.rangeAt gT2 0 [.int .i64 3,.int .i64 0,.int .i64 1,.int .i64 2,.slice none 0 0]) (hX:ExR w0 g g1 g2)
  (hQ:∀ (vs:Nat → Value) (w':World),vs 20 = .bool true → Below w0.heap.size w0 w' → ∀ a',a' = (Dl17 ++ [20]).foldl (fun b s => b.put (some s) (vs s)) a0 → Q .normal a' w') :
  (Code.region id ops true).wp Tryd.prog Q a0 w0:=by
 have hg0:Below w0.heap.size w0 w0.drew:=below_drewN (Below.refl _ _) 1
 have hlt:∀ k,k < 21 → dl17 k < a0.tmps.size:=fun k hk => by have:=(dl17_mem k hk).1;omega
 refine wp_region_factsE 21 999 Dl17 dl17 (fl17 g g1 g2 gP gT1 gT2 w0.heap.size) (fun w => Below w0.heap.size w0 w) w0.heap.size Never (fun k => k) (by kernel_rfl) (by subst hops;kernel_rfl) (by subst hops;kernel_rfl) (by subst hops;kernel_rfl) (fl17_ext g g1 g2 gP gT1 gT2 w0.heap.size) hg0 ?_ ?_
 ·intro j a w hj ho hg hd
  have hgs:=hg.size
  match j,hj,hd with
  | 0,hk,hd =>
   have s:(ops[0]?).map sig = some (some 106,.load 26 (.tmp 1),26,none):=by subst hops;kernel_rfl
   have hgd:GdOk ops a none:=trivial
   have e:a.eval (.tmp 1) = .pointer (some ⟨gP,0,none⟩):=(ho.off 1 (by decide)).trans h1
   refine op_loadg s hgd gP 0 e [.slice none 0 0,.slice (some ⟨g,0,none⟩) 2 2] _ (range_below hP hg) Tryd.underlying26 rfl info_prog ?_
   exact PostE.put (i:=0) ho (dl17_mem 0 hk).2 (hlt 0 hk) (fun k hk2 hne _ => dl17_inj 0 hk k hk2 hne) (.inl (Ext.refl _ _)) rfl hg
  | 1,hk,hd =>
   have s:(ops[1]?).map sig = some (some 107,.load 31 (.tmp 3),31,none):=by subst hops;kernel_rfl
   have hgd:GdOk ops a none:=trivial
   have e:a.eval (.tmp 3) = .pointer (some ⟨gT2,0,none⟩):=(ho.off 3 (by decide)).trans h3
   refine op_loadg s hgd gT2 0 e [.int .i64 3,.int .i64 0,.int .i64 1,.int .i64 2,.slice none 0 0] _ (range_below hT2 hg) Tryd.underlying31 rfl info_typesz ?_
   exact PostE.put (i:=1) ho (dl17_mem 1 hk).2 (hlt 1 hk) (fun k hk2 hne _ => dl17_inj 1 hk k hk2 hne) (.inl (Ext.refl _ _)) rfl hg
  | 2,hk,hd =>
   have s:(ops[2]?).map sig = some (some 108,.call { callee:=.value (.func 16),args:=#[.tmp 106,.tmp 107],argTypes:=#[26,31] },4,none):=by subst hops;kernel_rfl
   have hgd:GdOk ops a none:=trivial
   have d0:=hd 0 (by decide) (by subst hops;kernel_rfl)
   have d1:=hd 1 (by decide) (by subst hops;kernel_rfl)
   have e0:ag a 106 = .agg #[.slice none 0 0,.slice (some ⟨g,0,none⟩) 2 2]:=d0
   have e1:ag a 107 = .agg #[.int .i64 3,.int .i64 0,.int .i64 1,.int .i64 2,.slice none 0 0]:=d1
   refine op_callg s hgd (w':=w) (f:=16) (args:=#[.agg #[.slice none 0 0,.slice (some ⟨g,0,none⟩) 2 2],.agg #[.int .i64 3,.int .i64 0,.int .i64 1,.int .i64 2,.slice none 0 0]]) ?_ ?_
   ·simp only [execOp]
    go_simp
    refine ⟨by simpa [ag] using e0,by simpa [ag] using e1⟩
   ·refine ((show Calls Tryd.prog _ _ w (BRes true w) from ex_vty ▸ validtype_any pEx (tD 1) w _ _ (hX.later hg).pr (tD_at1 w))).mono ?_
    rintro e w' ⟨rfl,hb⟩
    exact ⟨_,rfl,PostE.put (i:=2) ho (dl17_mem 2 hk).2 (hlt 2 hk) (fun k hk2 hne _ => dl17_inj 2 hk k hk2 hne) (.inl (Ext.of hb)) rfl (later hg hb)⟩
  | 3,hk,hd =>
   have s:(ops[3]?).map sig = some (some 109,.move (.tmp 108),4,none):=by subst hops;kernel_rfl
   have hgd:GdOk ops a none:=trivial
   have d2:=hd 2 (by decide) (by subst hops;kernel_rfl)
   have e:ag a 108 = .bool true:=d2
   refine op_valg s hgd (w':=w) (v:=.bool true) ?_ ?_
   ·exact congrArg (fun x => Result.ok (Next.value x) w) e
   ·exact PostE.put (i:=3) ho (dl17_mem 3 hk).2 (hlt 3 hk) (fun k hk2 hne _ => dl17_inj 3 hk k hk2 hne) (.inl (Ext.refl _ _)) rfl hg
  | 4,hk,hd =>
   have s:(ops[4]?).map sig = some (some 110,.load 26 (.tmp 1),26,some (3,true)):=by subst hops;kernel_rfl
   have hgd:GdOk ops a (some (3,true)):=yielded_of (d:=109) (by subst hops;kernel_rfl) (hd 3 (by decide) (by subst hops;kernel_rfl))
   have e:a.eval (.tmp 1) = .pointer (some ⟨gP,0,none⟩):=(ho.off 1 (by decide)).trans h1
   refine op_loadg s hgd gP 0 e [.slice none 0 0,.slice (some ⟨g,0,none⟩) 2 2] _ (range_below hP hg) Tryd.underlying26 rfl info_prog ?_
   exact PostE.put (i:=4) ho (dl17_mem 4 hk).2 (hlt 4 hk) (fun k hk2 hne _ => dl17_inj 4 hk k hk2 hne) (.inl (Ext.refl _ _)) rfl hg
  | 5,hk,hd =>
   have s:(ops[5]?).map sig = some (some 111,.call { callee:=.value (.func 15),args:=#[.const (.int .i64 3)],argTypes:=#[3] },28,some (3,true)):=by subst hops;kernel_rfl
   have hgd:GdOk ops a (some (3,true)):=yielded_of (d:=109) (by subst hops;kernel_rfl) (hd 3 (by decide) (by subst hops;kernel_rfl))
   refine op_callg s hgd (w':=w) (f:=15) (args:=#[.int .i64 3]) ?_ ?_
   ·simp only [execOp]
    go_simp
   ·refine (ID_any 3 (by omega) w).mono ?_
    rintro e w' ⟨rfl,hb⟩
    exact ⟨_,rfl,PostE.put (i:=5) ho (dl17_mem 5 hk).2 (hlt 5 hk) (fun k hk2 hne _ => dl17_inj 5 hk k hk2 hne) (.inl (Ext.of hb)) rfl (later hg hb)⟩
  | 6,hk,hd =>
   have s:(ops[6]?).map sig = some (some 112,.call { callee:=.value (.func 14),args:=#[.tmp 111],argTypes:=#[28] },31,some (3,true)):=by subst hops;kernel_rfl
   have hgd:GdOk ops a (some (3,true)):=yielded_of (d:=109) (by subst hops;kernel_rfl) (hd 3 (by decide) (by subst hops;kernel_rfl))
   have d5:=hd 5 (by decide) (by subst hops;kernel_rfl)
   have e0:ag a 111 = .agg #[.int .i64 0,.int .i64 1,.int .i64 3]:=d5
   refine op_callg s hgd (w':=w) (f:=14) (args:=#[.agg #[.int .i64 0,.int .i64 1,.int .i64 3]]) ?_ ?_
   ·simp only [execOp]
    go_simp
    simpa [ag] using e0
   ·refine (Of_any 0 1 3 w).mono ?_
    rintro e w' ⟨rfl,hb⟩
    exact ⟨_,rfl,PostE.put (i:=6) ho (dl17_mem 6 hk).2 (hlt 6 hk) (fun k hk2 hne _ => dl17_inj 6 hk k hk2 hne) (.inl (Ext.of hb)) rfl (later hg hb)⟩
  | 7,hk,hd =>
   have s:(ops[7]?).map sig = some (some 113,.call { callee:=.value (.func 16),args:=#[.tmp 110,.tmp 112],argTypes:=#[26,31] },4,some (3,true)):=by subst hops;kernel_rfl
   have hgd:GdOk ops a (some (3,true)):=yielded_of (d:=109) (by subst hops;kernel_rfl) (hd 3 (by decide) (by subst hops;kernel_rfl))
   have d4:=hd 4 (by decide) (by subst hops;kernel_rfl)
   have d6:=hd 6 (by decide) (by subst hops;kernel_rfl)
   have e0:ag a 110 = .agg #[.slice none 0 0,.slice (some ⟨g,0,none⟩) 2 2]:=d4
   have e1:ag a 112 = .agg #[.int .i64 3,.int .i64 0,.int .i64 1,.int .i64 3,.slice none 0 0]:=d6
   refine op_callg s hgd (w':=w) (f:=16) (args:=#[.agg #[.slice none 0 0,.slice (some ⟨g,0,none⟩) 2 2],.agg #[.int .i64 3,.int .i64 0,.int .i64 1,.int .i64 3,.slice none 0 0]]) ?_ ?_
   ·simp only [execOp]
    go_simp
    refine ⟨by simpa [ag] using e0,by simpa [ag] using e1⟩
   ·refine ((show Calls Tryd.prog _ _ w (BRes false w) from ex_vty' ▸ validtype_any pEx (tD 2) w _ _ (hX.later hg).pr (tD_at2 w))).mono ?_
    rintro e w' ⟨rfl,hb⟩
    exact ⟨_,rfl,PostE.put (i:=7) ho (dl17_mem 7 hk).2 (hlt 7 hk) (fun k hk2 hne _ => dl17_inj 7 hk k hk2 hne) (.inl (Ext.of hb)) rfl (later hg hb)⟩
  | 8,hk,hd =>
   have s:(ops[8]?).map sig = some (some 114,.unOp .not 4 (.tmp 113),4,some (3,true)):=by subst hops;kernel_rfl
   have hgd:GdOk ops a (some (3,true)):=yielded_of (d:=109) (by subst hops;kernel_rfl) (hd 3 (by decide) (by subst hops;kernel_rfl))
   have d7:=hd 7 (by decide) (by subst hops;kernel_rfl)
   have e1:ag a 113 = .bool false:=d7
   refine op_valg s hgd (w':=w) (v:=.bool true) ?_ ?_
   ·simp only [execOp,eval_tmp,e1]
    go_simp
   ·exact PostE.put (i:=8) ho (dl17_mem 8 hk).2 (hlt 8 hk) (fun k hk2 hne _ => dl17_inj 8 hk k hk2 hne) (.inl (Ext.refl _ _)) rfl hg
  | 9,hk,hd =>
   have s:(ops[9]?).map sig = some (some 115,.pick (.tmp 109) (.tmp 114) (.const (.bool false)),4,none):=by subst hops;kernel_rfl
   have hgd:GdOk ops a none:=trivial
   have d3:=hd 3 (by decide) (by subst hops;kernel_rfl)
   have d8:=hd 8 (by decide) (by subst hops;kernel_rfl)
   have e1:ag a 109 = .bool true:=d3
   have e2:ag a 114 = .bool true:=d8
   refine op_valg s hgd (w':=w) (v:=.bool true) ?_ ?_
   ·simp only [execOp,eval_tmp,e1,e2]
    go_simp
   ·exact PostE.put (i:=9) ho (dl17_mem 9 hk).2 (hlt 9 hk) (fun k hk2 hne _ => dl17_inj 9 hk k hk2 hne) (.inl (Ext.refl _ _)) rfl hg
  | 10,hk,hd =>
   have s:(ops[10]?).map sig = some (some 116,.move (.tmp 115),4,none):=by subst hops;kernel_rfl
   have hgd:GdOk ops a none:=trivial
   have d9:=hd 9 (by decide) (by subst hops;kernel_rfl)
   have e:ag a 115 = .bool true:=d9
   refine op_valg s hgd (w':=w) (v:=.bool true) ?_ ?_
   ·exact congrArg (fun x => Result.ok (Next.value x) w) e
   ·exact PostE.put (i:=10) ho (dl17_mem 10 hk).2 (hlt 10 hk) (fun k hk2 hne _ => dl17_inj 10 hk k hk2 hne) (.inl (Ext.refl _ _)) rfl hg
  | 11,hk,hd =>
   have s:(ops[11]?).map sig = some (some 117,.load 31 (.tmp 3),31,some (10,true)):=by subst hops;kernel_rfl
   have hgd:GdOk ops a (some (10,true)):=yielded_of (d:=116) (by subst hops;kernel_rfl) (hd 10 (by decide) (by subst hops;kernel_rfl))
   have e:a.eval (.tmp 3) = .pointer (some ⟨gT2,0,none⟩):=(ho.off 3 (by decide)).trans h3
   refine op_loadg s hgd gT2 0 e [.int .i64 3,.int .i64 0,.int .i64 1,.int .i64 2,.slice none 0 0] _ (range_below hT2 hg) Tryd.underlying31 rfl info_typesz ?_
   exact PostE.put (i:=11) ho (dl17_mem 11 hk).2 (hlt 11 hk) (fun k hk2 hne _ => dl17_inj 11 hk k hk2 hne) (.inl (Ext.refl _ _)) rfl hg
  | 12,hk,hd =>
   have s:(ops[12]?).map sig = some (some 118,.load 31 (.tmp 3),31,some (10,true)):=by subst hops;kernel_rfl
   have hgd:GdOk ops a (some (10,true)):=yielded_of (d:=116) (by subst hops;kernel_rfl) (hd 10 (by decide) (by subst hops;kernel_rfl))
   have e:a.eval (.tmp 3) = .pointer (some ⟨gT2,0,none⟩):=(ho.off 3 (by decide)).trans h3
   refine op_loadg s hgd gT2 0 e [.int .i64 3,.int .i64 0,.int .i64 1,.int .i64 2,.slice none 0 0] _ (range_below hT2 hg) Tryd.underlying31 rfl info_typesz ?_
   exact PostE.put (i:=12) ho (dl17_mem 12 hk).2 (hlt 12 hk) (fun k hk2 hne _ => dl17_inj 12 hk k hk2 hne) (.inl (Ext.refl _ _)) rfl hg
  | 13,hk,hd =>
   have s:(ops[13]?).map sig = some (some 119,.call { callee:=.value (.func 18),args:=#[.tmp 117,.tmp 118],argTypes:=#[31,31] },4,some (10,true)):=by subst hops;kernel_rfl
   have hgd:GdOk ops a (some (10,true)):=yielded_of (d:=116) (by subst hops;kernel_rfl) (hd 10 (by decide) (by subst hops;kernel_rfl))
   have d11:=hd 11 (by decide) (by subst hops;kernel_rfl)
   have d12:=hd 12 (by decide) (by subst hops;kernel_rfl)
   have e0:ag a 117 = .agg #[.int .i64 3,.int .i64 0,.int .i64 1,.int .i64 2,.slice none 0 0]:=d11
   have e1:ag a 118 = .agg #[.int .i64 3,.int .i64 0,.int .i64 1,.int .i64 2,.slice none 0 0]:=d12
   refine op_callg s hgd (w':=w) (f:=18) (args:=#[.agg #[.int .i64 3,.int .i64 0,.int .i64 1,.int .i64 2,.slice none 0 0],.agg #[.int .i64 3,.int .i64 0,.int .i64 1,.int .i64 2,.slice none 0 0]]) ?_ ?_
   ·simp only [execOp]
    go_simp
    refine ⟨by simpa [ag] using e0,by simpa [ag] using e1⟩
   ·refine ((show Calls Tryd.prog _ _ w (BRes true w) from ex_same ▸ sametype_any 100 (tD 1) (by decide) (tD 1) w _ _ (tD_at1 w) (tD_at1 w))).mono ?_
    rintro e w' ⟨rfl,hb⟩
    exact ⟨_,rfl,PostE.put (i:=13) ho (dl17_mem 13 hk).2 (hlt 13 hk) (fun k hk2 hne _ => dl17_inj 13 hk k hk2 hne) (.inl (Ext.of hb)) rfl (later hg hb)⟩
  | 14,hk,hd =>
   have s:(ops[14]?).map sig = some (some 120,.pick (.tmp 116) (.tmp 119) (.const (.bool false)),4,none):=by subst hops;kernel_rfl
   have hgd:GdOk ops a none:=trivial
   have d10:=hd 10 (by decide) (by subst hops;kernel_rfl)
   have d13:=hd 13 (by decide) (by subst hops;kernel_rfl)
   have e1:ag a 116 = .bool true:=d10
   have e2:ag a 119 = .bool true:=d13
   refine op_valg s hgd (w':=w) (v:=.bool true) ?_ ?_
   ·simp only [execOp,eval_tmp,e1,e2]
    go_simp
   ·exact PostE.put (i:=14) ho (dl17_mem 14 hk).2 (hlt 14 hk) (fun k hk2 hne _ => dl17_inj 14 hk k hk2 hne) (.inl (Ext.refl _ _)) rfl hg
  | 15,hk,hd =>
   have s:(ops[15]?).map sig = some (some 121,.move (.tmp 120),4,none):=by subst hops;kernel_rfl
   have hgd:GdOk ops a none:=trivial
   have d14:=hd 14 (by decide) (by subst hops;kernel_rfl)
   have e:ag a 120 = .bool true:=d14
   refine op_valg s hgd (w':=w) (v:=.bool true) ?_ ?_
   ·exact congrArg (fun x => Result.ok (Next.value x) w) e
   ·exact PostE.put (i:=15) ho (dl17_mem 15 hk).2 (hlt 15 hk) (fun k hk2 hne _ => dl17_inj 15 hk k hk2 hne) (.inl (Ext.refl _ _)) rfl hg
  | 16,hk,hd =>
   have s:(ops[16]?).map sig = some (some 122,.load 31 (.tmp 3),31,some (15,true)):=by subst hops;kernel_rfl
   have hgd:GdOk ops a (some (15,true)):=yielded_of (d:=121) (by subst hops;kernel_rfl) (hd 15 (by decide) (by subst hops;kernel_rfl))
   have e:a.eval (.tmp 3) = .pointer (some ⟨gT2,0,none⟩):=(ho.off 3 (by decide)).trans h3
   refine op_loadg s hgd gT2 0 e [.int .i64 3,.int .i64 0,.int .i64 1,.int .i64 2,.slice none 0 0] _ (range_below hT2 hg) Tryd.underlying31 rfl info_typesz ?_
   exact PostE.put (i:=16) ho (dl17_mem 16 hk).2 (hlt 16 hk) (fun k hk2 hne _ => dl17_inj 16 hk k hk2 hne) (.inl (Ext.refl _ _)) rfl hg
  | 17,hk,hd =>
   have s:(ops[17]?).map sig = some (some 123,.load 31 (.tmp 2),31,some (15,true)):=by subst hops;kernel_rfl
   have hgd:GdOk ops a (some (15,true)):=yielded_of (d:=121) (by subst hops;kernel_rfl) (hd 15 (by decide) (by subst hops;kernel_rfl))
   have e:a.eval (.tmp 2) = .pointer (some ⟨gT1,0,none⟩):=(ho.off 2 (by decide)).trans h2
   refine op_loadg s hgd gT1 0 e [.int .i64 3,.int .i64 0,.int .i64 1,.int .i64 1,.slice none 0 0] _ (range_below hT1 hg) Tryd.underlying31 rfl info_typesz ?_
   exact PostE.put (i:=17) ho (dl17_mem 17 hk).2 (hlt 17 hk) (fun k hk2 hne _ => dl17_inj 17 hk k hk2 hne) (.inl (Ext.refl _ _)) rfl hg
  | 18,hk,hd =>
   have s:(ops[18]?).map sig = some (some 124,.call { callee:=.value (.func 18),args:=#[.tmp 122,.tmp 123],argTypes:=#[31,31] },4,some (15,true)):=by subst hops;kernel_rfl
   have hgd:GdOk ops a (some (15,true)):=yielded_of (d:=121) (by subst hops;kernel_rfl) (hd 15 (by decide) (by subst hops;kernel_rfl))
   have d16:=hd 16 (by decide) (by subst hops;kernel_rfl)
   have d17:=hd 17 (by decide) (by subst hops;kernel_rfl)
   have e0:ag a 122 = .agg #[.int .i64 3,.int .i64 0,.int .i64 1,.int .i64 2,.slice none 0 0]:=d16
   have e1:ag a 123 = .agg #[.int .i64 3,.int .i64 0,.int .i64 1,.int .i64 1,.slice none 0 0]:=d17
   refine op_callg s hgd (w':=w) (f:=18) (args:=#[.agg #[.int .i64 3,.int .i64 0,.int .i64 1,.int .i64 2,.slice none 0 0],.agg #[.int .i64 3,.int .i64 0,.int .i64 1,.int .i64 1,.slice none 0 0]]) ?_ ?_
   ·simp only [execOp]
    go_simp
    refine ⟨by simpa [ag] using e0,by simpa [ag] using e1⟩
   ·refine ((show Calls Tryd.prog _ _ w (BRes false w) from ex_same' ▸ sametype_any 100 (tD 1) (by decide) (tD 0) w _ _ (tD_at1 w) (tD_at0 w))).mono ?_
    rintro e w' ⟨rfl,hb⟩
    exact ⟨_,rfl,PostE.put (i:=18) ho (dl17_mem 18 hk).2 (hlt 18 hk) (fun k hk2 hne _ => dl17_inj 18 hk k hk2 hne) (.inl (Ext.of hb)) rfl (later hg hb)⟩
  | 19,hk,hd =>
   have s:(ops[19]?).map sig = some (some 125,.unOp .not 4 (.tmp 124),4,some (15,true)):=by subst hops;kernel_rfl
   have hgd:GdOk ops a (some (15,true)):=yielded_of (d:=121) (by subst hops;kernel_rfl) (hd 15 (by decide) (by subst hops;kernel_rfl))
   have d18:=hd 18 (by decide) (by subst hops;kernel_rfl)
   have e1:ag a 124 = .bool false:=d18
   refine op_valg s hgd (w':=w) (v:=.bool true) ?_ ?_
   ·simp only [execOp,eval_tmp,e1]
    go_simp
   ·exact PostE.put (i:=19) ho (dl17_mem 19 hk).2 (hlt 19 hk) (fun k hk2 hne _ => dl17_inj 19 hk k hk2 hne) (.inl (Ext.refl _ _)) rfl hg
  | 20,hk,hd =>
   have s:(ops[20]?).map sig = some (some 126,.pick (.tmp 121) (.tmp 125) (.const (.bool false)),4,none):=by subst hops;kernel_rfl
   have hgd:GdOk ops a none:=trivial
   have d15:=hd 15 (by decide) (by subst hops;kernel_rfl)
   have d19:=hd 19 (by decide) (by subst hops;kernel_rfl)
   have e1:ag a 121 = .bool true:=d15
   have e2:ag a 125 = .bool true:=d19
   refine op_valg s hgd (w':=w) (v:=.bool true) ?_ ?_
   ·simp only [execOp,eval_tmp,e1,e2]
    go_simp
   ·exact PostE.put (i:=20) ho (dl17_mem 20 hk).2 (hlt 20 hk) (fun k hk2 hne _ => dl17_inj 20 hk k hk2 hne) (.inl (Ext.refl _ _)) rfl hg
  | n + 21,hn,_ => exact absurd hn (by omega)
 ·intro a w ho hg hf
  have s:(ops[21]?).map sig = some (some 20,.assign (.tmp 126),4,none):=by subst hops;kernel_rfl
  have hgd:GdOk ops a none:=trivial
  have e:ag a 126 = .bool true:=hf 20 (by decide)
  refine op_valg s hgd (w':=w) (v:=.bool true) ?_ ?_
  ·exact congrArg (fun x => Result.ok (Next.value x) w) e
  ·have ho2:Off (Dl17 ++ [20]) a0 (a.put (some 20) (.bool true)):=(ho.mono (fun s hs => List.mem_append_left _ hs)).put (by decide)
   exact hQ (ag (a.put (some 20) (.bool true))) w (ag_put (by rw [ho.size,hsz];decide)) hg _ (ho2.eq (fun s hs => by rw [hsz];revert s;decide))
def EpS (w w':World):Prop:=∃ gd vs,w' = w.setCells gd 0 vs
theorem arr_eps {w:World} {gd g' n:Nat} {e:TypeId} {cs vs:List Value} (h:Arr w gd n e cs):∃ cs',Arr (w.setCells g' 0 vs) gd n e cs':=by
 by_cases e:gd = g'
 ·subst e;exact ⟨_,h.setCells vs⟩
 ·exact ⟨_,h.only (Only.setCells g' 0 vs w) e⟩
def fl16 (g g1 g2 gP:Nat) (S:Nat):Nat → Value → World → Prop
 | 0,v,w => v = .agg ([.slice none 0 0,.slice (some ⟨g,0,none⟩) 2 2]:List Value).toArray
 | 1,v,w => v = .agg #[.int .i64 0,.int .i64 1,.int .i64 2]
 | 2,v,w => ∃ hh c2,v = .tuple #[.agg (dc31 2 1 ⟨#[83,104,97,112,101]⟩ (.slice (some ⟨hh,0,none⟩) 2 c2)).toArray,.bool true]
 | 3,v,w => ∃ hh c2,v = .tuple #[.agg (dc31 2 1 ⟨#[83,104,97,112,101]⟩ (.slice (some ⟨hh,0,none⟩) 2 c2)).toArray,.bool true]
 | 4,v,w => ∃ hh c2,v = .agg (dc31 2 1 ⟨#[83,104,97,112,101]⟩ (.slice (some ⟨hh,0,none⟩) 2 c2)).toArray
 | 5,v,w => v = .bool true
 | 6,v,w => ∃ gd,v = .pointer (some ⟨gd,0,none⟩) ∧ S ≤ gd ∧ ∃ cs,Arr w gd 31 46 cs
 | 7,v,w => ∃ gd hh c2,v = .pointer (some ⟨gd,0,none⟩) ∧ S ≤ gd ∧ Arr w gd 31 46 (dc31 2 1 ⟨#[83,104,97,112,101]⟩ (.slice (some ⟨hh,0,none⟩) 2 c2))
 | _,_,_ => True
theorem fl16_ext (g g1 g2 gP:Nat) (S:Nat):∀ j v w w',j < 8 → (Ext S w w' ∨ (j ≠ 7 ∧ EpS w w')) → fl16 g g1 g2 gP S j v w → fl16 g g1 g2 gP S j v w':=by
 intro j v w w' hj he h
 match j,hj,he,h with
 | 0,_,he,h => exact h
 | 1,_,he,h => exact h
 | 2,_,he,h => exact h
 | 3,_,he,h => exact h
 | 4,_,he,h => exact h
 | 5,_,he,h => exact h
 | 6,_,he,h =>
  obtain ⟨gd,e1,e2,cs,e3⟩:=h
  rcases he with he | ⟨_,g',vs,rfl⟩
  ·exact ⟨gd,e1,e2,cs,e3.ext he e2⟩
  ·obtain ⟨cs',e4⟩:=arr_eps (g':=g') (vs:=vs) e3
   exact ⟨gd,e1,e2,cs',e4⟩
 | 7,_,he,h =>
  obtain ⟨gd,hh,c2,e1,e2,e3⟩:=h
  rcases he with he | ⟨hne,_⟩
  ·exact ⟨gd,hh,c2,e1,e2,e3.ext he e2⟩
  ·exact absurd rfl hne
 | n + 8,hn,_,_ => exact absurd hn (by omega)
def Dl16:List Nat:=[101,102,103,100,104,105,18]
def dl16 (k:Nat):Nat:=[101,102,103,100,104,105,18,18].getD k 0
theorem dl16_mem:∀ k,k < 8 → dl16 k < 195 ∧ dl16 k ∈ Dl16:=by decide
set_option maxHeartbeats 2000000 in
set_option maxRecDepth 100000 in
theorem regl16 {Q:Exit → Act → World → Prop} {id:Nat} {ops:Array Oper} (hops:ops = ((Tryd.f22.body).bind (opsOf 16)).getD #[]) (a0:Act) (w0:World) (g g1 g2 gP:Nat) (hsz:a0.tmps.size = 195)
  (h1:ag a0 1 = .pointer (some ⟨gP,0,none⟩)) (hP:w0.rangeAt gP 0 [.slice none 0 0,.slice (some ⟨g,0,none⟩) 2 2]) (hX:ExR w0 g g1 g2)
  (hQ:∀ (vs:Nat → Value) (w':World) (gd hh c2:Nat),vs 18 = .pointer (some ⟨gd,0,none⟩) → vs 19 = .bool true → w0.heap.size ≤ gd → Arr w' gd 31 46 (dc31 2 1 ⟨#[83,104,97,112,101]⟩ (.slice (some ⟨hh,0,none⟩) 2 c2)) → Below w0.heap.size w0 w' → ∀ a',a' = (Dl16 ++ [19]).foldl (fun b s => b.put (some s) (vs s)) a0 → Q .normal a' w') :
  (Code.region id ops true).wp Tryd.prog Q a0 w0:=by
 have hg0:Below w0.heap.size w0 w0.drew:=below_drewN (Below.refl _ _) 1
 have hlt:∀ k,k < 8 → dl16 k < a0.tmps.size:=fun k hk => by have:=(dl16_mem k hk).1;omega
 refine wp_region_factsE 8 7 Dl16 dl16 (fl16 g g1 g2 gP w0.heap.size) (fun w => Below w0.heap.size w0 w) w0.heap.size EpS (fun k => k) (by kernel_rfl) (by subst hops;kernel_rfl) (by subst hops;kernel_rfl) (by subst hops;kernel_rfl) (fl16_ext g g1 g2 gP w0.heap.size) hg0 ?_ ?_
 ·intro j a w hj ho hg hd
  have hgs:=hg.size
  match j,hj,hd with
  | 0,hk,hd =>
   have s:(ops[0]?).map sig = some (some 101,.load 26 (.tmp 1),26,none):=by subst hops;kernel_rfl
   have hgd:GdOk ops a none:=trivial
   have e:a.eval (.tmp 1) = .pointer (some ⟨gP,0,none⟩):=(ho.off 1 (by decide)).trans h1
   refine op_loadg s hgd gP 0 e [.slice none 0 0,.slice (some ⟨g,0,none⟩) 2 2] _ (range_below hP hg) Tryd.underlying26 rfl info_prog ?_
   exact PostE.put (i:=0) ho (dl16_mem 0 hk).2 (hlt 0 hk) (fun k hk2 hne _ => (by decide:∀ k,k < 8 → k ≠ 0 → dl16 0 ≠ dl16 k) k hk2 hne) (.inl (Ext.refl _ _)) rfl hg
  | 1,hk,hd =>
   have s:(ops[1]?).map sig = some (some 102,.call { callee:=.value (.func 15),args:=#[.const (.int .i64 2)],argTypes:=#[3] },28,none):=by subst hops;kernel_rfl
   have hgd:GdOk ops a none:=trivial
   refine op_callg s hgd (w':=w) (f:=15) (args:=#[.int .i64 2]) ?_ ?_
   ·simp only [execOp]
    go_simp
   ·refine (ID_any 2 (by omega) w).mono ?_
    rintro e w' ⟨rfl,hb⟩
    exact ⟨_,rfl,PostE.put (i:=1) ho (dl16_mem 1 hk).2 (hlt 1 hk) (fun k hk2 hne _ => (by decide:∀ k,k < 8 → k ≠ 1 → dl16 1 ≠ dl16 k) k hk2 hne) (.inl (Ext.of hb)) rfl (later hg hb)⟩
  | 2,hk,hd =>
   have s:(ops[2]?).map sig = some (some 103,.call { callee:=.value (.func 20),args:=#[.tmp 101,.tmp 102],argTypes:=#[26,28] },47,none):=by subst hops;kernel_rfl
   have hgd:GdOk ops a none:=trivial
   have d0:=hd 0 (by decide) (by subst hops;kernel_rfl)
   have d1:=hd 1 (by decide) (by subst hops;kernel_rfl)
   have e0:ag a 101 = .agg #[.slice none 0 0,.slice (some ⟨g,0,none⟩) 2 2]:=d0
   have e1:ag a 102 = .agg #[.int .i64 0,.int .i64 1,.int .i64 2]:=d1
   refine op_callg s hgd (w':=w) (f:=20) (args:=#[.agg #[.slice none 0 0,.slice (some ⟨g,0,none⟩) 2 2],.agg #[.int .i64 0,.int .i64 1,.int .i64 2]]) ?_ ?_
   ·simp only [execOp]
    go_simp
    refine ⟨by simpa [ag] using e0,by simpa [ag] using e1⟩
   ·refine (Def_ex w g g1 g2 (hX.later hg)).mono ?_
    rintro e w' ⟨hh,c2,rfl,hb⟩
    exact ⟨_,rfl,PostE.put (i:=2) ho (dl16_mem 2 hk).2 (hlt 2 hk) (fun k hk2 hne _ => (by decide:∀ k,k < 8 → k ≠ 2 → dl16 2 ≠ dl16 k) k hk2 hne) (.inl (Ext.of hb)) ⟨hh,c2,rfl⟩ (later hg hb)⟩
  | 3,hk,hd =>
   have s:(ops[3]?).map sig = some (some 100,.move (.tmp 103),47,none):=by subst hops;kernel_rfl
   have hgd:GdOk ops a none:=trivial
   have d2:=hd 2 (by decide) (by subst hops;kernel_rfl)
   obtain ⟨hh,c2,e⟩:=d2
   have e:ag a 103 = .tuple #[.agg (dc31 2 1 ⟨#[83,104,97,112,101]⟩ (.slice (some ⟨hh,0,none⟩) 2 c2)).toArray,.bool true]:=e
   refine op_valg s hgd (w':=w) (v:=.tuple #[.agg (dc31 2 1 ⟨#[83,104,97,112,101]⟩ (.slice (some ⟨hh,0,none⟩) 2 c2)).toArray,.bool true]) ?_ ?_
   ·exact congrArg (fun x => Result.ok (Next.value x) w) e
   ·exact PostE.put (i:=3) ho (dl16_mem 3 hk).2 (hlt 3 hk) (fun k hk2 hne _ => (by decide:∀ k,k < 8 → k ≠ 3 → dl16 3 ≠ dl16 k) k hk2 hne) (.inl (Ext.refl _ _)) ⟨hh,c2,rfl⟩ hg
  | 4,hk,hd =>
   have s:(ops[4]?).map sig = some (some 104,.extract (.tmp 100) 0,46,none):=by subst hops;kernel_rfl
   have hgd:GdOk ops a none:=trivial
   have d3:=hd 3 (by decide) (by subst hops;kernel_rfl)
   obtain ⟨hh,c2,e⟩:=d3
   have e:ag a 100 = .tuple #[.agg (dc31 2 1 ⟨#[83,104,97,112,101]⟩ (.slice (some ⟨hh,0,none⟩) 2 c2)).toArray,.bool true]:=e
   refine op_valg s hgd (w':=w) (v:=.agg (dc31 2 1 ⟨#[83,104,97,112,101]⟩ (.slice (some ⟨hh,0,none⟩) 2 c2)).toArray) ?_ ?_
   ·simp only [execOp,eval_tmp,e]
    go_simp
   ·exact PostE.put (i:=4) ho (dl16_mem 4 hk).2 (hlt 4 hk) (fun k hk2 hne _ => (by decide:∀ k,k < 8 → k ≠ 4 → dl16 4 ≠ dl16 k) k hk2 hne) (.inl (Ext.refl _ _)) ⟨hh,c2,rfl⟩ hg
  | 5,hk,hd =>
   have s:(ops[5]?).map sig = some (some 105,.extract (.tmp 100) 1,4,none):=by subst hops;kernel_rfl
   have hgd:GdOk ops a none:=trivial
   have d3:=hd 3 (by decide) (by subst hops;kernel_rfl)
   obtain ⟨hh,c2,e⟩:=d3
   have e:ag a 100 = .tuple #[.agg (dc31 2 1 ⟨#[83,104,97,112,101]⟩ (.slice (some ⟨hh,0,none⟩) 2 c2)).toArray,.bool true]:=e
   refine op_valg s hgd (w':=w) (v:=.bool true) ?_ ?_
   ·simp only [execOp,eval_tmp,e]
    go_simp
   ·exact PostE.put (i:=5) ho (dl16_mem 5 hk).2 (hlt 5 hk) (fun k hk2 hne _ => (by decide:∀ k,k < 8 → k ≠ 5 → dl16 5 ≠ dl16 k) k hk2 hne) (.inl (Ext.refl _ _)) rfl hg
  | 6,hk,hd =>
   have s:(ops[6]?).map sig = some (some 18,.alloc 46,0,none):=by subst hops;kernel_rfl
   have hgd:GdOk ops a none:=trivial
   refine op_valg s hgd (w':=w.alloc (.cells z31.toArray 46)) (v:=.pointer (some ⟨w.heap.size,0,none⟩)) ?_ ?_
   ·simp only [execOp]
    go_simp
    rfl
   ·exact PostE.put (i:=6) ho (dl16_mem 6 hk).2 (hlt 6 hk) (fun k hk2 hne hdp => by
        by_cases e7:k = 7
        ·subst e7;exact absurd (show depB ops 7 6 = true by subst hops;kernel_rfl) (by rw [hdp];decide)
        ·exact (by decide:∀ k,k < 8 → k ≠ 6 → k ≠ 7 → dl16 6 ≠ dl16 k) k hk2 hne e7) (.inl (Ext.of (new_later w _))) ⟨_,rfl,hgs,_,z31_new w⟩ (later hg (new_later w _))
  | 7,hk,hd =>
   have s:(ops[7]?).map sig = some (none,.store 46 (.tmp 18) (.tmp 104),0,none):=by subst hops;kernel_rfl
   have hgd:GdOk ops a none:=trivial
   have d4:=hd 4 (by decide) (by subst hops;kernel_rfl)
   have d6:=hd 6 (by decide) (by subst hops;kernel_rfl)
   obtain ⟨hh,c2,e4⟩:=d4
   have e4:ag a 104 = _:=e4
   obtain ⟨gd,e6,hgS,cs,hA⟩:=d6
   have e6:ag a 18 = .pointer (some ⟨gd,0,none⟩):=e6
   refine wpOp_ofg s hgd fun o h1 h2 h3 => ?_
   refine wp_store_mid _ _ _ h2 gd 0 (dc31 2 1 ⟨#[83,104,97,112,101]⟩ (.slice (some ⟨hh,0,none⟩) 2 c2)).toArray e6 e4 (hA.thereAt (Nat.le_refl 31)) info_def (all_oneCell_toArray (List.all_eq_true.mp (by rfl))) ?_
   rw [h1]
   have hA2:=hA.setCells (o:=0) (dc31 2 1 ⟨#[83,104,97,112,101]⟩ (.slice (some ⟨hh,0,none⟩) 2 c2))
   rw [setAll_all cs (dc31 2 1 ⟨#[83,104,97,112,101]⟩ (.slice (some ⟨hh,0,none⟩) 2 c2)) (by have:=hA.1;simp at this;rw [this];rfl)] at hA2
   exact ⟨ho,fun _ _ _ _ => rfl,.inr ⟨rfl,gd,_,rfl⟩,⟨gd,hh,c2,e6,hgS,hA2⟩,below_setCells _ 0 w hg hgS⟩
  | n + 8,hn,_ => exact absurd hn (by omega)
 ·intro a w ho hg hf
  have s:(ops[8]?).map sig = some (some 19,.assign (.tmp 105),4,none):=by subst hops;kernel_rfl
  have hgd:GdOk ops a none:=trivial
  have e:ag a 105 = .bool true:=hf 5 (by decide)
  obtain ⟨gd,hh,c2,e18,hgS,hA⟩:=hf 7 (by decide)
  have e18:ag a 18 = _:=e18
  refine op_valg s hgd (w':=w) (v:=.bool true) ?_ ?_
  ·exact congrArg (fun x => Result.ok (Next.value x) w) e
  ·have ho2:Off (Dl16 ++ [19]) a0 (a.put (some 19) (.bool true)):=(ho.mono (fun s hs => List.mem_append_left _ hs)).put (by decide)
   exact hQ (ag (a.put (some 19) (.bool true))) w gd hh c2 ((ag_ne (by decide)).trans e18) (ag_put (by rw [ho.size,hsz];decide)) hgS hA hg _ (ho2.eq (fun s hs => by rw [hsz];revert s;decide))
theorem cs_node {w:World} {gk:Nat} (h:Arr w gk 3 53 [.int .i64 0,.int .i64 0,.slice none 0 0]):TrAt w (.node 3 0 [lf 0]) (.agg #[.int .i64 3,.int .i64 0,.slice (some ⟨gk,0,none⟩) 1 1]):=by
 unfold TrAt
 refine ⟨some ⟨gk,0,none⟩,1,rfl,⟨Nat.le_refl _,by simp [maxLen],by unfold i64r;omega,by unfold i64r;omega⟩,?_⟩
 unfold KsAt
 refine ⟨⟨gk,0,_,rfl,by simpa using h.range,lf_node (by unfold i64r;omega)⟩,by unfold KsAt;trivial⟩
def fl19 (g g1 g2 gP gT2 gD g4 g6 g8 g9 g10 g13:Nat) (C4 C6 C8 C9 C10 C13:List Value) (S:Nat):Nat → Value → World → Prop
 | 0,v,w => v = .bool true
 | 1,v,w => v = .bool true
 | 2,v,w => v = .bool true
 | 3,v,w => v = .bool true
 | 4,v,w => v = .bool true
 | 5,v,w => v = .bool true
 | 6,v,w => v = .bool true
 | 7,v,w => v = .bool true
 | 8,v,w => v = .pointer (some ⟨gD,7,none⟩)
 | 9,v,w => v = .string ⟨#[83,104,97,112,101]⟩
 | 10,v,w => v = .bool true
 | 11,v,w => v = .bool true
 | 12,v,w => v = .bool true
 | 13,v,w => v = .agg (C4:List Value).toArray
 | 14,v,w => v = .agg (C13:List Value).toArray
 | 15,v,w => v = .bool true
 | 16,v,w => v = .bool true
 | 17,v,w => v = .bool true
 | 18,v,w => v = .agg (C6:List Value).toArray
 | 19,v,w => v = .agg #[.int .i64 0,.int .i64 0,.slice none 0 0]
 | 20,v,w => ∃ gk,v = .slice (some ⟨gk,0,none⟩) 1 1 ∧ S ≤ gk ∧ Arr w gk 3 53 [.int .i64 0,.int .i64 0,.slice none 0 0]
 | 21,v,w => ∃ gk,v = .agg #[.int .i64 3,.int .i64 0,.slice (some ⟨gk,0,none⟩) 1 1] ∧ S ≤ gk ∧ Arr w gk 3 53 [.int .i64 0,.int .i64 0,.slice none 0 0]
 | 22,v,w => v = .bool true
 | 23,v,w => v = .bool true
 | 24,v,w => v = .bool true
 | 25,v,w => v = .agg ([.slice none 0 0,.slice (some ⟨g,0,none⟩) 2 2]:List Value).toArray
 | 26,v,w => v = .agg ([.int .i64 3,.int .i64 0,.int .i64 1,.int .i64 2,.slice none 0 0]:List Value).toArray
 | 27,v,w => v = .agg (C8:List Value).toArray
 | 28,v,w => v = .bool true
 | 29,v,w => v = .bool true
 | 30,v,w => v = .bool true
 | 31,v,w => v = .agg ([.slice none 0 0,.slice (some ⟨g,0,none⟩) 2 2]:List Value).toArray
 | 32,v,w => v = .agg ([.int .i64 3,.int .i64 0,.int .i64 1,.int .i64 2,.slice none 0 0]:List Value).toArray
 | 33,v,w => v = .agg (C9:List Value).toArray
 | 34,v,w => v = .bool false
 | 35,v,w => v = .bool true
 | 36,v,w => v = .bool true
 | 37,v,w => v = .bool true
 | 38,v,w => v = .agg (C8:List Value).toArray
 | 39,v,w => v = .int .i64 4
 | 40,v,w => v = .bool true
 | 41,v,w => v = .bool true
 | 42,v,w => v = .bool true
 | 43,v,w => v = .agg (C10:List Value).toArray
 | 44,v,w => v = .int .i64 5
 | 45,v,w => v = .bool true
 | 46,v,w => v = .bool true
 | 47,v,w => v = .bool true
 | 48,v,w => v = .agg (C8:List Value).toArray
 | 49,v,w => v = .int .i64 4
 | 50,v,w => v = .bool true
 | 51,v,w => v = .bool true
 | _,_,_ => True
theorem fl19_ext (g g1 g2 gP gT2 gD g4 g6 g8 g9 g10 g13:Nat) (C4 C6 C8 C9 C10 C13:List Value) (S:Nat):∀ j v w w',j < 52 → (Ext S w w' ∨ (j ≠ 999 ∧ Never w w')) → fl19 g g1 g2 gP gT2 gD g4 g6 g8 g9 g10 g13 C4 C6 C8 C9 C10 C13 S j v w → fl19 g g1 g2 gP gT2 gD g4 g6 g8 g9 g10 g13 C4 C6 C8 C9 C10 C13 S j v w':=by
 intro j v w w' hj he h
 match j,hj,he,h with
 | 0,_,he,h => exact h
 | 1,_,he,h => exact h
 | 2,_,he,h => exact h
 | 3,_,he,h => exact h
 | 4,_,he,h => exact h
 | 5,_,he,h => exact h
 | 6,_,he,h => exact h
 | 7,_,he,h => exact h
 | 8,_,he,h => exact h
 | 9,_,he,h => exact h
 | 10,_,he,h => exact h
 | 11,_,he,h => exact h
 | 12,_,he,h => exact h
 | 13,_,he,h => exact h
 | 14,_,he,h => exact h
 | 15,_,he,h => exact h
 | 16,_,he,h => exact h
 | 17,_,he,h => exact h
 | 18,_,he,h => exact h
 | 19,_,he,h => exact h
 | 20,_,he,h =>
  obtain ⟨gk,e1,e2,e3⟩:=h
  rcases he with he | ⟨_,hn⟩
  ·exact ⟨gk,e1,e2,e3.ext he e2⟩
  ·exact absurd hn id
 | 21,_,he,h =>
  obtain ⟨gk,e1,e2,e3⟩:=h
  rcases he with he | ⟨_,hn⟩
  ·exact ⟨gk,e1,e2,e3.ext he e2⟩
  ·exact absurd hn id
 | 22,_,he,h => exact h
 | 23,_,he,h => exact h
 | 24,_,he,h => exact h
 | 25,_,he,h => exact h
 | 26,_,he,h => exact h
 | 27,_,he,h => exact h
 | 28,_,he,h => exact h
 | 29,_,he,h => exact h
 | 30,_,he,h => exact h
 | 31,_,he,h => exact h
 | 32,_,he,h => exact h
 | 33,_,he,h => exact h
 | 34,_,he,h => exact h
 | 35,_,he,h => exact h
 | 36,_,he,h => exact h
 | 37,_,he,h => exact h
 | 38,_,he,h => exact h
 | 39,_,he,h => exact h
 | 40,_,he,h => exact h
 | 41,_,he,h => exact h
 | 42,_,he,h => exact h
 | 43,_,he,h => exact h
 | 44,_,he,h => exact h
 | 45,_,he,h => exact h
 | 46,_,he,h => exact h
 | 47,_,he,h => exact h
 | 48,_,he,h => exact h
 | 49,_,he,h => exact h
 | 50,_,he,h => exact h
 | 51,_,he,h => exact h
 | n + 52,hn,_,_ => exact absurd hn (by omega)
def Dl19:List Nat:=[143,144,145,146,147,148,149,150,151,152,153,154,155,156,157,158,159,160,161,162,163,164,165,166,167,168,169,170,171,172,173,174,175,176,177,178,179,180,181,182,183,184,185,186,187,188,189,190,191,192,193,194]
def dl19 (k:Nat):Nat:=[143,144,145,146,147,148,149,150,151,152,153,154,155,156,157,158,159,160,161,162,163,164,165,166,167,168,169,170,171,172,173,174,175,176,177,178,179,180,181,182,183,184,185,186,187,188,189,190,191,192,193,194].getD k 0
theorem dl19_mem:∀ k,k < 52 → dl19 k < 195 ∧ dl19 k ∈ Dl19:=by decide
theorem dl19_inj:∀ i,i < 52 → ∀ k,k < 52 → k ≠ i → dl19 i ≠ dl19 k:=by decide
set_option maxHeartbeats 2000000 in
set_option maxRecDepth 100000 in
theorem regl19 {Q:Exit → Act → World → Prop} {id:Nat} {ops:Array Oper} (hops:ops = ((Tryd.f22.body).bind (opsOf 19)).getD #[]) (a0:Act) (w0:World) (g g1 g2 gP gT2 gD g4 g6 g8 g9 g10 g13:Nat) (C4 C6 C8 C9 C10 C13:List Value) (hsz:a0.tmps.size = 195)
  (h1:ag a0 1 = .pointer (some ⟨gP,0,none⟩)) (h3:ag a0 3 = .pointer (some ⟨gT2,0,none⟩)) (h18:ag a0 18 = .pointer (some ⟨gD,0,none⟩)) (h19:ag a0 19 = .bool true) (h20:ag a0 20 = .bool true) (h21:ag a0 21 = .bool true) (h4:ag a0 4 = .pointer (some ⟨g4,0,none⟩)) (h6:ag a0 6 = .pointer (some ⟨g6,0,none⟩)) (h8:ag a0 8 = .pointer (some ⟨g8,0,none⟩)) (h9:ag a0 9 = .pointer (some ⟨g9,0,none⟩)) (h10:ag a0 10 = .pointer (some ⟨g10,0,none⟩)) (h13:ag a0 13 = .pointer (some ⟨g13,0,none⟩))
  (hP:w0.rangeAt gP 0 [.slice none 0 0,.slice (some ⟨g,0,none⟩) 2 2]) (hT2:w0.rangeAt gT2 0 [.int .i64 3,.int .i64 0,.int .i64 1,.int .i64 2,.slice none 0 0]) (hX:ExR w0 g g1 g2) (hK:Kv w0) (DV:Value) (hD:Arr w0 gD 31 46 (dc31 2 1 ⟨#[83,104,97,112,101]⟩ DV))
  (v4:VarAt w0 g4 (.node 2 0 [lf 0,lf 0]) C4) (v6:VarAt w0 g6 (.node 3 0 [lf 0]) C6) (v8:VarAt w0 g8 bxE C8) (v9:VarAt w0 g9 wrE C9) (v10:VarAt w0 g10 liE C10) (v13:VarAt w0 g13 (.node 2 0 [lf 0,lf 0]) C13)
  (hQ:∀ (vs:Nat → Value) (w':World),vs 0 = .bool true → Below w0.heap.size w0 w' → ∀ a',a' = (Dl19 ++ [0]).foldl (fun b s => b.put (some s) (vs s)) a0 → Q .normal a' w') :
  (Code.region id ops true).wp Tryd.prog Q a0 w0:=by
 have hg0:Below w0.heap.size w0 w0.drew:=below_drewN (Below.refl _ _) 1
 have hlt:∀ k,k < 52 → dl19 k < a0.tmps.size:=fun k hk => by have:=(dl19_mem k hk).1;omega
 refine wp_region_factsE 52 999 Dl19 dl19 (fl19 g g1 g2 gP gT2 gD g4 g6 g8 g9 g10 g13 C4 C6 C8 C9 C10 C13 w0.heap.size) (fun w => Below w0.heap.size w0 w) w0.heap.size Never (fun k => k) (by kernel_rfl) (by subst hops;kernel_rfl) (by subst hops;kernel_rfl) (by subst hops;kernel_rfl) (fl19_ext g g1 g2 gP gT2 gD g4 g6 g8 g9 g10 g13 C4 C6 C8 C9 C10 C13 w0.heap.size) hg0 ?_ ?_
 ·intro j a w hj ho hg hd
  have hgs:=hg.size
  match j,hj,hd with
  | 0,hk,hd =>
   have s:(ops[0]?).map sig = some (some 143,.move (.tmp 20),4,none):=by subst hops;kernel_rfl
   have hgd:GdOk ops a none:=trivial
   have e:ag a 20 = .bool true:=(ho.off 20 (by decide)).trans h20
   refine op_valg s hgd (w':=w) (v:=.bool true) ?_ ?_
   ·exact congrArg (fun x => Result.ok (Next.value x) w) e
   ·exact PostE.put (i:=0) ho (dl19_mem 0 hk).2 (hlt 0 hk) (fun k hk2 hne _ => dl19_inj 0 hk k hk2 hne) (.inl (Ext.refl _ _)) rfl hg
  | 1,hk,hd =>
   have s:(ops[1]?).map sig = some (some 144,.move (.tmp 143),4,none):=by subst hops;kernel_rfl
   have hgd:GdOk ops a none:=trivial
   have d0:=hd 0 (by decide) (by subst hops;kernel_rfl)
   have e:ag a 143 = .bool true:=d0
   refine op_valg s hgd (w':=w) (v:=.bool true) ?_ ?_
   ·exact congrArg (fun x => Result.ok (Next.value x) w) e
   ·exact PostE.put (i:=1) ho (dl19_mem 1 hk).2 (hlt 1 hk) (fun k hk2 hne _ => dl19_inj 1 hk k hk2 hne) (.inl (Ext.refl _ _)) rfl hg
  | 2,hk,hd =>
   have s:(ops[2]?).map sig = some (some 145,.move (.tmp 21),4,some (1,true)):=by subst hops;kernel_rfl
   have hgd:GdOk ops a (some (1,true)):=yielded_of (d:=144) (by subst hops;kernel_rfl) (hd 1 (by decide) (by subst hops;kernel_rfl))
   have e:ag a 21 = .bool true:=(ho.off 21 (by decide)).trans h21
   refine op_valg s hgd (w':=w) (v:=.bool true) ?_ ?_
   ·exact congrArg (fun x => Result.ok (Next.value x) w) e
   ·exact PostE.put (i:=2) ho (dl19_mem 2 hk).2 (hlt 2 hk) (fun k hk2 hne _ => dl19_inj 2 hk k hk2 hne) (.inl (Ext.refl _ _)) rfl hg
  | 3,hk,hd =>
   have s:(ops[3]?).map sig = some (some 146,.pick (.tmp 144) (.tmp 145) (.const (.bool false)),4,none):=by subst hops;kernel_rfl
   have hgd:GdOk ops a none:=trivial
   have d1:=hd 1 (by decide) (by subst hops;kernel_rfl)
   have d2:=hd 2 (by decide) (by subst hops;kernel_rfl)
   have e1:ag a 144 = .bool true:=d1
   have e2:ag a 145 = .bool true:=d2
   refine op_valg s hgd (w':=w) (v:=.bool true) ?_ ?_
   ·simp only [execOp,eval_tmp,e1,e2]
    go_simp
   ·exact PostE.put (i:=3) ho (dl19_mem 3 hk).2 (hlt 3 hk) (fun k hk2 hne _ => dl19_inj 3 hk k hk2 hne) (.inl (Ext.refl _ _)) rfl hg
  | 4,hk,hd =>
   have s:(ops[4]?).map sig = some (some 147,.move (.tmp 146),4,none):=by subst hops;kernel_rfl
   have hgd:GdOk ops a none:=trivial
   have d3:=hd 3 (by decide) (by subst hops;kernel_rfl)
   have e:ag a 146 = .bool true:=d3
   refine op_valg s hgd (w':=w) (v:=.bool true) ?_ ?_
   ·exact congrArg (fun x => Result.ok (Next.value x) w) e
   ·exact PostE.put (i:=4) ho (dl19_mem 4 hk).2 (hlt 4 hk) (fun k hk2 hne _ => dl19_inj 4 hk k hk2 hne) (.inl (Ext.refl _ _)) rfl hg
  | 5,hk,hd =>
   have s:(ops[5]?).map sig = some (some 148,.move (.tmp 19),4,some (4,true)):=by subst hops;kernel_rfl
   have hgd:GdOk ops a (some (4,true)):=yielded_of (d:=147) (by subst hops;kernel_rfl) (hd 4 (by decide) (by subst hops;kernel_rfl))
   have e:ag a 19 = .bool true:=(ho.off 19 (by decide)).trans h19
   refine op_valg s hgd (w':=w) (v:=.bool true) ?_ ?_
   ·exact congrArg (fun x => Result.ok (Next.value x) w) e
   ·exact PostE.put (i:=5) ho (dl19_mem 5 hk).2 (hlt 5 hk) (fun k hk2 hne _ => dl19_inj 5 hk k hk2 hne) (.inl (Ext.refl _ _)) rfl hg
  | 6,hk,hd =>
   have s:(ops[6]?).map sig = some (some 149,.pick (.tmp 147) (.tmp 148) (.const (.bool false)),4,none):=by subst hops;kernel_rfl
   have hgd:GdOk ops a none:=trivial
   have d4:=hd 4 (by decide) (by subst hops;kernel_rfl)
   have d5:=hd 5 (by decide) (by subst hops;kernel_rfl)
   have e1:ag a 147 = .bool true:=d4
   have e2:ag a 148 = .bool true:=d5
   refine op_valg s hgd (w':=w) (v:=.bool true) ?_ ?_
   ·simp only [execOp,eval_tmp,e1,e2]
    go_simp
   ·exact PostE.put (i:=6) ho (dl19_mem 6 hk).2 (hlt 6 hk) (fun k hk2 hne _ => dl19_inj 6 hk k hk2 hne) (.inl (Ext.refl _ _)) rfl hg
  | 7,hk,hd =>
   have s:(ops[7]?).map sig = some (some 150,.move (.tmp 149),4,none):=by subst hops;kernel_rfl
   have hgd:GdOk ops a none:=trivial
   have d6:=hd 6 (by decide) (by subst hops;kernel_rfl)
   have e:ag a 149 = .bool true:=d6
   refine op_valg s hgd (w':=w) (v:=.bool true) ?_ ?_
   ·exact congrArg (fun x => Result.ok (Next.value x) w) e
   ·exact PostE.put (i:=7) ho (dl19_mem 7 hk).2 (hlt 7 hk) (fun k hk2 hne _ => dl19_inj 7 hk k hk2 hne) (.inl (Ext.refl _ _)) rfl hg
  | 8,hk,hd =>
   have s:(ops[8]?).map sig = some (some 151,.fieldAddr 46 (.tmp 18) 3,0,some (7,true)):=by subst hops;kernel_rfl
   have hgd:GdOk ops a (some (7,true)):=yielded_of (d:=150) (by subst hops;kernel_rfl) (hd 7 (by decide) (by subst hops;kernel_rfl))
   have e:ag a 18 = _:=(ho.off 18 (by decide)).trans h18
   refine op_valg s hgd (w':=w) (v:=.pointer (some ⟨gD,7,none⟩)) ?_ ?_
   ·simp only [execOp,eval_tmp,e]
    go_simp
   ·exact PostE.put (i:=8) ho (dl19_mem 8 hk).2 (hlt 8 hk) (fun k hk2 hne _ => dl19_inj 8 hk k hk2 hne) (.inl (Ext.refl _ _)) rfl hg
  | 9,hk,hd =>
   have s:(ops[9]?).map sig = some (some 152,.load 9 (.tmp 151),9,some (7,true)):=by subst hops;kernel_rfl
   have hgd:GdOk ops a (some (7,true)):=yielded_of (d:=150) (by subst hops;kernel_rfl) (hd 7 (by decide) (by subst hops;kernel_rfl))
   have d8:=hd 8 (by decide) (by subst hops;kernel_rfl)
   have e:ag a 151 = _:=d8
   have hc:=(hD.later hg).cell (j:=7) (v:=.string ⟨#[83,104,97,112,101]⟩) rfl
   refine op_valg s hgd (w':=w) (v:=.string ⟨#[83,104,97,112,101]⟩) ?_ ?_
   ·simp only [execOp,eval_tmp,e]
    go_simp
   ·exact PostE.put (i:=9) ho (dl19_mem 9 hk).2 (hlt 9 hk) (fun k hk2 hne _ => dl19_inj 9 hk k hk2 hne) (.inl (Ext.refl _ _)) rfl hg
  | 10,hk,hd =>
   have s:(ops[10]?).map sig = some (some 153,.binOp .eql 9 (.tmp 152) (.const (.string ⟨#[83,104,97,112,101]⟩)) 9,4,some (7,true)):=by subst hops;kernel_rfl
   have hgd:GdOk ops a (some (7,true)):=yielded_of (d:=150) (by subst hops;kernel_rfl) (hd 7 (by decide) (by subst hops;kernel_rfl))
   have d9:=hd 9 (by decide) (by subst hops;kernel_rfl)
   have e1:ag a 152 = .string ⟨#[83,104,97,112,101]⟩:=d9
   refine op_valg s hgd (w':=w) (v:=.bool true) ?_ ?_
   ·simp only [execOp,eval_tmp,e1]
    go_simp
   ·exact PostE.put (i:=10) ho (dl19_mem 10 hk).2 (hlt 10 hk) (fun k hk2 hne _ => dl19_inj 10 hk k hk2 hne) (.inl (Ext.refl _ _)) rfl hg
  | 11,hk,hd =>
   have s:(ops[11]?).map sig = some (some 154,.pick (.tmp 150) (.tmp 153) (.const (.bool false)),4,none):=by subst hops;kernel_rfl
   have hgd:GdOk ops a none:=trivial
   have d7:=hd 7 (by decide) (by subst hops;kernel_rfl)
   have d10:=hd 10 (by decide) (by subst hops;kernel_rfl)
   have e1:ag a 150 = .bool true:=d7
   have e2:ag a 153 = .bool true:=d10
   refine op_valg s hgd (w':=w) (v:=.bool true) ?_ ?_
   ·simp only [execOp,eval_tmp,e1,e2]
    go_simp
   ·exact PostE.put (i:=11) ho (dl19_mem 11 hk).2 (hlt 11 hk) (fun k hk2 hne _ => dl19_inj 11 hk k hk2 hne) (.inl (Ext.refl _ _)) rfl hg
  | 12,hk,hd =>
   have s:(ops[12]?).map sig = some (some 155,.move (.tmp 154),4,none):=by subst hops;kernel_rfl
   have hgd:GdOk ops a none:=trivial
   have d11:=hd 11 (by decide) (by subst hops;kernel_rfl)
   have e:ag a 154 = .bool true:=d11
   refine op_valg s hgd (w':=w) (v:=.bool true) ?_ ?_
   ·exact congrArg (fun x => Result.ok (Next.value x) w) e
   ·exact PostE.put (i:=12) ho (dl19_mem 12 hk).2 (hlt 12 hk) (fun k hk2 hne _ => dl19_inj 12 hk k hk2 hne) (.inl (Ext.refl _ _)) rfl hg
  | 13,hk,hd =>
   have s:(ops[13]?).map sig = some (some 156,.load 53 (.tmp 4),53,some (12,true)):=by subst hops;kernel_rfl
   have hgd:GdOk ops a (some (12,true)):=yielded_of (d:=155) (by subst hops;kernel_rfl) (hd 12 (by decide) (by subst hops;kernel_rfl))
   have e:a.eval (.tmp 4) = .pointer (some ⟨g4,0,none⟩):=(ho.off 4 (by decide)).trans h4
   refine op_loadg s hgd g4 0 e C4 _ (range_below v4.rg hg) Tryd.underlying53 rfl (by rw [v4.ln];exact info_val) ?_
   exact PostE.put (i:=13) ho (dl19_mem 13 hk).2 (hlt 13 hk) (fun k hk2 hne _ => dl19_inj 13 hk k hk2 hne) (.inl (Ext.refl _ _)) rfl hg
  | 14,hk,hd =>
   have s:(ops[14]?).map sig = some (some 157,.load 53 (.tmp 13),53,some (12,true)):=by subst hops;kernel_rfl
   have hgd:GdOk ops a (some (12,true)):=yielded_of (d:=155) (by subst hops;kernel_rfl) (hd 12 (by decide) (by subst hops;kernel_rfl))
   have e:a.eval (.tmp 13) = .pointer (some ⟨g13,0,none⟩):=(ho.off 13 (by decide)).trans h13
   refine op_loadg s hgd g13 0 e C13 _ (range_below v13.rg hg) Tryd.underlying53 rfl (by rw [v13.ln];exact info_val) ?_
   exact PostE.put (i:=14) ho (dl19_mem 14 hk).2 (hlt 14 hk) (fun k hk2 hne _ => dl19_inj 14 hk k hk2 hne) (.inl (Ext.refl _ _)) rfl hg
  | 15,hk,hd =>
   have s:(ops[15]?).map sig = some (some 158,.call { callee:=.value (.func 36),args:=#[.tmp 156,.tmp 157],argTypes:=#[53,53] },4,some (12,true)):=by subst hops;kernel_rfl
   have hgd:GdOk ops a (some (12,true)):=yielded_of (d:=155) (by subst hops;kernel_rfl) (hd 12 (by decide) (by subst hops;kernel_rfl))
   have d13:=hd 13 (by decide) (by subst hops;kernel_rfl)
   have d14:=hd 14 (by decide) (by subst hops;kernel_rfl)
   have e0:ag a 156 = .agg (C4:List Value).toArray:=d13
   have e1:ag a 157 = .agg (C13:List Value).toArray:=d14
   refine op_callg s hgd (w':=w) (f:=36) (args:=#[.agg (C4:List Value).toArray,.agg (C13:List Value).toArray]) ?_ ?_
   ·simp only [execOp]
    go_simp
    refine ⟨by simpa [ag] using e0,by simpa [ag] using e1⟩
   ·refine (same_any (.node 2 0 [lf 0,lf 0]) (.node 2 0 [lf 0,lf 0]) w _ _ (v4.later hg).tr (v13.later hg).tr).mono ?_
    rintro e w' ⟨rfl,hb⟩
    exact ⟨_,rfl,PostE.put (i:=15) ho (dl19_mem 15 hk).2 (hlt 15 hk) (fun k hk2 hne _ => dl19_inj 15 hk k hk2 hne) (.inl (Ext.of hb)) rfl (later hg hb)⟩
  | 16,hk,hd =>
   have s:(ops[16]?).map sig = some (some 159,.pick (.tmp 155) (.tmp 158) (.const (.bool false)),4,none):=by subst hops;kernel_rfl
   have hgd:GdOk ops a none:=trivial
   have d12:=hd 12 (by decide) (by subst hops;kernel_rfl)
   have d15:=hd 15 (by decide) (by subst hops;kernel_rfl)
   have e1:ag a 155 = .bool true:=d12
   have e2:ag a 158 = .bool true:=d15
   refine op_valg s hgd (w':=w) (v:=.bool true) ?_ ?_
   ·simp only [execOp,eval_tmp,e1,e2]
    go_simp
   ·exact PostE.put (i:=16) ho (dl19_mem 16 hk).2 (hlt 16 hk) (fun k hk2 hne _ => dl19_inj 16 hk k hk2 hne) (.inl (Ext.refl _ _)) rfl hg
  | 17,hk,hd =>
   have s:(ops[17]?).map sig = some (some 160,.move (.tmp 159),4,none):=by subst hops;kernel_rfl
   have hgd:GdOk ops a none:=trivial
   have d16:=hd 16 (by decide) (by subst hops;kernel_rfl)
   have e:ag a 159 = .bool true:=d16
   refine op_valg s hgd (w':=w) (v:=.bool true) ?_ ?_
   ·exact congrArg (fun x => Result.ok (Next.value x) w) e
   ·exact PostE.put (i:=17) ho (dl19_mem 17 hk).2 (hlt 17 hk) (fun k hk2 hne _ => dl19_inj 17 hk k hk2 hne) (.inl (Ext.refl _ _)) rfl hg
  | 18,hk,hd =>
   have s:(ops[18]?).map sig = some (some 161,.load 53 (.tmp 6),53,some (17,true)):=by subst hops;kernel_rfl
   have hgd:GdOk ops a (some (17,true)):=yielded_of (d:=160) (by subst hops;kernel_rfl) (hd 17 (by decide) (by subst hops;kernel_rfl))
   have e:a.eval (.tmp 6) = .pointer (some ⟨g6,0,none⟩):=(ho.off 6 (by decide)).trans h6
   refine op_loadg s hgd g6 0 e C6 _ (range_below v6.rg hg) Tryd.underlying53 rfl (by rw [v6.ln];exact info_val) ?_
   exact PostE.put (i:=18) ho (dl19_mem 18 hk).2 (hlt 18 hk) (fun k hk2 hne _ => dl19_inj 18 hk k hk2 hne) (.inl (Ext.refl _ _)) rfl hg
  | 19,hk,hd =>
   have s:(ops[19]?).map sig = some (some 162,.call { callee:=.value (.func 27),args:=#[.const (.int .i64 0)],argTypes:=#[3] },53,some (17,true)):=by subst hops;kernel_rfl
   have hgd:GdOk ops a (some (17,true)):=yielded_of (d:=160) (by subst hops;kernel_rfl) (hd 17 (by decide) (by subst hops;kernel_rfl))
   refine op_callg s hgd (w':=w) (f:=27) (args:=#[.int .i64 0]) ?_ ?_
   ·simp only [execOp]
    go_simp
   ·refine (num_any 0 w).mono ?_
    rintro e w' ⟨rfl,hb⟩
    exact ⟨_,rfl,PostE.put (i:=19) ho (dl19_mem 19 hk).2 (hlt 19 hk) (fun k hk2 hne _ => dl19_inj 19 hk k hk2 hne) (.inl (Ext.of hb)) rfl (later hg hb)⟩
  | 20,hk,hd =>
   have s:(ops[20]?).map sig = some (some 163,.buildSlice 51 1 #[(0,.tmp 162)],51,some (17,true)):=by subst hops;kernel_rfl
   have hgd:GdOk ops a (some (17,true)):=yielded_of (d:=160) (by subst hops;kernel_rfl) (hd 17 (by decide) (by subst hops;kernel_rfl))
   have d19:=hd 19 (by decide) (by subst hops;kernel_rfl)
   have e:ag a 162 = .agg #[.int .i64 0,.int .i64 0,.slice none 0 0]:=d19
   refine op_valg s hgd (w':=w.alloc (.cells #[.int .i64 0,.int .i64 0,.slice none 0 0] 53)) (v:=.slice (some ⟨w.heap.size,0,none⟩) 1 1) ?_ ?_
   ·simp only [execOp,List.map_toArray,List.map_cons,List.map_nil,eval_tmp,e]
    go_simp
   ·exact PostE.put (i:=20) ho (dl19_mem 20 hk).2 (hlt 20 hk) (fun k hk2 hne _ => dl19_inj 20 hk k hk2 hne) (.inl (Ext.of (new_later w _))) ⟨_,rfl,hgs,Arr.new' w _ _ 3 _ rfl rfl (by decide)⟩ (later hg (new_later w _))
  | 21,hk,hd =>
   have s:(ops[21]?).map sig = some (some 164,.build 53 #[(0,.const (.int .i64 3)),(2,.tmp 163)],53,some (17,true)):=by subst hops;kernel_rfl
   have hgd:GdOk ops a (some (17,true)):=yielded_of (d:=160) (by subst hops;kernel_rfl) (hd 17 (by decide) (by subst hops;kernel_rfl))
   have d20:=hd 20 (by decide) (by subst hops;kernel_rfl)
   obtain ⟨gk,e,hk1,hk2⟩:=d20
   have e:a.eval (.tmp 163) = _:=e
   have hb:(Instr.build 53 #[(0,.int .i64 3),(2,.slice (some ⟨gk,0,none⟩) 1 1)]).run Tryd.prog w = .ok (.agg #[.int .i64 3,.int .i64 0,.slice (some ⟨gk,0,none⟩) 1 1]) w:=run_build w _ _ _ (by kernel_rfl)
   have ec:a.eval (.const (.int .i64 3)) = .int .i64 3:=rfl
   refine op_valg s hgd (w':=w) (v:=.agg #[.int .i64 3,.int .i64 0,.slice (some ⟨gk,0,none⟩) 1 1]) ?_ ?_
   ·simp only [execOp,List.map_toArray,List.map_cons,List.map_nil,e,ec,Sem.run_bind,hb]
    rfl
   ·exact PostE.put (i:=21) ho (dl19_mem 21 hk).2 (hlt 21 hk) (fun k hk2 hne _ => dl19_inj 21 hk k hk2 hne) (.inl (Ext.refl _ _)) ⟨gk,rfl,hk1,hk2⟩ hg
  | 22,hk,hd =>
   have s:(ops[22]?).map sig = some (some 165,.call { callee:=.value (.func 36),args:=#[.tmp 161,.tmp 164],argTypes:=#[53,53] },4,some (17,true)):=by subst hops;kernel_rfl
   have hgd:GdOk ops a (some (17,true)):=yielded_of (d:=160) (by subst hops;kernel_rfl) (hd 17 (by decide) (by subst hops;kernel_rfl))
   have d18:=hd 18 (by decide) (by subst hops;kernel_rfl)
   have d21:=hd 21 (by decide) (by subst hops;kernel_rfl)
   have e0:ag a 161 = .agg (C6:List Value).toArray:=d18
   obtain ⟨gk,e1,hk1,hk2⟩:=d21
   have e1:ag a 164 = .agg #[.int .i64 3,.int .i64 0,.slice (some ⟨gk,0,none⟩) 1 1]:=e1
   have hkt:TrAt w (.node 3 0 [lf 0]) (.agg #[.int .i64 3,.int .i64 0,.slice (some ⟨gk,0,none⟩) 1 1]):=cs_node hk2
   refine op_callg s hgd (w':=w) (f:=36) (args:=#[.agg (C6:List Value).toArray,.agg #[.int .i64 3,.int .i64 0,.slice (some ⟨gk,0,none⟩) 1 1]]) ?_ ?_
   ·simp only [execOp]
    go_simp
    refine ⟨by simpa [ag] using e0,by simpa [ag] using e1⟩
   ·refine (same_any (.node 3 0 [lf 0]) (.node 3 0 [lf 0]) w _ _ (v6.later hg).tr hkt).mono ?_
    rintro e w' ⟨rfl,hb⟩
    exact ⟨_,rfl,PostE.put (i:=22) ho (dl19_mem 22 hk).2 (hlt 22 hk) (fun k hk2 hne _ => dl19_inj 22 hk k hk2 hne) (.inl (Ext.of hb)) rfl (later hg hb)⟩
  | 23,hk,hd =>
   have s:(ops[23]?).map sig = some (some 166,.pick (.tmp 160) (.tmp 165) (.const (.bool false)),4,none):=by subst hops;kernel_rfl
   have hgd:GdOk ops a none:=trivial
   have d17:=hd 17 (by decide) (by subst hops;kernel_rfl)
   have d22:=hd 22 (by decide) (by subst hops;kernel_rfl)
   have e1:ag a 160 = .bool true:=d17
   have e2:ag a 165 = .bool true:=d22
   refine op_valg s hgd (w':=w) (v:=.bool true) ?_ ?_
   ·simp only [execOp,eval_tmp,e1,e2]
    go_simp
   ·exact PostE.put (i:=23) ho (dl19_mem 23 hk).2 (hlt 23 hk) (fun k hk2 hne _ => dl19_inj 23 hk k hk2 hne) (.inl (Ext.refl _ _)) rfl hg
  | 24,hk,hd =>
   have s:(ops[24]?).map sig = some (some 167,.move (.tmp 166),4,none):=by subst hops;kernel_rfl
   have hgd:GdOk ops a none:=trivial
   have d23:=hd 23 (by decide) (by subst hops;kernel_rfl)
   have e:ag a 166 = .bool true:=d23
   refine op_valg s hgd (w':=w) (v:=.bool true) ?_ ?_
   ·exact congrArg (fun x => Result.ok (Next.value x) w) e
   ·exact PostE.put (i:=24) ho (dl19_mem 24 hk).2 (hlt 24 hk) (fun k hk2 hne _ => dl19_inj 24 hk k hk2 hne) (.inl (Ext.refl _ _)) rfl hg
  | 25,hk,hd =>
   have s:(ops[25]?).map sig = some (some 168,.load 26 (.tmp 1),26,some (24,true)):=by subst hops;kernel_rfl
   have hgd:GdOk ops a (some (24,true)):=yielded_of (d:=167) (by subst hops;kernel_rfl) (hd 24 (by decide) (by subst hops;kernel_rfl))
   have e:a.eval (.tmp 1) = .pointer (some ⟨gP,0,none⟩):=(ho.off 1 (by decide)).trans h1
   refine op_loadg s hgd gP 0 e [.slice none 0 0,.slice (some ⟨g,0,none⟩) 2 2] _ (range_below hP hg) Tryd.underlying26 rfl info_prog ?_
   exact PostE.put (i:=25) ho (dl19_mem 25 hk).2 (hlt 25 hk) (fun k hk2 hne _ => dl19_inj 25 hk k hk2 hne) (.inl (Ext.refl _ _)) rfl hg
  | 26,hk,hd =>
   have s:(ops[26]?).map sig = some (some 169,.load 31 (.tmp 3),31,some (24,true)):=by subst hops;kernel_rfl
   have hgd:GdOk ops a (some (24,true)):=yielded_of (d:=167) (by subst hops;kernel_rfl) (hd 24 (by decide) (by subst hops;kernel_rfl))
   have e:a.eval (.tmp 3) = .pointer (some ⟨gT2,0,none⟩):=(ho.off 3 (by decide)).trans h3
   refine op_loadg s hgd gT2 0 e [.int .i64 3,.int .i64 0,.int .i64 1,.int .i64 2,.slice none 0 0] _ (range_below hT2 hg) Tryd.underlying31 rfl info_typesz ?_
   exact PostE.put (i:=26) ho (dl19_mem 26 hk).2 (hlt 26 hk) (fun k hk2 hne _ => dl19_inj 26 hk k hk2 hne) (.inl (Ext.refl _ _)) rfl hg
  | 27,hk,hd =>
   have s:(ops[27]?).map sig = some (some 170,.load 53 (.tmp 8),53,some (24,true)):=by subst hops;kernel_rfl
   have hgd:GdOk ops a (some (24,true)):=yielded_of (d:=167) (by subst hops;kernel_rfl) (hd 24 (by decide) (by subst hops;kernel_rfl))
   have e:a.eval (.tmp 8) = .pointer (some ⟨g8,0,none⟩):=(ho.off 8 (by decide)).trans h8
   refine op_loadg s hgd g8 0 e C8 _ (range_below v8.rg hg) Tryd.underlying53 rfl (by rw [v8.ln];exact info_val) ?_
   exact PostE.put (i:=27) ho (dl19_mem 27 hk).2 (hlt 27 hk) (fun k hk2 hne _ => dl19_inj 27 hk k hk2 hne) (.inl (Ext.refl _ _)) rfl hg
  | 28,hk,hd =>
   have s:(ops[28]?).map sig = some (some 171,.call { callee:=.value (.func 25),args:=#[.tmp 168,.tmp 169,.tmp 170],argTypes:=#[26,31,53] },4,some (24,true)):=by subst hops;kernel_rfl
   have hgd:GdOk ops a (some (24,true)):=yielded_of (d:=167) (by subst hops;kernel_rfl) (hd 24 (by decide) (by subst hops;kernel_rfl))
   have d25:=hd 25 (by decide) (by subst hops;kernel_rfl)
   have d26:=hd 26 (by decide) (by subst hops;kernel_rfl)
   have d27:=hd 27 (by decide) (by subst hops;kernel_rfl)
   have e0:ag a 168 = .agg #[.slice none 0 0,.slice (some ⟨g,0,none⟩) 2 2]:=d25
   have e1:ag a 169 = .agg #[.int .i64 3,.int .i64 0,.int .i64 1,.int .i64 2,.slice none 0 0]:=d26
   have e2:ag a 170 = .agg (C8:List Value).toArray:=d27
   refine op_callg s hgd (w':=w) (f:=25) (args:=#[.agg #[.slice none 0 0,.slice (some ⟨g,0,none⟩) 2 2],.agg #[.int .i64 3,.int .i64 0,.int .i64 1,.int .i64 2,.slice none 0 0],.agg (C8:List Value).toArray]) ?_ ?_
   ·simp only [execOp]
    go_simp
    refine ⟨by simpa [ag] using e0,by simpa [ag] using e1,by simpa [ag] using e2⟩
   ·refine ((show Calls Tryd.prog _ _ w (BRes true w) from ex_pv1 ▸ valid_any pEx (tD 1) bxE w _ _ _ (hX.later hg).pr (tD_at1 w) (v8.later hg).tr (hK.later hg))).mono ?_
    rintro e w' ⟨rfl,hb⟩
    exact ⟨_,rfl,PostE.put (i:=28) ho (dl19_mem 28 hk).2 (hlt 28 hk) (fun k hk2 hne _ => dl19_inj 28 hk k hk2 hne) (.inl (Ext.of hb)) rfl (later hg hb)⟩
  | 29,hk,hd =>
   have s:(ops[29]?).map sig = some (some 172,.pick (.tmp 167) (.tmp 171) (.const (.bool false)),4,none):=by subst hops;kernel_rfl
   have hgd:GdOk ops a none:=trivial
   have d24:=hd 24 (by decide) (by subst hops;kernel_rfl)
   have d28:=hd 28 (by decide) (by subst hops;kernel_rfl)
   have e1:ag a 167 = .bool true:=d24
   have e2:ag a 171 = .bool true:=d28
   refine op_valg s hgd (w':=w) (v:=.bool true) ?_ ?_
   ·simp only [execOp,eval_tmp,e1,e2]
    go_simp
   ·exact PostE.put (i:=29) ho (dl19_mem 29 hk).2 (hlt 29 hk) (fun k hk2 hne _ => dl19_inj 29 hk k hk2 hne) (.inl (Ext.refl _ _)) rfl hg
  | 30,hk,hd =>
   have s:(ops[30]?).map sig = some (some 173,.move (.tmp 172),4,none):=by subst hops;kernel_rfl
   have hgd:GdOk ops a none:=trivial
   have d29:=hd 29 (by decide) (by subst hops;kernel_rfl)
   have e:ag a 172 = .bool true:=d29
   refine op_valg s hgd (w':=w) (v:=.bool true) ?_ ?_
   ·exact congrArg (fun x => Result.ok (Next.value x) w) e
   ·exact PostE.put (i:=30) ho (dl19_mem 30 hk).2 (hlt 30 hk) (fun k hk2 hne _ => dl19_inj 30 hk k hk2 hne) (.inl (Ext.refl _ _)) rfl hg
  | 31,hk,hd =>
   have s:(ops[31]?).map sig = some (some 174,.load 26 (.tmp 1),26,some (30,true)):=by subst hops;kernel_rfl
   have hgd:GdOk ops a (some (30,true)):=yielded_of (d:=173) (by subst hops;kernel_rfl) (hd 30 (by decide) (by subst hops;kernel_rfl))
   have e:a.eval (.tmp 1) = .pointer (some ⟨gP,0,none⟩):=(ho.off 1 (by decide)).trans h1
   refine op_loadg s hgd gP 0 e [.slice none 0 0,.slice (some ⟨g,0,none⟩) 2 2] _ (range_below hP hg) Tryd.underlying26 rfl info_prog ?_
   exact PostE.put (i:=31) ho (dl19_mem 31 hk).2 (hlt 31 hk) (fun k hk2 hne _ => dl19_inj 31 hk k hk2 hne) (.inl (Ext.refl _ _)) rfl hg
  | 32,hk,hd =>
   have s:(ops[32]?).map sig = some (some 175,.load 31 (.tmp 3),31,some (30,true)):=by subst hops;kernel_rfl
   have hgd:GdOk ops a (some (30,true)):=yielded_of (d:=173) (by subst hops;kernel_rfl) (hd 30 (by decide) (by subst hops;kernel_rfl))
   have e:a.eval (.tmp 3) = .pointer (some ⟨gT2,0,none⟩):=(ho.off 3 (by decide)).trans h3
   refine op_loadg s hgd gT2 0 e [.int .i64 3,.int .i64 0,.int .i64 1,.int .i64 2,.slice none 0 0] _ (range_below hT2 hg) Tryd.underlying31 rfl info_typesz ?_
   exact PostE.put (i:=32) ho (dl19_mem 32 hk).2 (hlt 32 hk) (fun k hk2 hne _ => dl19_inj 32 hk k hk2 hne) (.inl (Ext.refl _ _)) rfl hg
  | 33,hk,hd =>
   have s:(ops[33]?).map sig = some (some 176,.load 53 (.tmp 9),53,some (30,true)):=by subst hops;kernel_rfl
   have hgd:GdOk ops a (some (30,true)):=yielded_of (d:=173) (by subst hops;kernel_rfl) (hd 30 (by decide) (by subst hops;kernel_rfl))
   have e:a.eval (.tmp 9) = .pointer (some ⟨g9,0,none⟩):=(ho.off 9 (by decide)).trans h9
   refine op_loadg s hgd g9 0 e C9 _ (range_below v9.rg hg) Tryd.underlying53 rfl (by rw [v9.ln];exact info_val) ?_
   exact PostE.put (i:=33) ho (dl19_mem 33 hk).2 (hlt 33 hk) (fun k hk2 hne _ => dl19_inj 33 hk k hk2 hne) (.inl (Ext.refl _ _)) rfl hg
  | 34,hk,hd =>
   have s:(ops[34]?).map sig = some (some 177,.call { callee:=.value (.func 25),args:=#[.tmp 174,.tmp 175,.tmp 176],argTypes:=#[26,31,53] },4,some (30,true)):=by subst hops;kernel_rfl
   have hgd:GdOk ops a (some (30,true)):=yielded_of (d:=173) (by subst hops;kernel_rfl) (hd 30 (by decide) (by subst hops;kernel_rfl))
   have d31:=hd 31 (by decide) (by subst hops;kernel_rfl)
   have d32:=hd 32 (by decide) (by subst hops;kernel_rfl)
   have d33:=hd 33 (by decide) (by subst hops;kernel_rfl)
   have e0:ag a 174 = .agg #[.slice none 0 0,.slice (some ⟨g,0,none⟩) 2 2]:=d31
   have e1:ag a 175 = .agg #[.int .i64 3,.int .i64 0,.int .i64 1,.int .i64 2,.slice none 0 0]:=d32
   have e2:ag a 176 = .agg (C9:List Value).toArray:=d33
   refine op_callg s hgd (w':=w) (f:=25) (args:=#[.agg #[.slice none 0 0,.slice (some ⟨g,0,none⟩) 2 2],.agg #[.int .i64 3,.int .i64 0,.int .i64 1,.int .i64 2,.slice none 0 0],.agg (C9:List Value).toArray]) ?_ ?_
   ·simp only [execOp]
    go_simp
    refine ⟨by simpa [ag] using e0,by simpa [ag] using e1,by simpa [ag] using e2⟩
   ·refine ((show Calls Tryd.prog _ _ w (BRes false w) from ex_pv2 ▸ valid_any pEx (tD 1) wrE w _ _ _ (hX.later hg).pr (tD_at1 w) (v9.later hg).tr (hK.later hg))).mono ?_
    rintro e w' ⟨rfl,hb⟩
    exact ⟨_,rfl,PostE.put (i:=34) ho (dl19_mem 34 hk).2 (hlt 34 hk) (fun k hk2 hne _ => dl19_inj 34 hk k hk2 hne) (.inl (Ext.of hb)) rfl (later hg hb)⟩
  | 35,hk,hd =>
   have s:(ops[35]?).map sig = some (some 178,.unOp .not 4 (.tmp 177),4,some (30,true)):=by subst hops;kernel_rfl
   have hgd:GdOk ops a (some (30,true)):=yielded_of (d:=173) (by subst hops;kernel_rfl) (hd 30 (by decide) (by subst hops;kernel_rfl))
   have d34:=hd 34 (by decide) (by subst hops;kernel_rfl)
   have e1:ag a 177 = .bool false:=d34
   refine op_valg s hgd (w':=w) (v:=.bool true) ?_ ?_
   ·simp only [execOp,eval_tmp,e1]
    go_simp
   ·exact PostE.put (i:=35) ho (dl19_mem 35 hk).2 (hlt 35 hk) (fun k hk2 hne _ => dl19_inj 35 hk k hk2 hne) (.inl (Ext.refl _ _)) rfl hg
  | 36,hk,hd =>
   have s:(ops[36]?).map sig = some (some 179,.pick (.tmp 173) (.tmp 178) (.const (.bool false)),4,none):=by subst hops;kernel_rfl
   have hgd:GdOk ops a none:=trivial
   have d30:=hd 30 (by decide) (by subst hops;kernel_rfl)
   have d35:=hd 35 (by decide) (by subst hops;kernel_rfl)
   have e1:ag a 173 = .bool true:=d30
   have e2:ag a 178 = .bool true:=d35
   refine op_valg s hgd (w':=w) (v:=.bool true) ?_ ?_
   ·simp only [execOp,eval_tmp,e1,e2]
    go_simp
   ·exact PostE.put (i:=36) ho (dl19_mem 36 hk).2 (hlt 36 hk) (fun k hk2 hne _ => dl19_inj 36 hk k hk2 hne) (.inl (Ext.refl _ _)) rfl hg
  | 37,hk,hd =>
   have s:(ops[37]?).map sig = some (some 180,.move (.tmp 179),4,none):=by subst hops;kernel_rfl
   have hgd:GdOk ops a none:=trivial
   have d36:=hd 36 (by decide) (by subst hops;kernel_rfl)
   have e:ag a 179 = .bool true:=d36
   refine op_valg s hgd (w':=w) (v:=.bool true) ?_ ?_
   ·exact congrArg (fun x => Result.ok (Next.value x) w) e
   ·exact PostE.put (i:=37) ho (dl19_mem 37 hk).2 (hlt 37 hk) (fun k hk2 hne _ => dl19_inj 37 hk k hk2 hne) (.inl (Ext.refl _ _)) rfl hg
  | 38,hk,hd =>
   have s:(ops[38]?).map sig = some (some 181,.load 53 (.tmp 8),53,some (37,true)):=by subst hops;kernel_rfl
   have hgd:GdOk ops a (some (37,true)):=yielded_of (d:=180) (by subst hops;kernel_rfl) (hd 37 (by decide) (by subst hops;kernel_rfl))
   have e:a.eval (.tmp 8) = .pointer (some ⟨g8,0,none⟩):=(ho.off 8 (by decide)).trans h8
   refine op_loadg s hgd g8 0 e C8 _ (range_below v8.rg hg) Tryd.underlying53 rfl (by rw [v8.ln];exact info_val) ?_
   exact PostE.put (i:=38) ho (dl19_mem 38 hk).2 (hlt 38 hk) (fun k hk2 hne _ => dl19_inj 38 hk k hk2 hne) (.inl (Ext.refl _ _)) rfl hg
  | 39,hk,hd =>
   have s:(ops[39]?).map sig = some (some 182,.call { callee:=.value (.func 30),args:=#[.tmp 181],argTypes:=#[53] },3,some (37,true)):=by subst hops;kernel_rfl
   have hgd:GdOk ops a (some (37,true)):=yielded_of (d:=180) (by subst hops;kernel_rfl) (hd 37 (by decide) (by subst hops;kernel_rfl))
   have d38:=hd 38 (by decide) (by subst hops;kernel_rfl)
   have e0:ag a 181 = .agg (C8:List Value).toArray:=d38
   refine op_callg s hgd (w':=w) (f:=30) (args:=#[.agg (C8:List Value).toArray]) ?_ ?_
   ·simp only [execOp]
    go_simp
    simpa [ag] using e0
   ·refine ((show Calls Tryd.prog _ _ w (NumRes 4 w) from ex_wt ▸ weight_any 100 bxE (by decide) w _ (v8.later hg).tr)).mono ?_
    rintro e w' ⟨rfl,hb⟩
    exact ⟨_,rfl,PostE.put (i:=39) ho (dl19_mem 39 hk).2 (hlt 39 hk) (fun k hk2 hne _ => dl19_inj 39 hk k hk2 hne) (.inl (Ext.of hb)) rfl (later hg hb)⟩
  | 40,hk,hd =>
   have s:(ops[40]?).map sig = some (some 183,.binOp .eql 3 (.tmp 182) (.const (.int .i64 4)) 3,4,some (37,true)):=by subst hops;kernel_rfl
   have hgd:GdOk ops a (some (37,true)):=yielded_of (d:=180) (by subst hops;kernel_rfl) (hd 37 (by decide) (by subst hops;kernel_rfl))
   have d39:=hd 39 (by decide) (by subst hops;kernel_rfl)
   have e1:ag a 182 = .int .i64 4:=d39
   refine op_valg s hgd (w':=w) (v:=.bool true) ?_ ?_
   ·simp only [execOp,eval_tmp,e1]
    go_simp
   ·exact PostE.put (i:=40) ho (dl19_mem 40 hk).2 (hlt 40 hk) (fun k hk2 hne _ => dl19_inj 40 hk k hk2 hne) (.inl (Ext.refl _ _)) rfl hg
  | 41,hk,hd =>
   have s:(ops[41]?).map sig = some (some 184,.pick (.tmp 180) (.tmp 183) (.const (.bool false)),4,none):=by subst hops;kernel_rfl
   have hgd:GdOk ops a none:=trivial
   have d37:=hd 37 (by decide) (by subst hops;kernel_rfl)
   have d40:=hd 40 (by decide) (by subst hops;kernel_rfl)
   have e1:ag a 180 = .bool true:=d37
   have e2:ag a 183 = .bool true:=d40
   refine op_valg s hgd (w':=w) (v:=.bool true) ?_ ?_
   ·simp only [execOp,eval_tmp,e1,e2]
    go_simp
   ·exact PostE.put (i:=41) ho (dl19_mem 41 hk).2 (hlt 41 hk) (fun k hk2 hne _ => dl19_inj 41 hk k hk2 hne) (.inl (Ext.refl _ _)) rfl hg
  | 42,hk,hd =>
   have s:(ops[42]?).map sig = some (some 185,.move (.tmp 184),4,none):=by subst hops;kernel_rfl
   have hgd:GdOk ops a none:=trivial
   have d41:=hd 41 (by decide) (by subst hops;kernel_rfl)
   have e:ag a 184 = .bool true:=d41
   refine op_valg s hgd (w':=w) (v:=.bool true) ?_ ?_
   ·exact congrArg (fun x => Result.ok (Next.value x) w) e
   ·exact PostE.put (i:=42) ho (dl19_mem 42 hk).2 (hlt 42 hk) (fun k hk2 hne _ => dl19_inj 42 hk k hk2 hne) (.inl (Ext.refl _ _)) rfl hg
  | 43,hk,hd =>
   have s:(ops[43]?).map sig = some (some 186,.load 53 (.tmp 10),53,some (42,true)):=by subst hops;kernel_rfl
   have hgd:GdOk ops a (some (42,true)):=yielded_of (d:=185) (by subst hops;kernel_rfl) (hd 42 (by decide) (by subst hops;kernel_rfl))
   have e:a.eval (.tmp 10) = .pointer (some ⟨g10,0,none⟩):=(ho.off 10 (by decide)).trans h10
   refine op_loadg s hgd g10 0 e C10 _ (range_below v10.rg hg) Tryd.underlying53 rfl (by rw [v10.ln];exact info_val) ?_
   exact PostE.put (i:=43) ho (dl19_mem 43 hk).2 (hlt 43 hk) (fun k hk2 hne _ => dl19_inj 43 hk k hk2 hne) (.inl (Ext.refl _ _)) rfl hg
  | 44,hk,hd =>
   have s:(ops[44]?).map sig = some (some 187,.call { callee:=.value (.func 30),args:=#[.tmp 186],argTypes:=#[53] },3,some (42,true)):=by subst hops;kernel_rfl
   have hgd:GdOk ops a (some (42,true)):=yielded_of (d:=185) (by subst hops;kernel_rfl) (hd 42 (by decide) (by subst hops;kernel_rfl))
   have d43:=hd 43 (by decide) (by subst hops;kernel_rfl)
   have e0:ag a 186 = .agg (C10:List Value).toArray:=d43
   refine op_callg s hgd (w':=w) (f:=30) (args:=#[.agg (C10:List Value).toArray]) ?_ ?_
   ·simp only [execOp]
    go_simp
    simpa [ag] using e0
   ·refine ((show Calls Tryd.prog _ _ w (NumRes 5 w) from ex_wt' ▸ weight_any 100 liE (by decide) w _ (v10.later hg).tr)).mono ?_
    rintro e w' ⟨rfl,hb⟩
    exact ⟨_,rfl,PostE.put (i:=44) ho (dl19_mem 44 hk).2 (hlt 44 hk) (fun k hk2 hne _ => dl19_inj 44 hk k hk2 hne) (.inl (Ext.of hb)) rfl (later hg hb)⟩
  | 45,hk,hd =>
   have s:(ops[45]?).map sig = some (some 188,.binOp .eql 3 (.tmp 187) (.const (.int .i64 5)) 3,4,some (42,true)):=by subst hops;kernel_rfl
   have hgd:GdOk ops a (some (42,true)):=yielded_of (d:=185) (by subst hops;kernel_rfl) (hd 42 (by decide) (by subst hops;kernel_rfl))
   have d44:=hd 44 (by decide) (by subst hops;kernel_rfl)
   have e1:ag a 187 = .int .i64 5:=d44
   refine op_valg s hgd (w':=w) (v:=.bool true) ?_ ?_
   ·simp only [execOp,eval_tmp,e1]
    go_simp
   ·exact PostE.put (i:=45) ho (dl19_mem 45 hk).2 (hlt 45 hk) (fun k hk2 hne _ => dl19_inj 45 hk k hk2 hne) (.inl (Ext.refl _ _)) rfl hg
  | 46,hk,hd =>
   have s:(ops[46]?).map sig = some (some 189,.pick (.tmp 185) (.tmp 188) (.const (.bool false)),4,none):=by subst hops;kernel_rfl
   have hgd:GdOk ops a none:=trivial
   have d42:=hd 42 (by decide) (by subst hops;kernel_rfl)
   have d45:=hd 45 (by decide) (by subst hops;kernel_rfl)
   have e1:ag a 185 = .bool true:=d42
   have e2:ag a 188 = .bool true:=d45
   refine op_valg s hgd (w':=w) (v:=.bool true) ?_ ?_
   ·simp only [execOp,eval_tmp,e1,e2]
    go_simp
   ·exact PostE.put (i:=46) ho (dl19_mem 46 hk).2 (hlt 46 hk) (fun k hk2 hne _ => dl19_inj 46 hk k hk2 hne) (.inl (Ext.refl _ _)) rfl hg
  | 47,hk,hd =>
   have s:(ops[47]?).map sig = some (some 190,.move (.tmp 189),4,none):=by subst hops;kernel_rfl
   have hgd:GdOk ops a none:=trivial
   have d46:=hd 46 (by decide) (by subst hops;kernel_rfl)
   have e:ag a 189 = .bool true:=d46
   refine op_valg s hgd (w':=w) (v:=.bool true) ?_ ?_
   ·exact congrArg (fun x => Result.ok (Next.value x) w) e
   ·exact PostE.put (i:=47) ho (dl19_mem 47 hk).2 (hlt 47 hk) (fun k hk2 hne _ => dl19_inj 47 hk k hk2 hne) (.inl (Ext.refl _ _)) rfl hg
  | 48,hk,hd =>
   have s:(ops[48]?).map sig = some (some 191,.load 53 (.tmp 8),53,some (47,true)):=by subst hops;kernel_rfl
   have hgd:GdOk ops a (some (47,true)):=yielded_of (d:=190) (by subst hops;kernel_rfl) (hd 47 (by decide) (by subst hops;kernel_rfl))
   have e:a.eval (.tmp 8) = .pointer (some ⟨g8,0,none⟩):=(ho.off 8 (by decide)).trans h8
   refine op_loadg s hgd g8 0 e C8 _ (range_below v8.rg hg) Tryd.underlying53 rfl (by rw [v8.ln];exact info_val) ?_
   exact PostE.put (i:=48) ho (dl19_mem 48 hk).2 (hlt 48 hk) (fun k hk2 hne _ => dl19_inj 48 hk k hk2 hne) (.inl (Ext.refl _ _)) rfl hg
  | 49,hk,hd =>
   have s:(ops[49]?).map sig = some (some 192,.call { callee:=.value (.func 28),args:=#[.tmp 191],argTypes:=#[53] },3,some (47,true)):=by subst hops;kernel_rfl
   have hgd:GdOk ops a (some (47,true)):=yielded_of (d:=190) (by subst hops;kernel_rfl) (hd 47 (by decide) (by subst hops;kernel_rfl))
   have d48:=hd 48 (by decide) (by subst hops;kernel_rfl)
   have e0:ag a 191 = .agg (C8:List Value).toArray:=d48
   refine op_callg s hgd (w':=w) (f:=28) (args:=#[.agg (C8:List Value).toArray]) ?_ ?_
   ·simp only [execOp]
    go_simp
    simpa [ag] using e0
   ·refine ((show Calls Tryd.prog _ _ w (NumRes 4 w) from ex_sz ▸ size_any 100 bxE (by decide) w _ (v8.later hg).tr)).mono ?_
    rintro e w' ⟨rfl,hb⟩
    exact ⟨_,rfl,PostE.put (i:=49) ho (dl19_mem 49 hk).2 (hlt 49 hk) (fun k hk2 hne _ => dl19_inj 49 hk k hk2 hne) (.inl (Ext.of hb)) rfl (later hg hb)⟩
  | 50,hk,hd =>
   have s:(ops[50]?).map sig = some (some 193,.binOp .eql 3 (.tmp 192) (.const (.int .i64 4)) 3,4,some (47,true)):=by subst hops;kernel_rfl
   have hgd:GdOk ops a (some (47,true)):=yielded_of (d:=190) (by subst hops;kernel_rfl) (hd 47 (by decide) (by subst hops;kernel_rfl))
   have d49:=hd 49 (by decide) (by subst hops;kernel_rfl)
   have e1:ag a 192 = .int .i64 4:=d49
   refine op_valg s hgd (w':=w) (v:=.bool true) ?_ ?_
   ·simp only [execOp,eval_tmp,e1]
    go_simp
   ·exact PostE.put (i:=50) ho (dl19_mem 50 hk).2 (hlt 50 hk) (fun k hk2 hne _ => dl19_inj 50 hk k hk2 hne) (.inl (Ext.refl _ _)) rfl hg
  | 51,hk,hd =>
   have s:(ops[51]?).map sig = some (some 194,.pick (.tmp 190) (.tmp 193) (.const (.bool false)),4,none):=by subst hops;kernel_rfl
   have hgd:GdOk ops a none:=trivial
   have d47:=hd 47 (by decide) (by subst hops;kernel_rfl)
   have d50:=hd 50 (by decide) (by subst hops;kernel_rfl)
   have e1:ag a 190 = .bool true:=d47
   have e2:ag a 193 = .bool true:=d50
   refine op_valg s hgd (w':=w) (v:=.bool true) ?_ ?_
   ·simp only [execOp,eval_tmp,e1,e2]
    go_simp
   ·exact PostE.put (i:=51) ho (dl19_mem 51 hk).2 (hlt 51 hk) (fun k hk2 hne _ => dl19_inj 51 hk k hk2 hne) (.inl (Ext.refl _ _)) rfl hg
  | n + 52,hn,_ => exact absurd hn (by omega)
 ·intro a w ho hg hf
  have s:(ops[52]?).map sig = some (some 0,.assign (.tmp 194),4,none):=by subst hops;kernel_rfl
  have hgd:GdOk ops a none:=trivial
  have e:ag a 194 = .bool true:=hf 51 (by decide)
  refine op_valg s hgd (w':=w) (v:=.bool true) ?_ ?_
  ·exact congrArg (fun x => Result.ok (Next.value x) w) e
  ·have ho2:Off (Dl19 ++ [0]) a0 (a.put (some 0) (.bool true)):=(ho.mono (fun s hs => List.mem_append_left _ hs)).put (by decide)
   exact hQ (ag (a.put (some 0) (.bool true))) w (ag_put (by rw [ho.size,hsz];decide)) hg _ (ho2.eq (fun s hs => by rw [hsz];revert s;decide))
end Go.Proofs.YtmfihlcibephlaaDoor
