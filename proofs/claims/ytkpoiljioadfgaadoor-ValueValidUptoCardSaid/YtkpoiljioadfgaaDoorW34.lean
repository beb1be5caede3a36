import Derived.Test.YtkpoiljioadfgaaDoorW05
import Derived.Test.YtkpoiljioadfgaaDoorW25
import Derived.Test.YtkpoiljioadfgaaDoorW32
import Derived.Test.YtkpoiljioadfgaaDoorW33
set_option linter.unusedVariables false
set_option linter.unusedSimpArgs false
namespace Go.Proofs.YtkpoiljioadfgaaDoor
open Go.RowKit
def SpR (F:Nat → Prop) (x:Tr) (w:World) (e:Ending) (w':World):Prop:=∃ (y:Tr) (yk yn:Int) (yA:Option Addr) (yl yc:Nat),e = .returned (.agg #[.int .i64 yk,.int .i64 yn,.slice yA yl yc]) ∧ TrF (fun g => F g ∨ w.heap.size ≤ g) w' y (.agg #[.int .i64 yk,.int .i64 yn,.slice yA yl yc]) ∧ y.nodes ≤ x.nodes + 1 ∧ Below w.heap.size w w'
def spf9 (gB h i m rc:Nat) (at_ how by_ kk nn:Int) (R C:List Value) (x:Tr) (F:Nat → Prop) (H0:Nat → Option Obj) (S:Nat):Nat → Value → World → Prop
 | 0,v,w => v = .pointer (some ⟨gB,2,none⟩)
 | 1,v,w => v = .slice (some ⟨h,0,none⟩) m rc
 | 2,v,w => v = .int .i64 (i:Int)
 | 3,v,w => v = .pointer (some ⟨gB,2,none⟩)
 | 4,v,w => v = .slice (some ⟨h,0,none⟩) m rc
 | 5,v,w => v = .int .i64 (i:Int)
 | 6,v,w => v = .pointer (some ⟨h,i * 3,none⟩)
 | 7,v,w => v = .agg C.toArray
 | 8,v,w => v = .int .i64 at_
 | 9,v,w => v = .int .i64 (at_ - 1)
 | 10,v,w => v = .int .i64 how
 | 11,v,w => v = .int .i64 by_
 | 12,v,w => ∃ (y:Tr) (yk yn:Int) (yA:Option Addr) (yl yc:Nat),v = .agg #[.int .i64 yk,.int .i64 yn,.slice yA yl yc] ∧ (∀ W:World,(∀ g,F g → W.heap[g]? = H0 g) → (∀ g,S ≤ g → g < w.heap.size → W.heap[g]? = w.heap[g]?) → TrF (fun g => F g ∨ S ≤ g) W y (.agg #[.int .i64 yk,.int .i64 yn,.slice yA yl yc])) ∧ y.nodes ≤ x.nodes + 1
 | 13,v,w => v = .pointer (some ⟨h,i * 3,none⟩)
 | _,_,_ => True
theorem spf9_ext (gB h i m rc:Nat) (at_ how by_ kk nn:Int) (R C:List Value) (x:Tr) (F:Nat → Prop) (H0:Nat → Option Obj) (S:Nat):∀ j v w w',j < 14 → (Ext S w w' ∨ (j ≠ 999 ∧ Never w w')) → spf9 gB h i m rc at_ how by_ kk nn R C x F H0 S j v w → spf9 gB h i m rc at_ how by_ kk nn R C x F H0 S j v w':=by
 intro j v w w' hj he h
 match j,hj,he,h with
 | 0,_,he,h => exact h
 | 1,_,he,h => exact h
 | 2,_,he,h => exact h
 | 3,_,he,h => exact h
 | 4,_,he,h => exact h
 | 5,_,he,h => exact h
 | 6,_,he,h => exact h
 | 7,_,he,h => exact h
 | 8,_,he,h => exact h
 | 9,_,he,h => exact h
 | 10,_,he,h => exact h
 | 11,_,he,h => exact h
 | 12,_,he,h => exact he.elim (fun q => h.elim fun y h => h.elim fun yk h => h.elim fun yn h => h.elim fun yA h => h.elim fun yl h => h.elim fun yc h => ⟨y,yk,yn,yA,yl,yc,h.1,fun W h1 h2 => h.2.1 W h1 (fun g hg hl => (h2 g hg (Nat.lt_of_lt_of_le hl q.1.size)).trans (q.2 g hg hl)),h.2.2⟩) (fun q => absurd q.2 id)
 | 13,_,he,h => exact h
 | n + 14,hn,_,_ => exact absurd hn (by omega)
def spD9:List Nat:=[36,37,38,39,40,41,42,43,44,45,46,47,48,49]
def spd9 (k:Nat):Nat:=[36,37,38,39,40,41,42,43,44,45,46,47,48,49].getD k 0
theorem spd9_mem:∀ k,k < 14 → spd9 k < 97 ∧ spd9 k ∈ spD9:=by decide
theorem spd9_inj:∀ i,i < 14 → ∀ k,k < 14 → k ≠ i → spd9 i ≠ spd9 k:=by decide
set_option maxHeartbeats 4000000 in
set_option maxRecDepth 100000 in
theorem spreg9 {Q:Exit → Act → World → Prop} {id:Nat} {ops:Array Oper} (hops:ops = ((Tryd.f24.body).bind (opsOf 9)).getD #[]) (a0:Act) (w0:World) (gB h i m rc:Nat) (at_ how by_ kk nn:Int) (R C:List Value) (x:Tr) (F:Nat → Prop) (H0:Nat → Option Obj) (hsz:a0.tmps.size = 97)
  (h1:ag a0 1 = .int .i64 at_) (h2:ag a0 2 = .int .i64 how) (h3:ag a0 3 = .int .i64 by_) (h4:ag a0 4 = .pointer (some ⟨gB,0,none⟩)) (h9:ag a0 9 = .int .i64 (i:Int)) {B:Nat} (hB:Arr w0 gB 3 53 [.int .i64 kk,.int .i64 nn,.slice (some ⟨h,0,none⟩) m rc]) (hO:w0.ownsRow B 53 3 (.slice (some ⟨h,0,none⟩) m rc) m R) (hC:w0.rangeAt h (i * 3) C) (hC3:C.length = 3) (hx:TrF F w0 x (.agg C.toArray)) (hF:∀ g,F g → g < w0.heap.size) (hH0:∀ g,F g → w0.heap[g]? = H0 g)
  (hin:(i:Int) < (m:Int)) (hi0:(0:Int) ≤ (i:Int)) (hat:0 < at_) (ha:i64r at_) (hIH:∀ (F':Nat → Prop) (W:World) (v:Value) (a':Int),(∀ g,F' g → g < W.heap.size) → i64r a' → TrF F' W x v → Calls Tryd.prog 24 #[v,.int .i64 a',.int .i64 how,.int .i64 by_] W (SpR F' x W))
  (hQ:∀ (vs:Nat → Value) (w1:World) (y:Tr) (yk yn:Int) (yA:Option Addr) (yl yc:Nat),Below w0.heap.size w0 w1 → TrF (fun g => F g ∨ w0.heap.size ≤ g) w1 y (.agg #[.int .i64 yk,.int .i64 yn,.slice yA yl yc]) → y.nodes ≤ x.nodes + 1 → ∀ a',a' = spD9.foldl (fun b s => b.put (some s) (vs s)) a0 → Q .normal a' (w1.setCells h (i * 3) [.int .i64 yk,.int .i64 yn,.slice yA yl yc])) :
  (Code.region id ops true).wp Tryd.prog Q a0 w0:=by
 have hg0:Below w0.heap.size w0 w0.drew:=below_drewN (Below.refl _ _) 1
 have hlt:∀ k,k < 14 → spd9 k < a0.tmps.size:=fun k hk => by have:=(spd9_mem k hk).1;omega
 refine wp_region_factsE 14 999 spD9 spd9 (spf9 gB h i m rc at_ how by_ kk nn R C x F H0 w0.heap.size) (fun w => Below w0.heap.size w0 w) w0.heap.size Never (fun k => k) (by kernel_rfl) (by subst hops;kernel_rfl) (by subst hops;kernel_rfl) (by subst hops;kernel_rfl) (spf9_ext gB h i m rc at_ how by_ kk nn R C x F H0 w0.heap.size) hg0 ?_ ?_
 ·intro j a w hj ho hg hd
  have hgs:=hg.size
  match j,hj,hd with
  | 0,hk,hd =>
   have s:(ops[0]?).map sig = some (some 36,.fieldAddr 53 (.tmp 4) 2,0,none):=by subst hops;kernel_rfl
   have hgd:GdOk ops a none:=trivial
   have e0:ag a 4 = .pointer (some ⟨gB,0,none⟩):=(ho.off 4 (by decide)).trans h4
   refine op_valg s hgd (w':=w) (v:=.pointer (some ⟨gB,2,none⟩)) ?_ ?_
   ·simp only [execOp,eval_tmp,e0]
    go_simp
   ·exact PostE.put (i:=0) ho (spd9_mem 0 hk).2 (hlt 0 hk) (fun k hk2 hne _ => spd9_inj 0 hk k hk2 hne) (.inl (Ext.refl _ _)) rfl hg
  | 1,hk,hd =>
   have s:(ops[1]?).map sig = some (some 37,.load 51 (.tmp 36),51,none):=by subst hops;kernel_rfl
   have hgd:GdOk ops a none:=trivial
   have d0:=hd 0 (by decide) (by subst hops;kernel_rfl)
   have e0:ag a 36 = .pointer (some ⟨gB,2,none⟩):=d0
   have hc:=(hB.later hg).cell (j:=2) (v:=.slice (some ⟨h,0,none⟩) m rc) rfl
   refine op_valg s hgd (w':=w) (v:=.slice (some ⟨h,0,none⟩) m rc) ?_ ?_
   ·simp only [execOp,eval_tmp,e0]
    go_simp
   ·exact PostE.put (i:=1) ho (spd9_mem 1 hk).2 (hlt 1 hk) (fun k hk2 hne _ => spd9_inj 1 hk k hk2 hne) (.inl (Ext.refl _ _)) rfl hg
  | 2,hk,hd =>
   have s:(ops[2]?).map sig = some (some 38,.move (.tmp 9),3,none):=by subst hops;kernel_rfl
   have hgd:GdOk ops a none:=trivial
   have e0:ag a 9 = .int .i64 (i:Int):=(ho.off 9 (by decide)).trans h9
   refine op_valg s hgd (w':=w) (v:=.int .i64 (i:Int)) ?_ ?_
   ·exact congrArg (fun x => Result.ok (Next.value x) w) e0
   ·exact PostE.put (i:=2) ho (spd9_mem 2 hk).2 (hlt 2 hk) (fun k hk2 hne _ => spd9_inj 2 hk k hk2 hne) (.inl (Ext.refl _ _)) rfl hg
  | 3,hk,hd =>
   have s:(ops[3]?).map sig = some (some 39,.fieldAddr 53 (.tmp 4) 2,0,none):=by subst hops;kernel_rfl
   have hgd:GdOk ops a none:=trivial
   have e0:ag a 4 = .pointer (some ⟨gB,0,none⟩):=(ho.off 4 (by decide)).trans h4
   refine op_valg s hgd (w':=w) (v:=.pointer (some ⟨gB,2,none⟩)) ?_ ?_
   ·simp only [execOp,eval_tmp,e0]
    go_simp
   ·exact PostE.put (i:=3) ho (spd9_mem 3 hk).2 (hlt 3 hk) (fun k hk2 hne _ => spd9_inj 3 hk k hk2 hne) (.inl (Ext.refl _ _)) rfl hg
  | 4,hk,hd =>
   have s:(ops[4]?).map sig = some (some 40,.load 51 (.tmp 39),51,none):=by subst hops;kernel_rfl
   have hgd:GdOk ops a none:=trivial
   have d3:=hd 3 (by decide) (by subst hops;kernel_rfl)
   have e0:ag a 39 = .pointer (some ⟨gB,2,none⟩):=d3
   have hc:=(hB.later hg).cell (j:=2) (v:=.slice (some ⟨h,0,none⟩) m rc) rfl
   refine op_valg s hgd (w':=w) (v:=.slice (some ⟨h,0,none⟩) m rc) ?_ ?_
   ·simp only [execOp,eval_tmp,e0]
    go_simp
   ·exact PostE.put (i:=4) ho (spd9_mem 4 hk).2 (hlt 4 hk) (fun k hk2 hne _ => spd9_inj 4 hk k hk2 hne) (.inl (Ext.refl _ _)) rfl hg
  | 5,hk,hd =>
   have s:(ops[5]?).map sig = some (some 41,.move (.tmp 9),3,none):=by subst hops;kernel_rfl
   have hgd:GdOk ops a none:=trivial
   have e0:ag a 9 = .int .i64 (i:Int):=(ho.off 9 (by decide)).trans h9
   refine op_valg s hgd (w':=w) (v:=.int .i64 (i:Int)) ?_ ?_
   ·exact congrArg (fun x => Result.ok (Next.value x) w) e0
   ·exact PostE.put (i:=5) ho (spd9_mem 5 hk).2 (hlt 5 hk) (fun k hk2 hne _ => spd9_inj 5 hk k hk2 hne) (.inl (Ext.refl _ _)) rfl hg
  | 6,hk,hd =>
   have s:(ops[6]?).map sig = some (some 42,.indexAddr 51 (.tmp 40) (.tmp 41),0,none):=by subst hops;kernel_rfl
   have hgd:GdOk ops a none:=trivial
   have d4:=hd 4 (by decide) (by subst hops;kernel_rfl)
   have d5:=hd 5 (by decide) (by subst hops;kernel_rfl)
   have e0:ag a 40 = .slice (some ⟨h,0,none⟩) m rc:=d4
   have e1:ag a 41 = .int .i64 (i:Int):=d5
   refine op_valg s hgd (w':=w) (v:=.pointer (some ⟨h,i * 3,none⟩)) ?_ ?_
   ·simp only [execOp,eval_tmp,e0,e1]
    go_simp
   ·exact PostE.put (i:=6) ho (spd9_mem 6 hk).2 (hlt 6 hk) (fun k hk2 hne _ => spd9_inj 6 hk k hk2 hne) (.inl (Ext.refl _ _)) rfl hg
  | 7,hk,hd =>
   have s:(ops[7]?).map sig = some (some 43,.load 53 (.tmp 42),53,none):=by subst hops;kernel_rfl
   have hgd:GdOk ops a none:=trivial
   have d6:=hd 6 (by decide) (by subst hops;kernel_rfl)
   have e0:ag a 42 = .pointer (some ⟨h,i * 3,none⟩):=d6
   refine op_loadg s hgd h (i * 3) e0 C _ (range_below hC hg) Tryd.underlying53 rfl (by rw [hC3];exact info_val) ?_
   exact PostE.put (i:=7) ho (spd9_mem 7 hk).2 (hlt 7 hk) (fun k hk2 hne _ => spd9_inj 7 hk k hk2 hne) (.inl (Ext.refl _ _)) rfl hg
  | 8,hk,hd =>
   have s:(ops[8]?).map sig = some (some 44,.move (.tmp 1),3,none):=by subst hops;kernel_rfl
   have hgd:GdOk ops a none:=trivial
   have e0:ag a 1 = .int .i64 at_:=(ho.off 1 (by decide)).trans h1
   refine op_valg s hgd (w':=w) (v:=.int .i64 at_) ?_ ?_
   ·exact congrArg (fun x => Result.ok (Next.value x) w) e0
   ·exact PostE.put (i:=8) ho (spd9_mem 8 hk).2 (hlt 8 hk) (fun k hk2 hne _ => spd9_inj 8 hk k hk2 hne) (.inl (Ext.refl _ _)) rfl hg
  | 9,hk,hd =>
   have s:(ops[9]?).map sig = some (some 45,.binOp .sub 3 (.tmp 44) (.const (.int .i64 1)) 3,3,none):=by subst hops;kernel_rfl
   have hgd:GdOk ops a none:=trivial
   have d8:=hd 8 (by decide) (by subst hops;kernel_rfl)
   have e0:ag a 44 = .int .i64 at_:=d8
   refine op_valg s hgd (w':=w) (v:=.int .i64 (at_ - 1)) ?_ ?_
   ·simp only [execOp,eval_tmp,e0]
    have hw:IntKind.i64.wrap (at_ - 1) = at_ - 1:=IntWalk.i64_in _ (by unfold i64r at ha;omega)
    go_simp
   ·exact PostE.put (i:=9) ho (spd9_mem 9 hk).2 (hlt 9 hk) (fun k hk2 hne _ => spd9_inj 9 hk k hk2 hne) (.inl (Ext.refl _ _)) rfl hg
  | 10,hk,hd =>
   have s:(ops[10]?).map sig = some (some 46,.move (.tmp 2),3,none):=by subst hops;kernel_rfl
   have hgd:GdOk ops a none:=trivial
   have e0:ag a 2 = .int .i64 how:=(ho.off 2 (by decide)).trans h2
   refine op_valg s hgd (w':=w) (v:=.int .i64 how) ?_ ?_
   ·exact congrArg (fun x => Result.ok (Next.value x) w) e0
   ·exact PostE.put (i:=10) ho (spd9_mem 10 hk).2 (hlt 10 hk) (fun k hk2 hne _ => spd9_inj 10 hk k hk2 hne) (.inl (Ext.refl _ _)) rfl hg
  | 11,hk,hd =>
   have s:(ops[11]?).map sig = some (some 47,.move (.tmp 3),3,none):=by subst hops;kernel_rfl
   have hgd:GdOk ops a none:=trivial
   have e0:ag a 3 = .int .i64 by_:=(ho.off 3 (by decide)).trans h3
   refine op_valg s hgd (w':=w) (v:=.int .i64 by_) ?_ ?_
   ·exact congrArg (fun x => Result.ok (Next.value x) w) e0
   ·exact PostE.put (i:=11) ho (spd9_mem 11 hk).2 (hlt 11 hk) (fun k hk2 hne _ => spd9_inj 11 hk k hk2 hne) (.inl (Ext.refl _ _)) rfl hg
  | 12,hk,hd =>
   have s:(ops[12]?).map sig = some (some 48,.call { callee:=.value (.func 24),args:=#[.tmp 43,.tmp 45,.tmp 46,.tmp 47],argTypes:=#[53,3,3,3] },53,none):=by subst hops;kernel_rfl
   have hgd:GdOk ops a none:=trivial
   have d7:=hd 7 (by decide) (by subst hops;kernel_rfl)
   have d9:=hd 9 (by decide) (by subst hops;kernel_rfl)
   have d10:=hd 10 (by decide) (by subst hops;kernel_rfl)
   have d11:=hd 11 (by decide) (by subst hops;kernel_rfl)
   have e0:ag a 43 = .agg C.toArray:=d7
   have e1:ag a 45 = .int .i64 (at_ - 1):=d9
   have e2:ag a 46 = .int .i64 how:=d10
   have e3:ag a 47 = .int .i64 by_:=d11
   have hx2:TrF F w x (.agg C.toArray):=hx.keep (fun _ h => h) (fun g hg2 _ => hg.block g (hF g hg2))
   refine op_callg s hgd (w':=w) (f:=24) (args:=#[.agg C.toArray,.int .i64 (at_ - 1),.int .i64 how,.int .i64 by_]) ?_ ?_
   ·simp only [execOp]
    go_simp
    refine ⟨by simpa [ag] using e0,by simpa [ag] using e1,by simpa [ag] using e2,by simpa [ag] using e3⟩
   ·refine (hIH F w _ (at_ - 1) (fun g h => Nat.lt_of_lt_of_le (hF g h) hgs) (by unfold i64r at ha ⊢;omega) hx2).mono ?_
    rintro e w' ⟨y,yk,yn,yA,yl,yc,rfl,hT,hN,hb⟩
    have hb2:=later hg hb
    refine ⟨_,rfl,PostE.put (i:=12) ho (spd9_mem 12 hk).2 (hlt 12 hk) (fun k hk2 hne _ => spd9_inj 12 hk k hk2 hne) (.inl (Ext.of hb)) ⟨y,yk,yn,yA,yl,yc,rfl,fun W h1 h2 => hT.keep (fun g h => h.imp (fun q => q) (fun q => Nat.le_trans hgs q)) (fun g hg2 hl => ?_),hN⟩ hb2⟩
    rcases hg2 with hg2 | hg2
    ·rw [h1 g hg2,← hH0 g hg2]
     exact (hb2.block g (hF g hg2)).symm
    ·exact h2 g (Nat.le_trans hgs hg2) hl
  | 13,hk,hd =>
   have s:(ops[13]?).map sig = some (some 49,.indexAddr 51 (.tmp 37) (.tmp 38),0,none):=by subst hops;kernel_rfl
   have hgd:GdOk ops a none:=trivial
   have d1:=hd 1 (by decide) (by subst hops;kernel_rfl)
   have d2:=hd 2 (by decide) (by subst hops;kernel_rfl)
   have e0:ag a 37 = .slice (some ⟨h,0,none⟩) m rc:=d1
   have e1:ag a 38 = .int .i64 (i:Int):=d2
   refine op_valg s hgd (w':=w) (v:=.pointer (some ⟨h,i * 3,none⟩)) ?_ ?_
   ·simp only [execOp,eval_tmp,e0,e1]
    go_simp
   ·exact PostE.put (i:=13) ho (spd9_mem 13 hk).2 (hlt 13 hk) (fun k hk2 hne _ => spd9_inj 13 hk k hk2 hne) (.inl (Ext.refl _ _)) rfl hg
  | n + 14,hn,_ => exact absurd hn (by omega)
 ·intro a w ho hg hf
  have s:(ops[14]?).map sig = some (none,.store 53 (.tmp 49) (.tmp 48),0,none):=by subst hops;kernel_rfl
  have hgd:GdOk ops a none:=trivial
  obtain ⟨y,yk,yn,yA,yl,yc,e48,hT,hN⟩:=hf 12 (by decide)
  have e48:ag a 48 = .agg #[.int .i64 yk,.int .i64 yn,.slice yA yl yc]:=e48
  have e49:ag a 49 = .pointer (some ⟨h,i * 3,none⟩):=hf 13 (by decide)
  have hT2:=hT w (fun g h => by rw [← hH0 g h];exact hg.block g (hF g h)) (fun _ _ _ => rfl)
  refine wpOp_ofg s hgd fun o h1 h2 h3 => ?_
  refine wp_store_mid _ _ _ h2 h (i * 3) #[.int .i64 yk,.int .i64 yn,.slice yA yl yc] e49 e48 (own_there (own_below' hO hg) (show i * 3 + 3 ≤ m * 3 by omega)) info_val (all_oneCell_toArray (cs:=[.int .i64 yk,.int .i64 yn,.slice yA yl yc]) (List.all_eq_true.mp (by rfl))) ?_
  rw [h1]
  exact hQ (ag a) w y yk yn yA yl yc hg hT2 hN _ (ho.eq (fun s hs => by rw [hsz];revert s;decide))
end Go.Proofs.YtkpoiljioadfgaaDoor
namespace Go.Proofs.YtkpoiljioadfgaaDoor
open Go.RowKit
theorem KsF.later_ {F:Nat → Prop} {w W:World} {A:Option Addr} {ks:List Tr} {i:Nat} (h:KsF F w A i ks) (hF:∀ g,F g → g < w.heap.size) (hb:Below w.heap.size w W):KsF F W A i ks:=h.keep (fun _ h => h) (fun g hg _ => hb.block g (hF g hg))
theorem KRow.some_ {F:Nat → Prop} {w:World} {B rn rc:Nat} {RA:Option Addr} {ks:List Tr} (h:KRow F w B (.slice RA rn rc) ks) (h0:0 < ks.length):∃ g,RA = some ⟨g,0,none⟩ ∧ B ≤ g ∧ g < w.heap.size:=by
 obtain ⟨L,h1,_⟩:=h
 obtain ⟨g,cap,hv,h2,_⟩:=own_some h1 h0
 cases hv
 exact ⟨g,rfl,World.ownsRow.lt h1 g rfl⟩
theorem KRow.get {F:Nat → Prop} {w:World} {B rn rc g:Nat} {ks:List Tr} {i:Nat} {x:Tr} (h:KRow F w B (.slice (some ⟨g,0,none⟩) rn rc) ks) (hx:ks[i]? = some x):∃ C R,w.ownsRow B 53 3 (.slice (some ⟨g,0,none⟩) rn rc) rn R ∧ w.rangeAt g (i * 3) C ∧ C.length = 3 ∧ TrF F w x (.agg C.toArray):=by
 obtain ⟨L,h1,h2,h3,h4⟩:=h
 have hj:=(List.getElem?_eq_some_iff.1 hx).1
 have hle:rn = ks.length:=by obtain ⟨A',c',hv,_⟩:=own_shape h1;cases hv;rfl
 subst hle
 have hC:L[i]? = some (L[i]'(by omega)):=List.getElem?_eq_getElem (by omega)
 refine ⟨L[i]'(by omega),cat3 L,h1,fun p v hv => ?_,h3 _ (List.getElem_mem _),h4 i x _ hx hC⟩
 have hc:=h1.cells (g:=g) rfl _ _ (cat3_get L h3 i _ hC p v hv)
 have ha:(⟨g,0,none⟩:Addr).add (i * 3 + p) = ⟨g,i * 3 + p,none⟩:=by unfold Addr.add;split <;> simp_all
 rwa [ha] at hc
set_option maxHeartbeats 8000000 in
set_option maxRecDepth 100000 in
theorem sp_step (k n:Int) (ks:List Tr) (A:Option Addr) (m cap:Nat) (F:Nat → Prop) (w:World) (hm:m = ks.length) (hk:KsF F w A 0 ks) (hF:∀ g,F g → g < w.heap.size) (HM:Hid (m ≤ cap ∧ cap ≤ maxLen ∧ i64r k ∧ i64r n)) (hN:nodesL ks ≤ 256) (at_ how by_:Int) (ha:i64r at_) (hh:i64r how) (hb:i64r by_) (hq:ar how 5 = 2)
  (ih:Hid (∀ (j:Nat) (x:Tr),ks[j]? = some x → ∀ (F':Nat → Prop) (W:World) (v:Value) (a':Int),(∀ g,F' g → g < W.heap.size) → i64r a' → TrF F' W x v → Calls Tryd.prog 24 #[v,.int .i64 a',.int .i64 how,.int .i64 by_] W (SpR F' x W))) :
  Calls Tryd.prog 24 #[.agg #[.int .i64 k,.int .i64 n,.slice A m cap],.int .i64 at_,.int .i64 how,.int .i64 by_] w (SpR F (.node k n ks) w):=by
 have P4:Arr ((w.alloc (.cells #[.int .i64 k,.int .i64 n,.slice A m cap] 53)).alloc (.cells #[.int .i64 0,.int .i64 0,.slice none 0 0] 53)) w.heap.size 3 53 [.int .i64 k,.int .i64 n,.slice A m cap]:=(Arr.new' w _ _ 3 _ rfl rfl (by decide)).later (new_later (w.alloc (.cells #[.int .i64 k,.int .i64 n,.slice A m cap] 53)) (.cells #[.int .i64 0,.int .i64 0,.slice none 0 0] 53))
 have P8:Arr ((w.alloc (.cells #[.int .i64 k,.int .i64 n,.slice A m cap] 53)).alloc (.cells #[.int .i64 0,.int .i64 0,.slice none 0 0] 53)) (w.heap.size + 1) 3 53 [.int .i64 0,.int .i64 0,.slice none 0 0]:=by
  have h:=Arr.new' (w.alloc (.cells #[.int .i64 k,.int .i64 n,.slice A m cap] 53)) 53 #[.int .i64 0,.int .i64 0,.slice none 0 0] 3 [.int .i64 0,.int .i64 0,.slice none 0 0] rfl rfl (by decide)
  rw [World.size_alloc] at h;exact h
 have V0:=later (new_later w (.cells #[.int .i64 k,.int .i64 n,.slice A m cap] 53)) (new_later (w.alloc (.cells #[.int .i64 k,.int .i64 n,.slice A m cap] 53)) (.cells #[.int .i64 0,.int .i64 0,.slice none 0 0] 53))
 generalize hW:(w.alloc (.cells #[.int .i64 k,.int .i64 n,.slice A m cap] 53)).alloc (.cells #[.int .i64 0,.int .i64 0,.slice none 0 0] 53) = wa at P4 P8 V0
 have HKW:Hid (∀ W,Below w.heap.size w W → KsF F W A 0 ks):=Lib.hid fun W h => hk.later_ hF h
 have HMm:=Lib.hid hm
 have hln:ks.length ≤ 256:=by
  have:∀ (l:List Tr),l.length ≤ nodesL l:=by
   intro l
   induction l with
   | nil => simp [nodesL]
   | cons z l ih => rw [nodesL,List.length_cons];have:=z.nodes_pos;omega
  have:=this ks;omega
 have HFF:=Lib.hid hF
 have HNN:=Lib.hid hN
 have HAR:Hid (∀ W,Calls Tryd.prog 12 #[.int .i64 how,.int .i64 5] W fun e w' => e = .returned (.int .i64 2) ∧ w' = W):=Lib.hid fun W => by
  have h:=Around_any how 5 (by decide) (by decide) hh W
  rw [hq] at h;exact h
 have HH:=Lib.hid (And.intro ha hb)
 have hgl:=P8.lt
 have hmi:(m:Int) ≤ 256:=by omega
 have HLN:=Lib.hid hln
 clear hk hF hN hh ha hb hq hm hln
 have HP4:=Lib.hid P4
 have HP8:=Lib.hid P8
 have HV0:=Lib.hid V0
 clear P4 P8 V0
 go_enter Tryd.func24,Tryd.ntmps24
 go_upto_region 1 with fail
 clear hW
 by_cases h0:(0:Int) < at_
 ·go_wp2_with fail
  go_loopw [1,9] (fun av iv W' => ∃ (i:Nat) (a:Int),i ≤ m ∧ iv = .int .i64 (i:Int) ∧ av = .int .i64 a ∧ (0 < a ∧ a ≤ at_) ∧ Below wa.heap.size wa W') (fun _ iv _ => m - (intOf iv).toNat)
  case atStart => exact ⟨0,at_,Nat.zero_le _,by go_num,rfl,⟨h0,Int.le_refl _⟩,Below.refl _ _⟩
  case round =>
   obtain ⟨i,a,hi,rfl,rfl,⟨ha0,ha1⟩,hbr⟩:=hrel
   have HP4r:=Lib.hid (HP4.out.later hbr)
   have HP8r:=Lib.hid (HP8.out.later hbr)
   have HVr:=Lib.hid (later HV0.out hbr)
   have HBR:=Lib.hid hbr
   have hgr:w.heap.size + 1 < wr.heap.size:=by have:=hbr.size;omega
   clear hbr
   have hi0:(0:Int) ≤ (i:Int):=by omega
   have x2:=HP4r.out.cell (j:=2) (v:=.slice A m cap) rfl
   by_cases hlt:i < m
   ·have hli:(i:Int) < (m:Int):=by omega
    have hki:ks[i]? = some (ks[i]'(by rw [← HMm.out];exact hlt)):=List.getElem?_eq_getElem _
    obtain ⟨g,o,C,hA,hgF,hr,hT⟩:=(HKW.out wr HVr.out).get hki
    subst hA
    rw [Nat.zero_add] at hr
    obtain ⟨x,hx⟩:∃ x,ks[i]'(by rw [← HMm.out];exact hlt) = x:=⟨_,rfl⟩
    rw [hx] at hki hT
    have hxn:=kid_nodes hki
    obtain ⟨nx,hnx⟩:∃ nx,x.nodes = nx:=⟨_,rfl⟩
    have hnx1:(1:Int) ≤ (nx:Int):=by have:=x.nodes_pos;omega
    have hnx2:(nx:Int) ≤ 256:=by have:=HNN.out;omega
    have HSI:Hid (Calls Tryd.prog 29 #[.agg C.toArray] wr (NumRes (nx:Int) wr)):=Lib.hid (by
     have h:=rsize_any x.nodes x (Nat.le_refl _) wr _ hT.at_
     rwa [Tr.sz_eq' x (by have:=HNN.out;omega),hnx] at h)
    have HI3:Hid ((Tryd.prog.info? 53).map (·.size) = some C.length):=Lib.hid (by rw [(trf_len hT).1];exact info_val)
    have HRr:=Lib.hid hr
    have HKI:=Lib.hid hki
    have HNX:=Lib.hid hnx
    have haw:i64r a:=by have:=HH.out.1;unfold i64r at this ⊢;omega
    have haw1:a ≤ 9223372036854775807:=haw.2
    clear hr hT hki hx hxn hnx hgF
    by_cases hle:a ≤ (nx:Int)
    ·go_upto_region 9 with (first
      | (with_reducible refine wpList_load_mid rfl _ (.tmp 25) rfl g (o + i * 3) rfl C _ HRr.out Tryd.underlying53 rfl HI3.out ?_)
      | (go_at_call 29;(with_reducible refine HSI.out.mono ?_);rintro e w6 ⟨rfl,hb6⟩;have HB6:=Lib.hid hb6;have x2b:=(HP4r.out.later hb6).cell (j:=2) (v:=.slice (some ⟨g,o,none⟩) m cap) rfl;clear hb6)
      | (at_builtin;refine wpList_copyK (B:=w6.heap.size) (HKW.out w6 (later HVr.out HB6.out)) HMm.out (by have:=HLN.out;omega) rfl rfl _ _ rfl rfl rfl ?_;intro v7 w7 hK hb7;obtain ⟨RA,rn,rc,hv7,hrn⟩:=hK.shape;subst hv7;have HKR:=Lib.hid hK;have HB7:=Lib.hid (later HB6.out hb7);have x2c:=((HP4r.out.later HB6.out).later hb7).cell (j:=2) (v:=.slice (some ⟨g,o,none⟩) m cap) rfl;have f2c:=((HP4r.out.later HB6.out).later hb7).free 2;clear hK hb7))
     have HP4x:Hid (Arr (w7.setCell ⟨w.heap.size,2,none⟩ (.slice RA rn rc)) w.heap.size 3 53 [.int .i64 k,.int .i64 n,.slice RA rn rc]):=Lib.hid ((HP4r.out.later HB7.out).set_ 2 _)
     have HP8x:Hid (Arr (w7.setCell ⟨w.heap.size,2,none⟩ (.slice RA rn rc)) (w.heap.size + 1) 3 53 [.int .i64 0,.int .i64 0,.slice none 0 0]):=Lib.hid ((HP8r.out.later HB7.out).other (by omega) _)
     have HVx:Hid (Below w.heap.size w (w7.setCell ⟨w.heap.size,2,none⟩ (.slice RA rn rc))):=Lib.hid ((later HVr.out HB7.out).setCell (p:=⟨w.heap.size,2,none⟩) (Nat.le_refl _) _)
     have hk0:0 < ks.length:=by have:=HMm.out;omega
     obtain ⟨h,hRA,hgB,hgl7⟩:=HKR.out.some_ hk0
     subst hRA
     have hw6:wr.heap.size ≤ w6.heap.size:=HB6.out.size
     have HKx:Hid (KRow F (w7.setCell ⟨w.heap.size,2,none⟩ (.slice (some ⟨h,0,none⟩) rn rc)) w6.heap.size (.slice (some ⟨h,0,none⟩) rn rc) ks):=Lib.hid (HKR.out.keep (fun _ h => h) (fun g hg hl => Below.heap_setCell _ _ _ _ (by have:=HFF.out g hg;simp;omega)) (fun g hg hl => by simp [Value.ownBlock] at hg;subst hg;exact Below.heap_setCell _ _ _ _ (by simp;omega)))
     have hsz8:h < (w7.setCell ⟨w.heap.size,2,none⟩ (.slice (some ⟨h,0,none⟩) rn rc)).heap.size:=by rw [World.size_setCell];exact hgl7
     clear HKR HB7 x2c f2c x2b x2
     generalize w7.setCell ⟨w.heap.size,2,none⟩ (.slice (some ⟨h,0,none⟩) rn rc) = w8 at HP4x HP8x HVx HKx hsz8 ⊢
     obtain ⟨C',R,hO,hC,hC3,hT⟩:=HKx.out.get HKI.out
     refine spreg9 (by kernel_rfl) _ _ w.heap.size h i rn rc a how by_ k n R C' x F (fun g => w8.heap[g]?) rfl rfl rfl rfl rfl rfl HP4x.out hO hC hC3 hT (fun g hg => Nat.lt_of_lt_of_le (HFF.out g hg) HVx.out.size) (fun _ _ => rfl) (by have:=hrn.out.1;have:=HMm.out;omega) hi0 ha0 haw (fun F' W v a' h1 h2 h3 => ih.out i x HKI.out F' W v a' h1 h2 h3) ?_
     intro vs9 w9 y yk yn yA yl yc hb9 hT9 hN9 a9 ha9
     simp only [spD9,List.cons_append,List.nil_append,List.foldl_cons,List.foldl_nil,Act.put,List.setIfInBounds_toArray,List.set_cons_succ,List.set_cons_zero] at ha9
     subst ha9
     have hO9:=Only.setCells h (i * 3) [.int .i64 yk,.int .i64 yn,.slice yA yl yc] w9
     have HP4w:Hid (Arr (w9.setCells h (i * 3) [.int .i64 yk,.int .i64 yn,.slice yA yl yc]) w.heap.size 3 53 [.int .i64 k,.int .i64 n,.slice (some ⟨h,0,none⟩) rn rc]):=Lib.hid ((HP4x.out.later hb9).only hO9 (by omega))
     have HP8w:Hid (Arr (w9.setCells h (i * 3) [.int .i64 yk,.int .i64 yn,.slice yA yl yc]) (w.heap.size + 1) 3 53 [.int .i64 0,.int .i64 0,.slice none 0 0]):=Lib.hid ((HP8x.out.later hb9).only hO9 (by omega))
     have HVw:Hid (Below w.heap.size w (w9.setCells h (i * 3) [.int .i64 yk,.int .i64 yn,.slice yA yl yc])):=Lib.hid ((later HVx.out hb9).trans (hO9.1.mono (by omega)))
     have HKw:Hid (KRow (fun g => F g ∨ (F g ∨ w8.heap.size ≤ g)) (w9.setCells h (i * 3) [.int .i64 yk,.int .i64 yn,.slice yA yl yc]) w6.heap.size (.slice (some ⟨h,0,none⟩) rn rc) (ks.set i y)):=Lib.hid (KRow.set_ (C:=[.int .i64 yk,.int .i64 yn,.slice yA yl yc]) (HKx.out.keep (fun _ h => h) (fun g hg hl => hb9.block g hl) (fun g hg hl => hb9.block g hl)) (by have:=HMm.out;omega) hT9 (fun g hg => by have:=HFF.out g hg;omega) (fun g hg => by rcases hg with hg | hg;have:=HFF.out g hg;omega;omega))
     have HN9:Hid (nodesL (ks.set i y) ≤ nodesL ks + 1):=Lib.hid (nodesL_set ks i x y 1 HKI.out hN9)
     have hV8:w.heap.size + 1 < w8.heap.size:=by have:=HP8x.out.lt;omega
     clear hO hC hC3 hT hb9 hT9 hN9 hO9 HP4x HP8x HVx HKx
     generalize w9.setCells h (i * 3) [.int .i64 yk,.int .i64 yn,.slice yA yl yc] = w10 at HP4w HP8w HVw HKw ⊢
     have HRB:=Lib.hid HP4w.out.range
     have HIV:Hid ((Tryd.prog.info? 53).map (·.size) = some ([.int .i64 k,.int .i64 n,.slice (some ⟨h,0,none⟩) rn rc]:List Value).length):=Lib.hid info_val
     go_wp2_with (first
      | (with_reducible refine wpList_load_mid rfl _ (.tmp 4) rfl w.heap.size 0 rfl [.int .i64 k,.int .i64 n,.slice (some ⟨h,0,none⟩) rn rc] _ HRB.out Tryd.underlying53 rfl HIV.out ?_)
      | (refine wpList_store_arr rfl _ (.tmp 8) (.tmp 50) rfl (w.heap.size + 1) 0 3 53 _ [.int .i64 k,.int .i64 n,.slice (some ⟨h,0,none⟩) rn rc] [.int .i64 0,.int .i64 0,.slice none 0 0] rfl rfl rfl HP8w.out (show 0 + 3 ≤ 3 by omega) info_val (List.all_eq_true.mp (by rfl)) ?_;intro w11 f11 o11))
     rw [setAll_all [.int .i64 0,.int .i64 0,.slice none 0 0] [.int .i64 k,.int .i64 n,.slice (some ⟨h,0,none⟩) rn rc] rfl] at f11
     refine bodyPost_ret (results_one rfl _ _ (w.heap.size + 1) [.int .i64 k,.int .i64 n,.slice (some ⟨h,0,none⟩) rn rc] _ rfl f11.range Tryd.underlying53 rfl info_val) rfl ?_
     refine ⟨.node k n (ks.set i y),k,n,some ⟨h,0,none⟩,rn,rc,rfl,(HKw.out.tree k n HM.out.2.2.1 HM.out.2.2.2).keep (fun g hg => ?_) (fun g hg _ => o11.2 g ?_),by rw [nodes_node,nodes_node];have:=HN9.out;omega,HVw.out.trans (o11.bel.mono (by omega))⟩
     ·rcases hg with (hg | hg | hg) | hg
      ·exact .inl hg
      ·exact .inl hg
      ·exact .inr (by omega)
      ·exact .inr (by omega)
     ·rcases hg with (hg | hg | hg) | hg
      ·have:=HFF.out g hg;omega
      ·have:=HFF.out g hg;omega
      ·omega
      ·omega
    ·have hgt:(nx:Int) < a:=by omega
     go_wp2_with (first
      | (with_reducible refine wpList_load_mid rfl _ (.tmp 25) rfl g (o + i * 3) rfl C _ HRr.out Tryd.underlying53 rfl HI3.out ?_)
      | (go_at_call 29;(with_reducible refine HSI.out.mono ?_);rintro e w6 ⟨rfl,hb6⟩;have HB6:=Lib.hid hb6;clear hb6))
     go_roundw
     case rel => exact ⟨i + 1,a - (nx:Int),hlt,by go_num,by go_num,⟨by omega,by omega⟩,later HBR.out HB6.out⟩
     case measure => simp [intOf];omega
   ·have hli:¬ (i:Int) < (m:Int):=by omega
    have x2z:=HP4r.out.cell (j:=2) (v:=.slice A m cap) rfl
    go_upto_region 14 with (at_builtin;refine wpList_copyK (B:=wr.heap.size) (HKW.out wr HVr.out) HMm.out (by have:=HLN.out;omega) rfl rfl _ _ rfl rfl rfl ?_;intro v7 w7 hK hb7;obtain ⟨RA,rn,rc,hv7,hrn⟩:=hK.shape;subst hv7;have HKR:=Lib.hid hK;have HB7:=Lib.hid hb7;clear hK hb7)
    clear x2z
    have x2y:=(HP4r.out.later HB7.out).cell (j:=2) (v:=.slice A m cap) rfl
    have f2y:=(HP4r.out.later HB7.out).free 2
    go_upto_region 15 with fail
    clear x2y f2y
    have HP4y:Hid (Arr (w7.setCell ⟨w.heap.size,2,none⟩ (.slice RA rn rc)) w.heap.size 3 53 [.int .i64 k,.int .i64 n,.slice RA rn rc]):=Lib.hid ((HP4r.out.later HB7.out).set_ 2 _)
    have HP8y:Hid (Arr (w7.setCell ⟨w.heap.size,2,none⟩ (.slice RA rn rc)) (w.heap.size + 1) 3 53 [.int .i64 0,.int .i64 0,.slice none 0 0]):=Lib.hid ((HP8r.out.later HB7.out).other (by omega) _)
    have HVy:Hid (Below w.heap.size w (w7.setCell ⟨w.heap.size,2,none⟩ (.slice RA rn rc))):=Lib.hid ((later HVr.out HB7.out).setCell (p:=⟨w.heap.size,2,none⟩) (Nat.le_refl _) _)
    have HKy:Hid (KRow F (w7.setCell ⟨w.heap.size,2,none⟩ (.slice RA rn rc)) wr.heap.size (.slice RA rn rc) ks):=Lib.hid (HKR.out.keep (fun _ h => h) (fun g hg hl => Below.heap_setCell _ _ _ _ (by have:=HFF.out g hg;simp;omega)) (fun g hg hl => by
     obtain ⟨L,h1,_⟩:=HKR.out
     have:=(World.ownsRow.lt h1 g hg).1
     exact Below.heap_setCell _ _ _ _ (by simp;omega)))
    clear HKR HB7
    generalize w7.setCell ⟨w.heap.size,2,none⟩ (.slice RA rn rc) = wy at HP4y HP8y HVy HKy ⊢
    have x1y:=HP4y.out.cell (j:=1) (v:=.int .i64 n) rfl
    have f1y:=HP4y.out.free 1
    go_upto_region 27 with (go_at_call 12;(with_reducible refine (HAR.out _).mono ?_);rintro e w' ⟨rfl,hww⟩;rw [hww];clear hww)
    clear x1y f1y
    obtain ⟨n1,hn1⟩:∃ n1,wrap64 (n + 1) = n1:=⟨_,rfl⟩
    have hnr:i64r n1:=by rw [← hn1];unfold wrap64 i64r;omega
    rw [hn1]
    clear hn1
    have HP4w:Hid (Arr (wy.setCell ⟨w.heap.size,1,none⟩ (.int .i64 n1)) w.heap.size 3 53 [.int .i64 k,.int .i64 n1,.slice RA rn rc]):=Lib.hid (HP4y.out.set_ 1 _)
    have HP8w:Hid (Arr (wy.setCell ⟨w.heap.size,1,none⟩ (.int .i64 n1)) (w.heap.size + 1) 3 53 [.int .i64 0,.int .i64 0,.slice none 0 0]):=Lib.hid (HP8y.out.other (by omega) _)
    have HVw:Hid (Below w.heap.size w (wy.setCell ⟨w.heap.size,1,none⟩ (.int .i64 n1))):=Lib.hid (HVy.out.setCell (p:=⟨w.heap.size,1,none⟩) (Nat.le_refl _) _)
    have HKw:Hid (KRow F (wy.setCell ⟨w.heap.size,1,none⟩ (.int .i64 n1)) wr.heap.size (.slice RA rn rc) ks):=Lib.hid (HKy.out.keep (fun _ h => h) (fun g hg hl => Below.heap_setCell _ _ _ _ (by have:=HFF.out g hg;simp;omega)) (fun g hg hl => by
     obtain ⟨L,h1,_⟩:=HKy.out
     have:=(World.ownsRow.lt h1 g hg).1
     exact Below.heap_setCell _ _ _ _ (by simp;omega)))
    clear HKy HP4y HP8y HVy
    generalize wy.setCell ⟨w.heap.size,1,none⟩ (.int .i64 n1) = w10 at HP4w HP8w HVw HKw ⊢
    have HRB:=Lib.hid HP4w.out.range
    have HIV:Hid ((Tryd.prog.info? 53).map (·.size) = some ([.int .i64 k,.int .i64 n1,.slice RA rn rc]:List Value).length):=Lib.hid info_val
    have hgw:=HP8w.out.lt
    go_wp2_with (first
     | (with_reducible refine wpList_load_mid rfl _ (.tmp 4) rfl w.heap.size 0 rfl [.int .i64 k,.int .i64 n1,.slice RA rn rc] _ HRB.out Tryd.underlying53 rfl HIV.out ?_)
     | (refine wpList_store_arr rfl _ (.tmp 8) (.tmp 96) rfl (w.heap.size + 1) 0 3 53 _ [.int .i64 k,.int .i64 n1,.slice RA rn rc] [.int .i64 0,.int .i64 0,.slice none 0 0] rfl rfl rfl HP8w.out (show 0 + 3 ≤ 3 by omega) info_val (List.all_eq_true.mp (by rfl)) ?_;intro w11 f11 o11))
    rw [setAll_all [.int .i64 0,.int .i64 0,.slice none 0 0] [.int .i64 k,.int .i64 n1,.slice RA rn rc] rfl] at f11
    refine bodyPost_ret (results_one rfl _ _ (w.heap.size + 1) [.int .i64 k,.int .i64 n1,.slice RA rn rc] _ rfl f11.range Tryd.underlying53 rfl info_val) rfl ?_
    refine ⟨.node k n1 ks,k,n1,RA,rn,rc,rfl,(HKw.out.tree k n1 HM.out.2.2.1 hnr).keep (fun g hg => ?_) (fun g hg _ => o11.2 g ?_),by rw [nodes_node,nodes_node];omega,HVw.out.trans (o11.bel.mono (by omega))⟩
    ·rcases hg with hg | hg
     ·exact .inl hg
     ·exact .inr (by omega)
    ·rcases hg with hg | hg
     ·have:=HFF.out g hg;omega
     ·omega
 ·have x2z:=HP4.out.cell (j:=2) (v:=.slice A m cap) rfl
  go_upto_region 14 with (at_builtin;refine wpList_copyK (B:=wa.heap.size) (HKW.out wa HV0.out) HMm.out (by have:=HLN.out;omega) rfl rfl _ _ rfl rfl rfl ?_;intro v7 w7 hK hb7;obtain ⟨RA,rn,rc,hv7,hrn⟩:=hK.shape;subst hv7;have HKR:=Lib.hid hK;have HB7:=Lib.hid hb7;clear hK hb7)
  clear x2z
  have x2y:=(HP4.out.later HB7.out).cell (j:=2) (v:=.slice A m cap) rfl
  have f2y:=(HP4.out.later HB7.out).free 2
  go_upto_region 15 with fail
  clear x2y f2y
  have HP4y:Hid (Arr (w7.setCell ⟨w.heap.size,2,none⟩ (.slice RA rn rc)) w.heap.size 3 53 [.int .i64 k,.int .i64 n,.slice RA rn rc]):=Lib.hid ((HP4.out.later HB7.out).set_ 2 _)
  have HP8y:Hid (Arr (w7.setCell ⟨w.heap.size,2,none⟩ (.slice RA rn rc)) (w.heap.size + 1) 3 53 [.int .i64 0,.int .i64 0,.slice none 0 0]):=Lib.hid ((HP8.out.later HB7.out).other (by omega) _)
  have HVy:Hid (Below w.heap.size w (w7.setCell ⟨w.heap.size,2,none⟩ (.slice RA rn rc))):=Lib.hid ((later HV0.out HB7.out).setCell (p:=⟨w.heap.size,2,none⟩) (Nat.le_refl _) _)
  have HKy:Hid (KRow F (w7.setCell ⟨w.heap.size,2,none⟩ (.slice RA rn rc)) wa.heap.size (.slice RA rn rc) ks):=Lib.hid (HKR.out.keep (fun _ h => h) (fun g hg hl => Below.heap_setCell _ _ _ _ (by have:=HFF.out g hg;simp;omega)) (fun g hg hl => by
   obtain ⟨L,h1,_⟩:=HKR.out
   have:=(World.ownsRow.lt h1 g hg).1
   exact Below.heap_setCell _ _ _ _ (by simp;omega)))
  clear HKR HB7
  generalize w7.setCell ⟨w.heap.size,2,none⟩ (.slice RA rn rc) = wy at HP4y HP8y HVy HKy ⊢
  have x1y:=HP4y.out.cell (j:=1) (v:=.int .i64 n) rfl
  have f1y:=HP4y.out.free 1
  go_upto_region 27 with (go_at_call 12;(with_reducible refine (HAR.out _).mono ?_);rintro e w' ⟨rfl,hww⟩;rw [hww];clear hww)
  clear x1y f1y
  obtain ⟨n1,hn1⟩:∃ n1,wrap64 (n + 1) = n1:=⟨_,rfl⟩
  have hnr:i64r n1:=by rw [← hn1];unfold wrap64 i64r;omega
  rw [hn1]
  clear hn1
  have HP4w:Hid (Arr (wy.setCell ⟨w.heap.size,1,none⟩ (.int .i64 n1)) w.heap.size 3 53 [.int .i64 k,.int .i64 n1,.slice RA rn rc]):=Lib.hid (HP4y.out.set_ 1 _)
  have HP8w:Hid (Arr (wy.setCell ⟨w.heap.size,1,none⟩ (.int .i64 n1)) (w.heap.size + 1) 3 53 [.int .i64 0,.int .i64 0,.slice none 0 0]):=Lib.hid (HP8y.out.other (by omega) _)
  have HVw:Hid (Below w.heap.size w (wy.setCell ⟨w.heap.size,1,none⟩ (.int .i64 n1))):=Lib.hid (HVy.out.setCell (p:=⟨w.heap.size,1,none⟩) (Nat.le_refl _) _)
  have HKw:Hid (KRow F (wy.setCell ⟨w.heap.size,1,none⟩ (.int .i64 n1)) wa.heap.size (.slice RA rn rc) ks):=Lib.hid (HKy.out.keep (fun _ h => h) (fun g hg hl => Below.heap_setCell _ _ _ _ (by have:=HFF.out g hg;simp;omega)) (fun g hg hl => by
   obtain ⟨L,h1,_⟩:=HKy.out
   have:=(World.ownsRow.lt h1 g hg).1
   exact Below.heap_setCell _ _ _ _ (by simp;omega)))
  clear HKy HP4y HP8y HVy
  generalize wy.setCell ⟨w.heap.size,1,none⟩ (.int .i64 n1) = w10 at HP4w HP8w HVw HKw ⊢
  have HRB:=Lib.hid HP4w.out.range
  have HIV:Hid ((Tryd.prog.info? 53).map (·.size) = some ([.int .i64 k,.int .i64 n1,.slice RA rn rc]:List Value).length):=Lib.hid info_val
  have hgw:=HP8w.out.lt
  go_wp2_with (first
   | (with_reducible refine wpList_load_mid rfl _ (.tmp 4) rfl w.heap.size 0 rfl [.int .i64 k,.int .i64 n1,.slice RA rn rc] _ HRB.out Tryd.underlying53 rfl HIV.out ?_)
   | (refine wpList_store_arr rfl _ (.tmp 8) (.tmp 96) rfl (w.heap.size + 1) 0 3 53 _ [.int .i64 k,.int .i64 n1,.slice RA rn rc] [.int .i64 0,.int .i64 0,.slice none 0 0] rfl rfl rfl HP8w.out (show 0 + 3 ≤ 3 by omega) info_val (List.all_eq_true.mp (by rfl)) ?_;intro w11 f11 o11))
  rw [setAll_all [.int .i64 0,.int .i64 0,.slice none 0 0] [.int .i64 k,.int .i64 n1,.slice RA rn rc] rfl] at f11
  refine bodyPost_ret (results_one rfl _ _ (w.heap.size + 1) [.int .i64 k,.int .i64 n1,.slice RA rn rc] _ rfl f11.range Tryd.underlying53 rfl info_val) rfl ?_
  refine ⟨.node k n1 ks,k,n1,RA,rn,rc,rfl,(HKw.out.tree k n1 HM.out.2.2.1 hnr).keep (fun g hg => ?_) (fun g hg _ => o11.2 g ?_),by rw [nodes_node,nodes_node];omega,HVw.out.trans (o11.bel.mono (by omega))⟩
  ·rcases hg with hg | hg
   ·exact .inl hg
   ·exact .inr (by omega)
  ·rcases hg with hg | hg
   ·have:=HFF.out g hg;omega
   ·omega
end Go.Proofs.YtkpoiljioadfgaaDoor
