import Derived.Test.YtkpoiljioadfgaaDoorW33
import Derived.Test.YtkpoiljioadfgaaDoorW42
set_option linter.unusedVariables false
set_option linter.unusedSimpArgs false
namespace Go.Proofs.YtkpoiljioadfgaaDoor
open Go.RowKit
def vcaf1 (g5:Nat) (vk vn:Int) (VA:Option Addr) (vl vc:Nat) (sz:Int):Nat → Value → World → Prop
 | 0,v,w => v = .agg #[.int .i64 vk,.int .i64 vn,.slice VA vl vc]
 | 1,v,w => v = .int .i64 sz
 | 2,v,w => v = .bool false
 | 3,v,w => v = .bool false
 | 4,v,w => v = undef
 | 5,v,w => v = undef
 | 6,v,w => v = undef
 | 7,v,w => v = .bool false
 | 8,v,w => v = .bool false
 | 9,v,w => v = undef
 | 10,v,w => v = undef
 | 11,v,w => v = undef
 | 12,v,w => v = undef
 | 13,v,w => v = .bool false
 | _,_,_ => True
theorem vcaf1_ext (g5:Nat) (vk vn:Int) (VA:Option Addr) (vl vc:Nat) (sz:Int) (S:Nat):∀ j v w w',j < 14 → (Ext S w w' ∨ (j ≠ 999 ∧ Never w w')) → vcaf1 g5 vk vn VA vl vc sz j v w → vcaf1 g5 vk vn VA vl vc sz j v w':=by
 intro j v w w' hj he h
 match j,hj,he,h with
 | 0,_,he,h => exact h
 | 1,_,he,h => exact h
 | 2,_,he,h => exact h
 | 3,_,he,h => exact h
 | 4,_,he,h => exact h
 | 5,_,he,h => exact h
 | 6,_,he,h => exact h
 | 7,_,he,h => exact h
 | 8,_,he,h => exact h
 | 9,_,he,h => exact h
 | 10,_,he,h => exact h
 | 11,_,he,h => exact h
 | 12,_,he,h => exact h
 | 13,_,he,h => exact h
 | n + 14,hn,_,_ => exact absurd hn (by omega)
def vcaD1:List Nat:=[7,8,9,10,11,12,13,14,15,16,17,18,19,20]
def vcad1 (k:Nat):Nat:=[7,8,9,10,11,12,13,14,15,16,17,18,19,20].getD k 0
theorem vcad1_mem:∀ k,k < 14 → vcad1 k < 21 ∧ vcad1 k ∈ vcaD1:=by decide
theorem vcad1_inj:∀ i,i < 14 → ∀ k,k < 14 → k ≠ i → vcad1 i ≠ vcad1 k:=by decide
set_option maxHeartbeats 4000000 in
set_option maxRecDepth 100000 in
theorem vcareg1 {Q:Exit → Act → World → Prop} {id:Nat} {ops:Array Oper} (hops:ops = ((Tryd.f26.body).bind (opsOf 1)).getD #[]) (a0:Act) (w0:World) (g5:Nat) (vk vn:Int) (VA:Option Addr) (vl vc:Nat) (sz:Int) (hsz:a0.tmps.size = 21)
  (h5:ag a0 5 = .pointer (some ⟨g5,0,none⟩)) (hv:Arr w0 g5 3 53 [.int .i64 vk,.int .i64 vn,.slice VA vl vc]) (hsz2:∀ W,Below w0.heap.size w0 W → Calls Tryd.prog 29 #[.agg #[.int .i64 vk,.int .i64 vn,.slice VA vl vc]] W (NumRes sz W)) (hs:decide (sz ≤ 256) = false)
  (hQ:∀ (vs:Nat → Value) (w':World),vs 6 = .bool false → Below w0.heap.size w0 w' → ∀ a',a' = (vcaD1 ++ [6]).foldl (fun b s => b.put (some s) (vs s)) a0 → Q .normal a' w') :
  (Code.region id ops false).wp Tryd.prog Q a0 w0:=by
 have hg0:Below w0.heap.size w0 w0:=Below.refl _ _
 have hlt:∀ k,k < 14 → vcad1 k < a0.tmps.size:=fun k hk => by have:=(vcad1_mem k hk).1;omega
 refine wp_region_seqE 14 999 vcaD1 vcad1 (vcaf1 g5 vk vn VA vl vc sz) (fun w => Below w0.heap.size w0 w) w0.heap.size Never (by subst hops;kernel_rfl) (by subst hops;kernel_rfl) (vcaf1_ext g5 vk vn VA vl vc sz w0.heap.size) hg0 ?_ ?_
 ·intro j a w hj ho hg hd
  have hgs:=hg.size
  match j,hj,hd with
  | 0,hk,hd =>
   have s:(ops[0]?).map sig = some (some 7,.load 53 (.tmp 5),53,none):=by subst hops;kernel_rfl
   have hgd:GdOk ops a none:=trivial
   have e0:ag a 5 = .pointer (some ⟨g5,0,none⟩):=(ho.off 5 (by decide)).trans h5
   refine op_loadg s hgd g5 0 e0 [.int .i64 vk,.int .i64 vn,.slice VA vl vc] _ ((hv.later hg).range) Tryd.underlying53 rfl info_val ?_
   exact PostE.put (i:=0) ho (vcad1_mem 0 hk).2 (hlt 0 hk) (fun k hk2 hne _ => vcad1_inj 0 hk k hk2 hne) (.inl (Ext.refl _ _)) rfl hg
  | 1,hk,hd =>
   have s:(ops[1]?).map sig = some (some 8,.call { callee:=.value (.func 29),args:=#[.tmp 7],argTypes:=#[53] },3,none):=by subst hops;kernel_rfl
   have hgd:GdOk ops a none:=trivial
   have d0:=hd 0 (by decide) (by subst hops;kernel_rfl)
   have e0:ag a 7 = .agg #[.int .i64 vk,.int .i64 vn,.slice VA vl vc]:=d0
   refine op_callg s hgd (w':=w) (f:=29) (args:=#[.agg #[.int .i64 vk,.int .i64 vn,.slice VA vl vc]]) ?_ ?_
   ·simp only [execOp]
    go_simp
    simpa [ag] using e0
   ·refine ((show Calls Tryd.prog _ _ w (NumRes sz w) from hsz2 w hg)).mono ?_
    rintro e w' ⟨rfl,hb⟩
    exact ⟨_,rfl,PostE.put (i:=1) ho (vcad1_mem 1 hk).2 (hlt 1 hk) (fun k hk2 hne _ => vcad1_inj 1 hk k hk2 hne) (.inl (Ext.of hb)) rfl (later hg hb)⟩
  | 2,hk,hd =>
   have s:(ops[2]?).map sig = some (some 9,.binOp .leq 3 (.tmp 8) (.const (.int .i64 256)) 3,4,none):=by subst hops;kernel_rfl
   have hgd:GdOk ops a none:=trivial
   have d1:=hd 1 (by decide) (by subst hops;kernel_rfl)
   have e0:ag a 8 = .int .i64 sz:=d1
   refine op_valg s hgd (w':=w) (v:=.bool false) ?_ ?_
   ·simp only [execOp,eval_tmp,e0]
    go_simp
   ·exact PostE.put (i:=2) ho (vcad1_mem 2 hk).2 (hlt 2 hk) (fun k hk2 hne _ => vcad1_inj 2 hk k hk2 hne) (.inl (Ext.refl _ _)) rfl hg
  | 3,hk,hd =>
   have s:(ops[3]?).map sig = some (some 10,.move (.tmp 9),4,none):=by subst hops;kernel_rfl
   have hgd:GdOk ops a none:=trivial
   have d2:=hd 2 (by decide) (by subst hops;kernel_rfl)
   have e0:ag a 9 = .bool false:=d2
   refine op_valg s hgd (w':=w) (v:=.bool false) ?_ ?_
   ·exact congrArg (fun x => Result.ok (Next.value x) w) e0
   ·exact PostE.put (i:=3) ho (vcad1_mem 3 hk).2 (hlt 3 hk) (fun k hk2 hne _ => vcad1_inj 3 hk k hk2 hne) (.inl (Ext.refl _ _)) rfl hg
  | 4,hk,hd =>
   have s:(ops[4]?).map sig = some (some 11,.load 53 (.tmp 5),53,some (3,true)):=by subst hops;kernel_rfl
   have hy:yielded ops a.tmps 3 = some false:=yielded_of (d:=10) (by subst hops;kernel_rfl) (hd 3 (by decide) (by subst hops;kernel_rfl))
   refine opg_skip s hy (by decide) ?_
   exact PostE.put (i:=4) ho (vcad1_mem 4 hk).2 (hlt 4 hk) (fun k hk2 hne _ => vcad1_inj 4 hk k hk2 hne) (.inl (Ext.refl _ _)) rfl hg
  | 5,hk,hd =>
   have s:(ops[5]?).map sig = some (some 12,.call { callee:=.value (.func 53),args:=#[.tmp 11],argTypes:=#[53] },3,some (3,true)):=by subst hops;kernel_rfl
   have hy:yielded ops a.tmps 3 = some false:=yielded_of (d:=10) (by subst hops;kernel_rfl) (hd 3 (by decide) (by subst hops;kernel_rfl))
   refine opg_skip s hy (by decide) ?_
   exact PostE.put (i:=5) ho (vcad1_mem 5 hk).2 (hlt 5 hk) (fun k hk2 hne _ => vcad1_inj 5 hk k hk2 hne) (.inl (Ext.refl _ _)) rfl hg
  | 6,hk,hd =>
   have s:(ops[6]?).map sig = some (some 13,.binOp .leq 3 (.tmp 12) (.const (.int .i64 24)) 3,4,some (3,true)):=by subst hops;kernel_rfl
   have hy:yielded ops a.tmps 3 = some false:=yielded_of (d:=10) (by subst hops;kernel_rfl) (hd 3 (by decide) (by subst hops;kernel_rfl))
   refine opg_skip s hy (by decide) ?_
   exact PostE.put (i:=6) ho (vcad1_mem 6 hk).2 (hlt 6 hk) (fun k hk2 hne _ => vcad1_inj 6 hk k hk2 hne) (.inl (Ext.refl _ _)) rfl hg
  | 7,hk,hd =>
   have s:(ops[7]?).map sig = some (some 14,.pick (.tmp 10) (.tmp 13) (.const (.bool false)),4,none):=by subst hops;kernel_rfl
   have hgd:GdOk ops a none:=trivial
   have d3:=hd 3 (by decide) (by subst hops;kernel_rfl)
   have d6:=hd 6 (by decide) (by subst hops;kernel_rfl)
   have e0:ag a 10 = .bool false:=d3
   have e1:ag a 13 = undef:=d6
   refine op_valg s hgd (w':=w) (v:=.bool false) ?_ ?_
   ·simp only [execOp,eval_tmp,e0,e1]
    go_simp
   ·exact PostE.put (i:=7) ho (vcad1_mem 7 hk).2 (hlt 7 hk) (fun k hk2 hne _ => vcad1_inj 7 hk k hk2 hne) (.inl (Ext.refl _ _)) rfl hg
  | 8,hk,hd =>
   have s:(ops[8]?).map sig = some (some 15,.move (.tmp 14),4,none):=by subst hops;kernel_rfl
   have hgd:GdOk ops a none:=trivial
   have d7:=hd 7 (by decide) (by subst hops;kernel_rfl)
   have e0:ag a 14 = .bool false:=d7
   refine op_valg s hgd (w':=w) (v:=.bool false) ?_ ?_
   ·exact congrArg (fun x => Result.ok (Next.value x) w) e0
   ·exact PostE.put (i:=8) ho (vcad1_mem 8 hk).2 (hlt 8 hk) (fun k hk2 hne _ => vcad1_inj 8 hk k hk2 hne) (.inl (Ext.refl _ _)) rfl hg
  | 9,hk,hd =>
   have s:(ops[9]?).map sig = some (some 16,.load 26 (.tmp 3),26,some (8,true)):=by subst hops;kernel_rfl
   have hy:yielded ops a.tmps 8 = some false:=yielded_of (d:=15) (by subst hops;kernel_rfl) (hd 8 (by decide) (by subst hops;kernel_rfl))
   refine opg_skip s hy (by decide) ?_
   exact PostE.put (i:=9) ho (vcad1_mem 9 hk).2 (hlt 9 hk) (fun k hk2 hne _ => vcad1_inj 9 hk k hk2 hne) (.inl (Ext.refl _ _)) rfl hg
  | 10,hk,hd =>
   have s:(ops[10]?).map sig = some (some 17,.load 31 (.tmp 4),31,some (8,true)):=by subst hops;kernel_rfl
   have hy:yielded ops a.tmps 8 = some false:=yielded_of (d:=15) (by subst hops;kernel_rfl) (hd 8 (by decide) (by subst hops;kernel_rfl))
   refine opg_skip s hy (by decide) ?_
   exact PostE.put (i:=10) ho (vcad1_mem 10 hk).2 (hlt 10 hk) (fun k hk2 hne _ => vcad1_inj 10 hk k hk2 hne) (.inl (Ext.refl _ _)) rfl hg
  | 11,hk,hd =>
   have s:(ops[11]?).map sig = some (some 18,.load 53 (.tmp 5),53,some (8,true)):=by subst hops;kernel_rfl
   have hy:yielded ops a.tmps 8 = some false:=yielded_of (d:=15) (by subst hops;kernel_rfl) (hd 8 (by decide) (by subst hops;kernel_rfl))
   refine opg_skip s hy (by decide) ?_
   exact PostE.put (i:=11) ho (vcad1_mem 11 hk).2 (hlt 11 hk) (fun k hk2 hne _ => vcad1_inj 11 hk k hk2 hne) (.inl (Ext.refl _ _)) rfl hg
  | 12,hk,hd =>
   have s:(ops[12]?).map sig = some (some 19,.call { callee:=.value (.func 59),args:=#[.tmp 16,.tmp 17,.tmp 18],argTypes:=#[26,31,53] },4,some (8,true)):=by subst hops;kernel_rfl
   have hy:yielded ops a.tmps 8 = some false:=yielded_of (d:=15) (by subst hops;kernel_rfl) (hd 8 (by decide) (by subst hops;kernel_rfl))
   refine opg_skip s hy (by decide) ?_
   exact PostE.put (i:=12) ho (vcad1_mem 12 hk).2 (hlt 12 hk) (fun k hk2 hne _ => vcad1_inj 12 hk k hk2 hne) (.inl (Ext.refl _ _)) rfl hg
  | 13,hk,hd =>
   have s:(ops[13]?).map sig = some (some 20,.pick (.tmp 15) (.tmp 19) (.const (.bool false)),4,none):=by subst hops;kernel_rfl
   have hgd:GdOk ops a none:=trivial
   have d8:=hd 8 (by decide) (by subst hops;kernel_rfl)
   have d12:=hd 12 (by decide) (by subst hops;kernel_rfl)
   have e0:ag a 15 = .bool false:=d8
   have e1:ag a 19 = undef:=d12
   refine op_valg s hgd (w':=w) (v:=.bool false) ?_ ?_
   ·simp only [execOp,eval_tmp,e0,e1]
    go_simp
   ·exact PostE.put (i:=13) ho (vcad1_mem 13 hk).2 (hlt 13 hk) (fun k hk2 hne _ => vcad1_inj 13 hk k hk2 hne) (.inl (Ext.refl _ _)) rfl hg
  | n + 14,hn,_ => exact absurd hn (by omega)
 ·intro a w ho hg hf
  have s:(ops[14]?).map sig = some (some 6,.assign (.tmp 20),4,none):=by subst hops;kernel_rfl
  have hgd:GdOk ops a none:=trivial
  have d13:=hf 13 (by decide)
  have e0:ag a 20 = .bool false:=d13
  refine op_valg s hgd (w':=w) (v:=.bool false) ?_ ?_
  ·exact congrArg (fun x => Result.ok (Next.value x) w) e0
  ·have ho2:Off (vcaD1 ++ [6]) a0 (a.put (some 6) (.bool false)):=(ho.mono (fun s hs => List.mem_append_left _ hs)).put (by decide)
   exact hQ (ag (a.put (some 6) (.bool false))) w (ag_put (by rw [ho.size,hsz];decide)) hg _ (ho2.eq (fun s hs => by rw [hsz];revert s;decide))
def vcbf1 (g5:Nat) (vk vn:Int) (VA:Option Addr) (vl vc:Nat) (sz:Int) (dp:Int):Nat → Value → World → Prop
 | 0,v,w => v = .agg #[.int .i64 vk,.int .i64 vn,.slice VA vl vc]
 | 1,v,w => v = .int .i64 sz
 | 2,v,w => v = .bool true
 | 3,v,w => v = .bool true
 | 4,v,w => v = .agg #[.int .i64 vk,.int .i64 vn,.slice VA vl vc]
 | 5,v,w => v = .int .i64 dp
 | 6,v,w => v = .bool false
 | 7,v,w => v = .bool false
 | 8,v,w => v = .bool false
 | 9,v,w => v = undef
 | 10,v,w => v = undef
 | 11,v,w => v = undef
 | 12,v,w => v = undef
 | 13,v,w => v = .bool false
 | _,_,_ => True
theorem vcbf1_ext (g5:Nat) (vk vn:Int) (VA:Option Addr) (vl vc:Nat) (sz:Int) (dp:Int) (S:Nat):∀ j v w w',j < 14 → (Ext S w w' ∨ (j ≠ 999 ∧ Never w w')) → vcbf1 g5 vk vn VA vl vc sz dp j v w → vcbf1 g5 vk vn VA vl vc sz dp j v w':=by
 intro j v w w' hj he h
 match j,hj,he,h with
 | 0,_,he,h => exact h
 | 1,_,he,h => exact h
 | 2,_,he,h => exact h
 | 3,_,he,h => exact h
 | 4,_,he,h => exact h
 | 5,_,he,h => exact h
 | 6,_,he,h => exact h
 | 7,_,he,h => exact h
 | 8,_,he,h => exact h
 | 9,_,he,h => exact h
 | 10,_,he,h => exact h
 | 11,_,he,h => exact h
 | 12,_,he,h => exact h
 | 13,_,he,h => exact h
 | n + 14,hn,_,_ => exact absurd hn (by omega)
def vcbD1:List Nat:=[7,8,9,10,11,12,13,14,15,16,17,18,19,20]
def vcbd1 (k:Nat):Nat:=[7,8,9,10,11,12,13,14,15,16,17,18,19,20].getD k 0
theorem vcbd1_mem:∀ k,k < 14 → vcbd1 k < 21 ∧ vcbd1 k ∈ vcbD1:=by decide
theorem vcbd1_inj:∀ i,i < 14 → ∀ k,k < 14 → k ≠ i → vcbd1 i ≠ vcbd1 k:=by decide
set_option maxHeartbeats 4000000 in
set_option maxRecDepth 100000 in
theorem vcbreg1 {Q:Exit → Act → World → Prop} {id:Nat} {ops:Array Oper} (hops:ops = ((Tryd.f26.body).bind (opsOf 1)).getD #[]) (a0:Act) (w0:World) (g5:Nat) (vk vn:Int) (VA:Option Addr) (vl vc:Nat) (sz:Int) (dp:Int) (hsz:a0.tmps.size = 21)
  (h5:ag a0 5 = .pointer (some ⟨g5,0,none⟩)) (hv:Arr w0 g5 3 53 [.int .i64 vk,.int .i64 vn,.slice VA vl vc]) (hsz2:∀ W,Below w0.heap.size w0 W → Calls Tryd.prog 29 #[.agg #[.int .i64 vk,.int .i64 vn,.slice VA vl vc]] W (NumRes sz W)) (hs:decide (sz ≤ 256) = true) (hdp2:∀ W,Below w0.heap.size w0 W → Calls Tryd.prog 53 #[.agg #[.int .i64 vk,.int .i64 vn,.slice VA vl vc]] W (NumRes dp W)) (hd2:decide (dp ≤ 24) = false)
  (hQ:∀ (vs:Nat → Value) (w':World),vs 6 = .bool false → Below w0.heap.size w0 w' → ∀ a',a' = (vcbD1 ++ [6]).foldl (fun b s => b.put (some s) (vs s)) a0 → Q .normal a' w') :
  (Code.region id ops false).wp Tryd.prog Q a0 w0:=by
 have hg0:Below w0.heap.size w0 w0:=Below.refl _ _
 have hlt:∀ k,k < 14 → vcbd1 k < a0.tmps.size:=fun k hk => by have:=(vcbd1_mem k hk).1;omega
 refine wp_region_seqE 14 999 vcbD1 vcbd1 (vcbf1 g5 vk vn VA vl vc sz dp) (fun w => Below w0.heap.size w0 w) w0.heap.size Never (by subst hops;kernel_rfl) (by subst hops;kernel_rfl) (vcbf1_ext g5 vk vn VA vl vc sz dp w0.heap.size) hg0 ?_ ?_
 ·intro j a w hj ho hg hd
  have hgs:=hg.size
  match j,hj,hd with
  | 0,hk,hd =>
   have s:(ops[0]?).map sig = some (some 7,.load 53 (.tmp 5),53,none):=by subst hops;kernel_rfl
   have hgd:GdOk ops a none:=trivial
   have e0:ag a 5 = .pointer (some ⟨g5,0,none⟩):=(ho.off 5 (by decide)).trans h5
   refine op_loadg s hgd g5 0 e0 [.int .i64 vk,.int .i64 vn,.slice VA vl vc] _ ((hv.later hg).range) Tryd.underlying53 rfl info_val ?_
   exact PostE.put (i:=0) ho (vcbd1_mem 0 hk).2 (hlt 0 hk) (fun k hk2 hne _ => vcbd1_inj 0 hk k hk2 hne) (.inl (Ext.refl _ _)) rfl hg
  | 1,hk,hd =>
   have s:(ops[1]?).map sig = some (some 8,.call { callee:=.value (.func 29),args:=#[.tmp 7],argTypes:=#[53] },3,none):=by subst hops;kernel_rfl
   have hgd:GdOk ops a none:=trivial
   have d0:=hd 0 (by decide) (by subst hops;kernel_rfl)
   have e0:ag a 7 = .agg #[.int .i64 vk,.int .i64 vn,.slice VA vl vc]:=d0
   refine op_callg s hgd (w':=w) (f:=29) (args:=#[.agg #[.int .i64 vk,.int .i64 vn,.slice VA vl vc]]) ?_ ?_
   ·simp only [execOp]
    go_simp
    simpa [ag] using e0
   ·refine ((show Calls Tryd.prog _ _ w (NumRes sz w) from hsz2 w hg)).mono ?_
    rintro e w' ⟨rfl,hb⟩
    exact ⟨_,rfl,PostE.put (i:=1) ho (vcbd1_mem 1 hk).2 (hlt 1 hk) (fun k hk2 hne _ => vcbd1_inj 1 hk k hk2 hne) (.inl (Ext.of hb)) rfl (later hg hb)⟩
  | 2,hk,hd =>
   have s:(ops[2]?).map sig = some (some 9,.binOp .leq 3 (.tmp 8) (.const (.int .i64 256)) 3,4,none):=by subst hops;kernel_rfl
   have hgd:GdOk ops a none:=trivial
   have d1:=hd 1 (by decide) (by subst hops;kernel_rfl)
   have e0:ag a 8 = .int .i64 sz:=d1
   refine op_valg s hgd (w':=w) (v:=.bool true) ?_ ?_
   ·simp only [execOp,eval_tmp,e0]
    go_simp
   ·exact PostE.put (i:=2) ho (vcbd1_mem 2 hk).2 (hlt 2 hk) (fun k hk2 hne _ => vcbd1_inj 2 hk k hk2 hne) (.inl (Ext.refl _ _)) rfl hg
  | 3,hk,hd =>
   have s:(ops[3]?).map sig = some (some 10,.move (.tmp 9),4,none):=by subst hops;kernel_rfl
   have hgd:GdOk ops a none:=trivial
   have d2:=hd 2 (by decide) (by subst hops;kernel_rfl)
   have e0:ag a 9 = .bool true:=d2
   refine op_valg s hgd (w':=w) (v:=.bool true) ?_ ?_
   ·exact congrArg (fun x => Result.ok (Next.value x) w) e0
   ·exact PostE.put (i:=3) ho (vcbd1_mem 3 hk).2 (hlt 3 hk) (fun k hk2 hne _ => vcbd1_inj 3 hk k hk2 hne) (.inl (Ext.refl _ _)) rfl hg
  | 4,hk,hd =>
   have s:(ops[4]?).map sig = some (some 11,.load 53 (.tmp 5),53,some (3,true)):=by subst hops;kernel_rfl
   have hgd:GdOk ops a (some (3,true)):=yielded_of (d:=10) (by subst hops;kernel_rfl) (hd 3 (by decide) (by subst hops;kernel_rfl))
   have e0:ag a 5 = .pointer (some ⟨g5,0,none⟩):=(ho.off 5 (by decide)).trans h5
   refine op_loadg s hgd g5 0 e0 [.int .i64 vk,.int .i64 vn,.slice VA vl vc] _ ((hv.later hg).range) Tryd.underlying53 rfl info_val ?_
   exact PostE.put (i:=4) ho (vcbd1_mem 4 hk).2 (hlt 4 hk) (fun k hk2 hne _ => vcbd1_inj 4 hk k hk2 hne) (.inl (Ext.refl _ _)) rfl hg
  | 5,hk,hd =>
   have s:(ops[5]?).map sig = some (some 12,.call { callee:=.value (.func 53),args:=#[.tmp 11],argTypes:=#[53] },3,some (3,true)):=by subst hops;kernel_rfl
   have hgd:GdOk ops a (some (3,true)):=yielded_of (d:=10) (by subst hops;kernel_rfl) (hd 3 (by decide) (by subst hops;kernel_rfl))
   have d4:=hd 4 (by decide) (by subst hops;kernel_rfl)
   have e0:ag a 11 = .agg #[.int .i64 vk,.int .i64 vn,.slice VA vl vc]:=d4
   refine op_callg s hgd (w':=w) (f:=53) (args:=#[.agg #[.int .i64 vk,.int .i64 vn,.slice VA vl vc]]) ?_ ?_
   ·simp only [execOp]
    go_simp
    simpa [ag] using e0
   ·refine ((show Calls Tryd.prog _ _ w (NumRes dp w) from hdp2 w hg)).mono ?_
    rintro e w' ⟨rfl,hb⟩
    exact ⟨_,rfl,PostE.put (i:=5) ho (vcbd1_mem 5 hk).2 (hlt 5 hk) (fun k hk2 hne _ => vcbd1_inj 5 hk k hk2 hne) (.inl (Ext.of hb)) rfl (later hg hb)⟩
  | 6,hk,hd =>
   have s:(ops[6]?).map sig = some (some 13,.binOp .leq 3 (.tmp 12) (.const (.int .i64 24)) 3,4,some (3,true)):=by subst hops;kernel_rfl
   have hgd:GdOk ops a (some (3,true)):=yielded_of (d:=10) (by subst hops;kernel_rfl) (hd 3 (by decide) (by subst hops;kernel_rfl))
   have d5:=hd 5 (by decide) (by subst hops;kernel_rfl)
   have e0:ag a 12 = .int .i64 dp:=d5
   refine op_valg s hgd (w':=w) (v:=.bool false) ?_ ?_
   ·simp only [execOp,eval_tmp,e0]
    go_simp
   ·exact PostE.put (i:=6) ho (vcbd1_mem 6 hk).2 (hlt 6 hk) (fun k hk2 hne _ => vcbd1_inj 6 hk k hk2 hne) (.inl (Ext.refl _ _)) rfl hg
  | 7,hk,hd =>
   have s:(ops[7]?).map sig = some (some 14,.pick (.tmp 10) (.tmp 13) (.const (.bool false)),4,none):=by subst hops;kernel_rfl
   have hgd:GdOk ops a none:=trivial
   have d3:=hd 3 (by decide) (by subst hops;kernel_rfl)
   have d6:=hd 6 (by decide) (by subst hops;kernel_rfl)
   have e0:ag a 10 = .bool true:=d3
   have e1:ag a 13 = .bool false:=d6
   refine op_valg s hgd (w':=w) (v:=.bool false) ?_ ?_
   ·simp only [execOp,eval_tmp,e0,e1]
    go_simp
   ·exact PostE.put (i:=7) ho (vcbd1_mem 7 hk).2 (hlt 7 hk) (fun k hk2 hne _ => vcbd1_inj 7 hk k hk2 hne) (.inl (Ext.refl _ _)) rfl hg
  | 8,hk,hd =>
   have s:(ops[8]?).map sig = some (some 15,.move (.tmp 14),4,none):=by subst hops;kernel_rfl
   have hgd:GdOk ops a none:=trivial
   have d7:=hd 7 (by decide) (by subst hops;kernel_rfl)
   have e0:ag a 14 = .bool false:=d7
   refine op_valg s hgd (w':=w) (v:=.bool false) ?_ ?_
   ·exact congrArg (fun x => Result.ok (Next.value x) w) e0
   ·exact PostE.put (i:=8) ho (vcbd1_mem 8 hk).2 (hlt 8 hk) (fun k hk2 hne _ => vcbd1_inj 8 hk k hk2 hne) (.inl (Ext.refl _ _)) rfl hg
  | 9,hk,hd =>
   have s:(ops[9]?).map sig = some (some 16,.load 26 (.tmp 3),26,some (8,true)):=by subst hops;kernel_rfl
   have hy:yielded ops a.tmps 8 = some false:=yielded_of (d:=15) (by subst hops;kernel_rfl) (hd 8 (by decide) (by subst hops;kernel_rfl))
   refine opg_skip s hy (by decide) ?_
   exact PostE.put (i:=9) ho (vcbd1_mem 9 hk).2 (hlt 9 hk) (fun k hk2 hne _ => vcbd1_inj 9 hk k hk2 hne) (.inl (Ext.refl _ _)) rfl hg
  | 10,hk,hd =>
   have s:(ops[10]?).map sig = some (some 17,.load 31 (.tmp 4),31,some (8,true)):=by subst hops;kernel_rfl
   have hy:yielded ops a.tmps 8 = some false:=yielded_of (d:=15) (by subst hops;kernel_rfl) (hd 8 (by decide) (by subst hops;kernel_rfl))
   refine opg_skip s hy (by decide) ?_
   exact PostE.put (i:=10) ho (vcbd1_mem 10 hk).2 (hlt 10 hk) (fun k hk2 hne _ => vcbd1_inj 10 hk k hk2 hne) (.inl (Ext.refl _ _)) rfl hg
  | 11,hk,hd =>
   have s:(ops[11]?).map sig = some (some 18,.load 53 (.tmp 5),53,some (8,true)):=by subst hops;kernel_rfl
   have hy:yielded ops a.tmps 8 = some false:=yielded_of (d:=15) (by subst hops;kernel_rfl) (hd 8 (by decide) (by subst hops;kernel_rfl))
   refine opg_skip s hy (by decide) ?_
   exact PostE.put (i:=11) ho (vcbd1_mem 11 hk).2 (hlt 11 hk) (fun k hk2 hne _ => vcbd1_inj 11 hk k hk2 hne) (.inl (Ext.refl _ _)) rfl hg
  | 12,hk,hd =>
   have s:(ops[12]?).map sig = some (some 19,.call { callee:=.value (.func 59),args:=#[.tmp 16,.tmp 17,.tmp 18],argTypes:=#[26,31,53] },4,some (8,true)):=by subst hops;kernel_rfl
   have hy:yielded ops a.tmps 8 = some false:=yielded_of (d:=15) (by subst hops;kernel_rfl) (hd 8 (by decide) (by subst hops;kernel_rfl))
   refine opg_skip s hy (by decide) ?_
   exact PostE.put (i:=12) ho (vcbd1_mem 12 hk).2 (hlt 12 hk) (fun k hk2 hne _ => vcbd1_inj 12 hk k hk2 hne) (.inl (Ext.refl _ _)) rfl hg
  | 13,hk,hd =>
   have s:(ops[13]?).map sig = some (some 20,.pick (.tmp 15) (.tmp 19) (.const (.bool false)),4,none):=by subst hops;kernel_rfl
   have hgd:GdOk ops a none:=trivial
   have d8:=hd 8 (by decide) (by subst hops;kernel_rfl)
   have d12:=hd 12 (by decide) (by subst hops;kernel_rfl)
   have e0:ag a 15 = .bool false:=d8
   have e1:ag a 19 = undef:=d12
   refine op_valg s hgd (w':=w) (v:=.bool false) ?_ ?_
   ·simp only [execOp,eval_tmp,e0,e1]
    go_simp
   ·exact PostE.put (i:=13) ho (vcbd1_mem 13 hk).2 (hlt 13 hk) (fun k hk2 hne _ => vcbd1_inj 13 hk k hk2 hne) (.inl (Ext.refl _ _)) rfl hg
  | n + 14,hn,_ => exact absurd hn (by omega)
 ·intro a w ho hg hf
  have s:(ops[14]?).map sig = some (some 6,.assign (.tmp 20),4,none):=by subst hops;kernel_rfl
  have hgd:GdOk ops a none:=trivial
  have d13:=hf 13 (by decide)
  have e0:ag a 20 = .bool false:=d13
  refine op_valg s hgd (w':=w) (v:=.bool false) ?_ ?_
  ·exact congrArg (fun x => Result.ok (Next.value x) w) e0
  ·have ho2:Off (vcbD1 ++ [6]) a0 (a.put (some 6) (.bool false)):=(ho.mono (fun s hs => List.mem_append_left _ hs)).put (by decide)
   exact hQ (ag (a.put (some 6) (.bool false))) w (ag_put (by rw [ho.size,hsz];decide)) hg _ (ho2.eq (fun s hs => by rw [hsz];revert s;decide))
def vccf1 (g5:Nat) (vk vn:Int) (VA:Option Addr) (vl vc:Nat) (sz:Int) (dp:Int) (g3 g4:Nat) (mv:Value) (pA TA:Option Addr) (pl pc tl tc:Nat) (tk ts tq ti:Int) (b:Bool):Nat → Value → World → Prop
 | 0,v,w => v = .agg #[.int .i64 vk,.int .i64 vn,.slice VA vl vc]
 | 1,v,w => v = .int .i64 sz
 | 2,v,w => v = .bool true
 | 3,v,w => v = .bool true
 | 4,v,w => v = .agg #[.int .i64 vk,.int .i64 vn,.slice VA vl vc]
 | 5,v,w => v = .int .i64 dp
 | 6,v,w => v = .bool true
 | 7,v,w => v = .bool true
 | 8,v,w => v = .bool true
 | 9,v,w => v = .agg #[mv,.slice pA pl pc]
 | 10,v,w => v = .agg #[.int .i64 tk,.int .i64 ts,.int .i64 tq,.int .i64 ti,.slice TA tl tc]
 | 11,v,w => v = .agg #[.int .i64 vk,.int .i64 vn,.slice VA vl vc]
 | 12,v,w => v = .bool b
 | 13,v,w => v = .bool b
 | _,_,_ => True
theorem vccf1_ext (g5:Nat) (vk vn:Int) (VA:Option Addr) (vl vc:Nat) (sz:Int) (dp:Int) (g3 g4:Nat) (mv:Value) (pA TA:Option Addr) (pl pc tl tc:Nat) (tk ts tq ti:Int) (b:Bool) (S:Nat):∀ j v w w',j < 14 → (Ext S w w' ∨ (j ≠ 999 ∧ Never w w')) → vccf1 g5 vk vn VA vl vc sz dp g3 g4 mv pA TA pl pc tl tc tk ts tq ti b j v w → vccf1 g5 vk vn VA vl vc sz dp g3 g4 mv pA TA pl pc tl tc tk ts tq ti b j v w':=by
 intro j v w w' hj he h
 match j,hj,he,h with
 | 0,_,he,h => exact h
 | 1,_,he,h => exact h
 | 2,_,he,h => exact h
 | 3,_,he,h => exact h
 | 4,_,he,h => exact h
 | 5,_,he,h => exact h
 | 6,_,he,h => exact h
 | 7,_,he,h => exact h
 | 8,_,he,h => exact h
 | 9,_,he,h => exact h
 | 10,_,he,h => exact h
 | 11,_,he,h => exact h
 | 12,_,he,h => exact h
 | 13,_,he,h => exact h
 | n + 14,hn,_,_ => exact absurd hn (by omega)
def vccD1:List Nat:=[7,8,9,10,11,12,13,14,15,16,17,18,19,20]
def vccd1 (k:Nat):Nat:=[7,8,9,10,11,12,13,14,15,16,17,18,19,20].getD k 0
theorem vccd1_mem:∀ k,k < 14 → vccd1 k < 21 ∧ vccd1 k ∈ vccD1:=by decide
theorem vccd1_inj:∀ i,i < 14 → ∀ k,k < 14 → k ≠ i → vccd1 i ≠ vccd1 k:=by decide
set_option maxHeartbeats 4000000 in
set_option maxRecDepth 100000 in
theorem vccreg1 {Q:Exit → Act → World → Prop} {id:Nat} {ops:Array Oper} (hops:ops = ((Tryd.f26.body).bind (opsOf 1)).getD #[]) (a0:Act) (w0:World) (g5:Nat) (vk vn:Int) (VA:Option Addr) (vl vc:Nat) (sz:Int) (dp:Int) (g3 g4:Nat) (mv:Value) (pA TA:Option Addr) (pl pc tl tc:Nat) (tk ts tq ti:Int) (b:Bool) (hsz:a0.tmps.size = 21)
  (h5:ag a0 5 = .pointer (some ⟨g5,0,none⟩)) (h3:ag a0 3 = .pointer (some ⟨g3,0,none⟩)) (h4:ag a0 4 = .pointer (some ⟨g4,0,none⟩)) (hv:Arr w0 g5 3 53 [.int .i64 vk,.int .i64 vn,.slice VA vl vc]) (hsz2:∀ W,Below w0.heap.size w0 W → Calls Tryd.prog 29 #[.agg #[.int .i64 vk,.int .i64 vn,.slice VA vl vc]] W (NumRes sz W)) (hs:decide (sz ≤ 256) = true) (hdp2:∀ W,Below w0.heap.size w0 W → Calls Tryd.prog 53 #[.agg #[.int .i64 vk,.int .i64 vn,.slice VA vl vc]] W (NumRes dp W)) (hd2:decide (dp ≤ 24) = true) (hp:Arr w0 g3 2 26 [mv,.slice pA pl pc]) (ht:Arr w0 g4 5 31 [.int .i64 tk,.int .i64 ts,.int .i64 tq,.int .i64 ti,.slice TA tl tc]) (hft:∀ W,Below w0.heap.size w0 W → Calls Tryd.prog 59 #[.agg #[mv,.slice pA pl pc],.agg #[.int .i64 tk,.int .i64 ts,.int .i64 tq,.int .i64 ti,.slice TA tl tc],.agg #[.int .i64 vk,.int .i64 vn,.slice VA vl vc]] W (BRes b W))
  (hQ:∀ (vs:Nat → Value) (w':World),vs 6 = .bool b → Below w0.heap.size w0 w' → ∀ a',a' = (vccD1 ++ [6]).foldl (fun b s => b.put (some s) (vs s)) a0 → Q .normal a' w') :
  (Code.region id ops false).wp Tryd.prog Q a0 w0:=by
 have hg0:Below w0.heap.size w0 w0:=Below.refl _ _
 have hlt:∀ k,k < 14 → vccd1 k < a0.tmps.size:=fun k hk => by have:=(vccd1_mem k hk).1;omega
 refine wp_region_seqE 14 999 vccD1 vccd1 (vccf1 g5 vk vn VA vl vc sz dp g3 g4 mv pA TA pl pc tl tc tk ts tq ti b) (fun w => Below w0.heap.size w0 w) w0.heap.size Never (by subst hops;kernel_rfl) (by subst hops;kernel_rfl) (vccf1_ext g5 vk vn VA vl vc sz dp g3 g4 mv pA TA pl pc tl tc tk ts tq ti b w0.heap.size) hg0 ?_ ?_
 ·intro j a w hj ho hg hd
  have hgs:=hg.size
  match j,hj,hd with
  | 0,hk,hd =>
   have s:(ops[0]?).map sig = some (some 7,.load 53 (.tmp 5),53,none):=by subst hops;kernel_rfl
   have hgd:GdOk ops a none:=trivial
   have e0:ag a 5 = .pointer (some ⟨g5,0,none⟩):=(ho.off 5 (by decide)).trans h5
   refine op_loadg s hgd g5 0 e0 [.int .i64 vk,.int .i64 vn,.slice VA vl vc] _ ((hv.later hg).range) Tryd.underlying53 rfl info_val ?_
   exact PostE.put (i:=0) ho (vccd1_mem 0 hk).2 (hlt 0 hk) (fun k hk2 hne _ => vccd1_inj 0 hk k hk2 hne) (.inl (Ext.refl _ _)) rfl hg
  | 1,hk,hd =>
   have s:(ops[1]?).map sig = some (some 8,.call { callee:=.value (.func 29),args:=#[.tmp 7],argTypes:=#[53] },3,none):=by subst hops;kernel_rfl
   have hgd:GdOk ops a none:=trivial
   have d0:=hd 0 (by decide) (by subst hops;kernel_rfl)
   have e0:ag a 7 = .agg #[.int .i64 vk,.int .i64 vn,.slice VA vl vc]:=d0
   refine op_callg s hgd (w':=w) (f:=29) (args:=#[.agg #[.int .i64 vk,.int .i64 vn,.slice VA vl vc]]) ?_ ?_
   ·simp only [execOp]
    go_simp
    simpa [ag] using e0
   ·refine ((show Calls Tryd.prog _ _ w (NumRes sz w) from hsz2 w hg)).mono ?_
    rintro e w' ⟨rfl,hb⟩
    exact ⟨_,rfl,PostE.put (i:=1) ho (vccd1_mem 1 hk).2 (hlt 1 hk) (fun k hk2 hne _ => vccd1_inj 1 hk k hk2 hne) (.inl (Ext.of hb)) rfl (later hg hb)⟩
  | 2,hk,hd =>
   have s:(ops[2]?).map sig = some (some 9,.binOp .leq 3 (.tmp 8) (.const (.int .i64 256)) 3,4,none):=by subst hops;kernel_rfl
   have hgd:GdOk ops a none:=trivial
   have d1:=hd 1 (by decide) (by subst hops;kernel_rfl)
   have e0:ag a 8 = .int .i64 sz:=d1
   refine op_valg s hgd (w':=w) (v:=.bool true) ?_ ?_
   ·simp only [execOp,eval_tmp,e0]
    go_simp
   ·exact PostE.put (i:=2) ho (vccd1_mem 2 hk).2 (hlt 2 hk) (fun k hk2 hne _ => vccd1_inj 2 hk k hk2 hne) (.inl (Ext.refl _ _)) rfl hg
  | 3,hk,hd =>
   have s:(ops[3]?).map sig = some (some 10,.move (.tmp 9),4,none):=by subst hops;kernel_rfl
   have hgd:GdOk ops a none:=trivial
   have d2:=hd 2 (by decide) (by subst hops;kernel_rfl)
   have e0:ag a 9 = .bool true:=d2
   refine op_valg s hgd (w':=w) (v:=.bool true) ?_ ?_
   ·exact congrArg (fun x => Result.ok (Next.value x) w) e0
   ·exact PostE.put (i:=3) ho (vccd1_mem 3 hk).2 (hlt 3 hk) (fun k hk2 hne _ => vccd1_inj 3 hk k hk2 hne) (.inl (Ext.refl _ _)) rfl hg
  | 4,hk,hd =>
   have s:(ops[4]?).map sig = some (some 11,.load 53 (.tmp 5),53,some (3,true)):=by subst hops;kernel_rfl
   have hgd:GdOk ops a (some (3,true)):=yielded_of (d:=10) (by subst hops;kernel_rfl) (hd 3 (by decide) (by subst hops;kernel_rfl))
   have e0:ag a 5 = .pointer (some ⟨g5,0,none⟩):=(ho.off 5 (by decide)).trans h5
   refine op_loadg s hgd g5 0 e0 [.int .i64 vk,.int .i64 vn,.slice VA vl vc] _ ((hv.later hg).range) Tryd.underlying53 rfl info_val ?_
   exact PostE.put (i:=4) ho (vccd1_mem 4 hk).2 (hlt 4 hk) (fun k hk2 hne _ => vccd1_inj 4 hk k hk2 hne) (.inl (Ext.refl _ _)) rfl hg
  | 5,hk,hd =>
   have s:(ops[5]?).map sig = some (some 12,.call { callee:=.value (.func 53),args:=#[.tmp 11],argTypes:=#[53] },3,some (3,true)):=by subst hops;kernel_rfl
   have hgd:GdOk ops a (some (3,true)):=yielded_of (d:=10) (by subst hops;kernel_rfl) (hd 3 (by decide) (by subst hops;kernel_rfl))
   have d4:=hd 4 (by decide) (by subst hops;kernel_rfl)
   have e0:ag a 11 = .agg #[.int .i64 vk,.int .i64 vn,.slice VA vl vc]:=d4
   refine op_callg s hgd (w':=w) (f:=53) (args:=#[.agg #[.int .i64 vk,.int .i64 vn,.slice VA vl vc]]) ?_ ?_
   ·simp only [execOp]
    go_simp
    simpa [ag] using e0
   ·refine ((show Calls Tryd.prog _ _ w (NumRes dp w) from hdp2 w hg)).mono ?_
    rintro e w' ⟨rfl,hb⟩
    exact ⟨_,rfl,PostE.put (i:=5) ho (vccd1_mem 5 hk).2 (hlt 5 hk) (fun k hk2 hne _ => vccd1_inj 5 hk k hk2 hne) (.inl (Ext.of hb)) rfl (later hg hb)⟩
  | 6,hk,hd =>
   have s:(ops[6]?).map sig = some (some 13,.binOp .leq 3 (.tmp 12) (.const (.int .i64 24)) 3,4,some (3,true)):=by subst hops;kernel_rfl
   have hgd:GdOk ops a (some (3,true)):=yielded_of (d:=10) (by subst hops;kernel_rfl) (hd 3 (by decide) (by subst hops;kernel_rfl))
   have d5:=hd 5 (by decide) (by subst hops;kernel_rfl)
   have e0:ag a 12 = .int .i64 dp:=d5
   refine op_valg s hgd (w':=w) (v:=.bool true) ?_ ?_
   ·simp only [execOp,eval_tmp,e0]
    go_simp
   ·exact PostE.put (i:=6) ho (vccd1_mem 6 hk).2 (hlt 6 hk) (fun k hk2 hne _ => vccd1_inj 6 hk k hk2 hne) (.inl (Ext.refl _ _)) rfl hg
  | 7,hk,hd =>
   have s:(ops[7]?).map sig = some (some 14,.pick (.tmp 10) (.tmp 13) (.const (.bool false)),4,none):=by subst hops;kernel_rfl
   have hgd:GdOk ops a none:=trivial
   have d3:=hd 3 (by decide) (by subst hops;kernel_rfl)
   have d6:=hd 6 (by decide) (by subst hops;kernel_rfl)
   have e0:ag a 10 = .bool true:=d3
   have e1:ag a 13 = .bool true:=d6
   refine op_valg s hgd (w':=w) (v:=.bool true) ?_ ?_
   ·simp only [execOp,eval_tmp,e0,e1]
    go_simp
   ·exact PostE.put (i:=7) ho (vccd1_mem 7 hk).2 (hlt 7 hk) (fun k hk2 hne _ => vccd1_inj 7 hk k hk2 hne) (.inl (Ext.refl _ _)) rfl hg
  | 8,hk,hd =>
   have s:(ops[8]?).map sig = some (some 15,.move (.tmp 14),4,none):=by subst hops;kernel_rfl
   have hgd:GdOk ops a none:=trivial
   have d7:=hd 7 (by decide) (by subst hops;kernel_rfl)
   have e0:ag a 14 = .bool true:=d7
   refine op_valg s hgd (w':=w) (v:=.bool true) ?_ ?_
   ·exact congrArg (fun x => Result.ok (Next.value x) w) e0
   ·exact PostE.put (i:=8) ho (vccd1_mem 8 hk).2 (hlt 8 hk) (fun k hk2 hne _ => vccd1_inj 8 hk k hk2 hne) (.inl (Ext.refl _ _)) rfl hg
  | 9,hk,hd =>
   have s:(ops[9]?).map sig = some (some 16,.load 26 (.tmp 3),26,some (8,true)):=by subst hops;kernel_rfl
   have hgd:GdOk ops a (some (8,true)):=yielded_of (d:=15) (by subst hops;kernel_rfl) (hd 8 (by decide) (by subst hops;kernel_rfl))
   have e0:ag a 3 = .pointer (some ⟨g3,0,none⟩):=(ho.off 3 (by decide)).trans h3
   refine op_loadg s hgd g3 0 e0 [mv,.slice pA pl pc] _ ((hp.later hg).range) Tryd.underlying26 rfl info_prog ?_
   exact PostE.put (i:=9) ho (vccd1_mem 9 hk).2 (hlt 9 hk) (fun k hk2 hne _ => vccd1_inj 9 hk k hk2 hne) (.inl (Ext.refl _ _)) rfl hg
  | 10,hk,hd =>
   have s:(ops[10]?).map sig = some (some 17,.load 31 (.tmp 4),31,some (8,true)):=by subst hops;kernel_rfl
   have hgd:GdOk ops a (some (8,true)):=yielded_of (d:=15) (by subst hops;kernel_rfl) (hd 8 (by decide) (by subst hops;kernel_rfl))
   have e0:ag a 4 = .pointer (some ⟨g4,0,none⟩):=(ho.off 4 (by decide)).trans h4
   refine op_loadg s hgd g4 0 e0 [.int .i64 tk,.int .i64 ts,.int .i64 tq,.int .i64 ti,.slice TA tl tc] _ ((ht.later hg).range) Tryd.underlying31 rfl info_typesz ?_
   exact PostE.put (i:=10) ho (vccd1_mem 10 hk).2 (hlt 10 hk) (fun k hk2 hne _ => vccd1_inj 10 hk k hk2 hne) (.inl (Ext.refl _ _)) rfl hg
  | 11,hk,hd =>
   have s:(ops[11]?).map sig = some (some 18,.load 53 (.tmp 5),53,some (8,true)):=by subst hops;kernel_rfl
   have hgd:GdOk ops a (some (8,true)):=yielded_of (d:=15) (by subst hops;kernel_rfl) (hd 8 (by decide) (by subst hops;kernel_rfl))
   have e0:ag a 5 = .pointer (some ⟨g5,0,none⟩):=(ho.off 5 (by decide)).trans h5
   refine op_loadg s hgd g5 0 e0 [.int .i64 vk,.int .i64 vn,.slice VA vl vc] _ ((hv.later hg).range) Tryd.underlying53 rfl info_val ?_
   exact PostE.put (i:=11) ho (vccd1_mem 11 hk).2 (hlt 11 hk) (fun k hk2 hne _ => vccd1_inj 11 hk k hk2 hne) (.inl (Ext.refl _ _)) rfl hg
  | 12,hk,hd =>
   have s:(ops[12]?).map sig = some (some 19,.call { callee:=.value (.func 59),args:=#[.tmp 16,.tmp 17,.tmp 18],argTypes:=#[26,31,53] },4,some (8,true)):=by subst hops;kernel_rfl
   have hgd:GdOk ops a (some (8,true)):=yielded_of (d:=15) (by subst hops;kernel_rfl) (hd 8 (by decide) (by subst hops;kernel_rfl))
   have d9:=hd 9 (by decide) (by subst hops;kernel_rfl)
   have d10:=hd 10 (by decide) (by subst hops;kernel_rfl)
   have d11:=hd 11 (by decide) (by subst hops;kernel_rfl)
   have e0:ag a 16 = .agg #[mv,.slice pA pl pc]:=d9
   have e1:ag a 17 = .agg #[.int .i64 tk,.int .i64 ts,.int .i64 tq,.int .i64 ti,.slice TA tl tc]:=d10
   have e2:ag a 18 = .agg #[.int .i64 vk,.int .i64 vn,.slice VA vl vc]:=d11
   refine op_callg s hgd (w':=w) (f:=59) (args:=#[.agg #[mv,.slice pA pl pc],.agg #[.int .i64 tk,.int .i64 ts,.int .i64 tq,.int .i64 ti,.slice TA tl tc],.agg #[.int .i64 vk,.int .i64 vn,.slice VA vl vc]]) ?_ ?_
   ·simp only [execOp]
    go_simp
    refine ⟨by simpa [ag] using e0,by simpa [ag] using e1,by simpa [ag] using e2⟩
   ·refine ((show Calls Tryd.prog _ _ w (BRes b w) from hft w hg)).mono ?_
    rintro e w' ⟨rfl,hb⟩
    exact ⟨_,rfl,PostE.put (i:=12) ho (vccd1_mem 12 hk).2 (hlt 12 hk) (fun k hk2 hne _ => vccd1_inj 12 hk k hk2 hne) (.inl (Ext.of hb)) rfl (later hg hb)⟩
  | 13,hk,hd =>
   have s:(ops[13]?).map sig = some (some 20,.pick (.tmp 15) (.tmp 19) (.const (.bool false)),4,none):=by subst hops;kernel_rfl
   have hgd:GdOk ops a none:=trivial
   have d8:=hd 8 (by decide) (by subst hops;kernel_rfl)
   have d12:=hd 12 (by decide) (by subst hops;kernel_rfl)
   have e0:ag a 15 = .bool true:=d8
   have e1:ag a 19 = .bool b:=d12
   refine op_valg s hgd (w':=w) (v:=.bool b) ?_ ?_
   ·simp only [execOp,eval_tmp,e0,e1]
    go_simp
   ·exact PostE.put (i:=13) ho (vccd1_mem 13 hk).2 (hlt 13 hk) (fun k hk2 hne _ => vccd1_inj 13 hk k hk2 hne) (.inl (Ext.refl _ _)) rfl hg
  | n + 14,hn,_ => exact absurd hn (by omega)
 ·intro a w ho hg hf
  have s:(ops[14]?).map sig = some (some 6,.assign (.tmp 20),4,none):=by subst hops;kernel_rfl
  have hgd:GdOk ops a none:=trivial
  have d13:=hf 13 (by decide)
  have e0:ag a 20 = .bool b:=d13
  refine op_valg s hgd (w':=w) (v:=.bool b) ?_ ?_
  ·exact congrArg (fun x => Result.ok (Next.value x) w) e0
  ·have ho2:Off (vccD1 ++ [6]) a0 (a.put (some 6) (.bool b)):=(ho.mono (fun s hs => List.mem_append_left _ hs)).put (by decide)
   exact hQ (ag (a.put (some 6) (.bool b))) w (ag_put (by rw [ho.size,hsz];decide)) hg _ (ho2.eq (fun s hs => by rw [hsz];revert s;decide))
set_option maxHeartbeats 4000000 in
set_option maxRecDepth 100000 in
theorem rvalid_raw (P:List Df) (x:Tr) (t:Ty) (W:World) (mv:Value) (pA:Option Addr) (pl pc:Nat) (tv v:Value) (hP:PrAt W P (.agg #[mv,.slice pA pl pc])) (ht:TyAt W t tv) (hx:TrAt W x v) :
  Calls Tryd.prog 26 #[.agg #[mv,.slice pA pl pc],tv,v] W (BRes ((decide (x.sz ≤ 256) && decide (x.dp ≤ 24)) && ft P x t) W):=by
 obtain ⟨tk,ts,tq,ti,TA,tl,tc,rfl⟩:=ht.shape
 obtain ⟨vk,vn,VA,vl,vc,rfl⟩:=hx.shape
 simp only [t5] at ht ⊢
 simp only [c3] at hx ⊢
 obtain ⟨b,hb⟩:∃ b,ft P x t = b:=⟨_,rfl⟩
 obtain ⟨b0,hb0⟩:∃ b,decide (x.sz ≤ 256) = b:=⟨_,rfl⟩
 obtain ⟨b1,hb1⟩:∃ b,decide (x.dp ≤ 24) = b:=⟨_,rfl⟩
 rw [hb,hb0,hb1]
 have P3:=p2_new W mv (.slice pA pl pc)
 have V3:=new_later W (.cells #[mv,.slice pA pl pc] 26)
 generalize hW1:W.alloc (.cells #[mv,.slice pA pl pc] 26) = w1 at P3 V3
 have hz1:w1.heap.size = W.heap.size + 1:=by rw [← hW1];simp
 have P4:Arr (w1.alloc (.cells #[.int .i64 tk,.int .i64 ts,.int .i64 tq,.int .i64 ti,.slice TA tl tc] 31)) w1.heap.size 5 31 [.int .i64 tk,.int .i64 ts,.int .i64 tq,.int .i64 ti,.slice TA tl tc]:=Arr.new' w1 _ _ 5 _ rfl rfl (by decide)
 have b4:=new_later w1 (.cells #[.int .i64 tk,.int .i64 ts,.int .i64 tq,.int .i64 ti,.slice TA tl tc] 31)
 rw [hz1] at P4
 generalize hW2:w1.alloc (.cells #[.int .i64 tk,.int .i64 ts,.int .i64 tq,.int .i64 ti,.slice TA tl tc] 31) = w2 at P4 b4
 have hz2:w2.heap.size = W.heap.size + 1 + 1:=by rw [← hW2];simp [hz1]
 have P5:Arr (w2.alloc (.cells #[.int .i64 vk,.int .i64 vn,.slice VA vl vc] 53)) w2.heap.size 3 53 [.int .i64 vk,.int .i64 vn,.slice VA vl vc]:=Arr.new' w2 _ _ 3 _ rfl rfl (by decide)
 have b5:=new_later w2 (.cells #[.int .i64 vk,.int .i64 vn,.slice VA vl vc] 53)
 rw [hz2] at P5
 generalize hW3:w2.alloc (.cells #[.int .i64 vk,.int .i64 vn,.slice VA vl vc] 53) = wa at P5 b5
 have P3:=(P3.later b4).later b5
 have P4:=P4.later b5
 have V0:=later (later V3 b4) b5
 have HP3:=Lib.hid P3
 have HP4:=Lib.hid P4
 have HP5:=Lib.hid P5
 have HV0:=Lib.hid V0
 have HBB:=Lib.hid (And.intro hb0 hb1)
 have HS:Hid (∀ W',Below wa.heap.size wa W' → Calls Tryd.prog 29 #[.agg #[.int .i64 vk,.int .i64 vn,.slice VA vl vc]] W' (NumRes x.sz W')):=Lib.hid fun W' h => rsize_any x.nodes x (Nat.le_refl _) W' _ (hx.later (later V0 h))
 have HD:Hid (∀ W',Below wa.heap.size wa W' → Calls Tryd.prog 53 #[.agg #[.int .i64 vk,.int .i64 vn,.slice VA vl vc]] W' (NumRes x.dp W')):=Lib.hid fun W' h => depth_any x.nodes x (Nat.le_refl _) W' _ (hx.later (later V0 h))
 have HF:Hid (∀ W',Below wa.heap.size wa W' → Calls Tryd.prog 59 #[.agg #[mv,.slice pA pl pc],.agg #[.int .i64 tk,.int .i64 ts,.int .i64 tq,.int .i64 ti,.slice TA tl tc],.agg #[.int .i64 vk,.int .i64 vn,.slice VA vl vc]] W' (BRes b W')):=Lib.hid fun W' h => by
  have h2:=rfits_any x.nodes x (Nat.le_refl _) P t W' mv pA pl pc _ _ (hP.later (later V0 h)) (TyAt.later (later V0 h) ht) (hx.later (later V0 h))
  rwa [hb] at h2
 clear P3 P4 P5 V0 V3 b4 b5 hP ht hx hb hb0 hb1
 go_enter Tryd.func26,Tryd.ntmps26
 go_upto_region 1 with fail
 clear hW1 hW2 hW3 hz1 hz2
 cases b0
 ·refine vcareg1 (by kernel_rfl) _ _ (W.heap.size + 1 + 1) vk vn VA vl vc x.sz rfl rfl HP5.out HS.out HBB.out.1 ?_
  intro vs w9 hs hb a9 ha9
  simp only [vcaD1,List.cons_append,List.nil_append,List.foldl_cons,List.foldl_nil,Act.put,List.setIfInBounds_toArray,List.set_cons_succ,List.set_cons_zero,hs] at ha9
  subst ha9
  have HEND:=Lib.hid (later HV0.out hb)
  clear hs hb
  go_wp2_with fail
  go_ret
  exact ⟨rfl,HEND.out⟩
 ·cases b1
  ·refine vcbreg1 (by kernel_rfl) _ _ (W.heap.size + 1 + 1) vk vn VA vl vc x.sz x.dp rfl rfl HP5.out HS.out HBB.out.1 HD.out HBB.out.2 ?_
   intro vs w9 hs hb a9 ha9
   simp only [vcbD1,List.cons_append,List.nil_append,List.foldl_cons,List.foldl_nil,Act.put,List.setIfInBounds_toArray,List.set_cons_succ,List.set_cons_zero,hs] at ha9
   subst ha9
   have HEND:=Lib.hid (later HV0.out hb)
   clear hs hb
   go_wp2_with fail
   go_ret
   exact ⟨rfl,HEND.out⟩
  ·refine vccreg1 (by kernel_rfl) _ _ (W.heap.size + 1 + 1) vk vn VA vl vc x.sz x.dp W.heap.size (W.heap.size + 1) mv pA TA pl pc tl tc tk ts tq ti b rfl rfl rfl rfl HP5.out HS.out HBB.out.1 HD.out HBB.out.2 HP3.out HP4.out HF.out ?_
   intro vs w9 hs hb a9 ha9
   simp only [vccD1,List.cons_append,List.nil_append,List.foldl_cons,List.foldl_nil,Act.put,List.setIfInBounds_toArray,List.set_cons_succ,List.set_cons_zero,hs] at ha9
   subst ha9
   have HEND:=Lib.hid (later HV0.out hb)
   clear hs hb
   go_wp2_with fail
   go_ret
   exact ⟨rfl,HEND.out⟩
theorem rvalid_any (P:List Df) (x:Tr) (t:Ty) (W:World) (mv:Value) (pA:Option Addr) (pl pc:Nat) (tv v:Value) (hP:PrAt W P (.agg #[mv,.slice pA pl pc])) (ht:TyAt W t tv) (hx:TrAt W x v) (hn:x.nodes ≤ 4611686018427387904) :
  Calls Tryd.prog 26 #[.agg #[mv,.slice pA pl pc],tv,v] W (BRes (pv P x t 24 0).1 W):=by
 have h:=rvalid_raw P x t W mv pA pl pc tv v hP ht hx
 have e:((decide (x.sz ≤ 256) && decide (x.dp ≤ 24)) && ft P x t) = (pv P x t 24 0).1:=by
  have h1:=Tr.sz_eq x hn
  have h2:=Tr.dp_eq x (by omega)
  have h3:=(pv_ok P x t 24 0 (by omega)).2.2
  rw [h1,h2]
  rw [Bool.eq_iff_iff,h3]
  simp only [Bool.and_eq_true,decide_eq_true_eq]
  constructor
  ·rintro ⟨⟨a,b⟩,c⟩;exact ⟨c,by omega,by omega⟩
  ·rintro ⟨c,a,b⟩;exact ⟨⟨by omega,by omega⟩,c⟩
 rwa [e] at h
end Go.Proofs.YtkpoiljioadfgaaDoor
