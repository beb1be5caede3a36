import Derived.Test.YtkpoiljioadfgaaDoorW02
import Derived.Test.YtkpoiljioadfgaaDoorW15
import Derived.Test.YtkpoiljioadfgaaDoorW30
import Derived.Test.YtkpoiljioadfgaaDoorW39
set_option linter.unusedVariables false
set_option linter.unusedSimpArgs false
namespace Go.Proofs.YtkpoiljioadfgaaDoor
open Go.RowKit
def vff11 (g3 g4 g5 pl pc gv ov vl vc:Nat) (mv:Value) (pA:Option Addr) (vk vn:Int) (Kt Kv:List Value) (b:Bool) (gk ok kc jj:Nat) (s q i:Int):Nat → Value → World → Prop
 | 0,v,w => v = .agg #[mv,.slice pA pl pc]
 | 1,v,w => v = .pointer (some ⟨g4,4,none⟩)
 | 2,v,w => v = .slice (some ⟨gk,ok,none⟩) 1 kc
 | 3,v,w => v = .pointer (some ⟨gk,ok,none⟩)
 | 4,v,w => v = .agg Kt.toArray
 | 5,v,w => v = .pointer (some ⟨g5,2,none⟩)
 | 6,v,w => v = .slice (some ⟨gv,ov,none⟩) vl vc
 | 7,v,w => v = .int .i64 (jj:Int)
 | 8,v,w => v = .pointer (some ⟨gv,ov + jj * 3,none⟩)
 | 9,v,w => v = .agg Kv.toArray
 | 10,v,w => v = .bool b
 | _,_,_ => True
theorem vff11_ext (g3 g4 g5 pl pc gv ov vl vc:Nat) (mv:Value) (pA:Option Addr) (vk vn:Int) (Kt Kv:List Value) (b:Bool) (gk ok kc jj:Nat) (s q i:Int) (S:Nat):∀ j v w w',j < 11 → (Ext S w w' ∨ (j ≠ 999 ∧ Never w w')) → vff11 g3 g4 g5 pl pc gv ov vl vc mv pA vk vn Kt Kv b gk ok kc jj s q i j v w → vff11 g3 g4 g5 pl pc gv ov vl vc mv pA vk vn Kt Kv b gk ok kc jj s q i j v w':=by
 intro j v w w' hj he h
 match j,hj,he,h with
 | 0,_,he,h => exact h
 | 1,_,he,h => exact h
 | 2,_,he,h => exact h
 | 3,_,he,h => exact h
 | 4,_,he,h => exact h
 | 5,_,he,h => exact h
 | 6,_,he,h => exact h
 | 7,_,he,h => exact h
 | 8,_,he,h => exact h
 | 9,_,he,h => exact h
 | 10,_,he,h => exact h
 | n + 11,hn,_,_ => exact absurd hn (by omega)
def vfD11:List Nat:=[69,70,71,72,73,74,75,76,77,78,79]
def vfd11 (k:Nat):Nat:=[69,70,71,72,73,74,75,76,77,78,79].getD k 0
theorem vfd11_mem:∀ k,k < 11 → vfd11 k < 172 ∧ vfd11 k ∈ vfD11:=by decide
theorem vfd11_inj:∀ i,i < 11 → ∀ k,k < 11 → k ≠ i → vfd11 i ≠ vfd11 k:=by decide
set_option maxHeartbeats 4000000 in
set_option maxRecDepth 100000 in
theorem vfreg11 {Q:Exit → Act → World → Prop} {id:Nat} {ops:Array Oper} (hops:ops = ((Tryd.f59.body).bind (opsOf 11)).getD #[]) (a0:Act) (w0:World) (g3 g4 g5 pl pc gv ov vl vc:Nat) (mv:Value) (pA:Option Addr) (vk vn:Int) (Kt Kv:List Value) (b:Bool) (gk ok kc jj:Nat) (s q i:Int) (hsz:a0.tmps.size = 172)
  (h3:ag a0 3 = .pointer (some ⟨g3,0,none⟩)) (h4:ag a0 4 = .pointer (some ⟨g4,0,none⟩)) (h5:ag a0 5 = .pointer (some ⟨g5,0,none⟩)) (h7:ag a0 7 = .int .i64 (jj:Int)) (hp:Arr w0 g3 2 26 [mv,.slice pA pl pc]) (hv:Arr w0 g5 3 53 [.int .i64 vk,.int .i64 vn,.slice (some ⟨gv,ov,none⟩) vl vc]) (ht:Arr w0 g4 5 31 [.int .i64 2,.int .i64 s,.int .i64 q,.int .i64 i,.slice (some ⟨gk,ok,none⟩) 1 kc]) (hkt:w0.rangeAt gk ok Kt) (lkt:Kt.length = 5) (hkv:w0.rangeAt gv (ov + jj * 3) Kv) (lkv:Kv.length = 3) (hj1:(jj:Int) < (vl:Int)) (hj0:(0:Int) ≤ (jj:Int)) (hf:∀ W,Below w0.heap.size w0 W → Calls Tryd.prog 59 #[.agg #[mv,.slice pA pl pc],.agg Kt.toArray,.agg Kv.toArray] W (BRes b W))
  (hQ:∀ (vs:Nat → Value) (w':World),vs 80 = .bool (!b) → Below w0.heap.size w0 w' → ∀ a',a' = (vfD11 ++ [80]).foldl (fun b s => b.put (some s) (vs s)) a0 → Q .normal a' w') :
  (Code.region id ops true).wp Tryd.prog Q a0 w0:=by
 have hg0:Below w0.heap.size w0 w0.drew:=below_drewN (Below.refl _ _) 1
 have hlt:∀ k,k < 11 → vfd11 k < a0.tmps.size:=fun k hk => by have:=(vfd11_mem k hk).1;omega
 refine wp_region_factsE 11 999 vfD11 vfd11 (vff11 g3 g4 g5 pl pc gv ov vl vc mv pA vk vn Kt Kv b gk ok kc jj s q i) (fun w => Below w0.heap.size w0 w) w0.heap.size Never (fun k => k) (by kernel_rfl) (by subst hops;kernel_rfl) (by subst hops;kernel_rfl) (by subst hops;kernel_rfl) (vff11_ext g3 g4 g5 pl pc gv ov vl vc mv pA vk vn Kt Kv b gk ok kc jj s q i w0.heap.size) hg0 ?_ ?_
 ·intro j a w hj ho hg hd
  have hgs:=hg.size
  match j,hj,hd with
  | 0,hk,hd =>
   have s:(ops[0]?).map sig = some (some 69,.load 26 (.tmp 3),26,none):=by subst hops;kernel_rfl
   have hgd:GdOk ops a none:=trivial
   have e0:ag a 3 = .pointer (some ⟨g3,0,none⟩):=(ho.off 3 (by decide)).trans h3
   refine op_loadg s hgd g3 0 e0 [mv,.slice pA pl pc] _ ((hp.later hg).range) Tryd.underlying26 rfl info_prog ?_
   exact PostE.put (i:=0) ho (vfd11_mem 0 hk).2 (hlt 0 hk) (fun k hk2 hne _ => vfd11_inj 0 hk k hk2 hne) (.inl (Ext.refl _ _)) rfl hg
  | 1,hk,hd =>
   have s:(ops[1]?).map sig = some (some 70,.fieldAddr 31 (.tmp 4) 2,0,none):=by subst hops;kernel_rfl
   have hgd:GdOk ops a none:=trivial
   have e0:ag a 4 = .pointer (some ⟨g4,0,none⟩):=(ho.off 4 (by decide)).trans h4
   refine op_valg s hgd (w':=w) (v:=.pointer (some ⟨g4,4,none⟩)) ?_ ?_
   ·simp only [execOp,eval_tmp,e0]
    go_simp
   ·exact PostE.put (i:=1) ho (vfd11_mem 1 hk).2 (hlt 1 hk) (fun k hk2 hne _ => vfd11_inj 1 hk k hk2 hne) (.inl (Ext.refl _ _)) rfl hg
  | 2,hk,hd =>
   have s:(ops[2]?).map sig = some (some 71,.load 29 (.tmp 70),29,none):=by subst hops;kernel_rfl
   have hgd:GdOk ops a none:=trivial
   have d1:=hd 1 (by decide) (by subst hops;kernel_rfl)
   have e0:ag a 70 = .pointer (some ⟨g4,4,none⟩):=d1
   have hc:=(ht.later hg).cell (j:=4) (v:=.slice (some ⟨gk,ok,none⟩) 1 kc) rfl
   refine op_valg s hgd (w':=w) (v:=.slice (some ⟨gk,ok,none⟩) 1 kc) ?_ ?_
   ·simp only [execOp,eval_tmp,e0]
    go_simp
   ·exact PostE.put (i:=2) ho (vfd11_mem 2 hk).2 (hlt 2 hk) (fun k hk2 hne _ => vfd11_inj 2 hk k hk2 hne) (.inl (Ext.refl _ _)) rfl hg
  | 3,hk,hd =>
   have s:(ops[3]?).map sig = some (some 72,.indexAddr 29 (.tmp 71) (.const (.int .i64 0)),0,none):=by subst hops;kernel_rfl
   have hgd:GdOk ops a none:=trivial
   have d2:=hd 2 (by decide) (by subst hops;kernel_rfl)
   have e0:ag a 71 = .slice (some ⟨gk,ok,none⟩) 1 kc:=d2
   refine op_valg s hgd (w':=w) (v:=.pointer (some ⟨gk,ok,none⟩)) ?_ ?_
   ·simp only [execOp,eval_tmp,e0]
    go_simp
   ·exact PostE.put (i:=3) ho (vfd11_mem 3 hk).2 (hlt 3 hk) (fun k hk2 hne _ => vfd11_inj 3 hk k hk2 hne) (.inl (Ext.refl _ _)) rfl hg
  | 4,hk,hd =>
   have s:(ops[4]?).map sig = some (some 73,.load 31 (.tmp 72),31,none):=by subst hops;kernel_rfl
   have hgd:GdOk ops a none:=trivial
   have d3:=hd 3 (by decide) (by subst hops;kernel_rfl)
   have e0:ag a 72 = .pointer (some ⟨gk,ok,none⟩):=d3
   refine op_loadg s hgd gk ok e0 Kt _ (range_below hkt hg) Tryd.underlying31 rfl (by rw [lkt];exact info_typesz) ?_
   exact PostE.put (i:=4) ho (vfd11_mem 4 hk).2 (hlt 4 hk) (fun k hk2 hne _ => vfd11_inj 4 hk k hk2 hne) (.inl (Ext.refl _ _)) rfl hg
  | 5,hk,hd =>
   have s:(ops[5]?).map sig = some (some 74,.fieldAddr 53 (.tmp 5) 2,0,none):=by subst hops;kernel_rfl
   have hgd:GdOk ops a none:=trivial
   have e0:ag a 5 = .pointer (some ⟨g5,0,none⟩):=(ho.off 5 (by decide)).trans h5
   refine op_valg s hgd (w':=w) (v:=.pointer (some ⟨g5,2,none⟩)) ?_ ?_
   ·simp only [execOp,eval_tmp,e0]
    go_simp
   ·exact PostE.put (i:=5) ho (vfd11_mem 5 hk).2 (hlt 5 hk) (fun k hk2 hne _ => vfd11_inj 5 hk k hk2 hne) (.inl (Ext.refl _ _)) rfl hg
  | 6,hk,hd =>
   have s:(ops[6]?).map sig = some (some 75,.load 51 (.tmp 74),51,none):=by subst hops;kernel_rfl
   have hgd:GdOk ops a none:=trivial
   have d5:=hd 5 (by decide) (by subst hops;kernel_rfl)
   have e0:ag a 74 = .pointer (some ⟨g5,2,none⟩):=d5
   have hc:=(hv.later hg).cell (j:=2) (v:=.slice (some ⟨gv,ov,none⟩) vl vc) rfl
   refine op_valg s hgd (w':=w) (v:=.slice (some ⟨gv,ov,none⟩) vl vc) ?_ ?_
   ·simp only [execOp,eval_tmp,e0]
    go_simp
   ·exact PostE.put (i:=6) ho (vfd11_mem 6 hk).2 (hlt 6 hk) (fun k hk2 hne _ => vfd11_inj 6 hk k hk2 hne) (.inl (Ext.refl _ _)) rfl hg
  | 7,hk,hd =>
   have s:(ops[7]?).map sig = some (some 76,.move (.tmp 7),3,none):=by subst hops;kernel_rfl
   have hgd:GdOk ops a none:=trivial
   have e0:ag a 7 = .int .i64 (jj:Int):=(ho.off 7 (by decide)).trans h7
   refine op_valg s hgd (w':=w) (v:=.int .i64 (jj:Int)) ?_ ?_
   ·exact congrArg (fun x => Result.ok (Next.value x) w) e0
   ·exact PostE.put (i:=7) ho (vfd11_mem 7 hk).2 (hlt 7 hk) (fun k hk2 hne _ => vfd11_inj 7 hk k hk2 hne) (.inl (Ext.refl _ _)) rfl hg
  | 8,hk,hd =>
   have s:(ops[8]?).map sig = some (some 77,.indexAddr 51 (.tmp 75) (.tmp 76),0,none):=by subst hops;kernel_rfl
   have hgd:GdOk ops a none:=trivial
   have d6:=hd 6 (by decide) (by subst hops;kernel_rfl)
   have d7:=hd 7 (by decide) (by subst hops;kernel_rfl)
   have e0:ag a 75 = .slice (some ⟨gv,ov,none⟩) vl vc:=d6
   have e1:ag a 76 = .int .i64 (jj:Int):=d7
   refine op_valg s hgd (w':=w) (v:=.pointer (some ⟨gv,ov + jj * 3,none⟩)) ?_ ?_
   ·simp only [execOp,eval_tmp,e0,e1]
    go_simp
   ·exact PostE.put (i:=8) ho (vfd11_mem 8 hk).2 (hlt 8 hk) (fun k hk2 hne _ => vfd11_inj 8 hk k hk2 hne) (.inl (Ext.refl _ _)) rfl hg
  | 9,hk,hd =>
   have s:(ops[9]?).map sig = some (some 78,.load 53 (.tmp 77),53,none):=by subst hops;kernel_rfl
   have hgd:GdOk ops a none:=trivial
   have d8:=hd 8 (by decide) (by subst hops;kernel_rfl)
   have e0:ag a 77 = .pointer (some ⟨gv,ov + jj * 3,none⟩):=d8
   refine op_loadg s hgd gv (ov + jj * 3) e0 Kv _ (range_below hkv hg) Tryd.underlying53 rfl (by rw [lkv];exact info_val) ?_
   exact PostE.put (i:=9) ho (vfd11_mem 9 hk).2 (hlt 9 hk) (fun k hk2 hne _ => vfd11_inj 9 hk k hk2 hne) (.inl (Ext.refl _ _)) rfl hg
  | 10,hk,hd =>
   have s:(ops[10]?).map sig = some (some 79,.call { callee:=.value (.func 59),args:=#[.tmp 69,.tmp 73,.tmp 78],argTypes:=#[26,31,53] },4,none):=by subst hops;kernel_rfl
   have hgd:GdOk ops a none:=trivial
   have d0:=hd 0 (by decide) (by subst hops;kernel_rfl)
   have d4:=hd 4 (by decide) (by subst hops;kernel_rfl)
   have d9:=hd 9 (by decide) (by subst hops;kernel_rfl)
   have e0:ag a 69 = .agg #[mv,.slice pA pl pc]:=d0
   have e1:ag a 73 = .agg Kt.toArray:=d4
   have e2:ag a 78 = .agg Kv.toArray:=d9
   refine op_callg s hgd (w':=w) (f:=59) (args:=#[.agg #[mv,.slice pA pl pc],.agg Kt.toArray,.agg Kv.toArray]) ?_ ?_
   ·simp only [execOp]
    go_simp
    refine ⟨by simpa [ag] using e0,by simpa [ag] using e1,by simpa [ag] using e2⟩
   ·refine ((show Calls Tryd.prog _ #[.agg #[mv,.slice pA pl pc],.agg Kt.toArray,.agg Kv.toArray] w (BRes b w) from hf w hg)).mono ?_
    rintro e w' ⟨rfl,hb⟩
    exact ⟨_,rfl,PostE.put (i:=10) ho (vfd11_mem 10 hk).2 (hlt 10 hk) (fun k hk2 hne _ => vfd11_inj 10 hk k hk2 hne) (.inl (Ext.of hb)) rfl (later hg hb)⟩
  | n + 11,hn,_ => exact absurd hn (by omega)
 ·intro a w ho hg hf
  have s:(ops[11]?).map sig = some (some 80,.unOp .not 4 (.tmp 79),4,none):=by subst hops;kernel_rfl
  have hgd:GdOk ops a none:=trivial
  have d10:=hf 10 (by decide)
  have e0:ag a 79 = .bool b:=d10
  refine op_valg s hgd (w':=w) (v:=.bool (!b)) ?_ ?_
  ·simp only [execOp,eval_tmp,e0]
   go_simp
  ·have ho2:Off (vfD11 ++ [80]) a0 (a.put (some 80) (.bool (!b))):=(ho.mono (fun s hs => List.mem_append_left _ hs)).put (by decide)
   exact hQ (ag (a.put (some 80) (.bool (!b)))) w (ag_put (by rw [ho.size,hsz];decide)) hg _ (ho2.eq (fun s hs => by rw [hsz];revert s;decide))
def vff24 (g3 g4 g5 pl pc gv ov vl vc:Nat) (mv:Value) (pA:Option Addr) (vk vn:Int) (Kt Kv:List Value) (b:Bool) (g8 gs os sn sc:Nat) (u0 u1 u2 u3 u4 u5 u6 u7:Value) (uY:List Value) (jj:Nat):Nat → Value → World → Prop
 | 0,v,w => v = .agg #[mv,.slice pA pl pc]
 | 1,v,w => v = .pointer (some ⟨g8,8,none⟩)
 | 2,v,w => v = .slice (some ⟨gs,os,none⟩) sn sc
 | 3,v,w => v = .int .i64 (jj:Int)
 | 4,v,w => v = .pointer (some ⟨gs,os + jj * 11,none⟩)
 | 5,v,w => v = .pointer (some ⟨gs,os + jj * 11 + 4,none⟩)
 | 6,v,w => v = .agg Kt.toArray
 | 7,v,w => v = .pointer (some ⟨g5,2,none⟩)
 | 8,v,w => v = .slice (some ⟨gv,ov,none⟩) vl vc
 | 9,v,w => v = .int .i64 (jj:Int)
 | 10,v,w => v = .pointer (some ⟨gv,ov + jj * 3,none⟩)
 | 11,v,w => v = .agg Kv.toArray
 | 12,v,w => v = .bool b
 | _,_,_ => True
theorem vff24_ext (g3 g4 g5 pl pc gv ov vl vc:Nat) (mv:Value) (pA:Option Addr) (vk vn:Int) (Kt Kv:List Value) (b:Bool) (g8 gs os sn sc:Nat) (u0 u1 u2 u3 u4 u5 u6 u7:Value) (uY:List Value) (jj:Nat) (S:Nat):∀ j v w w',j < 13 → (Ext S w w' ∨ (j ≠ 999 ∧ Never w w')) → vff24 g3 g4 g5 pl pc gv ov vl vc mv pA vk vn Kt Kv b g8 gs os sn sc u0 u1 u2 u3 u4 u5 u6 u7 uY jj j v w → vff24 g3 g4 g5 pl pc gv ov vl vc mv pA vk vn Kt Kv b g8 gs os sn sc u0 u1 u2 u3 u4 u5 u6 u7 uY jj j v w':=by
 intro j v w w' hj he h
 match j,hj,he,h with
 | 0,_,he,h => exact h
 | 1,_,he,h => exact h
 | 2,_,he,h => exact h
 | 3,_,he,h => exact h
 | 4,_,he,h => exact h
 | 5,_,he,h => exact h
 | 6,_,he,h => exact h
 | 7,_,he,h => exact h
 | 8,_,he,h => exact h
 | 9,_,he,h => exact h
 | 10,_,he,h => exact h
 | 11,_,he,h => exact h
 | 12,_,he,h => exact h
 | n + 13,hn,_,_ => exact absurd hn (by omega)
def vfD24:List Nat:=[158,159,160,161,162,163,164,165,166,167,168,169,170]
def vfd24 (k:Nat):Nat:=[158,159,160,161,162,163,164,165,166,167,168,169,170].getD k 0
theorem vfd24_mem:∀ k,k < 13 → vfd24 k < 172 ∧ vfd24 k ∈ vfD24:=by decide
theorem vfd24_inj:∀ i,i < 13 → ∀ k,k < 13 → k ≠ i → vfd24 i ≠ vfd24 k:=by decide
set_option maxHeartbeats 4000000 in
set_option maxRecDepth 100000 in
theorem vfreg24 {Q:Exit → Act → World → Prop} {id:Nat} {ops:Array Oper} (hops:ops = ((Tryd.f59.body).bind (opsOf 24)).getD #[]) (a0:Act) (w0:World) (g3 g4 g5 pl pc gv ov vl vc:Nat) (mv:Value) (pA:Option Addr) (vk vn:Int) (Kt Kv:List Value) (b:Bool) (g8 gs os sn sc:Nat) (u0 u1 u2 u3 u4 u5 u6 u7:Value) (uY:List Value) (jj:Nat) (hsz:a0.tmps.size = 172)
  (h3:ag a0 3 = .pointer (some ⟨g3,0,none⟩)) (h5:ag a0 5 = .pointer (some ⟨g5,0,none⟩)) (h8:ag a0 8 = .pointer (some ⟨g8,0,none⟩)) (h10:ag a0 10 = .int .i64 (jj:Int)) (hp:Arr w0 g3 2 26 [mv,.slice pA pl pc]) (hv:Arr w0 g5 3 53 [.int .i64 vk,.int .i64 vn,.slice (some ⟨gv,ov,none⟩) vl vc]) (hdd:Arr w0 g8 31 46 ([u0,u1,u2,u3,u4,u5,u6,u7,.slice (some ⟨gs,os,none⟩) sn sc] ++ uY)) (hkt:w0.rangeAt gs (os + jj * 11 + 4) Kt) (lkt:Kt.length = 5) (hkv:w0.rangeAt gv (ov + jj * 3) Kv) (lkv:Kv.length = 3) (hj1:(jj:Int) < (vl:Int)) (hj2:(jj:Int) < (sn:Int)) (hj0:(0:Int) ≤ (jj:Int)) (hf:∀ W,Below w0.heap.size w0 W → Calls Tryd.prog 59 #[.agg #[mv,.slice pA pl pc],.agg Kt.toArray,.agg Kv.toArray] W (BRes b W))
  (hQ:∀ (vs:Nat → Value) (w':World),vs 171 = .bool (!b) → Below w0.heap.size w0 w' → ∀ a',a' = (vfD24 ++ [171]).foldl (fun b s => b.put (some s) (vs s)) a0 → Q .normal a' w') :
  (Code.region id ops true).wp Tryd.prog Q a0 w0:=by
 have hg0:Below w0.heap.size w0 w0.drew:=below_drewN (Below.refl _ _) 1
 have hlt:∀ k,k < 13 → vfd24 k < a0.tmps.size:=fun k hk => by have:=(vfd24_mem k hk).1;omega
 refine wp_region_factsE 13 999 vfD24 vfd24 (vff24 g3 g4 g5 pl pc gv ov vl vc mv pA vk vn Kt Kv b g8 gs os sn sc u0 u1 u2 u3 u4 u5 u6 u7 uY jj) (fun w => Below w0.heap.size w0 w) w0.heap.size Never (fun k => k) (by kernel_rfl) (by subst hops;kernel_rfl) (by subst hops;kernel_rfl) (by subst hops;kernel_rfl) (vff24_ext g3 g4 g5 pl pc gv ov vl vc mv pA vk vn Kt Kv b g8 gs os sn sc u0 u1 u2 u3 u4 u5 u6 u7 uY jj w0.heap.size) hg0 ?_ ?_
 ·intro j a w hj ho hg hd
  have hgs:=hg.size
  match j,hj,hd with
  | 0,hk,hd =>
   have s:(ops[0]?).map sig = some (some 158,.load 26 (.tmp 3),26,none):=by subst hops;kernel_rfl
   have hgd:GdOk ops a none:=trivial
   have e0:ag a 3 = .pointer (some ⟨g3,0,none⟩):=(ho.off 3 (by decide)).trans h3
   refine op_loadg s hgd g3 0 e0 [mv,.slice pA pl pc] _ ((hp.later hg).range) Tryd.underlying26 rfl info_prog ?_
   exact PostE.put (i:=0) ho (vfd24_mem 0 hk).2 (hlt 0 hk) (fun k hk2 hne _ => vfd24_inj 0 hk k hk2 hne) (.inl (Ext.refl _ _)) rfl hg
  | 1,hk,hd =>
   have s:(ops[1]?).map sig = some (some 159,.fieldAddr 46 (.tmp 8) 4,0,none):=by subst hops;kernel_rfl
   have hgd:GdOk ops a none:=trivial
   have e0:ag a 8 = .pointer (some ⟨g8,0,none⟩):=(ho.off 8 (by decide)).trans h8
   refine op_valg s hgd (w':=w) (v:=.pointer (some ⟨g8,8,none⟩)) ?_ ?_
   ·simp only [execOp,eval_tmp,e0]
    go_simp
   ·exact PostE.put (i:=1) ho (vfd24_mem 1 hk).2 (hlt 1 hk) (fun k hk2 hne _ => vfd24_inj 1 hk k hk2 hne) (.inl (Ext.refl _ _)) rfl hg
  | 2,hk,hd =>
   have s:(ops[2]?).map sig = some (some 160,.load 40 (.tmp 159),40,none):=by subst hops;kernel_rfl
   have hgd:GdOk ops a none:=trivial
   have d1:=hd 1 (by decide) (by subst hops;kernel_rfl)
   have e0:ag a 159 = .pointer (some ⟨g8,8,none⟩):=d1
   have hc:=(hdd.later hg).cell (j:=8) (v:=.slice (some ⟨gs,os,none⟩) sn sc) rfl
   refine op_valg s hgd (w':=w) (v:=.slice (some ⟨gs,os,none⟩) sn sc) ?_ ?_
   ·simp only [execOp,eval_tmp,e0]
    go_simp
   ·exact PostE.put (i:=2) ho (vfd24_mem 2 hk).2 (hlt 2 hk) (fun k hk2 hne _ => vfd24_inj 2 hk k hk2 hne) (.inl (Ext.refl _ _)) rfl hg
  | 3,hk,hd =>
   have s:(ops[3]?).map sig = some (some 161,.move (.tmp 10),3,none):=by subst hops;kernel_rfl
   have hgd:GdOk ops a none:=trivial
   have e0:ag a 10 = .int .i64 (jj:Int):=(ho.off 10 (by decide)).trans h10
   refine op_valg s hgd (w':=w) (v:=.int .i64 (jj:Int)) ?_ ?_
   ·exact congrArg (fun x => Result.ok (Next.value x) w) e0
   ·exact PostE.put (i:=3) ho (vfd24_mem 3 hk).2 (hlt 3 hk) (fun k hk2 hne _ => vfd24_inj 3 hk k hk2 hne) (.inl (Ext.refl _ _)) rfl hg
  | 4,hk,hd =>
   have s:(ops[4]?).map sig = some (some 162,.indexAddr 40 (.tmp 160) (.tmp 161),0,none):=by subst hops;kernel_rfl
   have hgd:GdOk ops a none:=trivial
   have d2:=hd 2 (by decide) (by subst hops;kernel_rfl)
   have d3:=hd 3 (by decide) (by subst hops;kernel_rfl)
   have e0:ag a 160 = .slice (some ⟨gs,os,none⟩) sn sc:=d2
   have e1:ag a 161 = .int .i64 (jj:Int):=d3
   refine op_valg s hgd (w':=w) (v:=.pointer (some ⟨gs,os + jj * 11,none⟩)) ?_ ?_
   ·simp only [execOp,eval_tmp,e0,e1]
    go_simp
   ·exact PostE.put (i:=4) ho (vfd24_mem 4 hk).2 (hlt 4 hk) (fun k hk2 hne _ => vfd24_inj 4 hk k hk2 hne) (.inl (Ext.refl _ _)) rfl hg
  | 5,hk,hd =>
   have s:(ops[5]?).map sig = some (some 163,.fieldAddr 66 (.tmp 162) 2,0,none):=by subst hops;kernel_rfl
   have hgd:GdOk ops a none:=trivial
   have d4:=hd 4 (by decide) (by subst hops;kernel_rfl)
   have e0:ag a 162 = .pointer (some ⟨gs,os + jj * 11,none⟩):=d4
   refine op_valg s hgd (w':=w) (v:=.pointer (some ⟨gs,os + jj * 11 + 4,none⟩)) ?_ ?_
   ·simp only [execOp,eval_tmp,e0]
    go_simp
   ·exact PostE.put (i:=5) ho (vfd24_mem 5 hk).2 (hlt 5 hk) (fun k hk2 hne _ => vfd24_inj 5 hk k hk2 hne) (.inl (Ext.refl _ _)) rfl hg
  | 6,hk,hd =>
   have s:(ops[6]?).map sig = some (some 164,.load 31 (.tmp 163),31,none):=by subst hops;kernel_rfl
   have hgd:GdOk ops a none:=trivial
   have d5:=hd 5 (by decide) (by subst hops;kernel_rfl)
   have e0:ag a 163 = .pointer (some ⟨gs,os + jj * 11 + 4,none⟩):=d5
   refine op_loadg s hgd gs (os + jj * 11 + 4) e0 Kt _ (range_below hkt hg) Tryd.underlying31 rfl (by rw [lkt];exact info_typesz) ?_
   exact PostE.put (i:=6) ho (vfd24_mem 6 hk).2 (hlt 6 hk) (fun k hk2 hne _ => vfd24_inj 6 hk k hk2 hne) (.inl (Ext.refl _ _)) rfl hg
  | 7,hk,hd =>
   have s:(ops[7]?).map sig = some (some 165,.fieldAddr 53 (.tmp 5) 2,0,none):=by subst hops;kernel_rfl
   have hgd:GdOk ops a none:=trivial
   have e0:ag a 5 = .pointer (some ⟨g5,0,none⟩):=(ho.off 5 (by decide)).trans h5
   refine op_valg s hgd (w':=w) (v:=.pointer (some ⟨g5,2,none⟩)) ?_ ?_
   ·simp only [execOp,eval_tmp,e0]
    go_simp
   ·exact PostE.put (i:=7) ho (vfd24_mem 7 hk).2 (hlt 7 hk) (fun k hk2 hne _ => vfd24_inj 7 hk k hk2 hne) (.inl (Ext.refl _ _)) rfl hg
  | 8,hk,hd =>
   have s:(ops[8]?).map sig = some (some 166,.load 51 (.tmp 165),51,none):=by subst hops;kernel_rfl
   have hgd:GdOk ops a none:=trivial
   have d7:=hd 7 (by decide) (by subst hops;kernel_rfl)
   have e0:ag a 165 = .pointer (some ⟨g5,2,none⟩):=d7
   have hc:=(hv.later hg).cell (j:=2) (v:=.slice (some ⟨gv,ov,none⟩) vl vc) rfl
   refine op_valg s hgd (w':=w) (v:=.slice (some ⟨gv,ov,none⟩) vl vc) ?_ ?_
   ·simp only [execOp,eval_tmp,e0]
    go_simp
   ·exact PostE.put (i:=8) ho (vfd24_mem 8 hk).2 (hlt 8 hk) (fun k hk2 hne _ => vfd24_inj 8 hk k hk2 hne) (.inl (Ext.refl _ _)) rfl hg
  | 9,hk,hd =>
   have s:(ops[9]?).map sig = some (some 167,.move (.tmp 10),3,none):=by subst hops;kernel_rfl
   have hgd:GdOk ops a none:=trivial
   have e0:ag a 10 = .int .i64 (jj:Int):=(ho.off 10 (by decide)).trans h10
   refine op_valg s hgd (w':=w) (v:=.int .i64 (jj:Int)) ?_ ?_
   ·exact congrArg (fun x => Result.ok (Next.value x) w) e0
   ·exact PostE.put (i:=9) ho (vfd24_mem 9 hk).2 (hlt 9 hk) (fun k hk2 hne _ => vfd24_inj 9 hk k hk2 hne) (.inl (Ext.refl _ _)) rfl hg
  | 10,hk,hd =>
   have s:(ops[10]?).map sig = some (some 168,.indexAddr 51 (.tmp 166) (.tmp 167),0,none):=by subst hops;kernel_rfl
   have hgd:GdOk ops a none:=trivial
   have d8:=hd 8 (by decide) (by subst hops;kernel_rfl)
   have d9:=hd 9 (by decide) (by subst hops;kernel_rfl)
   have e0:ag a 166 = .slice (some ⟨gv,ov,none⟩) vl vc:=d8
   have e1:ag a 167 = .int .i64 (jj:Int):=d9
   refine op_valg s hgd (w':=w) (v:=.pointer (some ⟨gv,ov + jj * 3,none⟩)) ?_ ?_
   ·simp only [execOp,eval_tmp,e0,e1]
    go_simp
   ·exact PostE.put (i:=10) ho (vfd24_mem 10 hk).2 (hlt 10 hk) (fun k hk2 hne _ => vfd24_inj 10 hk k hk2 hne) (.inl (Ext.refl _ _)) rfl hg
  | 11,hk,hd =>
   have s:(ops[11]?).map sig = some (some 169,.load 53 (.tmp 168),53,none):=by subst hops;kernel_rfl
   have hgd:GdOk ops a none:=trivial
   have d10:=hd 10 (by decide) (by subst hops;kernel_rfl)
   have e0:ag a 168 = .pointer (some ⟨gv,ov + jj * 3,none⟩):=d10
   refine op_loadg s hgd gv (ov + jj * 3) e0 Kv _ (range_below hkv hg) Tryd.underlying53 rfl (by rw [lkv];exact info_val) ?_
   exact PostE.put (i:=11) ho (vfd24_mem 11 hk).2 (hlt 11 hk) (fun k hk2 hne _ => vfd24_inj 11 hk k hk2 hne) (.inl (Ext.refl _ _)) rfl hg
  | 12,hk,hd =>
   have s:(ops[12]?).map sig = some (some 170,.call { callee:=.value (.func 59),args:=#[.tmp 158,.tmp 164,.tmp 169],argTypes:=#[26,31,53] },4,none):=by subst hops;kernel_rfl
   have hgd:GdOk ops a none:=trivial
   have d0:=hd 0 (by decide) (by subst hops;kernel_rfl)
   have d6:=hd 6 (by decide) (by subst hops;kernel_rfl)
   have d11:=hd 11 (by decide) (by subst hops;kernel_rfl)
   have e0:ag a 158 = .agg #[mv,.slice pA pl pc]:=d0
   have e1:ag a 164 = .agg Kt.toArray:=d6
   have e2:ag a 169 = .agg Kv.toArray:=d11
   refine op_callg s hgd (w':=w) (f:=59) (args:=#[.agg #[mv,.slice pA pl pc],.agg Kt.toArray,.agg Kv.toArray]) ?_ ?_
   ·simp only [execOp]
    go_simp
    refine ⟨by simpa [ag] using e0,by simpa [ag] using e1,by simpa [ag] using e2⟩
   ·refine ((show Calls Tryd.prog _ #[.agg #[mv,.slice pA pl pc],.agg Kt.toArray,.agg Kv.toArray] w (BRes b w) from hf w hg)).mono ?_
    rintro e w' ⟨rfl,hb⟩
    exact ⟨_,rfl,PostE.put (i:=12) ho (vfd24_mem 12 hk).2 (hlt 12 hk) (fun k hk2 hne _ => vfd24_inj 12 hk k hk2 hne) (.inl (Ext.of hb)) rfl (later hg hb)⟩
  | n + 13,hn,_ => exact absurd hn (by omega)
 ·intro a w ho hg hf
  have s:(ops[13]?).map sig = some (some 171,.unOp .not 4 (.tmp 170),4,none):=by subst hops;kernel_rfl
  have hgd:GdOk ops a none:=trivial
  have d12:=hf 12 (by decide)
  have e0:ag a 170 = .bool b:=d12
  refine op_valg s hgd (w':=w) (v:=.bool (!b)) ?_ ?_
  ·simp only [execOp,eval_tmp,e0]
   go_simp
  ·have ho2:Off (vfD24 ++ [171]) a0 (a.put (some 171) (.bool (!b))):=(ho.mono (fun s hs => List.mem_append_left _ hs)).put (by decide)
   exact hQ (ag (a.put (some 171) (.bool (!b)))) w (ag_put (by rw [ho.size,hsz];decide)) hg _ (ho2.eq (fun s hs => by rw [hsz];revert s;decide))
def vff18 (g3 g4 g5 pl pc gv ov vc:Nat) (mv:Value) (pA:Option Addr) (Kt Kv:List Value) (b:Bool) (g8 gs os sn sc:Nat) (u0 u1 u2 u3 u4 u5 u6 u7:Value) (uY:List Value) (nn:Nat) (vk:Int):Nat → Value → World → Prop
 | 0,v,w => v = .agg #[mv,.slice pA pl pc]
 | 1,v,w => v = .pointer (some ⟨g8,8,none⟩)
 | 2,v,w => v = .slice (some ⟨gs,os,none⟩) sn sc
 | 3,v,w => v = .pointer (some ⟨g5,1,none⟩)
 | 4,v,w => v = .int .i64 (nn:Int)
 | 5,v,w => v = .pointer (some ⟨gs,os + nn * 11,none⟩)
 | 6,v,w => v = .pointer (some ⟨gs,os + nn * 11 + 4,none⟩)
 | 7,v,w => v = .agg Kt.toArray
 | 8,v,w => v = .pointer (some ⟨g5,2,none⟩)
 | 9,v,w => v = .slice (some ⟨gv,ov,none⟩) 1 vc
 | 10,v,w => v = .pointer (some ⟨gv,ov,none⟩)
 | 11,v,w => v = .agg Kv.toArray
 | 12,v,w => v = .bool b
 | _,_,_ => True
theorem vff18_ext (g3 g4 g5 pl pc gv ov vc:Nat) (mv:Value) (pA:Option Addr) (Kt Kv:List Value) (b:Bool) (g8 gs os sn sc:Nat) (u0 u1 u2 u3 u4 u5 u6 u7:Value) (uY:List Value) (nn:Nat) (vk:Int) (S:Nat):∀ j v w w',j < 13 → (Ext S w w' ∨ (j ≠ 999 ∧ Never w w')) → vff18 g3 g4 g5 pl pc gv ov vc mv pA Kt Kv b g8 gs os sn sc u0 u1 u2 u3 u4 u5 u6 u7 uY nn vk j v w → vff18 g3 g4 g5 pl pc gv ov vc mv pA Kt Kv b g8 gs os sn sc u0 u1 u2 u3 u4 u5 u6 u7 uY nn vk j v w':=by
 intro j v w w' hj he h
 match j,hj,he,h with
 | 0,_,he,h => exact h
 | 1,_,he,h => exact h
 | 2,_,he,h => exact h
 | 3,_,he,h => exact h
 | 4,_,he,h => exact h
 | 5,_,he,h => exact h
 | 6,_,he,h => exact h
 | 7,_,he,h => exact h
 | 8,_,he,h => exact h
 | 9,_,he,h => exact h
 | 10,_,he,h => exact h
 | 11,_,he,h => exact h
 | 12,_,he,h => exact h
 | n + 13,hn,_,_ => exact absurd hn (by omega)
def vfD18:List Nat:=[121,122,123,124,125,126,127,128,129,130,131,132,133]
def vfd18 (k:Nat):Nat:=[121,122,123,124,125,126,127,128,129,130,131,132,133].getD k 0
theorem vfd18_mem:∀ k,k < 13 → vfd18 k < 172 ∧ vfd18 k ∈ vfD18:=by decide
theorem vfd18_inj:∀ i,i < 13 → ∀ k,k < 13 → k ≠ i → vfd18 i ≠ vfd18 k:=by decide
set_option maxHeartbeats 4000000 in
set_option maxRecDepth 100000 in
theorem vfreg18 {Q:Exit → Act → World → Prop} {id:Nat} {ops:Array Oper} (hops:ops = ((Tryd.f59.body).bind (opsOf 18)).getD #[]) (a0:Act) (w0:World) (g3 g4 g5 pl pc gv ov vc:Nat) (mv:Value) (pA:Option Addr) (Kt Kv:List Value) (b:Bool) (g8 gs os sn sc:Nat) (u0 u1 u2 u3 u4 u5 u6 u7:Value) (uY:List Value) (nn:Nat) (vk:Int) (hsz:a0.tmps.size = 172)
  (h3:ag a0 3 = .pointer (some ⟨g3,0,none⟩)) (h5:ag a0 5 = .pointer (some ⟨g5,0,none⟩)) (h8:ag a0 8 = .pointer (some ⟨g8,0,none⟩)) (hp:Arr w0 g3 2 26 [mv,.slice pA pl pc]) (hv:Arr w0 g5 3 53 [.int .i64 vk,.int .i64 (nn:Int),.slice (some ⟨gv,ov,none⟩) 1 vc]) (hdd:Arr w0 g8 31 46 ([u0,u1,u2,u3,u4,u5,u6,u7,.slice (some ⟨gs,os,none⟩) sn sc] ++ uY)) (hkt:w0.rangeAt gs (os + nn * 11 + 4) Kt) (lkt:Kt.length = 5) (hkv:w0.rangeAt gv ov Kv) (lkv:Kv.length = 3) (hj2:(nn:Int) < (sn:Int)) (hj0:(0:Int) ≤ (nn:Int)) (hf:∀ W,Below w0.heap.size w0 W → Calls Tryd.prog 59 #[.agg #[mv,.slice pA pl pc],.agg Kt.toArray,.agg Kv.toArray] W (BRes b W))
  (hQ:∀ (vs:Nat → Value) (w':World),vs 6 = .bool b → Below w0.heap.size w0 w' → ∀ a',a' = (vfD18 ++ [6]).foldl (fun b s => b.put (some s) (vs s)) a0 → Q .normal a' w') :
  (Code.region id ops true).wp Tryd.prog Q a0 w0:=by
 have hg0:Below w0.heap.size w0 w0.drew:=below_drewN (Below.refl _ _) 1
 have hlt:∀ k,k < 13 → vfd18 k < a0.tmps.size:=fun k hk => by have:=(vfd18_mem k hk).1;omega
 refine wp_region_factsE 13 999 vfD18 vfd18 (vff18 g3 g4 g5 pl pc gv ov vc mv pA Kt Kv b g8 gs os sn sc u0 u1 u2 u3 u4 u5 u6 u7 uY nn vk) (fun w => Below w0.heap.size w0 w) w0.heap.size Never (fun k => k) (by kernel_rfl) (by subst hops;kernel_rfl) (by subst hops;kernel_rfl) (by subst hops;kernel_rfl) (vff18_ext g3 g4 g5 pl pc gv ov vc mv pA Kt Kv b g8 gs os sn sc u0 u1 u2 u3 u4 u5 u6 u7 uY nn vk w0.heap.size) hg0 ?_ ?_
 ·intro j a w hj ho hg hd
  have hgs:=hg.size
  match j,hj,hd with
  | 0,hk,hd =>
   have s:(ops[0]?).map sig = some (some 121,.load 26 (.tmp 3),26,none):=by subst hops;kernel_rfl
   have hgd:GdOk ops a none:=trivial
   have e0:ag a 3 = .pointer (some ⟨g3,0,none⟩):=(ho.off 3 (by decide)).trans h3
   refine op_loadg s hgd g3 0 e0 [mv,.slice pA pl pc] _ ((hp.later hg).range) Tryd.underlying26 rfl info_prog ?_
   exact PostE.put (i:=0) ho (vfd18_mem 0 hk).2 (hlt 0 hk) (fun k hk2 hne _ => vfd18_inj 0 hk k hk2 hne) (.inl (Ext.refl _ _)) rfl hg
  | 1,hk,hd =>
   have s:(ops[1]?).map sig = some (some 122,.fieldAddr 46 (.tmp 8) 4,0,none):=by subst hops;kernel_rfl
   have hgd:GdOk ops a none:=trivial
   have e0:ag a 8 = .pointer (some ⟨g8,0,none⟩):=(ho.off 8 (by decide)).trans h8
   refine op_valg s hgd (w':=w) (v:=.pointer (some ⟨g8,8,none⟩)) ?_ ?_
   ·simp only [execOp,eval_tmp,e0]
    go_simp
   ·exact PostE.put (i:=1) ho (vfd18_mem 1 hk).2 (hlt 1 hk) (fun k hk2 hne _ => vfd18_inj 1 hk k hk2 hne) (.inl (Ext.refl _ _)) rfl hg
  | 2,hk,hd =>
   have s:(ops[2]?).map sig = some (some 123,.load 40 (.tmp 122),40,none):=by subst hops;kernel_rfl
   have hgd:GdOk ops a none:=trivial
   have d1:=hd 1 (by decide) (by subst hops;kernel_rfl)
   have e0:ag a 122 = .pointer (some ⟨g8,8,none⟩):=d1
   have hc:=(hdd.later hg).cell (j:=8) (v:=.slice (some ⟨gs,os,none⟩) sn sc) rfl
   refine op_valg s hgd (w':=w) (v:=.slice (some ⟨gs,os,none⟩) sn sc) ?_ ?_
   ·simp only [execOp,eval_tmp,e0]
    go_simp
   ·exact PostE.put (i:=2) ho (vfd18_mem 2 hk).2 (hlt 2 hk) (fun k hk2 hne _ => vfd18_inj 2 hk k hk2 hne) (.inl (Ext.refl _ _)) rfl hg
  | 3,hk,hd =>
   have s:(ops[3]?).map sig = some (some 124,.fieldAddr 53 (.tmp 5) 1,0,none):=by subst hops;kernel_rfl
   have hgd:GdOk ops a none:=trivial
   have e0:ag a 5 = .pointer (some ⟨g5,0,none⟩):=(ho.off 5 (by decide)).trans h5
   refine op_valg s hgd (w':=w) (v:=.pointer (some ⟨g5,1,none⟩)) ?_ ?_
   ·simp only [execOp,eval_tmp,e0]
    go_simp
   ·exact PostE.put (i:=3) ho (vfd18_mem 3 hk).2 (hlt 3 hk) (fun k hk2 hne _ => vfd18_inj 3 hk k hk2 hne) (.inl (Ext.refl _ _)) rfl hg
  | 4,hk,hd =>
   have s:(ops[4]?).map sig = some (some 125,.load 3 (.tmp 124),3,none):=by subst hops;kernel_rfl
   have hgd:GdOk ops a none:=trivial
   have d3:=hd 3 (by decide) (by subst hops;kernel_rfl)
   have e0:ag a 124 = .pointer (some ⟨g5,1,none⟩):=d3
   have hc:=(hv.later hg).cell (j:=1) (v:=.int .i64 (nn:Int)) rfl
   refine op_valg s hgd (w':=w) (v:=.int .i64 (nn:Int)) ?_ ?_
   ·simp only [execOp,eval_tmp,e0]
    go_simp
   ·exact PostE.put (i:=4) ho (vfd18_mem 4 hk).2 (hlt 4 hk) (fun k hk2 hne _ => vfd18_inj 4 hk k hk2 hne) (.inl (Ext.refl _ _)) rfl hg
  | 5,hk,hd =>
   have s:(ops[5]?).map sig = some (some 126,.indexAddr 40 (.tmp 123) (.tmp 125),0,none):=by subst hops;kernel_rfl
   have hgd:GdOk ops a none:=trivial
   have d2:=hd 2 (by decide) (by subst hops;kernel_rfl)
   have d4:=hd 4 (by decide) (by subst hops;kernel_rfl)
   have e0:ag a 123 = .slice (some ⟨gs,os,none⟩) sn sc:=d2
   have e1:ag a 125 = .int .i64 (nn:Int):=d4
   refine op_valg s hgd (w':=w) (v:=.pointer (some ⟨gs,os + nn * 11,none⟩)) ?_ ?_
   ·simp only [execOp,eval_tmp,e0,e1]
    go_simp
   ·exact PostE.put (i:=5) ho (vfd18_mem 5 hk).2 (hlt 5 hk) (fun k hk2 hne _ => vfd18_inj 5 hk k hk2 hne) (.inl (Ext.refl _ _)) rfl hg
  | 6,hk,hd =>
   have s:(ops[6]?).map sig = some (some 127,.fieldAddr 66 (.tmp 126) 2,0,none):=by subst hops;kernel_rfl
   have hgd:GdOk ops a none:=trivial
   have d5:=hd 5 (by decide) (by subst hops;kernel_rfl)
   have e0:ag a 126 = .pointer (some ⟨gs,os + nn * 11,none⟩):=d5
   refine op_valg s hgd (w':=w) (v:=.pointer (some ⟨gs,os + nn * 11 + 4,none⟩)) ?_ ?_
   ·simp only [execOp,eval_tmp,e0]
    go_simp
   ·exact PostE.put (i:=6) ho (vfd18_mem 6 hk).2 (hlt 6 hk) (fun k hk2 hne _ => vfd18_inj 6 hk k hk2 hne) (.inl (Ext.refl _ _)) rfl hg
  | 7,hk,hd =>
   have s:(ops[7]?).map sig = some (some 128,.load 31 (.tmp 127),31,none):=by subst hops;kernel_rfl
   have hgd:GdOk ops a none:=trivial
   have d6:=hd 6 (by decide) (by subst hops;kernel_rfl)
   have e0:ag a 127 = .pointer (some ⟨gs,os + nn * 11 + 4,none⟩):=d6
   refine op_loadg s hgd gs (os + nn * 11 + 4) e0 Kt _ (range_below hkt hg) Tryd.underlying31 rfl (by rw [lkt];exact info_typesz) ?_
   exact PostE.put (i:=7) ho (vfd18_mem 7 hk).2 (hlt 7 hk) (fun k hk2 hne _ => vfd18_inj 7 hk k hk2 hne) (.inl (Ext.refl _ _)) rfl hg
  | 8,hk,hd =>
   have s:(ops[8]?).map sig = some (some 129,.fieldAddr 53 (.tmp 5) 2,0,none):=by subst hops;kernel_rfl
   have hgd:GdOk ops a none:=trivial
   have e0:ag a 5 = .pointer (some ⟨g5,0,none⟩):=(ho.off 5 (by decide)).trans h5
   refine op_valg s hgd (w':=w) (v:=.pointer (some ⟨g5,2,none⟩)) ?_ ?_
   ·simp only [execOp,eval_tmp,e0]
    go_simp
   ·exact PostE.put (i:=8) ho (vfd18_mem 8 hk).2 (hlt 8 hk) (fun k hk2 hne _ => vfd18_inj 8 hk k hk2 hne) (.inl (Ext.refl _ _)) rfl hg
  | 9,hk,hd =>
   have s:(ops[9]?).map sig = some (some 130,.load 51 (.tmp 129),51,none):=by subst hops;kernel_rfl
   have hgd:GdOk ops a none:=trivial
   have d8:=hd 8 (by decide) (by subst hops;kernel_rfl)
   have e0:ag a 129 = .pointer (some ⟨g5,2,none⟩):=d8
   have hc:=(hv.later hg).cell (j:=2) (v:=.slice (some ⟨gv,ov,none⟩) 1 vc) rfl
   refine op_valg s hgd (w':=w) (v:=.slice (some ⟨gv,ov,none⟩) 1 vc) ?_ ?_
   ·simp only [execOp,eval_tmp,e0]
    go_simp
   ·exact PostE.put (i:=9) ho (vfd18_mem 9 hk).2 (hlt 9 hk) (fun k hk2 hne _ => vfd18_inj 9 hk k hk2 hne) (.inl (Ext.refl _ _)) rfl hg
  | 10,hk,hd =>
   have s:(ops[10]?).map sig = some (some 131,.indexAddr 51 (.tmp 130) (.const (.int .i64 0)),0,none):=by subst hops;kernel_rfl
   have hgd:GdOk ops a none:=trivial
   have d9:=hd 9 (by decide) (by subst hops;kernel_rfl)
   have e0:ag a 130 = .slice (some ⟨gv,ov,none⟩) 1 vc:=d9
   refine op_valg s hgd (w':=w) (v:=.pointer (some ⟨gv,ov,none⟩)) ?_ ?_
   ·simp only [execOp,eval_tmp,e0]
    go_simp
   ·exact PostE.put (i:=10) ho (vfd18_mem 10 hk).2 (hlt 10 hk) (fun k hk2 hne _ => vfd18_inj 10 hk k hk2 hne) (.inl (Ext.refl _ _)) rfl hg
  | 11,hk,hd =>
   have s:(ops[11]?).map sig = some (some 132,.load 53 (.tmp 131),53,none):=by subst hops;kernel_rfl
   have hgd:GdOk ops a none:=trivial
   have d10:=hd 10 (by decide) (by subst hops;kernel_rfl)
   have e0:ag a 131 = .pointer (some ⟨gv,ov,none⟩):=d10
   refine op_loadg s hgd gv ov e0 Kv _ (range_below hkv hg) Tryd.underlying53 rfl (by rw [lkv];exact info_val) ?_
   exact PostE.put (i:=11) ho (vfd18_mem 11 hk).2 (hlt 11 hk) (fun k hk2 hne _ => vfd18_inj 11 hk k hk2 hne) (.inl (Ext.refl _ _)) rfl hg
  | 12,hk,hd =>
   have s:(ops[12]?).map sig = some (some 133,.call { callee:=.value (.func 59),args:=#[.tmp 121,.tmp 128,.tmp 132],argTypes:=#[26,31,53] },4,none):=by subst hops;kernel_rfl
   have hgd:GdOk ops a none:=trivial
   have d0:=hd 0 (by decide) (by subst hops;kernel_rfl)
   have d7:=hd 7 (by decide) (by subst hops;kernel_rfl)
   have d11:=hd 11 (by decide) (by subst hops;kernel_rfl)
   have e0:ag a 121 = .agg #[mv,.slice pA pl pc]:=d0
   have e1:ag a 128 = .agg Kt.toArray:=d7
   have e2:ag a 132 = .agg Kv.toArray:=d11
   refine op_callg s hgd (w':=w) (f:=59) (args:=#[.agg #[mv,.slice pA pl pc],.agg Kt.toArray,.agg Kv.toArray]) ?_ ?_
   ·simp only [execOp]
    go_simp
    refine ⟨by simpa [ag] using e0,by simpa [ag] using e1,by simpa [ag] using e2⟩
   ·refine ((show Calls Tryd.prog _ #[.agg #[mv,.slice pA pl pc],.agg Kt.toArray,.agg Kv.toArray] w (BRes b w) from hf w hg)).mono ?_
    rintro e w' ⟨rfl,hb⟩
    exact ⟨_,rfl,PostE.put (i:=12) ho (vfd18_mem 12 hk).2 (hlt 12 hk) (fun k hk2 hne _ => vfd18_inj 12 hk k hk2 hne) (.inl (Ext.of hb)) rfl (later hg hb)⟩
  | n + 13,hn,_ => exact absurd hn (by omega)
 ·intro a w ho hg hf
  have s:(ops[13]?).map sig = some (some 6,.assign (.tmp 133),4,none):=by subst hops;kernel_rfl
  have hgd:GdOk ops a none:=trivial
  have d12:=hf 12 (by decide)
  have e0:ag a 133 = .bool b:=d12
  refine op_valg s hgd (w':=w) (v:=.bool b) ?_ ?_
  ·exact congrArg (fun x => Result.ok (Next.value x) w) e0
  ·have ho2:Off (vfD18 ++ [6]) a0 (a.put (some 6) (.bool b)):=(ho.mono (fun s hs => List.mem_append_left _ hs)).put (by decide)
   exact hQ (ag (a.put (some 6) (.bool b))) w (ag_put (by rw [ho.size,hsz];decide)) hg _ (ho2.eq (fun s hs => by rw [hsz];revert s;decide))
end Go.Proofs.YtkpoiljioadfgaaDoor
