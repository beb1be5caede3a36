import Derived.Test.YtkpoiljioadfgaaDoorW04
import Derived.Test.YtkpoiljioadfgaaDoorW05
import Derived.Test.YtkpoiljioadfgaaDoorW28
set_option linter.unusedVariables false
set_option linter.unusedSimpArgs false
namespace Go.Proofs.YtkpoiljioadfgaaDoor
open Go.RowKit
def PC (x C:List Value) (_:World):Prop:=C = x
structure GK (gB:Nat) (x0 x1 kv:Value) (B S:Nat) (w0:World) (acc:List (List Value)) (c:Bool) (w:World):Prop where
 old:∀ g,g < S → kv.ownBlock ≠ some g → w.heap[g]? = w0.heap[g]?
 bel:Below 0 w0 w
 sz:S ≤ w.heap.size
 ab:Arr w gB 3 53 [x0,x1,kv]
 gr:c = false → GrowG 53 3 PC w B kv acc
theorem GK.later {gB:Nat} {x0 x1 kv:Value} {B S:Nat} {w0:World} {acc:List (List Value)} {c:Bool} {w w':World} (h:GK gB x0 x1 kv B S w0 acc c w) (hb:Below w.heap.size w w'):GK gB x0 x1 kv B S w0 acc c w' :=
 ⟨fun g hg hn => (hb.block g (Nat.lt_of_lt_of_le hg h.sz)).trans (h.old g hg hn),h.bel.trans (hb.mono (Nat.zero_le _)),Nat.le_trans h.sz hb.size,h.ab.later hb,fun hc => (h.gr hc).keep (hb.mono (Nat.zero_le _)) (fun g _ hg => hb.block g hg)⟩
def kcf11 (gB:Nat) (kv:Value) (B S:Nat) (acc:List (List Value)) (ii:Nat):Nat → Value → World → Prop
 | 0,v,_ => v = .pointer (some ⟨gB,2,none⟩)
 | 1,v,_ => v = kv
 | 2,v,_ => v = .int .i64 (ii:Int)
 | 3,v,_ => v = .agg #[.int .i64 0,.int .i64 (ii:Int),.slice none 0 0]
 | 4,v,w => ∃ g,v = .slice (some ⟨g,0,none⟩) 1 1 ∧ S ≤ g ∧ Arr w g 3 53 [.int .i64 0,.int .i64 (ii:Int),.slice none 0 0]
 | 5,v,w => GrowG 53 3 PC w B v (acc ++ [[.int .i64 0,.int .i64 (ii:Int),.slice none 0 0]]) ∧ ∀ g,v.ownBlock = some g → kv.ownBlock = some g ∨ S ≤ g
 | 6,v,_ => v = .pointer (some ⟨gB,2,none⟩)
 | _,_,_ => True
theorem kcf11_ext (gB:Nat) (kv:Value) (B S:Nat) (acc:List (List Value)) (ii:Nat) (hBS:B ≤ S):∀ j v w w' E,j < 7 → (E = B ∨ (E = S ∧ j ≠ 5)) → Ext E w w' → kcf11 gB kv B S acc ii j v w → kcf11 gB kv B S acc ii j v w':=by
 intro j v w w' E hj hE he h
 have hES:E ≤ S:=by omega
 match j,hj,h with
 | 0,_,h => exact h
 | 1,_,h => exact h
 | 2,_,h => exact h
 | 3,_,h => exact h
 | 4,_,⟨g,h1,h2,h3⟩ => exact ⟨g,h1,h2,h3.ext he (by omega)⟩
 | 5,_,⟨h1,h2⟩ =>
  have:E = B:=by omega
  subst this
  exact ⟨h1.keep he.1 he.2,h2⟩
 | 6,_,h => exact h
 | n + 7,hn,_ => exact absurd hn (by omega)
def kcD11:List Nat:=[104,105,106,107,108,109,110]
def kcd11 (k:Nat):Nat:=104 + k
theorem kcd11_mem:∀ k,k < 7 → kcd11 k < 150 ∧ kcd11 k ∈ kcD11:=by decide
set_option maxHeartbeats 1000000 in
set_option maxRecDepth 100000 in
theorem kcreg11 {Q:Exit → Act → World → Prop} {id:Nat} {ops:Array Oper} (hops:ops = ((Tryd.f4.body).bind (opsOf 11)).getD #[]) (a0:Act) (w0:World) (gB:Nat) (kv:Value) (B:Nat) (acc:List (List Value)) (x0 x1:Value) (ii:Nat) (hac:acc.length ≤ 1000000) (hsz:a0.tmps.size = 150)
  (hbx:ag a0 21 = .pointer (some ⟨gB,0,none⟩)) (h22:ag a0 22 = .int .i64 (ii:Int)) (hgB:gB < B) (hB:B ≤ w0.heap.size) (hAb:Arr w0 gB 3 53 [x0,x1,kv]) (hG:GrowG 53 3 PC w0 B kv acc)
  (hQ:∀ (vs:Nat → Value) (kv':Value) (w':World),GrowG 53 3 PC w' B kv' (acc ++ [[.int .i64 0,.int .i64 (ii:Int),.slice none 0 0]]) → (∀ g,kv'.ownBlock = some g → kv.ownBlock = some g ∨ w0.heap.size ≤ g) → Arr w' gB 3 53 [x0,x1,kv'] → Below 0 w0 w' → (∀ g,g < w0.heap.size → g ≠ gB → kv.ownBlock ≠ some g → w'.heap[g]? = w0.heap[g]?) → ∀ a',a' = kcD11.foldl (fun b s => b.put (some s) (vs s)) a0 → Q .normal a' w') :
  (Code.region id ops true).wp Tryd.prog Q a0 w0:=by
 have hown:∀ g,kv.ownBlock = some g → B ≤ g ∧ g < w0.heap.size:=hG.lt
 have hg0:GK gB x0 x1 kv B w0.heap.size w0 acc false w0.drew:=GK.later ⟨fun _ _ _ => rfl,Below.refl _ _,Nat.le_refl _,hAb,fun _ => hG⟩ (below_drewN (Below.refl _ _) 1)
 have hin:∀ (a:Nat) (k:Nat),a < 7 → k < 7 → kcd11 a = kcd11 k → a = k:=fun a k _ _ h => by unfold kcd11 at h;omega
 refine wp_region_facts 7 5 kcD11 kcd11 (kcf11 gB kv B w0.heap.size acc ii) (GK gB x0 x1 kv B w0.heap.size w0 acc) B w0.heap.size (by kernel_rfl) (by subst hops;kernel_rfl) (by subst hops;kernel_rfl) (by subst hops;kernel_rfl) (fun k hk => (kcd11_mem k hk).2) (fun k hk => by have:=(kcd11_mem k hk).1;omega) hin (kcf11_ext gB kv B w0.heap.size acc ii hB) hg0 ?_ ?_
 ·intro j a w c hj hip ho hg hd
  have hgs:=hg.sz
  match j,hj,hd with
  | 0,hk,hd =>
   have s:(ops[0]?).map sig = some (some 104,.fieldAddr 53 (.tmp 21) 2,0,none):=by subst hops;kernel_rfl
   refine op_val s (w':=w) (v:=.pointer (some ⟨gB,2,none⟩)) ?_ ⟨_,rfl,?_,?_,?_⟩
   ·have e0:ag a 21 = .pointer (some ⟨gB,0,none⟩):=(ho.off 21 (by decide)).trans hbx
    simp only [execOp,eval_tmp,e0]
    go_simp
   ·exact Ext.refl _ _
   ·rfl
   ·exact hg
  | 1,hk,hd =>
   have s:(ops[1]?).map sig = some (some 105,.load 51 (.tmp 104),51,none):=by subst hops;kernel_rfl
   have d0:=hd 0 (by decide) (by subst hops;kernel_rfl)
   refine op_val s (w':=w) (v:=kv) ?_ ⟨_,rfl,?_,?_,?_⟩
   ·have e0:ag a 104 = .pointer (some ⟨gB,2,none⟩):=d0
    have hc:=hg.ab.cell (j:=2) (v:=kv) rfl
    simp only [execOp,eval_tmp,e0]
    go_simp
   ·exact Ext.refl _ _
   ·rfl
   ·exact hg
  | 2,hk,hd =>
   have s:(ops[2]?).map sig = some (some 106,.move (.tmp 22),3,none):=by subst hops;kernel_rfl
   refine op_val s (w':=w) (v:=.int .i64 (ii:Int)) ?_ ⟨_,rfl,?_,?_,?_⟩
   ·have e0:ag a 22 = .int .i64 (ii:Int):=(ho.off 22 (by decide)).trans h22
    exact congrArg (fun x => Result.ok (Next.value x) w) e0
   ·exact Ext.refl _ _
   ·rfl
   ·exact hg
  | 3,hk,hd =>
   have s:(ops[3]?).map sig = some (some 107,.call { callee:=.value (.func 27),args:=#[.tmp 106],argTypes:=#[3] },53,none):=by subst hops;kernel_rfl
   have d2:=hd 2 (by decide) (by subst hops;kernel_rfl)
   have e0:ag a 106 = .int .i64 (ii:Int):=d2
   refine op_call s (w':=w) (f:=27) (args:=#[.int .i64 (ii:Int)]) ?_ ?_
   ·simp only [execOp]
    go_simp
    simpa [ag] using e0
   ·refine (num_any (ii:Int) w).mono ?_
    rintro e w' ⟨rfl,hb⟩
    exact ⟨_,rfl,_,rfl,Ext.of hb,rfl,GK.later hg hb⟩
  | 4,hk,hd =>
   have s:(ops[4]?).map sig = some (some 108,.buildSlice 51 1 #[(0,.tmp 107)],51,none):=by subst hops;kernel_rfl
   have d3:=hd 3 (by decide) (by subst hops;kernel_rfl)
   have e0:ag a 107 = .agg #[.int .i64 0,.int .i64 (ii:Int),.slice none 0 0]:=d3
   refine op_val s (w':=w.alloc (.cells #[.int .i64 0,.int .i64 (ii:Int),.slice none 0 0] 53)) (v:=.slice (some ⟨w.heap.size,0,none⟩) 1 1) ?_ ⟨_,rfl,?_,?_,?_⟩
   ·simp only [execOp,List.map_toArray,List.map_cons,List.map_nil,eval_tmp,e0]
    go_simp
   ·exact Ext.of (new_later w _)
   ·exact ⟨_,rfl,hgs,Arr.new' w _ _ 3 _ rfl rfl (by decide)⟩
   ·exact GK.later hg (new_later w _)
  | 5,hk,hd =>
   have s:(ops[5]?).map sig = some (some 109,.call { callee:=.builtin .append,args:=#[.tmp 105,.tmp 108],argTypes:=#[51,51] },51,none):=by subst hops;kernel_rfl
   have d1:=hd 1 (by decide) (by subst hops;kernel_rfl)
   have d4:=hd 4 (by decide) (by subst hops;kernel_rfl)
   obtain ⟨gn,e9,hgn,hAn⟩:=d4
   have e9:ag a 108 = _:=e9
   have e6:ag a 105 = kv:=d1
   have hG1:=hg.gr (hip rfl)
   refine wpOp_of s fun o h1 h2 h3 h4 => ?_
   refine wp_putG (x:=[.int .i64 0,.int .i64 (ii:Int),.slice none 0 0]) (C:=[.int .i64 0,.int .i64 (ii:Int),.slice none 0 0]) hG1 rfl (Foot.const rfl) (Nat.le_trans hB hgs) ⟨by omega,by simp only [maxLen];omega⟩ Tryd.underlying51 info_val3 rfl (by decide) (List.all_eq_true.mp (by rfl)) (.tmp 105) (.tmp 108) h2 e6 e9 hAn.range ?_
   intro g cap w' hG2 hb2 hk2 hn2
   rw [h1]
   have hm:∀ k,k < B → w'.heap[k]? = w.heap[k]?:=fun k hk => hk2 k (by omega) (fun e => by have:=(hown k e).1;omega)
   refine ⟨_,rfl,⟨hb2.mono (Nat.zero_le _),fun g hg1 hg2 => hk2 g hg2 (fun e => ?_)⟩,⟨hG2,fun g' e => ?_⟩,?_⟩
   ·have:=(hown g e).2
    simp only [if_pos] at hg1
    omega
   ·have:g = g':=by simpa [Value.ownBlock] using e
    subst this
    exact hn2.imp (fun h => h) (fun h => by omega)
   ·exact ⟨fun k hk hn => (hk2 k (by omega) hn).trans (hg.old k hk hn),hg.bel.trans (hb2.mono (Nat.zero_le _)),Nat.le_trans hgs hb2.size,hg.ab.below hb2 hgB,fun h => by cases h⟩
  | 6,hk,hd =>
   have s:(ops[6]?).map sig = some (some 110,.fieldAddr 53 (.tmp 21) 2,0,none):=by subst hops;kernel_rfl
   refine op_val s (w':=w) (v:=.pointer (some ⟨gB,2,none⟩)) ?_ ⟨_,rfl,?_,?_,?_⟩
   ·have e0:ag a 21 = .pointer (some ⟨gB,0,none⟩):=(ho.off 21 (by decide)).trans hbx
    simp only [execOp,eval_tmp,e0]
    go_simp
   ·exact Ext.refl _ _
   ·rfl
   ·exact hg
  | n + 7,hn,_ => exact absurd hn (by omega)
 ·intro a w c ho _ hg hf
  have e90:ag a 110 = _:=hf 6 (by decide)
  obtain ⟨hG',hnew⟩:=hf 5 (by decide)
  obtain ⟨A',cap',hsh,_⟩:=hG'.shape
  have e88:ag a 109 = _:=hsh
  have hc:=hg.ab.cell (j:=2) (v:=kv) rfl
  have hfz:=hg.ab.free 2
  have s:(ops[7]?).map sig = some (none,.store 51 (.tmp 110) (.tmp 109),0,none):=by subst hops;kernel_rfl
  refine op_skip s (w':=w.setCell ⟨gB,2,none⟩ (ag a 109)) ?_ ?_
  ·rw [e88]
   simp only [execOp,eval_tmp,e90,e88]
   go_simp
  ·have hO:=Only.setCells gB 2 [ag a 109] w
   have hA2:=hg.ab.set_ 2 (ag a 109)
   exact hQ (ag a) (ag a 109) (w.setCell ⟨gB,2,none⟩ (ag a 109)) (hG'.keep (hO.bel.mono (Nat.zero_le _)) (fun g hgB _ => hO.2 g (by omega))) hnew hA2 (hg.bel.trans (hO.bel.mono (Nat.zero_le _))) (fun g hg1 hg2 hg3 => (hO.2 g hg2).trans (hg.old g hg1 hg3)) _ (ho.eq (fun s hs => by rw [hsz];revert s;decide))
def ksf23 (gB:Nat) (kv:Value) (B S:Nat) (acc:List (List Value)) (by_:Int) (r:Int):Nat → Value → World → Prop
 | 0,v,_ => v = .pointer (some ⟨gB,2,none⟩)
 | 1,v,_ => v = kv
 | 2,v,_ => v = .int .i64 by_
 | 3,v,_ => v = .int .i64 r
 | 4,v,_ => v = .agg #[.int .i64 r,.int .i64 0,.slice none 0 0]
 | 5,v,w => ∃ g,v = .slice (some ⟨g,0,none⟩) 1 1 ∧ S ≤ g ∧ Arr w g 3 53 [.int .i64 r,.int .i64 0,.slice none 0 0]
 | 6,v,w => GrowG 53 3 PC w B v (acc ++ [[.int .i64 r,.int .i64 0,.slice none 0 0]]) ∧ ∀ g,v.ownBlock = some g → kv.ownBlock = some g ∨ S ≤ g
 | 7,v,_ => v = .pointer (some ⟨gB,2,none⟩)
 | _,_,_ => True
theorem ksf23_ext (gB:Nat) (kv:Value) (B S:Nat) (acc:List (List Value)) (by_:Int) (r:Int) (hBS:B ≤ S):∀ j v w w' E,j < 8 → (E = B ∨ (E = S ∧ j ≠ 6)) → Ext E w w' → ksf23 gB kv B S acc by_ r j v w → ksf23 gB kv B S acc by_ r j v w':=by
 intro j v w w' E hj hE he h
 have hES:E ≤ S:=by omega
 match j,hj,h with
 | 0,_,h => exact h
 | 1,_,h => exact h
 | 2,_,h => exact h
 | 3,_,h => exact h
 | 4,_,h => exact h
 | 5,_,⟨g,h1,h2,h3⟩ => exact ⟨g,h1,h2,h3.ext he (by omega)⟩
 | 6,_,⟨h1,h2⟩ =>
  have:E = B:=by omega
  subst this
  exact ⟨h1.keep he.1 he.2,h2⟩
 | 7,_,h => exact h
 | n + 8,hn,_ => exact absurd hn (by omega)
def ksD23:List Nat:=[78,79,80,81,82,83,84,85]
def ksd23 (k:Nat):Nat:=78 + k
theorem ksd23_mem:∀ k,k < 8 → ksd23 k < 97 ∧ ksd23 k ∈ ksD23:=by decide
set_option maxHeartbeats 1000000 in
set_option maxRecDepth 100000 in
theorem ksreg23 {Q:Exit → Act → World → Prop} {id:Nat} {ops:Array Oper} (hops:ops = ((Tryd.f24.body).bind (opsOf 23)).getD #[]) (a0:Act) (w0:World) (gB:Nat) (kv:Value) (B:Nat) (acc:List (List Value)) (x0 x1:Value) (by_:Int) (r:Int) (hac:acc.length ≤ 1000000) (hsz:a0.tmps.size = 97)
  (hbx:ag a0 4 = .pointer (some ⟨gB,0,none⟩)) (h3:ag a0 3 = .int .i64 by_) (hgB:gB < B) (hB:B ≤ w0.heap.size) (hAb:Arr w0 gB 3 53 [x0,x1,kv]) (hG:GrowG 53 3 PC w0 B kv acc) (hAR:∀ W,Calls Tryd.prog 12 #[.int .i64 by_,.int .i64 5] W fun e w' => e = .returned (.int .i64 r) ∧ Below W.heap.size W w')
  (hQ:∀ (vs:Nat → Value) (kv':Value) (w':World),GrowG 53 3 PC w' B kv' (acc ++ [[.int .i64 r,.int .i64 0,.slice none 0 0]]) → (∀ g,kv'.ownBlock = some g → kv.ownBlock = some g ∨ w0.heap.size ≤ g) → Arr w' gB 3 53 [x0,x1,kv'] → Below 0 w0 w' → (∀ g,g < w0.heap.size → g ≠ gB → kv.ownBlock ≠ some g → w'.heap[g]? = w0.heap[g]?) → ∀ a',a' = ksD23.foldl (fun b s => b.put (some s) (vs s)) a0 → Q .normal a' w') :
  (Code.region id ops true).wp Tryd.prog Q a0 w0:=by
 have hown:∀ g,kv.ownBlock = some g → B ≤ g ∧ g < w0.heap.size:=hG.lt
 have hg0:GK gB x0 x1 kv B w0.heap.size w0 acc false w0.drew:=GK.later ⟨fun _ _ _ => rfl,Below.refl _ _,Nat.le_refl _,hAb,fun _ => hG⟩ (below_drewN (Below.refl _ _) 1)
 have hin:∀ (a:Nat) (k:Nat),a < 8 → k < 8 → ksd23 a = ksd23 k → a = k:=fun a k _ _ h => by unfold ksd23 at h;omega
 refine wp_region_facts 8 6 ksD23 ksd23 (ksf23 gB kv B w0.heap.size acc by_ r) (GK gB x0 x1 kv B w0.heap.size w0 acc) B w0.heap.size (by kernel_rfl) (by subst hops;kernel_rfl) (by subst hops;kernel_rfl) (by subst hops;kernel_rfl) (fun k hk => (ksd23_mem k hk).2) (fun k hk => by have:=(ksd23_mem k hk).1;omega) hin (ksf23_ext gB kv B w0.heap.size acc by_ r hB) hg0 ?_ ?_
 ·intro j a w c hj hip ho hg hd
  have hgs:=hg.sz
  match j,hj,hd with
  | 0,hk,hd =>
   have s:(ops[0]?).map sig = some (some 78,.fieldAddr 53 (.tmp 4) 2,0,none):=by subst hops;kernel_rfl
   refine op_val s (w':=w) (v:=.pointer (some ⟨gB,2,none⟩)) ?_ ⟨_,rfl,?_,?_,?_⟩
   ·have e0:ag a 4 = .pointer (some ⟨gB,0,none⟩):=(ho.off 4 (by decide)).trans hbx
    simp only [execOp,eval_tmp,e0]
    go_simp
   ·exact Ext.refl _ _
   ·rfl
   ·exact hg
  | 1,hk,hd =>
   have s:(ops[1]?).map sig = some (some 79,.load 51 (.tmp 78),51,none):=by subst hops;kernel_rfl
   have d0:=hd 0 (by decide) (by subst hops;kernel_rfl)
   refine op_val s (w':=w) (v:=kv) ?_ ⟨_,rfl,?_,?_,?_⟩
   ·have e0:ag a 78 = .pointer (some ⟨gB,2,none⟩):=d0
    have hc:=hg.ab.cell (j:=2) (v:=kv) rfl
    simp only [execOp,eval_tmp,e0]
    go_simp
   ·exact Ext.refl _ _
   ·rfl
   ·exact hg
  | 2,hk,hd =>
   have s:(ops[2]?).map sig = some (some 80,.move (.tmp 3),3,none):=by subst hops;kernel_rfl
   refine op_val s (w':=w) (v:=.int .i64 by_) ?_ ⟨_,rfl,?_,?_,?_⟩
   ·have e0:ag a 3 = .int .i64 by_:=(ho.off 3 (by decide)).trans h3
    exact congrArg (fun x => Result.ok (Next.value x) w) e0
   ·exact Ext.refl _ _
   ·rfl
   ·exact hg
  | 3,hk,hd =>
   have s:(ops[3]?).map sig = some (some 81,.call { callee:=.value (.func 12),args:=#[.tmp 80,.const (.int .i64 5)],argTypes:=#[3,3] },3,none):=by subst hops;kernel_rfl
   have d2:=hd 2 (by decide) (by subst hops;kernel_rfl)
   have e0:ag a 80 = .int .i64 by_:=d2
   refine op_call s (w':=w) (f:=12) (args:=#[.int .i64 by_,.int .i64 5]) ?_ ?_
   ·simp only [execOp]
    go_simp
    simpa [ag] using e0
   ·refine (hAR w).mono ?_
    rintro e w' ⟨rfl,hb⟩
    exact ⟨_,rfl,_,rfl,Ext.of hb,rfl,GK.later hg hb⟩
  | 4,hk,hd =>
   have s:(ops[4]?).map sig = some (some 82,.build 53 #[(0,.tmp 81)],53,none):=by subst hops;kernel_rfl
   have d3:=hd 3 (by decide) (by subst hops;kernel_rfl)
   have e0:ag a 81 = .int .i64 r:=d3
   have hb:(Instr.build 53 #[(0,.int .i64 r)]).run Tryd.prog w = .ok (.agg #[.int .i64 r,.int .i64 0,.slice none 0 0]) w:=run_build w _ _ _ (by kernel_rfl)
   refine op_val s (w':=w) (v:=.agg #[.int .i64 r,.int .i64 0,.slice none 0 0]) ?_ ⟨_,rfl,?_,?_,?_⟩
   ·have et:a.eval (.tmp 81) = .int .i64 r:=e0
    simp only [execOp,List.map_toArray,List.map_cons,List.map_nil,et,Sem.run_bind,hb]
    rfl
   ·exact Ext.refl _ _
   ·rfl
   ·exact hg
  | 5,hk,hd =>
   have s:(ops[5]?).map sig = some (some 83,.buildSlice 51 1 #[(0,.tmp 82)],51,none):=by subst hops;kernel_rfl
   have d4:=hd 4 (by decide) (by subst hops;kernel_rfl)
   have e0:ag a 82 = .agg #[.int .i64 r,.int .i64 0,.slice none 0 0]:=d4
   refine op_val s (w':=w.alloc (.cells #[.int .i64 r,.int .i64 0,.slice none 0 0] 53)) (v:=.slice (some ⟨w.heap.size,0,none⟩) 1 1) ?_ ⟨_,rfl,?_,?_,?_⟩
   ·simp only [execOp,List.map_toArray,List.map_cons,List.map_nil,eval_tmp,e0]
    go_simp
   ·exact Ext.of (new_later w _)
   ·exact ⟨_,rfl,hgs,Arr.new' w _ _ 3 _ rfl rfl (by decide)⟩
   ·exact GK.later hg (new_later w _)
  | 6,hk,hd =>
   have s:(ops[6]?).map sig = some (some 84,.call { callee:=.builtin .append,args:=#[.tmp 79,.tmp 83],argTypes:=#[51,51] },51,none):=by subst hops;kernel_rfl
   have d1:=hd 1 (by decide) (by subst hops;kernel_rfl)
   have d5:=hd 5 (by decide) (by subst hops;kernel_rfl)
   obtain ⟨gn,e9,hgn,hAn⟩:=d5
   have e9:ag a 83 = _:=e9
   have e6:ag a 79 = kv:=d1
   have hG1:=hg.gr (hip rfl)
   refine wpOp_of s fun o h1 h2 h3 h4 => ?_
   refine wp_putG (x:=[.int .i64 r,.int .i64 0,.slice none 0 0]) (C:=[.int .i64 r,.int .i64 0,.slice none 0 0]) hG1 rfl (Foot.const rfl) (Nat.le_trans hB hgs) ⟨by omega,by simp only [maxLen];omega⟩ Tryd.underlying51 info_val3 rfl (by decide) (List.all_eq_true.mp (by rfl)) (.tmp 79) (.tmp 83) h2 e6 e9 hAn.range ?_
   intro g cap w' hG2 hb2 hk2 hn2
   rw [h1]
   have hm:∀ k,k < B → w'.heap[k]? = w.heap[k]?:=fun k hk => hk2 k (by omega) (fun e => by have:=(hown k e).1;omega)
   refine ⟨_,rfl,⟨hb2.mono (Nat.zero_le _),fun g hg1 hg2 => hk2 g hg2 (fun e => ?_)⟩,⟨hG2,fun g' e => ?_⟩,?_⟩
   ·have:=(hown g e).2
    simp only [if_pos] at hg1
    omega
   ·have:g = g':=by simpa [Value.ownBlock] using e
    subst this
    exact hn2.imp (fun h => h) (fun h => by omega)
   ·exact ⟨fun k hk hn => (hk2 k (by omega) hn).trans (hg.old k hk hn),hg.bel.trans (hb2.mono (Nat.zero_le _)),Nat.le_trans hgs hb2.size,hg.ab.below hb2 hgB,fun h => by cases h⟩
  | 7,hk,hd =>
   have s:(ops[7]?).map sig = some (some 85,.fieldAddr 53 (.tmp 4) 2,0,none):=by subst hops;kernel_rfl
   refine op_val s (w':=w) (v:=.pointer (some ⟨gB,2,none⟩)) ?_ ⟨_,rfl,?_,?_,?_⟩
   ·have e0:ag a 4 = .pointer (some ⟨gB,0,none⟩):=(ho.off 4 (by decide)).trans hbx
    simp only [execOp,eval_tmp,e0]
    go_simp
   ·exact Ext.refl _ _
   ·rfl
   ·exact hg
  | n + 8,hn,_ => exact absurd hn (by omega)
 ·intro a w c ho _ hg hf
  have e90:ag a 85 = _:=hf 7 (by decide)
  obtain ⟨hG',hnew⟩:=hf 6 (by decide)
  obtain ⟨A',cap',hsh,_⟩:=hG'.shape
  have e88:ag a 84 = _:=hsh
  have hc:=hg.ab.cell (j:=2) (v:=kv) rfl
  have hfz:=hg.ab.free 2
  have s:(ops[8]?).map sig = some (none,.store 51 (.tmp 85) (.tmp 84),0,none):=by subst hops;kernel_rfl
  refine op_skip s (w':=w.setCell ⟨gB,2,none⟩ (ag a 84)) ?_ ?_
  ·rw [e88]
   simp only [execOp,eval_tmp,e90,e88]
   go_simp
  ·have hO:=Only.setCells gB 2 [ag a 84] w
   have hA2:=hg.ab.set_ 2 (ag a 84)
   exact hQ (ag a) (ag a 84) (w.setCell ⟨gB,2,none⟩ (ag a 84)) (hG'.keep (hO.bel.mono (Nat.zero_le _)) (fun g hgB _ => hO.2 g (by omega))) hnew hA2 (hg.bel.trans (hO.bel.mono (Nat.zero_le _))) (fun g hg1 hg2 hg3 => (hO.2 g hg2).trans (hg.old g hg1 hg3)) _ (ho.eq (fun s hs => by rw [hsz];revert s;decide))
end Go.Proofs.YtkpoiljioadfgaaDoor
