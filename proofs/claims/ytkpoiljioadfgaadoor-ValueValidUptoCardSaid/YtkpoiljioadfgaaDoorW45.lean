import Derived.Test.YtkpoiljioadfgaaDoorW32
import Derived.Test.YtkpoiljioadfgaaDoorW33
set_option linter.unusedVariables false
set_option linter.unusedSimpArgs false
namespace Go.Proofs.YtkpoiljioadfgaaDoor
open Go.RowKit
def vwf5 (g14 g15 g17 g18 g19 g20 kk pl pc:Nat) (mv:Value) (pA:Option Addr) (tk ts tq ti:Int) (tA:Option Addr) (tl tc:Nat) (vk vn:Int) (vA:Option Addr) (vl vc:Nat) (xk xn:Int) (xA:Option Addr) (xl xc:Nat) (yk yn:Int) (yA:Option Addr) (yl yc:Nat) (b1 b2 b3 b4:Bool):Nat → Value → World → Prop
 | 0,v,w => v = .agg #[mv,.slice pA pl pc]
 | 1,v,w => v = .agg #[.int .i64 3,.int .i64 0,.int .i64 1,.int .i64 (1 + (kk:Int)),.slice none 0 0]
 | 2,v,w => v = .agg #[.int .i64 xk,.int .i64 xn,.slice xA xl xc]
 | 3,v,w => v = .bool true
 | 4,v,w => v = .bool false
 | 5,v,w => v = .bool false
 | 6,v,w => v = .agg #[mv,.slice pA pl pc]
 | 7,v,w => v = .agg #[.int .i64 3,.int .i64 0,.int .i64 1,.int .i64 (1 + (kk:Int)),.slice none 0 0]
 | 8,v,w => v = .agg #[.int .i64 yk,.int .i64 yn,.slice yA yl yc]
 | 9,v,w => v = .bool b1
 | 10,v,w => v = .agg #[mv,.slice pA pl pc]
 | 11,v,w => v = .agg #[.int .i64 3,.int .i64 0,.int .i64 1,.int .i64 (1 + (kk:Int)),.slice none 0 0]
 | 12,v,w => v = .agg #[.int .i64 yk,.int .i64 yn,.slice yA yl yc]
 | 13,v,w => v = .bool b1
 | 14,v,w => v = .bool false
 | 15,v,w => v = .bool false
 | 16,v,w => v = .bool false
 | 17,v,w => v = .agg #[mv,.slice pA pl pc]
 | 18,v,w => v = .agg #[.int .i64 tk,.int .i64 ts,.int .i64 tq,.int .i64 ti,.slice tA tl tc]
 | 19,v,w => v = .agg #[.int .i64 vk,.int .i64 vn,.slice vA vl vc]
 | 20,v,w => v = .bool b2
 | 21,v,w => v = .agg #[mv,.slice pA pl pc]
 | 22,v,w => v = .agg #[.int .i64 tk,.int .i64 ts,.int .i64 tq,.int .i64 ti,.slice tA tl tc]
 | 23,v,w => v = .agg #[.int .i64 vk,.int .i64 vn,.slice vA vl vc]
 | 24,v,w => v = .bool b2
 | 25,v,w => v = .bool false
 | 26,v,w => v = .bool false
 | 27,v,w => v = .bool false
 | 28,v,w => v = .agg #[mv,.slice pA pl pc]
 | 29,v,w => v = .agg #[.int .i64 3,.int .i64 0,.int .i64 1,.int .i64 (1 + (kk:Int)),.slice none 0 0]
 | 30,v,w => v = .agg #[.int .i64 vk,.int .i64 vn,.slice vA vl vc]
 | 31,v,w => v = .bool b3
 | 32,v,w => v = .agg #[mv,.slice pA pl pc]
 | 33,v,w => v = .agg #[.int .i64 3,.int .i64 0,.int .i64 1,.int .i64 (1 + (kk:Int)),.slice none 0 0]
 | 34,v,w => v = .agg #[.int .i64 vk,.int .i64 vn,.slice vA vl vc]
 | 35,v,w => v = .bool b3
 | 36,v,w => v = .bool false
 | 37,v,w => v = .bool false
 | 38,v,w => v = .bool false
 | 39,v,w => v = .agg #[mv,.slice pA pl pc]
 | 40,v,w => v = .agg #[.int .i64 tk,.int .i64 ts,.int .i64 tq,.int .i64 ti,.slice tA tl tc]
 | 41,v,w => v = .agg #[.int .i64 xk,.int .i64 xn,.slice xA xl xc]
 | 42,v,w => v = .bool b4
 | 43,v,w => v = .agg #[mv,.slice pA pl pc]
 | 44,v,w => v = .agg #[.int .i64 tk,.int .i64 ts,.int .i64 tq,.int .i64 ti,.slice tA tl tc]
 | 45,v,w => v = .agg #[.int .i64 xk,.int .i64 xn,.slice xA xl xc]
 | 46,v,w => v = .bool b4
 | 47,v,w => v = .bool false
 | _,_,_ => True
theorem vwf5_ext (g14 g15 g17 g18 g19 g20 kk pl pc:Nat) (mv:Value) (pA:Option Addr) (tk ts tq ti:Int) (tA:Option Addr) (tl tc:Nat) (vk vn:Int) (vA:Option Addr) (vl vc:Nat) (xk xn:Int) (xA:Option Addr) (xl xc:Nat) (yk yn:Int) (yA:Option Addr) (yl yc:Nat) (b1 b2 b3 b4:Bool) (S:Nat):∀ j v w w',j < 48 → (Ext S w w' ∨ (j ≠ 999 ∧ Never w w')) → vwf5 g14 g15 g17 g18 g19 g20 kk pl pc mv pA tk ts tq ti tA tl tc vk vn vA vl vc xk xn xA xl xc yk yn yA yl yc b1 b2 b3 b4 j v w → vwf5 g14 g15 g17 g18 g19 g20 kk pl pc mv pA tk ts tq ti tA tl tc vk vn vA vl vc xk xn xA xl xc yk yn yA yl yc b1 b2 b3 b4 j v w':=by
 intro j v w w' hj he h
 match j,hj,he,h with
 | 0,_,he,h => exact h
 | 1,_,he,h => exact h
 | 2,_,he,h => exact h
 | 3,_,he,h => exact h
 | 4,_,he,h => exact h
 | 5,_,he,h => exact h
 | 6,_,he,h => exact h
 | 7,_,he,h => exact h
 | 8,_,he,h => exact h
 | 9,_,he,h => exact h
 | 10,_,he,h => exact h
 | 11,_,he,h => exact h
 | 12,_,he,h => exact h
 | 13,_,he,h => exact h
 | 14,_,he,h => exact h
 | 15,_,he,h => exact h
 | 16,_,he,h => exact h
 | 17,_,he,h => exact h
 | 18,_,he,h => exact h
 | 19,_,he,h => exact h
 | 20,_,he,h => exact h
 | 21,_,he,h => exact h
 | 22,_,he,h => exact h
 | 23,_,he,h => exact h
 | 24,_,he,h => exact h
 | 25,_,he,h => exact h
 | 26,_,he,h => exact h
 | 27,_,he,h => exact h
 | 28,_,he,h => exact h
 | 29,_,he,h => exact h
 | 30,_,he,h => exact h
 | 31,_,he,h => exact h
 | 32,_,he,h => exact h
 | 33,_,he,h => exact h
 | 34,_,he,h => exact h
 | 35,_,he,h => exact h
 | 36,_,he,h => exact h
 | 37,_,he,h => exact h
 | 38,_,he,h => exact h
 | 39,_,he,h => exact h
 | 40,_,he,h => exact h
 | 41,_,he,h => exact h
 | 42,_,he,h => exact h
 | 43,_,he,h => exact h
 | 44,_,he,h => exact h
 | 45,_,he,h => exact h
 | 46,_,he,h => exact h
 | 47,_,he,h => exact h
 | n + 48,hn,_,_ => exact absurd hn (by omega)
def vwD5:List Nat:=[47,48,49,50,51,52,53,54,55,56,57,58,59,60,61,62,63,64,65,66,67,68,69,70,71,72,73,74,75,76,77,78,79,80,81,82,83,84,85,86,87,88,89,90,91,92,93,94]
def vwd5 (k:Nat):Nat:=[47,48,49,50,51,52,53,54,55,56,57,58,59,60,61,62,63,64,65,66,67,68,69,70,71,72,73,74,75,76,77,78,79,80,81,82,83,84,85,86,87,88,89,90,91,92,93,94].getD k 0
theorem vwd5_mem:∀ k,k < 48 → vwd5 k < 150 ∧ vwd5 k ∈ vwD5:=by decide
theorem vwd5_inj:∀ i,i < 48 → ∀ k,k < 48 → k ≠ i → vwd5 i ≠ vwd5 k:=by decide
set_option maxHeartbeats 4000000 in
set_option maxRecDepth 100000 in
theorem vwreg5 {Q:Exit → Act → World → Prop} {id:Nat} {ops:Array Oper} (hops:ops = ((Tryd.f4.body).bind (opsOf 5)).getD #[]) (a0:Act) (w0:World) (g14 g15 g17 g18 g19 g20 kk pl pc:Nat) (mv:Value) (pA:Option Addr) (tk ts tq ti:Int) (tA:Option Addr) (tl tc:Nat) (vk vn:Int) (vA:Option Addr) (vl vc:Nat) (xk xn:Int) (xA:Option Addr) (xl xc:Nat) (yk yn:Int) (yA:Option Addr) (yl yc:Nat) (b1 b2 b3 b4:Bool) (hsz:a0.tmps.size = 150)
  (h14:ag a0 14 = .pointer (some ⟨g14,0,none⟩)) (h15:ag a0 15 = .pointer (some ⟨g15,0,none⟩)) (h17:ag a0 17 = .pointer (some ⟨g17,0,none⟩)) (h18:ag a0 18 = .pointer (some ⟨g18,0,none⟩)) (h19:ag a0 19 = .pointer (some ⟨g19,0,none⟩)) (h20:ag a0 20 = .pointer (some ⟨g20,0,none⟩)) (hp:w0.rangeAt g17 0 [mv,.slice pA pl pc]) (ho2:w0.rangeAt g18 0 [.int .i64 3,.int .i64 0,.int .i64 1,.int .i64 (1 + (kk:Int)),.slice none 0 0]) (hx:w0.rangeAt g19 0 [.int .i64 xk,.int .i64 xn,.slice xA xl xc]) (hy:w0.rangeAt g20 0 [.int .i64 yk,.int .i64 yn,.slice yA yl yc]) (ht:w0.rangeAt g14 0 [.int .i64 tk,.int .i64 ts,.int .i64 tq,.int .i64 ti,.slice tA tl tc]) (hv:w0.rangeAt g15 0 [.int .i64 vk,.int .i64 vn,.slice vA vl vc]) (c0:∀ W,Below w0.heap.size w0 W → Calls Tryd.prog 25 #[.agg #[mv,.slice pA pl pc],.agg #[.int .i64 3,.int .i64 0,.int .i64 1,.int .i64 (1 + (kk:Int)),.slice none 0 0],.agg #[.int .i64 xk,.int .i64 xn,.slice xA xl xc]] W (BRes true W)) (c1:∀ W,Below w0.heap.size w0 W → Calls Tryd.prog 25 #[.agg #[mv,.slice pA pl pc],.agg #[.int .i64 3,.int .i64 0,.int .i64 1,.int .i64 (1 + (kk:Int)),.slice none 0 0],.agg #[.int .i64 yk,.int .i64 yn,.slice yA yl yc]] W (BRes b1 W)) (c2:∀ W,Below w0.heap.size w0 W → Calls Tryd.prog 26 #[.agg #[mv,.slice pA pl pc],.agg #[.int .i64 3,.int .i64 0,.int .i64 1,.int .i64 (1 + (kk:Int)),.slice none 0 0],.agg #[.int .i64 yk,.int .i64 yn,.slice yA yl yc]] W (BRes b1 W)) (c3:∀ W,Below w0.heap.size w0 W → Calls Tryd.prog 25 #[.agg #[mv,.slice pA pl pc],.agg #[.int .i64 tk,.int .i64 ts,.int .i64 tq,.int .i64 ti,.slice tA tl tc],.agg #[.int .i64 vk,.int .i64 vn,.slice vA vl vc]] W (BRes b2 W)) (c4:∀ W,Below w0.heap.size w0 W → Calls Tryd.prog 26 #[.agg #[mv,.slice pA pl pc],.agg #[.int .i64 tk,.int .i64 ts,.int .i64 tq,.int .i64 ti,.slice tA tl tc],.agg #[.int .i64 vk,.int .i64 vn,.slice vA vl vc]] W (BRes b2 W)) (c5:∀ W,Below w0.heap.size w0 W → Calls Tryd.prog 25 #[.agg #[mv,.slice pA pl pc],.agg #[.int .i64 3,.int .i64 0,.int .i64 1,.int .i64 (1 + (kk:Int)),.slice none 0 0],.agg #[.int .i64 vk,.int .i64 vn,.slice vA vl vc]] W (BRes b3 W)) (c6:∀ W,Below w0.heap.size w0 W → Calls Tryd.prog 26 #[.agg #[mv,.slice pA pl pc],.agg #[.int .i64 3,.int .i64 0,.int .i64 1,.int .i64 (1 + (kk:Int)),.slice none 0 0],.agg #[.int .i64 vk,.int .i64 vn,.slice vA vl vc]] W (BRes b3 W)) (c7:∀ W,Below w0.heap.size w0 W → Calls Tryd.prog 25 #[.agg #[mv,.slice pA pl pc],.agg #[.int .i64 tk,.int .i64 ts,.int .i64 tq,.int .i64 ti,.slice tA tl tc],.agg #[.int .i64 xk,.int .i64 xn,.slice xA xl xc]] W (BRes b4 W)) (c8:∀ W,Below w0.heap.size w0 W → Calls Tryd.prog 26 #[.agg #[mv,.slice pA pl pc],.agg #[.int .i64 tk,.int .i64 ts,.int .i64 tq,.int .i64 ti,.slice tA tl tc],.agg #[.int .i64 xk,.int .i64 xn,.slice xA xl xc]] W (BRes b4 W))
  (hQ:∀ (vs:Nat → Value) (w':World),vs 95 = .bool false → Below w0.heap.size w0 w' → ∀ a',a' = (vwD5 ++ [95]).foldl (fun b s => b.put (some s) (vs s)) a0 → Q .normal a' w') :
  (Code.region id ops true).wp Tryd.prog Q a0 w0:=by
 have hg0:Below w0.heap.size w0 w0.drew:=below_drewN (Below.refl _ _) 1
 have hlt:∀ k,k < 48 → vwd5 k < a0.tmps.size:=fun k hk => by have:=(vwd5_mem k hk).1;omega
 refine wp_region_factsE 48 999 vwD5 vwd5 (vwf5 g14 g15 g17 g18 g19 g20 kk pl pc mv pA tk ts tq ti tA tl tc vk vn vA vl vc xk xn xA xl xc yk yn yA yl yc b1 b2 b3 b4) (fun w => Below w0.heap.size w0 w) w0.heap.size Never (fun k => k) (by kernel_rfl) (by subst hops;kernel_rfl) (by subst hops;kernel_rfl) (by subst hops;kernel_rfl) (vwf5_ext g14 g15 g17 g18 g19 g20 kk pl pc mv pA tk ts tq ti tA tl tc vk vn vA vl vc xk xn xA xl xc yk yn yA yl yc b1 b2 b3 b4 w0.heap.size) hg0 ?_ ?_
 ·intro j a w hj ho hg hd
  have hgs:=hg.size
  match j,hj,hd with
  | 0,hk,hd =>
   have s:(ops[0]?).map sig = some (some 47,.load 26 (.tmp 17),26,none):=by subst hops;kernel_rfl
   have hgd:GdOk ops a none:=trivial
   have e0:ag a 17 = .pointer (some ⟨g17,0,none⟩):=(ho.off 17 (by decide)).trans h17
   refine op_loadg s hgd g17 0 e0 [mv,.slice pA pl pc] _ (range_below hp hg) Tryd.underlying26 rfl info_prog ?_
   exact PostE.put (i:=0) ho (vwd5_mem 0 hk).2 (hlt 0 hk) (fun k hk2 hne _ => vwd5_inj 0 hk k hk2 hne) (.inl (Ext.refl _ _)) rfl hg
  | 1,hk,hd =>
   have s:(ops[1]?).map sig = some (some 48,.load 31 (.tmp 18),31,none):=by subst hops;kernel_rfl
   have hgd:GdOk ops a none:=trivial
   have e0:ag a 18 = .pointer (some ⟨g18,0,none⟩):=(ho.off 18 (by decide)).trans h18
   refine op_loadg s hgd g18 0 e0 [.int .i64 3,.int .i64 0,.int .i64 1,.int .i64 (1 + (kk:Int)),.slice none 0 0] _ (range_below ho2 hg) Tryd.underlying31 rfl info_typesz ?_
   exact PostE.put (i:=1) ho (vwd5_mem 1 hk).2 (hlt 1 hk) (fun k hk2 hne _ => vwd5_inj 1 hk k hk2 hne) (.inl (Ext.refl _ _)) rfl hg
  | 2,hk,hd =>
   have s:(ops[2]?).map sig = some (some 49,.load 53 (.tmp 19),53,none):=by subst hops;kernel_rfl
   have hgd:GdOk ops a none:=trivial
   have e0:ag a 19 = .pointer (some ⟨g19,0,none⟩):=(ho.off 19 (by decide)).trans h19
   refine op_loadg s hgd g19 0 e0 [.int .i64 xk,.int .i64 xn,.slice xA xl xc] _ (range_below hx hg) Tryd.underlying53 rfl info_val ?_
   exact PostE.put (i:=2) ho (vwd5_mem 2 hk).2 (hlt 2 hk) (fun k hk2 hne _ => vwd5_inj 2 hk k hk2 hne) (.inl (Ext.refl _ _)) rfl hg
  | 3,hk,hd =>
   have s:(ops[3]?).map sig = some (some 50,.call { callee:=.value (.func 25),args:=#[.tmp 47,.tmp 48,.tmp 49],argTypes:=#[26,31,53] },4,none):=by subst hops;kernel_rfl
   have hgd:GdOk ops a none:=trivial
   have d0:=hd 0 (by decide) (by subst hops;kernel_rfl)
   have d1:=hd 1 (by decide) (by subst hops;kernel_rfl)
   have d2:=hd 2 (by decide) (by subst hops;kernel_rfl)
   have e0:ag a 47 = .agg #[mv,.slice pA pl pc]:=d0
   have e1:ag a 48 = .agg #[.int .i64 3,.int .i64 0,.int .i64 1,.int .i64 (1 + (kk:Int)),.slice none 0 0]:=d1
   have e2:ag a 49 = .agg #[.int .i64 xk,.int .i64 xn,.slice xA xl xc]:=d2
   refine op_callg s hgd (w':=w) (f:=25) (args:=#[.agg #[mv,.slice pA pl pc],.agg #[.int .i64 3,.int .i64 0,.int .i64 1,.int .i64 (1 + (kk:Int)),.slice none 0 0],.agg #[.int .i64 xk,.int .i64 xn,.slice xA xl xc]]) ?_ ?_
   ·simp only [execOp]
    go_simp
    refine ⟨by simpa [ag] using e0,by simpa [ag] using e1,by simpa [ag] using e2⟩
   ·refine ((show Calls Tryd.prog _ #[.agg #[mv,.slice pA pl pc],.agg #[.int .i64 3,.int .i64 0,.int .i64 1,.int .i64 (1 + (kk:Int)),.slice none 0 0],.agg #[.int .i64 xk,.int .i64 xn,.slice xA xl xc]] w (BRes true w) from c0 w hg)).mono ?_
    rintro e w' ⟨rfl,hb⟩
    exact ⟨_,rfl,PostE.put (i:=3) ho (vwd5_mem 3 hk).2 (hlt 3 hk) (fun k hk2 hne _ => vwd5_inj 3 hk k hk2 hne) (.inl (Ext.of hb)) rfl (later hg hb)⟩
  | 4,hk,hd =>
   have s:(ops[4]?).map sig = some (some 51,.unOp .not 4 (.tmp 50),4,none):=by subst hops;kernel_rfl
   have hgd:GdOk ops a none:=trivial
   have d3:=hd 3 (by decide) (by subst hops;kernel_rfl)
   have e0:ag a 50 = .bool true:=d3
   refine op_valg s hgd (w':=w) (v:=.bool false) ?_ ?_
   ·simp only [execOp,eval_tmp,e0]
    go_simp
   ·exact PostE.put (i:=4) ho (vwd5_mem 4 hk).2 (hlt 4 hk) (fun k hk2 hne _ => vwd5_inj 4 hk k hk2 hne) (.inl (Ext.refl _ _)) rfl hg
  | 5,hk,hd =>
   have s:(ops[5]?).map sig = some (some 52,.move (.tmp 51),4,none):=by subst hops;kernel_rfl
   have hgd:GdOk ops a none:=trivial
   have d4:=hd 4 (by decide) (by subst hops;kernel_rfl)
   have e0:ag a 51 = .bool false:=d4
   refine op_valg s hgd (w':=w) (v:=.bool false) ?_ ?_
   ·exact congrArg (fun x => Result.ok (Next.value x) w) e0
   ·exact PostE.put (i:=5) ho (vwd5_mem 5 hk).2 (hlt 5 hk) (fun k hk2 hne _ => vwd5_inj 5 hk k hk2 hne) (.inl (Ext.refl _ _)) rfl hg
  | 6,hk,hd =>
   have s:(ops[6]?).map sig = some (some 53,.load 26 (.tmp 17),26,some (5,false)):=by subst hops;kernel_rfl
   have hgd:GdOk ops a (some (5,false)):=yielded_of (d:=52) (by subst hops;kernel_rfl) (hd 5 (by decide) (by subst hops;kernel_rfl))
   have e0:ag a 17 = .pointer (some ⟨g17,0,none⟩):=(ho.off 17 (by decide)).trans h17
   refine op_loadg s hgd g17 0 e0 [mv,.slice pA pl pc] _ (range_below hp hg) Tryd.underlying26 rfl info_prog ?_
   exact PostE.put (i:=6) ho (vwd5_mem 6 hk).2 (hlt 6 hk) (fun k hk2 hne _ => vwd5_inj 6 hk k hk2 hne) (.inl (Ext.refl _ _)) rfl hg
  | 7,hk,hd =>
   have s:(ops[7]?).map sig = some (some 54,.load 31 (.tmp 18),31,some (5,false)):=by subst hops;kernel_rfl
   have hgd:GdOk ops a (some (5,false)):=yielded_of (d:=52) (by subst hops;kernel_rfl) (hd 5 (by decide) (by subst hops;kernel_rfl))
   have e0:ag a 18 = .pointer (some ⟨g18,0,none⟩):=(ho.off 18 (by decide)).trans h18
   refine op_loadg s hgd g18 0 e0 [.int .i64 3,.int .i64 0,.int .i64 1,.int .i64 (1 + (kk:Int)),.slice none 0 0] _ (range_below ho2 hg) Tryd.underlying31 rfl info_typesz ?_
   exact PostE.put (i:=7) ho (vwd5_mem 7 hk).2 (hlt 7 hk) (fun k hk2 hne _ => vwd5_inj 7 hk k hk2 hne) (.inl (Ext.refl _ _)) rfl hg
  | 8,hk,hd =>
   have s:(ops[8]?).map sig = some (some 55,.load 53 (.tmp 20),53,some (5,false)):=by subst hops;kernel_rfl
   have hgd:GdOk ops a (some (5,false)):=yielded_of (d:=52) (by subst hops;kernel_rfl) (hd 5 (by decide) (by subst hops;kernel_rfl))
   have e0:ag a 20 = .pointer (some ⟨g20,0,none⟩):=(ho.off 20 (by decide)).trans h20
   refine op_loadg s hgd g20 0 e0 [.int .i64 yk,.int .i64 yn,.slice yA yl yc] _ (range_below hy hg) Tryd.underlying53 rfl info_val ?_
   exact PostE.put (i:=8) ho (vwd5_mem 8 hk).2 (hlt 8 hk) (fun k hk2 hne _ => vwd5_inj 8 hk k hk2 hne) (.inl (Ext.refl _ _)) rfl hg
  | 9,hk,hd =>
   have s:(ops[9]?).map sig = some (some 56,.call { callee:=.value (.func 25),args:=#[.tmp 53,.tmp 54,.tmp 55],argTypes:=#[26,31,53] },4,some (5,false)):=by subst hops;kernel_rfl
   have hgd:GdOk ops a (some (5,false)):=yielded_of (d:=52) (by subst hops;kernel_rfl) (hd 5 (by decide) (by subst hops;kernel_rfl))
   have d6:=hd 6 (by decide) (by subst hops;kernel_rfl)
   have d7:=hd 7 (by decide) (by subst hops;kernel_rfl)
   have d8:=hd 8 (by decide) (by subst hops;kernel_rfl)
   have e0:ag a 53 = .agg #[mv,.slice pA pl pc]:=d6
   have e1:ag a 54 = .agg #[.int .i64 3,.int .i64 0,.int .i64 1,.int .i64 (1 + (kk:Int)),.slice none 0 0]:=d7
   have e2:ag a 55 = .agg #[.int .i64 yk,.int .i64 yn,.slice yA yl yc]:=d8
   refine op_callg s hgd (w':=w) (f:=25) (args:=#[.agg #[mv,.slice pA pl pc],.agg #[.int .i64 3,.int .i64 0,.int .i64 1,.int .i64 (1 + (kk:Int)),.slice none 0 0],.agg #[.int .i64 yk,.int .i64 yn,.slice yA yl yc]]) ?_ ?_
   ·simp only [execOp]
    go_simp
    refine ⟨by simpa [ag] using e0,by simpa [ag] using e1,by simpa [ag] using e2⟩
   ·refine ((show Calls Tryd.prog _ #[.agg #[mv,.slice pA pl pc],.agg #[.int .i64 3,.int .i64 0,.int .i64 1,.int .i64 (1 + (kk:Int)),.slice none 0 0],.agg #[.int .i64 yk,.int .i64 yn,.slice yA yl yc]] w (BRes b1 w) from c1 w hg)).mono ?_
    rintro e w' ⟨rfl,hb⟩
    exact ⟨_,rfl,PostE.put (i:=9) ho (vwd5_mem 9 hk).2 (hlt 9 hk) (fun k hk2 hne _ => vwd5_inj 9 hk k hk2 hne) (.inl (Ext.of hb)) rfl (later hg hb)⟩
  | 10,hk,hd =>
   have s:(ops[10]?).map sig = some (some 57,.load 26 (.tmp 17),26,some (5,false)):=by subst hops;kernel_rfl
   have hgd:GdOk ops a (some (5,false)):=yielded_of (d:=52) (by subst hops;kernel_rfl) (hd 5 (by decide) (by subst hops;kernel_rfl))
   have e0:ag a 17 = .pointer (some ⟨g17,0,none⟩):=(ho.off 17 (by decide)).trans h17
   refine op_loadg s hgd g17 0 e0 [mv,.slice pA pl pc] _ (range_below hp hg) Tryd.underlying26 rfl info_prog ?_
   exact PostE.put (i:=10) ho (vwd5_mem 10 hk).2 (hlt 10 hk) (fun k hk2 hne _ => vwd5_inj 10 hk k hk2 hne) (.inl (Ext.refl _ _)) rfl hg
  | 11,hk,hd =>
   have s:(ops[11]?).map sig = some (some 58,.load 31 (.tmp 18),31,some (5,false)):=by subst hops;kernel_rfl
   have hgd:GdOk ops a (some (5,false)):=yielded_of (d:=52) (by subst hops;kernel_rfl) (hd 5 (by decide) (by subst hops;kernel_rfl))
   have e0:ag a 18 = .pointer (some ⟨g18,0,none⟩):=(ho.off 18 (by decide)).trans h18
   refine op_loadg s hgd g18 0 e0 [.int .i64 3,.int .i64 0,.int .i64 1,.int .i64 (1 + (kk:Int)),.slice none 0 0] _ (range_below ho2 hg) Tryd.underlying31 rfl info_typesz ?_
   exact PostE.put (i:=11) ho (vwd5_mem 11 hk).2 (hlt 11 hk) (fun k hk2 hne _ => vwd5_inj 11 hk k hk2 hne) (.inl (Ext.refl _ _)) rfl hg
  | 12,hk,hd =>
   have s:(ops[12]?).map sig = some (some 59,.load 53 (.tmp 20),53,some (5,false)):=by subst hops;kernel_rfl
   have hgd:GdOk ops a (some (5,false)):=yielded_of (d:=52) (by subst hops;kernel_rfl) (hd 5 (by decide) (by subst hops;kernel_rfl))
   have e0:ag a 20 = .pointer (some ⟨g20,0,none⟩):=(ho.off 20 (by decide)).trans h20
   refine op_loadg s hgd g20 0 e0 [.int .i64 yk,.int .i64 yn,.slice yA yl yc] _ (range_below hy hg) Tryd.underlying53 rfl info_val ?_
   exact PostE.put (i:=12) ho (vwd5_mem 12 hk).2 (hlt 12 hk) (fun k hk2 hne _ => vwd5_inj 12 hk k hk2 hne) (.inl (Ext.refl _ _)) rfl hg
  | 13,hk,hd =>
   have s:(ops[13]?).map sig = some (some 60,.call { callee:=.value (.func 26),args:=#[.tmp 57,.tmp 58,.tmp 59],argTypes:=#[26,31,53] },4,some (5,false)):=by subst hops;kernel_rfl
   have hgd:GdOk ops a (some (5,false)):=yielded_of (d:=52) (by subst hops;kernel_rfl) (hd 5 (by decide) (by subst hops;kernel_rfl))
   have d10:=hd 10 (by decide) (by subst hops;kernel_rfl)
   have d11:=hd 11 (by decide) (by subst hops;kernel_rfl)
   have d12:=hd 12 (by decide) (by subst hops;kernel_rfl)
   have e0:ag a 57 = .agg #[mv,.slice pA pl pc]:=d10
   have e1:ag a 58 = .agg #[.int .i64 3,.int .i64 0,.int .i64 1,.int .i64 (1 + (kk:Int)),.slice none 0 0]:=d11
   have e2:ag a 59 = .agg #[.int .i64 yk,.int .i64 yn,.slice yA yl yc]:=d12
   refine op_callg s hgd (w':=w) (f:=26) (args:=#[.agg #[mv,.slice pA pl pc],.agg #[.int .i64 3,.int .i64 0,.int .i64 1,.int .i64 (1 + (kk:Int)),.slice none 0 0],.agg #[.int .i64 yk,.int .i64 yn,.slice yA yl yc]]) ?_ ?_
   ·simp only [execOp]
    go_simp
    refine ⟨by simpa [ag] using e0,by simpa [ag] using e1,by simpa [ag] using e2⟩
   ·refine ((show Calls Tryd.prog _ #[.agg #[mv,.slice pA pl pc],.agg #[.int .i64 3,.int .i64 0,.int .i64 1,.int .i64 (1 + (kk:Int)),.slice none 0 0],.agg #[.int .i64 yk,.int .i64 yn,.slice yA yl yc]] w (BRes b1 w) from c2 w hg)).mono ?_
    rintro e w' ⟨rfl,hb⟩
    exact ⟨_,rfl,PostE.put (i:=13) ho (vwd5_mem 13 hk).2 (hlt 13 hk) (fun k hk2 hne _ => vwd5_inj 13 hk k hk2 hne) (.inl (Ext.of hb)) rfl (later hg hb)⟩
  | 14,hk,hd =>
   have s:(ops[14]?).map sig = some (some 61,.binOp .neq 4 (.tmp 56) (.tmp 60) 4,4,some (5,false)):=by subst hops;kernel_rfl
   have hgd:GdOk ops a (some (5,false)):=yielded_of (d:=52) (by subst hops;kernel_rfl) (hd 5 (by decide) (by subst hops;kernel_rfl))
   have d9:=hd 9 (by decide) (by subst hops;kernel_rfl)
   have d13:=hd 13 (by decide) (by subst hops;kernel_rfl)
   have e0:ag a 56 = .bool b1:=d9
   have e1:ag a 60 = .bool b1:=d13
   refine op_valg s hgd (w':=w) (v:=.bool false) ?_ ?_
   ·simp only [execOp,eval_tmp,e0,e1]
    go_simp
   ·exact PostE.put (i:=14) ho (vwd5_mem 14 hk).2 (hlt 14 hk) (fun k hk2 hne _ => vwd5_inj 14 hk k hk2 hne) (.inl (Ext.refl _ _)) rfl hg
  | 15,hk,hd =>
   have s:(ops[15]?).map sig = some (some 62,.pick (.tmp 52) (.const (.bool true)) (.tmp 61),4,none):=by subst hops;kernel_rfl
   have hgd:GdOk ops a none:=trivial
   have d5:=hd 5 (by decide) (by subst hops;kernel_rfl)
   have d14:=hd 14 (by decide) (by subst hops;kernel_rfl)
   have e0:ag a 52 = .bool false:=d5
   have e1:ag a 61 = .bool false:=d14
   refine op_valg s hgd (w':=w) (v:=.bool false) ?_ ?_
   ·simp only [execOp,eval_tmp,e0,e1]
    go_simp
   ·exact PostE.put (i:=15) ho (vwd5_mem 15 hk).2 (hlt 15 hk) (fun k hk2 hne _ => vwd5_inj 15 hk k hk2 hne) (.inl (Ext.refl _ _)) rfl hg
  | 16,hk,hd =>
   have s:(ops[16]?).map sig = some (some 63,.move (.tmp 62),4,none):=by subst hops;kernel_rfl
   have hgd:GdOk ops a none:=trivial
   have d15:=hd 15 (by decide) (by subst hops;kernel_rfl)
   have e0:ag a 62 = .bool false:=d15
   refine op_valg s hgd (w':=w) (v:=.bool false) ?_ ?_
   ·exact congrArg (fun x => Result.ok (Next.value x) w) e0
   ·exact PostE.put (i:=16) ho (vwd5_mem 16 hk).2 (hlt 16 hk) (fun k hk2 hne _ => vwd5_inj 16 hk k hk2 hne) (.inl (Ext.refl _ _)) rfl hg
  | 17,hk,hd =>
   have s:(ops[17]?).map sig = some (some 64,.load 26 (.tmp 17),26,some (16,false)):=by subst hops;kernel_rfl
   have hgd:GdOk ops a (some (16,false)):=yielded_of (d:=63) (by subst hops;kernel_rfl) (hd 16 (by decide) (by subst hops;kernel_rfl))
   have e0:ag a 17 = .pointer (some ⟨g17,0,none⟩):=(ho.off 17 (by decide)).trans h17
   refine op_loadg s hgd g17 0 e0 [mv,.slice pA pl pc] _ (range_below hp hg) Tryd.underlying26 rfl info_prog ?_
   exact PostE.put (i:=17) ho (vwd5_mem 17 hk).2 (hlt 17 hk) (fun k hk2 hne _ => vwd5_inj 17 hk k hk2 hne) (.inl (Ext.refl _ _)) rfl hg
  | 18,hk,hd =>
   have s:(ops[18]?).map sig = some (some 65,.load 31 (.tmp 14),31,some (16,false)):=by subst hops;kernel_rfl
   have hgd:GdOk ops a (some (16,false)):=yielded_of (d:=63) (by subst hops;kernel_rfl) (hd 16 (by decide) (by subst hops;kernel_rfl))
   have e0:ag a 14 = .pointer (some ⟨g14,0,none⟩):=(ho.off 14 (by decide)).trans h14
   refine op_loadg s hgd g14 0 e0 [.int .i64 tk,.int .i64 ts,.int .i64 tq,.int .i64 ti,.slice tA tl tc] _ (range_below ht hg) Tryd.underlying31 rfl info_typesz ?_
   exact PostE.put (i:=18) ho (vwd5_mem 18 hk).2 (hlt 18 hk) (fun k hk2 hne _ => vwd5_inj 18 hk k hk2 hne) (.inl (Ext.refl _ _)) rfl hg
  | 19,hk,hd =>
   have s:(ops[19]?).map sig = some (some 66,.load 53 (.tmp 15),53,some (16,false)):=by subst hops;kernel_rfl
   have hgd:GdOk ops a (some (16,false)):=yielded_of (d:=63) (by subst hops;kernel_rfl) (hd 16 (by decide) (by subst hops;kernel_rfl))
   have e0:ag a 15 = .pointer (some ⟨g15,0,none⟩):=(ho.off 15 (by decide)).trans h15
   refine op_loadg s hgd g15 0 e0 [.int .i64 vk,.int .i64 vn,.slice vA vl vc] _ (range_below hv hg) Tryd.underlying53 rfl info_val ?_
   exact PostE.put (i:=19) ho (vwd5_mem 19 hk).2 (hlt 19 hk) (fun k hk2 hne _ => vwd5_inj 19 hk k hk2 hne) (.inl (Ext.refl _ _)) rfl hg
  | 20,hk,hd =>
   have s:(ops[20]?).map sig = some (some 67,.call { callee:=.value (.func 25),args:=#[.tmp 64,.tmp 65,.tmp 66],argTypes:=#[26,31,53] },4,some (16,false)):=by subst hops;kernel_rfl
   have hgd:GdOk ops a (some (16,false)):=yielded_of (d:=63) (by subst hops;kernel_rfl) (hd 16 (by decide) (by subst hops;kernel_rfl))
   have d17:=hd 17 (by decide) (by subst hops;kernel_rfl)
   have d18:=hd 18 (by decide) (by subst hops;kernel_rfl)
   have d19:=hd 19 (by decide) (by subst hops;kernel_rfl)
   have e0:ag a 64 = .agg #[mv,.slice pA pl pc]:=d17
   have e1:ag a 65 = .agg #[.int .i64 tk,.int .i64 ts,.int .i64 tq,.int .i64 ti,.slice tA tl tc]:=d18
   have e2:ag a 66 = .agg #[.int .i64 vk,.int .i64 vn,.slice vA vl vc]:=d19
   refine op_callg s hgd (w':=w) (f:=25) (args:=#[.agg #[mv,.slice pA pl pc],.agg #[.int .i64 tk,.int .i64 ts,.int .i64 tq,.int .i64 ti,.slice tA tl tc],.agg #[.int .i64 vk,.int .i64 vn,.slice vA vl vc]]) ?_ ?_
   ·simp only [execOp]
    go_simp
    refine ⟨by simpa [ag] using e0,by simpa [ag] using e1,by simpa [ag] using e2⟩
   ·refine ((show Calls Tryd.prog _ #[.agg #[mv,.slice pA pl pc],.agg #[.int .i64 tk,.int .i64 ts,.int .i64 tq,.int .i64 ti,.slice tA tl tc],.agg #[.int .i64 vk,.int .i64 vn,.slice vA vl vc]] w (BRes b2 w) from c3 w hg)).mono ?_
    rintro e w' ⟨rfl,hb⟩
    exact ⟨_,rfl,PostE.put (i:=20) ho (vwd5_mem 20 hk).2 (hlt 20 hk) (fun k hk2 hne _ => vwd5_inj 20 hk k hk2 hne) (.inl (Ext.of hb)) rfl (later hg hb)⟩
  | 21,hk,hd =>
   have s:(ops[21]?).map sig = some (some 68,.load 26 (.tmp 17),26,some (16,false)):=by subst hops;kernel_rfl
   have hgd:GdOk ops a (some (16,false)):=yielded_of (d:=63) (by subst hops;kernel_rfl) (hd 16 (by decide) (by subst hops;kernel_rfl))
   have e0:ag a 17 = .pointer (some ⟨g17,0,none⟩):=(ho.off 17 (by decide)).trans h17
   refine op_loadg s hgd g17 0 e0 [mv,.slice pA pl pc] _ (range_below hp hg) Tryd.underlying26 rfl info_prog ?_
   exact PostE.put (i:=21) ho (vwd5_mem 21 hk).2 (hlt 21 hk) (fun k hk2 hne _ => vwd5_inj 21 hk k hk2 hne) (.inl (Ext.refl _ _)) rfl hg
  | 22,hk,hd =>
   have s:(ops[22]?).map sig = some (some 69,.load 31 (.tmp 14),31,some (16,false)):=by subst hops;kernel_rfl
   have hgd:GdOk ops a (some (16,false)):=yielded_of (d:=63) (by subst hops;kernel_rfl) (hd 16 (by decide) (by subst hops;kernel_rfl))
   have e0:ag a 14 = .pointer (some ⟨g14,0,none⟩):=(ho.off 14 (by decide)).trans h14
   refine op_loadg s hgd g14 0 e0 [.int .i64 tk,.int .i64 ts,.int .i64 tq,.int .i64 ti,.slice tA tl tc] _ (range_below ht hg) Tryd.underlying31 rfl info_typesz ?_
   exact PostE.put (i:=22) ho (vwd5_mem 22 hk).2 (hlt 22 hk) (fun k hk2 hne _ => vwd5_inj 22 hk k hk2 hne) (.inl (Ext.refl _ _)) rfl hg
  | 23,hk,hd =>
   have s:(ops[23]?).map sig = some (some 70,.load 53 (.tmp 15),53,some (16,false)):=by subst hops;kernel_rfl
   have hgd:GdOk ops a (some (16,false)):=yielded_of (d:=63) (by subst hops;kernel_rfl) (hd 16 (by decide) (by subst hops;kernel_rfl))
   have e0:ag a 15 = .pointer (some ⟨g15,0,none⟩):=(ho.off 15 (by decide)).trans h15
   refine op_loadg s hgd g15 0 e0 [.int .i64 vk,.int .i64 vn,.slice vA vl vc] _ (range_below hv hg) Tryd.underlying53 rfl info_val ?_
   exact PostE.put (i:=23) ho (vwd5_mem 23 hk).2 (hlt 23 hk) (fun k hk2 hne _ => vwd5_inj 23 hk k hk2 hne) (.inl (Ext.refl _ _)) rfl hg
  | 24,hk,hd =>
   have s:(ops[24]?).map sig = some (some 71,.call { callee:=.value (.func 26),args:=#[.tmp 68,.tmp 69,.tmp 70],argTypes:=#[26,31,53] },4,some (16,false)):=by subst hops;kernel_rfl
   have hgd:GdOk ops a (some (16,false)):=yielded_of (d:=63) (by subst hops;kernel_rfl) (hd 16 (by decide) (by subst hops;kernel_rfl))
   have d21:=hd 21 (by decide) (by subst hops;kernel_rfl)
   have d22:=hd 22 (by decide) (by subst hops;kernel_rfl)
   have d23:=hd 23 (by decide) (by subst hops;kernel_rfl)
   have e0:ag a 68 = .agg #[mv,.slice pA pl pc]:=d21
   have e1:ag a 69 = .agg #[.int .i64 tk,.int .i64 ts,.int .i64 tq,.int .i64 ti,.slice tA tl tc]:=d22
   have e2:ag a 70 = .agg #[.int .i64 vk,.int .i64 vn,.slice vA vl vc]:=d23
   refine op_callg s hgd (w':=w) (f:=26) (args:=#[.agg #[mv,.slice pA pl pc],.agg #[.int .i64 tk,.int .i64 ts,.int .i64 tq,.int .i64 ti,.slice tA tl tc],.agg #[.int .i64 vk,.int .i64 vn,.slice vA vl vc]]) ?_ ?_
   ·simp only [execOp]
    go_simp
    refine ⟨by simpa [ag] using e0,by simpa [ag] using e1,by simpa [ag] using e2⟩
   ·refine ((show Calls Tryd.prog _ #[.agg #[mv,.slice pA pl pc],.agg #[.int .i64 tk,.int .i64 ts,.int .i64 tq,.int .i64 ti,.slice tA tl tc],.agg #[.int .i64 vk,.int .i64 vn,.slice vA vl vc]] w (BRes b2 w) from c4 w hg)).mono ?_
    rintro e w' ⟨rfl,hb⟩
    exact ⟨_,rfl,PostE.put (i:=24) ho (vwd5_mem 24 hk).2 (hlt 24 hk) (fun k hk2 hne _ => vwd5_inj 24 hk k hk2 hne) (.inl (Ext.of hb)) rfl (later hg hb)⟩
  | 25,hk,hd =>
   have s:(ops[25]?).map sig = some (some 72,.binOp .neq 4 (.tmp 67) (.tmp 71) 4,4,some (16,false)):=by subst hops;kernel_rfl
   have hgd:GdOk ops a (some (16,false)):=yielded_of (d:=63) (by subst hops;kernel_rfl) (hd 16 (by decide) (by subst hops;kernel_rfl))
   have d20:=hd 20 (by decide) (by subst hops;kernel_rfl)
   have d24:=hd 24 (by decide) (by subst hops;kernel_rfl)
   have e0:ag a 67 = .bool b2:=d20
   have e1:ag a 71 = .bool b2:=d24
   refine op_valg s hgd (w':=w) (v:=.bool false) ?_ ?_
   ·simp only [execOp,eval_tmp,e0,e1]
    go_simp
   ·exact PostE.put (i:=25) ho (vwd5_mem 25 hk).2 (hlt 25 hk) (fun k hk2 hne _ => vwd5_inj 25 hk k hk2 hne) (.inl (Ext.refl _ _)) rfl hg
  | 26,hk,hd =>
   have s:(ops[26]?).map sig = some (some 73,.pick (.tmp 63) (.const (.bool true)) (.tmp 72),4,none):=by subst hops;kernel_rfl
   have hgd:GdOk ops a none:=trivial
   have d16:=hd 16 (by decide) (by subst hops;kernel_rfl)
   have d25:=hd 25 (by decide) (by subst hops;kernel_rfl)
   have e0:ag a 63 = .bool false:=d16
   have e1:ag a 72 = .bool false:=d25
   refine op_valg s hgd (w':=w) (v:=.bool false) ?_ ?_
   ·simp only [execOp,eval_tmp,e0,e1]
    go_simp
   ·exact PostE.put (i:=26) ho (vwd5_mem 26 hk).2 (hlt 26 hk) (fun k hk2 hne _ => vwd5_inj 26 hk k hk2 hne) (.inl (Ext.refl _ _)) rfl hg
  | 27,hk,hd =>
   have s:(ops[27]?).map sig = some (some 74,.move (.tmp 73),4,none):=by subst hops;kernel_rfl
   have hgd:GdOk ops a none:=trivial
   have d26:=hd 26 (by decide) (by subst hops;kernel_rfl)
   have e0:ag a 73 = .bool false:=d26
   refine op_valg s hgd (w':=w) (v:=.bool false) ?_ ?_
   ·exact congrArg (fun x => Result.ok (Next.value x) w) e0
   ·exact PostE.put (i:=27) ho (vwd5_mem 27 hk).2 (hlt 27 hk) (fun k hk2 hne _ => vwd5_inj 27 hk k hk2 hne) (.inl (Ext.refl _ _)) rfl hg
  | 28,hk,hd =>
   have s:(ops[28]?).map sig = some (some 75,.load 26 (.tmp 17),26,some (27,false)):=by subst hops;kernel_rfl
   have hgd:GdOk ops a (some (27,false)):=yielded_of (d:=74) (by subst hops;kernel_rfl) (hd 27 (by decide) (by subst hops;kernel_rfl))
   have e0:ag a 17 = .pointer (some ⟨g17,0,none⟩):=(ho.off 17 (by decide)).trans h17
   refine op_loadg s hgd g17 0 e0 [mv,.slice pA pl pc] _ (range_below hp hg) Tryd.underlying26 rfl info_prog ?_
   exact PostE.put (i:=28) ho (vwd5_mem 28 hk).2 (hlt 28 hk) (fun k hk2 hne _ => vwd5_inj 28 hk k hk2 hne) (.inl (Ext.refl _ _)) rfl hg
  | 29,hk,hd =>
   have s:(ops[29]?).map sig = some (some 76,.load 31 (.tmp 18),31,some (27,false)):=by subst hops;kernel_rfl
   have hgd:GdOk ops a (some (27,false)):=yielded_of (d:=74) (by subst hops;kernel_rfl) (hd 27 (by decide) (by subst hops;kernel_rfl))
   have e0:ag a 18 = .pointer (some ⟨g18,0,none⟩):=(ho.off 18 (by decide)).trans h18
   refine op_loadg s hgd g18 0 e0 [.int .i64 3,.int .i64 0,.int .i64 1,.int .i64 (1 + (kk:Int)),.slice none 0 0] _ (range_below ho2 hg) Tryd.underlying31 rfl info_typesz ?_
   exact PostE.put (i:=29) ho (vwd5_mem 29 hk).2 (hlt 29 hk) (fun k hk2 hne _ => vwd5_inj 29 hk k hk2 hne) (.inl (Ext.refl _ _)) rfl hg
  | 30,hk,hd =>
   have s:(ops[30]?).map sig = some (some 77,.load 53 (.tmp 15),53,some (27,false)):=by subst hops;kernel_rfl
   have hgd:GdOk ops a (some (27,false)):=yielded_of (d:=74) (by subst hops;kernel_rfl) (hd 27 (by decide) (by subst hops;kernel_rfl))
   have e0:ag a 15 = .pointer (some ⟨g15,0,none⟩):=(ho.off 15 (by decide)).trans h15
   refine op_loadg s hgd g15 0 e0 [.int .i64 vk,.int .i64 vn,.slice vA vl vc] _ (range_below hv hg) Tryd.underlying53 rfl info_val ?_
   exact PostE.put (i:=30) ho (vwd5_mem 30 hk).2 (hlt 30 hk) (fun k hk2 hne _ => vwd5_inj 30 hk k hk2 hne) (.inl (Ext.refl _ _)) rfl hg
  | 31,hk,hd =>
   have s:(ops[31]?).map sig = some (some 78,.call { callee:=.value (.func 25),args:=#[.tmp 75,.tmp 76,.tmp 77],argTypes:=#[26,31,53] },4,some (27,false)):=by subst hops;kernel_rfl
   have hgd:GdOk ops a (some (27,false)):=yielded_of (d:=74) (by subst hops;kernel_rfl) (hd 27 (by decide) (by subst hops;kernel_rfl))
   have d28:=hd 28 (by decide) (by subst hops;kernel_rfl)
   have d29:=hd 29 (by decide) (by subst hops;kernel_rfl)
   have d30:=hd 30 (by decide) (by subst hops;kernel_rfl)
   have e0:ag a 75 = .agg #[mv,.slice pA pl pc]:=d28
   have e1:ag a 76 = .agg #[.int .i64 3,.int .i64 0,.int .i64 1,.int .i64 (1 + (kk:Int)),.slice none 0 0]:=d29
   have e2:ag a 77 = .agg #[.int .i64 vk,.int .i64 vn,.slice vA vl vc]:=d30
   refine op_callg s hgd (w':=w) (f:=25) (args:=#[.agg #[mv,.slice pA pl pc],.agg #[.int .i64 3,.int .i64 0,.int .i64 1,.int .i64 (1 + (kk:Int)),.slice none 0 0],.agg #[.int .i64 vk,.int .i64 vn,.slice vA vl vc]]) ?_ ?_
   ·simp only [execOp]
    go_simp
    refine ⟨by simpa [ag] using e0,by simpa [ag] using e1,by simpa [ag] using e2⟩
   ·refine ((show Calls Tryd.prog _ #[.agg #[mv,.slice pA pl pc],.agg #[.int .i64 3,.int .i64 0,.int .i64 1,.int .i64 (1 + (kk:Int)),.slice none 0 0],.agg #[.int .i64 vk,.int .i64 vn,.slice vA vl vc]] w (BRes b3 w) from c5 w hg)).mono ?_
    rintro e w' ⟨rfl,hb⟩
    exact ⟨_,rfl,PostE.put (i:=31) ho (vwd5_mem 31 hk).2 (hlt 31 hk) (fun k hk2 hne _ => vwd5_inj 31 hk k hk2 hne) (.inl (Ext.of hb)) rfl (later hg hb)⟩
  | 32,hk,hd =>
   have s:(ops[32]?).map sig = some (some 79,.load 26 (.tmp 17),26,some (27,false)):=by subst hops;kernel_rfl
   have hgd:GdOk ops a (some (27,false)):=yielded_of (d:=74) (by subst hops;kernel_rfl) (hd 27 (by decide) (by subst hops;kernel_rfl))
   have e0:ag a 17 = .pointer (some ⟨g17,0,none⟩):=(ho.off 17 (by decide)).trans h17
   refine op_loadg s hgd g17 0 e0 [mv,.slice pA pl pc] _ (range_below hp hg) Tryd.underlying26 rfl info_prog ?_
   exact PostE.put (i:=32) ho (vwd5_mem 32 hk).2 (hlt 32 hk) (fun k hk2 hne _ => vwd5_inj 32 hk k hk2 hne) (.inl (Ext.refl _ _)) rfl hg
  | 33,hk,hd =>
   have s:(ops[33]?).map sig = some (some 80,.load 31 (.tmp 18),31,some (27,false)):=by subst hops;kernel_rfl
   have hgd:GdOk ops a (some (27,false)):=yielded_of (d:=74) (by subst hops;kernel_rfl) (hd 27 (by decide) (by subst hops;kernel_rfl))
   have e0:ag a 18 = .pointer (some ⟨g18,0,none⟩):=(ho.off 18 (by decide)).trans h18
   refine op_loadg s hgd g18 0 e0 [.int .i64 3,.int .i64 0,.int .i64 1,.int .i64 (1 + (kk:Int)),.slice none 0 0] _ (range_below ho2 hg) Tryd.underlying31 rfl info_typesz ?_
   exact PostE.put (i:=33) ho (vwd5_mem 33 hk).2 (hlt 33 hk) (fun k hk2 hne _ => vwd5_inj 33 hk k hk2 hne) (.inl (Ext.refl _ _)) rfl hg
  | 34,hk,hd =>
   have s:(ops[34]?).map sig = some (some 81,.load 53 (.tmp 15),53,some (27,false)):=by subst hops;kernel_rfl
   have hgd:GdOk ops a (some (27,false)):=yielded_of (d:=74) (by subst hops;kernel_rfl) (hd 27 (by decide) (by subst hops;kernel_rfl))
   have e0:ag a 15 = .pointer (some ⟨g15,0,none⟩):=(ho.off 15 (by decide)).trans h15
   refine op_loadg s hgd g15 0 e0 [.int .i64 vk,.int .i64 vn,.slice vA vl vc] _ (range_below hv hg) Tryd.underlying53 rfl info_val ?_
   exact PostE.put (i:=34) ho (vwd5_mem 34 hk).2 (hlt 34 hk) (fun k hk2 hne _ => vwd5_inj 34 hk k hk2 hne) (.inl (Ext.refl _ _)) rfl hg
  | 35,hk,hd =>
   have s:(ops[35]?).map sig = some (some 82,.call { callee:=.value (.func 26),args:=#[.tmp 79,.tmp 80,.tmp 81],argTypes:=#[26,31,53] },4,some (27,false)):=by subst hops;kernel_rfl
   have hgd:GdOk ops a (some (27,false)):=yielded_of (d:=74) (by subst hops;kernel_rfl) (hd 27 (by decide) (by subst hops;kernel_rfl))
   have d32:=hd 32 (by decide) (by subst hops;kernel_rfl)
   have d33:=hd 33 (by decide) (by subst hops;kernel_rfl)
   have d34:=hd 34 (by decide) (by subst hops;kernel_rfl)
   have e0:ag a 79 = .agg #[mv,.slice pA pl pc]:=d32
   have e1:ag a 80 = .agg #[.int .i64 3,.int .i64 0,.int .i64 1,.int .i64 (1 + (kk:Int)),.slice none 0 0]:=d33
   have e2:ag a 81 = .agg #[.int .i64 vk,.int .i64 vn,.slice vA vl vc]:=d34
   refine op_callg s hgd (w':=w) (f:=26) (args:=#[.agg #[mv,.slice pA pl pc],.agg #[.int .i64 3,.int .i64 0,.int .i64 1,.int .i64 (1 + (kk:Int)),.slice none 0 0],.agg #[.int .i64 vk,.int .i64 vn,.slice vA vl vc]]) ?_ ?_
   ·simp only [execOp]
    go_simp
    refine ⟨by simpa [ag] using e0,by simpa [ag] using e1,by simpa [ag] using e2⟩
   ·refine ((show Calls Tryd.prog _ #[.agg #[mv,.slice pA pl pc],.agg #[.int .i64 3,.int .i64 0,.int .i64 1,.int .i64 (1 + (kk:Int)),.slice none 0 0],.agg #[.int .i64 vk,.int .i64 vn,.slice vA vl vc]] w (BRes b3 w) from c6 w hg)).mono ?_
    rintro e w' ⟨rfl,hb⟩
    exact ⟨_,rfl,PostE.put (i:=35) ho (vwd5_mem 35 hk).2 (hlt 35 hk) (fun k hk2 hne _ => vwd5_inj 35 hk k hk2 hne) (.inl (Ext.of hb)) rfl (later hg hb)⟩
  | 36,hk,hd =>
   have s:(ops[36]?).map sig = some (some 83,.binOp .neq 4 (.tmp 78) (.tmp 82) 4,4,some (27,false)):=by subst hops;kernel_rfl
   have hgd:GdOk ops a (some (27,false)):=yielded_of (d:=74) (by subst hops;kernel_rfl) (hd 27 (by decide) (by subst hops;kernel_rfl))
   have d31:=hd 31 (by decide) (by subst hops;kernel_rfl)
   have d35:=hd 35 (by decide) (by subst hops;kernel_rfl)
   have e0:ag a 78 = .bool b3:=d31
   have e1:ag a 82 = .bool b3:=d35
   refine op_valg s hgd (w':=w) (v:=.bool false) ?_ ?_
   ·simp only [execOp,eval_tmp,e0,e1]
    go_simp
   ·exact PostE.put (i:=36) ho (vwd5_mem 36 hk).2 (hlt 36 hk) (fun k hk2 hne _ => vwd5_inj 36 hk k hk2 hne) (.inl (Ext.refl _ _)) rfl hg
  | 37,hk,hd =>
   have s:(ops[37]?).map sig = some (some 84,.pick (.tmp 74) (.const (.bool true)) (.tmp 83),4,none):=by subst hops;kernel_rfl
   have hgd:GdOk ops a none:=trivial
   have d27:=hd 27 (by decide) (by subst hops;kernel_rfl)
   have d36:=hd 36 (by decide) (by subst hops;kernel_rfl)
   have e0:ag a 74 = .bool false:=d27
   have e1:ag a 83 = .bool false:=d36
   refine op_valg s hgd (w':=w) (v:=.bool false) ?_ ?_
   ·simp only [execOp,eval_tmp,e0,e1]
    go_simp
   ·exact PostE.put (i:=37) ho (vwd5_mem 37 hk).2 (hlt 37 hk) (fun k hk2 hne _ => vwd5_inj 37 hk k hk2 hne) (.inl (Ext.refl _ _)) rfl hg
  | 38,hk,hd =>
   have s:(ops[38]?).map sig = some (some 85,.move (.tmp 84),4,none):=by subst hops;kernel_rfl
   have hgd:GdOk ops a none:=trivial
   have d37:=hd 37 (by decide) (by subst hops;kernel_rfl)
   have e0:ag a 84 = .bool false:=d37
   refine op_valg s hgd (w':=w) (v:=.bool false) ?_ ?_
   ·exact congrArg (fun x => Result.ok (Next.value x) w) e0
   ·exact PostE.put (i:=38) ho (vwd5_mem 38 hk).2 (hlt 38 hk) (fun k hk2 hne _ => vwd5_inj 38 hk k hk2 hne) (.inl (Ext.refl _ _)) rfl hg
  | 39,hk,hd =>
   have s:(ops[39]?).map sig = some (some 86,.load 26 (.tmp 17),26,some (38,false)):=by subst hops;kernel_rfl
   have hgd:GdOk ops a (some (38,false)):=yielded_of (d:=85) (by subst hops;kernel_rfl) (hd 38 (by decide) (by subst hops;kernel_rfl))
   have e0:ag a 17 = .pointer (some ⟨g17,0,none⟩):=(ho.off 17 (by decide)).trans h17
   refine op_loadg s hgd g17 0 e0 [mv,.slice pA pl pc] _ (range_below hp hg) Tryd.underlying26 rfl info_prog ?_
   exact PostE.put (i:=39) ho (vwd5_mem 39 hk).2 (hlt 39 hk) (fun k hk2 hne _ => vwd5_inj 39 hk k hk2 hne) (.inl (Ext.refl _ _)) rfl hg
  | 40,hk,hd =>
   have s:(ops[40]?).map sig = some (some 87,.load 31 (.tmp 14),31,some (38,false)):=by subst hops;kernel_rfl
   have hgd:GdOk ops a (some (38,false)):=yielded_of (d:=85) (by subst hops;kernel_rfl) (hd 38 (by decide) (by subst hops;kernel_rfl))
   have e0:ag a 14 = .pointer (some ⟨g14,0,none⟩):=(ho.off 14 (by decide)).trans h14
   refine op_loadg s hgd g14 0 e0 [.int .i64 tk,.int .i64 ts,.int .i64 tq,.int .i64 ti,.slice tA tl tc] _ (range_below ht hg) Tryd.underlying31 rfl info_typesz ?_
   exact PostE.put (i:=40) ho (vwd5_mem 40 hk).2 (hlt 40 hk) (fun k hk2 hne _ => vwd5_inj 40 hk k hk2 hne) (.inl (Ext.refl _ _)) rfl hg
  | 41,hk,hd =>
   have s:(ops[41]?).map sig = some (some 88,.load 53 (.tmp 19),53,some (38,false)):=by subst hops;kernel_rfl
   have hgd:GdOk ops a (some (38,false)):=yielded_of (d:=85) (by subst hops;kernel_rfl) (hd 38 (by decide) (by subst hops;kernel_rfl))
   have e0:ag a 19 = .pointer (some ⟨g19,0,none⟩):=(ho.off 19 (by decide)).trans h19
   refine op_loadg s hgd g19 0 e0 [.int .i64 xk,.int .i64 xn,.slice xA xl xc] _ (range_below hx hg) Tryd.underlying53 rfl info_val ?_
   exact PostE.put (i:=41) ho (vwd5_mem 41 hk).2 (hlt 41 hk) (fun k hk2 hne _ => vwd5_inj 41 hk k hk2 hne) (.inl (Ext.refl _ _)) rfl hg
  | 42,hk,hd =>
   have s:(ops[42]?).map sig = some (some 89,.call { callee:=.value (.func 25),args:=#[.tmp 86,.tmp 87,.tmp 88],argTypes:=#[26,31,53] },4,some (38,false)):=by subst hops;kernel_rfl
   have hgd:GdOk ops a (some (38,false)):=yielded_of (d:=85) (by subst hops;kernel_rfl) (hd 38 (by decide) (by subst hops;kernel_rfl))
   have d39:=hd 39 (by decide) (by subst hops;kernel_rfl)
   have d40:=hd 40 (by decide) (by subst hops;kernel_rfl)
   have d41:=hd 41 (by decide) (by subst hops;kernel_rfl)
   have e0:ag a 86 = .agg #[mv,.slice pA pl pc]:=d39
   have e1:ag a 87 = .agg #[.int .i64 tk,.int .i64 ts,.int .i64 tq,.int .i64 ti,.slice tA tl tc]:=d40
   have e2:ag a 88 = .agg #[.int .i64 xk,.int .i64 xn,.slice xA xl xc]:=d41
   refine op_callg s hgd (w':=w) (f:=25) (args:=#[.agg #[mv,.slice pA pl pc],.agg #[.int .i64 tk,.int .i64 ts,.int .i64 tq,.int .i64 ti,.slice tA tl tc],.agg #[.int .i64 xk,.int .i64 xn,.slice xA xl xc]]) ?_ ?_
   ·simp only [execOp]
    go_simp
    refine ⟨by simpa [ag] using e0,by simpa [ag] using e1,by simpa [ag] using e2⟩
   ·refine ((show Calls Tryd.prog _ #[.agg #[mv,.slice pA pl pc],.agg #[.int .i64 tk,.int .i64 ts,.int .i64 tq,.int .i64 ti,.slice tA tl tc],.agg #[.int .i64 xk,.int .i64 xn,.slice xA xl xc]] w (BRes b4 w) from c7 w hg)).mono ?_
    rintro e w' ⟨rfl,hb⟩
    exact ⟨_,rfl,PostE.put (i:=42) ho (vwd5_mem 42 hk).2 (hlt 42 hk) (fun k hk2 hne _ => vwd5_inj 42 hk k hk2 hne) (.inl (Ext.of hb)) rfl (later hg hb)⟩
  | 43,hk,hd =>
   have s:(ops[43]?).map sig = some (some 90,.load 26 (.tmp 17),26,some (38,false)):=by subst hops;kernel_rfl
   have hgd:GdOk ops a (some (38,false)):=yielded_of (d:=85) (by subst hops;kernel_rfl) (hd 38 (by decide) (by subst hops;kernel_rfl))
   have e0:ag a 17 = .pointer (some ⟨g17,0,none⟩):=(ho.off 17 (by decide)).trans h17
   refine op_loadg s hgd g17 0 e0 [mv,.slice pA pl pc] _ (range_below hp hg) Tryd.underlying26 rfl info_prog ?_
   exact PostE.put (i:=43) ho (vwd5_mem 43 hk).2 (hlt 43 hk) (fun k hk2 hne _ => vwd5_inj 43 hk k hk2 hne) (.inl (Ext.refl _ _)) rfl hg
  | 44,hk,hd =>
   have s:(ops[44]?).map sig = some (some 91,.load 31 (.tmp 14),31,some (38,false)):=by subst hops;kernel_rfl
   have hgd:GdOk ops a (some (38,false)):=yielded_of (d:=85) (by subst hops;kernel_rfl) (hd 38 (by decide) (by subst hops;kernel_rfl))
   have e0:ag a 14 = .pointer (some ⟨g14,0,none⟩):=(ho.off 14 (by decide)).trans h14
   refine op_loadg s hgd g14 0 e0 [.int .i64 tk,.int .i64 ts,.int .i64 tq,.int .i64 ti,.slice tA tl tc] _ (range_below ht hg) Tryd.underlying31 rfl info_typesz ?_
   exact PostE.put (i:=44) ho (vwd5_mem 44 hk).2 (hlt 44 hk) (fun k hk2 hne _ => vwd5_inj 44 hk k hk2 hne) (.inl (Ext.refl _ _)) rfl hg
  | 45,hk,hd =>
   have s:(ops[45]?).map sig = some (some 92,.load 53 (.tmp 19),53,some (38,false)):=by subst hops;kernel_rfl
   have hgd:GdOk ops a (some (38,false)):=yielded_of (d:=85) (by subst hops;kernel_rfl) (hd 38 (by decide) (by subst hops;kernel_rfl))
   have e0:ag a 19 = .pointer (some ⟨g19,0,none⟩):=(ho.off 19 (by decide)).trans h19
   refine op_loadg s hgd g19 0 e0 [.int .i64 xk,.int .i64 xn,.slice xA xl xc] _ (range_below hx hg) Tryd.underlying53 rfl info_val ?_
   exact PostE.put (i:=45) ho (vwd5_mem 45 hk).2 (hlt 45 hk) (fun k hk2 hne _ => vwd5_inj 45 hk k hk2 hne) (.inl (Ext.refl _ _)) rfl hg
  | 46,hk,hd =>
   have s:(ops[46]?).map sig = some (some 93,.call { callee:=.value (.func 26),args:=#[.tmp 90,.tmp 91,.tmp 92],argTypes:=#[26,31,53] },4,some (38,false)):=by subst hops;kernel_rfl
   have hgd:GdOk ops a (some (38,false)):=yielded_of (d:=85) (by subst hops;kernel_rfl) (hd 38 (by decide) (by subst hops;kernel_rfl))
   have d43:=hd 43 (by decide) (by subst hops;kernel_rfl)
   have d44:=hd 44 (by decide) (by subst hops;kernel_rfl)
   have d45:=hd 45 (by decide) (by subst hops;kernel_rfl)
   have e0:ag a 90 = .agg #[mv,.slice pA pl pc]:=d43
   have e1:ag a 91 = .agg #[.int .i64 tk,.int .i64 ts,.int .i64 tq,.int .i64 ti,.slice tA tl tc]:=d44
   have e2:ag a 92 = .agg #[.int .i64 xk,.int .i64 xn,.slice xA xl xc]:=d45
   refine op_callg s hgd (w':=w) (f:=26) (args:=#[.agg #[mv,.slice pA pl pc],.agg #[.int .i64 tk,.int .i64 ts,.int .i64 tq,.int .i64 ti,.slice tA tl tc],.agg #[.int .i64 xk,.int .i64 xn,.slice xA xl xc]]) ?_ ?_
   ·simp only [execOp]
    go_simp
    refine ⟨by simpa [ag] using e0,by simpa [ag] using e1,by simpa [ag] using e2⟩
   ·refine ((show Calls Tryd.prog _ #[.agg #[mv,.slice pA pl pc],.agg #[.int .i64 tk,.int .i64 ts,.int .i64 tq,.int .i64 ti,.slice tA tl tc],.agg #[.int .i64 xk,.int .i64 xn,.slice xA xl xc]] w (BRes b4 w) from c8 w hg)).mono ?_
    rintro e w' ⟨rfl,hb⟩
    exact ⟨_,rfl,PostE.put (i:=46) ho (vwd5_mem 46 hk).2 (hlt 46 hk) (fun k hk2 hne _ => vwd5_inj 46 hk k hk2 hne) (.inl (Ext.of hb)) rfl (later hg hb)⟩
  | 47,hk,hd =>
   have s:(ops[47]?).map sig = some (some 94,.binOp .neq 4 (.tmp 89) (.tmp 93) 4,4,some (38,false)):=by subst hops;kernel_rfl
   have hgd:GdOk ops a (some (38,false)):=yielded_of (d:=85) (by subst hops;kernel_rfl) (hd 38 (by decide) (by subst hops;kernel_rfl))
   have d42:=hd 42 (by decide) (by subst hops;kernel_rfl)
   have d46:=hd 46 (by decide) (by subst hops;kernel_rfl)
   have e0:ag a 89 = .bool b4:=d42
   have e1:ag a 93 = .bool b4:=d46
   refine op_valg s hgd (w':=w) (v:=.bool false) ?_ ?_
   ·simp only [execOp,eval_tmp,e0,e1]
    go_simp
   ·exact PostE.put (i:=47) ho (vwd5_mem 47 hk).2 (hlt 47 hk) (fun k hk2 hne _ => vwd5_inj 47 hk k hk2 hne) (.inl (Ext.refl _ _)) rfl hg
  | n + 48,hn,_ => exact absurd hn (by omega)
 ·intro a w ho hg hf
  have s:(ops[48]?).map sig = some (some 95,.pick (.tmp 85) (.const (.bool true)) (.tmp 94),4,none):=by subst hops;kernel_rfl
  have hgd:GdOk ops a none:=trivial
  have d38:=hf 38 (by decide)
  have d47:=hf 47 (by decide)
  have e0:ag a 85 = .bool false:=d38
  have e1:ag a 94 = .bool false:=d47
  refine op_valg s hgd (w':=w) (v:=.bool false) ?_ ?_
  ·simp only [execOp,eval_tmp,e0,e1]
   go_simp
  ·have ho2:Off (vwD5 ++ [95]) a0 (a.put (some 95) (.bool false)):=(ho.mono (fun s hs => List.mem_append_left _ hs)).put (by decide)
   exact hQ (ag (a.put (some 95) (.bool false))) w (ag_put (by rw [ho.size,hsz];decide)) hg _ (ho2.eq (fun s hs => by rw [hsz];revert s;decide))
def vwf20 (g17 g21 g23 g24 g26 pl pc M mc:Nat) (mv:Value) (pA mA:Option Addr) (ik is iq ii:Int) (iA:Option Addr) (il ic:Nat) (tk ts tq ti:Int) (tA:Option Addr) (tl tc:Nat) (vk vn:Int) (vA:Option Addr) (vl vc:Nat) (bm b1:Bool):Nat → Value → World → Prop
 | 0,v,w => v = .agg #[mv,.slice pA pl pc]
 | 1,v,w => v = .agg #[.int .i64 ik,.int .i64 is,.int .i64 iq,.int .i64 ii,.slice iA il ic]
 | 2,v,w => v = .agg #[.int .i64 4,.int .i64 0,.slice mA M mc]
 | 3,v,w => v = .bool bm
 | 4,v,w => v = .pointer (some ⟨g21,2,none⟩)
 | 5,v,w => v = .slice mA M mc
 | 6,v,w => v = .int .i64 (M:Int)
 | 7,v,w => v = .bool bm
 | 8,v,w => v = .bool true
 | 9,v,w => v = .bool true
 | 10,v,w => v = .agg #[mv,.slice pA pl pc]
 | 11,v,w => v = .agg #[.int .i64 tk,.int .i64 ts,.int .i64 tq,.int .i64 ti,.slice tA tl tc]
 | 12,v,w => v = .agg #[.int .i64 vk,.int .i64 vn,.slice vA vl vc]
 | 13,v,w => v = .bool b1
 | 14,v,w => v = .agg #[mv,.slice pA pl pc]
 | 15,v,w => v = .agg #[.int .i64 tk,.int .i64 ts,.int .i64 tq,.int .i64 ti,.slice tA tl tc]
 | 16,v,w => v = .agg #[.int .i64 vk,.int .i64 vn,.slice vA vl vc]
 | 17,v,w => v = .bool b1
 | 18,v,w => v = .bool true
 | 19,v,w => v = .bool true
 | 20,v,w => v = .bool true
 | 21,v,w => v = .bool true
 | 22,v,w => v = .bool true
 | _,_,_ => True
theorem vwf20_ext (g17 g21 g23 g24 g26 pl pc M mc:Nat) (mv:Value) (pA mA:Option Addr) (ik is iq ii:Int) (iA:Option Addr) (il ic:Nat) (tk ts tq ti:Int) (tA:Option Addr) (tl tc:Nat) (vk vn:Int) (vA:Option Addr) (vl vc:Nat) (bm b1:Bool) (S:Nat):∀ j v w w',j < 23 → (Ext S w w' ∨ (j ≠ 999 ∧ Never w w')) → vwf20 g17 g21 g23 g24 g26 pl pc M mc mv pA mA ik is iq ii iA il ic tk ts tq ti tA tl tc vk vn vA vl vc bm b1 j v w → vwf20 g17 g21 g23 g24 g26 pl pc M mc mv pA mA ik is iq ii iA il ic tk ts tq ti tA tl tc vk vn vA vl vc bm b1 j v w':=by
 intro j v w w' hj he h
 match j,hj,he,h with
 | 0,_,he,h => exact h
 | 1,_,he,h => exact h
 | 2,_,he,h => exact h
 | 3,_,he,h => exact h
 | 4,_,he,h => exact h
 | 5,_,he,h => exact h
 | 6,_,he,h => exact h
 | 7,_,he,h => exact h
 | 8,_,he,h => exact h
 | 9,_,he,h => exact h
 | 10,_,he,h => exact h
 | 11,_,he,h => exact h
 | 12,_,he,h => exact h
 | 13,_,he,h => exact h
 | 14,_,he,h => exact h
 | 15,_,he,h => exact h
 | 16,_,he,h => exact h
 | 17,_,he,h => exact h
 | 18,_,he,h => exact h
 | 19,_,he,h => exact h
 | 20,_,he,h => exact h
 | 21,_,he,h => exact h
 | 22,_,he,h => exact h
 | n + 23,hn,_,_ => exact absurd hn (by omega)
def vwD20:List Nat:=[127,128,129,130,131,132,133,134,135,136,137,138,139,140,141,142,143,144,145,146,147,148,149]
def vwd20 (k:Nat):Nat:=[127,128,129,130,131,132,133,134,135,136,137,138,139,140,141,142,143,144,145,146,147,148,149].getD k 0
theorem vwd20_mem:∀ k,k < 23 → vwd20 k < 150 ∧ vwd20 k ∈ vwD20:=by decide
theorem vwd20_inj:∀ i,i < 23 → ∀ k,k < 23 → k ≠ i → vwd20 i ≠ vwd20 k:=by decide
set_option maxHeartbeats 4000000 in
set_option maxRecDepth 100000 in
theorem vwreg20 {Q:Exit → Act → World → Prop} {id:Nat} {ops:Array Oper} (hops:ops = ((Tryd.f4.body).bind (opsOf 20)).getD #[]) (a0:Act) (w0:World) (g17 g21 g23 g24 g26 pl pc M mc:Nat) (mv:Value) (pA mA:Option Addr) (ik is iq ii:Int) (iA:Option Addr) (il ic:Nat) (tk ts tq ti:Int) (tA:Option Addr) (tl tc:Nat) (vk vn:Int) (vA:Option Addr) (vl vc:Nat) (bm b1:Bool) (hsz:a0.tmps.size = 150)
  (h17:ag a0 17 = .pointer (some ⟨g17,0,none⟩)) (h21:ag a0 21 = .pointer (some ⟨g21,0,none⟩)) (h23:ag a0 23 = .pointer (some ⟨g23,0,none⟩)) (h24:ag a0 24 = .pointer (some ⟨g24,0,none⟩)) (h26:ag a0 26 = .pointer (some ⟨g26,0,none⟩)) (hp:w0.rangeAt g17 0 [mv,.slice pA pl pc]) (hI:w0.rangeAt g26 0 [.int .i64 ik,.int .i64 is,.int .i64 iq,.int .i64 ii,.slice iA il ic]) (hm:w0.rangeAt g21 0 [.int .i64 4,.int .i64 0,.slice mA M mc]) (hm2:Arr w0 g21 3 53 [.int .i64 4,.int .i64 0,.slice mA M mc]) (ht:w0.rangeAt g23 0 [.int .i64 tk,.int .i64 ts,.int .i64 tq,.int .i64 ti,.slice tA tl tc]) (hv:w0.rangeAt g24 0 [.int .i64 vk,.int .i64 vn,.slice vA vl vc]) (hK:Kv w0) (hbm:decide ((M:Int) ≤ 255) = bm) (c0:∀ W,Below w0.heap.size w0 W → Calls Tryd.prog 25 #[.agg #[mv,.slice pA pl pc],.agg #[.int .i64 ik,.int .i64 is,.int .i64 iq,.int .i64 ii,.slice iA il ic],.agg #[.int .i64 4,.int .i64 0,.slice mA M mc]] W (BRes bm W)) (c1:∀ W,Below w0.heap.size w0 W → Calls Tryd.prog 25 #[.agg #[mv,.slice pA pl pc],.agg #[.int .i64 tk,.int .i64 ts,.int .i64 tq,.int .i64 ti,.slice tA tl tc],.agg #[.int .i64 vk,.int .i64 vn,.slice vA vl vc]] W (BRes b1 W)) (c2:∀ W,Below w0.heap.size w0 W → Calls Tryd.prog 26 #[.agg #[mv,.slice pA pl pc],.agg #[.int .i64 tk,.int .i64 ts,.int .i64 tq,.int .i64 ti,.slice tA tl tc],.agg #[.int .i64 vk,.int .i64 vn,.slice vA vl vc]] W (BRes b1 W))
  (hQ:∀ (vs:Nat → Value) (w':World),vs 16 = .bool true → Below w0.heap.size w0 w' → ∀ a',a' = (vwD20 ++ [16]).foldl (fun b s => b.put (some s) (vs s)) a0 → Q .normal a' w') :
  (Code.region id ops true).wp Tryd.prog Q a0 w0:=by
 have hg0:Below w0.heap.size w0 w0.drew:=below_drewN (Below.refl _ _) 1
 have hlt:∀ k,k < 23 → vwd20 k < a0.tmps.size:=fun k hk => by have:=(vwd20_mem k hk).1;omega
 refine wp_region_factsE 23 999 vwD20 vwd20 (vwf20 g17 g21 g23 g24 g26 pl pc M mc mv pA mA ik is iq ii iA il ic tk ts tq ti tA tl tc vk vn vA vl vc bm b1) (fun w => Below w0.heap.size w0 w) w0.heap.size Never (fun k => k) (by kernel_rfl) (by subst hops;kernel_rfl) (by subst hops;kernel_rfl) (by subst hops;kernel_rfl) (vwf20_ext g17 g21 g23 g24 g26 pl pc M mc mv pA mA ik is iq ii iA il ic tk ts tq ti tA tl tc vk vn vA vl vc bm b1 w0.heap.size) hg0 ?_ ?_
 ·intro j a w hj ho hg hd
  have hgs:=hg.size
  match j,hj,hd with
  | 0,hk,hd =>
   have s:(ops[0]?).map sig = some (some 127,.load 26 (.tmp 17),26,none):=by subst hops;kernel_rfl
   have hgd:GdOk ops a none:=trivial
   have e0:ag a 17 = .pointer (some ⟨g17,0,none⟩):=(ho.off 17 (by decide)).trans h17
   refine op_loadg s hgd g17 0 e0 [mv,.slice pA pl pc] _ (range_below hp hg) Tryd.underlying26 rfl info_prog ?_
   exact PostE.put (i:=0) ho (vwd20_mem 0 hk).2 (hlt 0 hk) (fun k hk2 hne _ => vwd20_inj 0 hk k hk2 hne) (.inl (Ext.refl _ _)) rfl hg
  | 1,hk,hd =>
   have s:(ops[1]?).map sig = some (some 128,.load 31 (.tmp 26),31,none):=by subst hops;kernel_rfl
   have hgd:GdOk ops a none:=trivial
   have e0:ag a 26 = .pointer (some ⟨g26,0,none⟩):=(ho.off 26 (by decide)).trans h26
   refine op_loadg s hgd g26 0 e0 [.int .i64 ik,.int .i64 is,.int .i64 iq,.int .i64 ii,.slice iA il ic] _ (range_below hI hg) Tryd.underlying31 rfl info_typesz ?_
   exact PostE.put (i:=1) ho (vwd20_mem 1 hk).2 (hlt 1 hk) (fun k hk2 hne _ => vwd20_inj 1 hk k hk2 hne) (.inl (Ext.refl _ _)) rfl hg
  | 2,hk,hd =>
   have s:(ops[2]?).map sig = some (some 129,.load 53 (.tmp 21),53,none):=by subst hops;kernel_rfl
   have hgd:GdOk ops a none:=trivial
   have e0:ag a 21 = .pointer (some ⟨g21,0,none⟩):=(ho.off 21 (by decide)).trans h21
   refine op_loadg s hgd g21 0 e0 [.int .i64 4,.int .i64 0,.slice mA M mc] _ (range_below hm hg) Tryd.underlying53 rfl info_val ?_
   exact PostE.put (i:=2) ho (vwd20_mem 2 hk).2 (hlt 2 hk) (fun k hk2 hne _ => vwd20_inj 2 hk k hk2 hne) (.inl (Ext.refl _ _)) rfl hg
  | 3,hk,hd =>
   have s:(ops[3]?).map sig = some (some 130,.call { callee:=.value (.func 25),args:=#[.tmp 127,.tmp 128,.tmp 129],argTypes:=#[26,31,53] },4,none):=by subst hops;kernel_rfl
   have hgd:GdOk ops a none:=trivial
   have d0:=hd 0 (by decide) (by subst hops;kernel_rfl)
   have d1:=hd 1 (by decide) (by subst hops;kernel_rfl)
   have d2:=hd 2 (by decide) (by subst hops;kernel_rfl)
   have e0:ag a 127 = .agg #[mv,.slice pA pl pc]:=d0
   have e1:ag a 128 = .agg #[.int .i64 ik,.int .i64 is,.int .i64 iq,.int .i64 ii,.slice iA il ic]:=d1
   have e2:ag a 129 = .agg #[.int .i64 4,.int .i64 0,.slice mA M mc]:=d2
   refine op_callg s hgd (w':=w) (f:=25) (args:=#[.agg #[mv,.slice pA pl pc],.agg #[.int .i64 ik,.int .i64 is,.int .i64 iq,.int .i64 ii,.slice iA il ic],.agg #[.int .i64 4,.int .i64 0,.slice mA M mc]]) ?_ ?_
   ·simp only [execOp]
    go_simp
    refine ⟨by simpa [ag] using e0,by simpa [ag] using e1,by simpa [ag] using e2⟩
   ·refine ((show Calls Tryd.prog _ #[.agg #[mv,.slice pA pl pc],.agg #[.int .i64 ik,.int .i64 is,.int .i64 iq,.int .i64 ii,.slice iA il ic],.agg #[.int .i64 4,.int .i64 0,.slice mA M mc]] w (BRes bm w) from c0 w hg)).mono ?_
    rintro e w' ⟨rfl,hb⟩
    exact ⟨_,rfl,PostE.put (i:=3) ho (vwd20_mem 3 hk).2 (hlt 3 hk) (fun k hk2 hne _ => vwd20_inj 3 hk k hk2 hne) (.inl (Ext.of hb)) rfl (later hg hb)⟩
  | 4,hk,hd =>
   have s:(ops[4]?).map sig = some (some 131,.fieldAddr 53 (.tmp 21) 2,0,none):=by subst hops;kernel_rfl
   have hgd:GdOk ops a none:=trivial
   have e0:ag a 21 = .pointer (some ⟨g21,0,none⟩):=(ho.off 21 (by decide)).trans h21
   refine op_valg s hgd (w':=w) (v:=.pointer (some ⟨g21,2,none⟩)) ?_ ?_
   ·simp only [execOp,eval_tmp,e0]
    go_simp
   ·exact PostE.put (i:=4) ho (vwd20_mem 4 hk).2 (hlt 4 hk) (fun k hk2 hne _ => vwd20_inj 4 hk k hk2 hne) (.inl (Ext.refl _ _)) rfl hg
  | 5,hk,hd =>
   have s:(ops[5]?).map sig = some (some 132,.load 51 (.tmp 131),51,none):=by subst hops;kernel_rfl
   have hgd:GdOk ops a none:=trivial
   have d4:=hd 4 (by decide) (by subst hops;kernel_rfl)
   have e0:ag a 131 = .pointer (some ⟨g21,2,none⟩):=d4
   have hc:=(hm2.later hg).cell (j:=2) (v:=.slice mA M mc) rfl
   refine op_valg s hgd (w':=w) (v:=.slice mA M mc) ?_ ?_
   ·simp only [execOp,eval_tmp,e0]
    go_simp
   ·exact PostE.put (i:=5) ho (vwd20_mem 5 hk).2 (hlt 5 hk) (fun k hk2 hne _ => vwd20_inj 5 hk k hk2 hne) (.inl (Ext.refl _ _)) rfl hg
  | 6,hk,hd =>
   have s:(ops[6]?).map sig = some (some 133,.call { callee:=.builtin .len,args:=#[.tmp 132],argTypes:=#[51] },3,none):=by subst hops;kernel_rfl
   have hgd:GdOk ops a none:=trivial
   have d5:=hd 5 (by decide) (by subst hops;kernel_rfl)
   have e0:ag a 132 = .slice mA M mc:=d5
   refine op_valg s hgd (w':=w) (v:=.int .i64 (M:Int)) ?_ ?_
   ·simp only [execOp]
    go_simp
    rw [show a.tmps[132]?.getD undef = (.slice mA M mc) by simpa [ag] using e0]
    go_simp
   ·exact PostE.put (i:=6) ho (vwd20_mem 6 hk).2 (hlt 6 hk) (fun k hk2 hne _ => vwd20_inj 6 hk k hk2 hne) (.inl (Ext.refl _ _)) rfl hg
  | 7,hk,hd =>
   have s:(ops[7]?).map sig = some (some 134,.binOp .leq 3 (.tmp 133) (.const (.int .i64 255)) 3,4,none):=by subst hops;kernel_rfl
   have hgd:GdOk ops a none:=trivial
   have d6:=hd 6 (by decide) (by subst hops;kernel_rfl)
   have e0:ag a 133 = .int .i64 (M:Int):=d6
   refine op_valg s hgd (w':=w) (v:=.bool bm) ?_ ?_
   ·simp only [execOp,eval_tmp,e0]
    rw [← hbm]
    go_simp
   ·exact PostE.put (i:=7) ho (vwd20_mem 7 hk).2 (hlt 7 hk) (fun k hk2 hne _ => vwd20_inj 7 hk k hk2 hne) (.inl (Ext.refl _ _)) rfl hg
  | 8,hk,hd =>
   have s:(ops[8]?).map sig = some (some 135,.binOp .eql 4 (.tmp 130) (.tmp 134) 4,4,none):=by subst hops;kernel_rfl
   have hgd:GdOk ops a none:=trivial
   have d3:=hd 3 (by decide) (by subst hops;kernel_rfl)
   have d7:=hd 7 (by decide) (by subst hops;kernel_rfl)
   have e0:ag a 130 = .bool bm:=d3
   have e1:ag a 134 = .bool bm:=d7
   refine op_valg s hgd (w':=w) (v:=.bool true) ?_ ?_
   ·simp only [execOp,eval_tmp,e0,e1]
    go_simp
   ·exact PostE.put (i:=8) ho (vwd20_mem 8 hk).2 (hlt 8 hk) (fun k hk2 hne _ => vwd20_inj 8 hk k hk2 hne) (.inl (Ext.refl _ _)) rfl hg
  | 9,hk,hd =>
   have s:(ops[9]?).map sig = some (some 136,.move (.tmp 135),4,none):=by subst hops;kernel_rfl
   have hgd:GdOk ops a none:=trivial
   have d8:=hd 8 (by decide) (by subst hops;kernel_rfl)
   have e0:ag a 135 = .bool true:=d8
   refine op_valg s hgd (w':=w) (v:=.bool true) ?_ ?_
   ·exact congrArg (fun x => Result.ok (Next.value x) w) e0
   ·exact PostE.put (i:=9) ho (vwd20_mem 9 hk).2 (hlt 9 hk) (fun k hk2 hne _ => vwd20_inj 9 hk k hk2 hne) (.inl (Ext.refl _ _)) rfl hg
  | 10,hk,hd =>
   have s:(ops[10]?).map sig = some (some 137,.load 26 (.tmp 17),26,some (9,true)):=by subst hops;kernel_rfl
   have hgd:GdOk ops a (some (9,true)):=yielded_of (d:=136) (by subst hops;kernel_rfl) (hd 9 (by decide) (by subst hops;kernel_rfl))
   have e0:ag a 17 = .pointer (some ⟨g17,0,none⟩):=(ho.off 17 (by decide)).trans h17
   refine op_loadg s hgd g17 0 e0 [mv,.slice pA pl pc] _ (range_below hp hg) Tryd.underlying26 rfl info_prog ?_
   exact PostE.put (i:=10) ho (vwd20_mem 10 hk).2 (hlt 10 hk) (fun k hk2 hne _ => vwd20_inj 10 hk k hk2 hne) (.inl (Ext.refl _ _)) rfl hg
  | 11,hk,hd =>
   have s:(ops[11]?).map sig = some (some 138,.load 31 (.tmp 23),31,some (9,true)):=by subst hops;kernel_rfl
   have hgd:GdOk ops a (some (9,true)):=yielded_of (d:=136) (by subst hops;kernel_rfl) (hd 9 (by decide) (by subst hops;kernel_rfl))
   have e0:ag a 23 = .pointer (some ⟨g23,0,none⟩):=(ho.off 23 (by decide)).trans h23
   refine op_loadg s hgd g23 0 e0 [.int .i64 tk,.int .i64 ts,.int .i64 tq,.int .i64 ti,.slice tA tl tc] _ (range_below ht hg) Tryd.underlying31 rfl info_typesz ?_
   exact PostE.put (i:=11) ho (vwd20_mem 11 hk).2 (hlt 11 hk) (fun k hk2 hne _ => vwd20_inj 11 hk k hk2 hne) (.inl (Ext.refl _ _)) rfl hg
  | 12,hk,hd =>
   have s:(ops[12]?).map sig = some (some 139,.load 53 (.tmp 24),53,some (9,true)):=by subst hops;kernel_rfl
   have hgd:GdOk ops a (some (9,true)):=yielded_of (d:=136) (by subst hops;kernel_rfl) (hd 9 (by decide) (by subst hops;kernel_rfl))
   have e0:ag a 24 = .pointer (some ⟨g24,0,none⟩):=(ho.off 24 (by decide)).trans h24
   refine op_loadg s hgd g24 0 e0 [.int .i64 vk,.int .i64 vn,.slice vA vl vc] _ (range_below hv hg) Tryd.underlying53 rfl info_val ?_
   exact PostE.put (i:=12) ho (vwd20_mem 12 hk).2 (hlt 12 hk) (fun k hk2 hne _ => vwd20_inj 12 hk k hk2 hne) (.inl (Ext.refl _ _)) rfl hg
  | 13,hk,hd =>
   have s:(ops[13]?).map sig = some (some 140,.call { callee:=.value (.func 25),args:=#[.tmp 137,.tmp 138,.tmp 139],argTypes:=#[26,31,53] },4,some (9,true)):=by subst hops;kernel_rfl
   have hgd:GdOk ops a (some (9,true)):=yielded_of (d:=136) (by subst hops;kernel_rfl) (hd 9 (by decide) (by subst hops;kernel_rfl))
   have d10:=hd 10 (by decide) (by subst hops;kernel_rfl)
   have d11:=hd 11 (by decide) (by subst hops;kernel_rfl)
   have d12:=hd 12 (by decide) (by subst hops;kernel_rfl)
   have e0:ag a 137 = .agg #[mv,.slice pA pl pc]:=d10
   have e1:ag a 138 = .agg #[.int .i64 tk,.int .i64 ts,.int .i64 tq,.int .i64 ti,.slice tA tl tc]:=d11
   have e2:ag a 139 = .agg #[.int .i64 vk,.int .i64 vn,.slice vA vl vc]:=d12
   refine op_callg s hgd (w':=w) (f:=25) (args:=#[.agg #[mv,.slice pA pl pc],.agg #[.int .i64 tk,.int .i64 ts,.int .i64 tq,.int .i64 ti,.slice tA tl tc],.agg #[.int .i64 vk,.int .i64 vn,.slice vA vl vc]]) ?_ ?_
   ·simp only [execOp]
    go_simp
    refine ⟨by simpa [ag] using e0,by simpa [ag] using e1,by simpa [ag] using e2⟩
   ·refine ((show Calls Tryd.prog _ #[.agg #[mv,.slice pA pl pc],.agg #[.int .i64 tk,.int .i64 ts,.int .i64 tq,.int .i64 ti,.slice tA tl tc],.agg #[.int .i64 vk,.int .i64 vn,.slice vA vl vc]] w (BRes b1 w) from c1 w hg)).mono ?_
    rintro e w' ⟨rfl,hb⟩
    exact ⟨_,rfl,PostE.put (i:=13) ho (vwd20_mem 13 hk).2 (hlt 13 hk) (fun k hk2 hne _ => vwd20_inj 13 hk k hk2 hne) (.inl (Ext.of hb)) rfl (later hg hb)⟩
  | 14,hk,hd =>
   have s:(ops[14]?).map sig = some (some 141,.load 26 (.tmp 17),26,some (9,true)):=by subst hops;kernel_rfl
   have hgd:GdOk ops a (some (9,true)):=yielded_of (d:=136) (by subst hops;kernel_rfl) (hd 9 (by decide) (by subst hops;kernel_rfl))
   have e0:ag a 17 = .pointer (some ⟨g17,0,none⟩):=(ho.off 17 (by decide)).trans h17
   refine op_loadg s hgd g17 0 e0 [mv,.slice pA pl pc] _ (range_below hp hg) Tryd.underlying26 rfl info_prog ?_
   exact PostE.put (i:=14) ho (vwd20_mem 14 hk).2 (hlt 14 hk) (fun k hk2 hne _ => vwd20_inj 14 hk k hk2 hne) (.inl (Ext.refl _ _)) rfl hg
  | 15,hk,hd =>
   have s:(ops[15]?).map sig = some (some 142,.load 31 (.tmp 23),31,some (9,true)):=by subst hops;kernel_rfl
   have hgd:GdOk ops a (some (9,true)):=yielded_of (d:=136) (by subst hops;kernel_rfl) (hd 9 (by decide) (by subst hops;kernel_rfl))
   have e0:ag a 23 = .pointer (some ⟨g23,0,none⟩):=(ho.off 23 (by decide)).trans h23
   refine op_loadg s hgd g23 0 e0 [.int .i64 tk,.int .i64 ts,.int .i64 tq,.int .i64 ti,.slice tA tl tc] _ (range_below ht hg) Tryd.underlying31 rfl info_typesz ?_
   exact PostE.put (i:=15) ho (vwd20_mem 15 hk).2 (hlt 15 hk) (fun k hk2 hne _ => vwd20_inj 15 hk k hk2 hne) (.inl (Ext.refl _ _)) rfl hg
  | 16,hk,hd =>
   have s:(ops[16]?).map sig = some (some 143,.load 53 (.tmp 24),53,some (9,true)):=by subst hops;kernel_rfl
   have hgd:GdOk ops a (some (9,true)):=yielded_of (d:=136) (by subst hops;kernel_rfl) (hd 9 (by decide) (by subst hops;kernel_rfl))
   have e0:ag a 24 = .pointer (some ⟨g24,0,none⟩):=(ho.off 24 (by decide)).trans h24
   refine op_loadg s hgd g24 0 e0 [.int .i64 vk,.int .i64 vn,.slice vA vl vc] _ (range_below hv hg) Tryd.underlying53 rfl info_val ?_
   exact PostE.put (i:=16) ho (vwd20_mem 16 hk).2 (hlt 16 hk) (fun k hk2 hne _ => vwd20_inj 16 hk k hk2 hne) (.inl (Ext.refl _ _)) rfl hg
  | 17,hk,hd =>
   have s:(ops[17]?).map sig = some (some 144,.call { callee:=.value (.func 26),args:=#[.tmp 141,.tmp 142,.tmp 143],argTypes:=#[26,31,53] },4,some (9,true)):=by subst hops;kernel_rfl
   have hgd:GdOk ops a (some (9,true)):=yielded_of (d:=136) (by subst hops;kernel_rfl) (hd 9 (by decide) (by subst hops;kernel_rfl))
   have d14:=hd 14 (by decide) (by subst hops;kernel_rfl)
   have d15:=hd 15 (by decide) (by subst hops;kernel_rfl)
   have d16:=hd 16 (by decide) (by subst hops;kernel_rfl)
   have e0:ag a 141 = .agg #[mv,.slice pA pl pc]:=d14
   have e1:ag a 142 = .agg #[.int .i64 tk,.int .i64 ts,.int .i64 tq,.int .i64 ti,.slice tA tl tc]:=d15
   have e2:ag a 143 = .agg #[.int .i64 vk,.int .i64 vn,.slice vA vl vc]:=d16
   refine op_callg s hgd (w':=w) (f:=26) (args:=#[.agg #[mv,.slice pA pl pc],.agg #[.int .i64 tk,.int .i64 ts,.int .i64 tq,.int .i64 ti,.slice tA tl tc],.agg #[.int .i64 vk,.int .i64 vn,.slice vA vl vc]]) ?_ ?_
   ·simp only [execOp]
    go_simp
    refine ⟨by simpa [ag] using e0,by simpa [ag] using e1,by simpa [ag] using e2⟩
   ·refine ((show Calls Tryd.prog _ #[.agg #[mv,.slice pA pl pc],.agg #[.int .i64 tk,.int .i64 ts,.int .i64 tq,.int .i64 ti,.slice tA tl tc],.agg #[.int .i64 vk,.int .i64 vn,.slice vA vl vc]] w (BRes b1 w) from c2 w hg)).mono ?_
    rintro e w' ⟨rfl,hb⟩
    exact ⟨_,rfl,PostE.put (i:=17) ho (vwd20_mem 17 hk).2 (hlt 17 hk) (fun k hk2 hne _ => vwd20_inj 17 hk k hk2 hne) (.inl (Ext.of hb)) rfl (later hg hb)⟩
  | 18,hk,hd =>
   have s:(ops[18]?).map sig = some (some 145,.binOp .eql 4 (.tmp 140) (.tmp 144) 4,4,some (9,true)):=by subst hops;kernel_rfl
   have hgd:GdOk ops a (some (9,true)):=yielded_of (d:=136) (by subst hops;kernel_rfl) (hd 9 (by decide) (by subst hops;kernel_rfl))
   have d13:=hd 13 (by decide) (by subst hops;kernel_rfl)
   have d17:=hd 17 (by decide) (by subst hops;kernel_rfl)
   have e0:ag a 140 = .bool b1:=d13
   have e1:ag a 144 = .bool b1:=d17
   refine op_valg s hgd (w':=w) (v:=.bool true) ?_ ?_
   ·simp only [execOp,eval_tmp,e0,e1]
    go_simp
   ·exact PostE.put (i:=18) ho (vwd20_mem 18 hk).2 (hlt 18 hk) (fun k hk2 hne _ => vwd20_inj 18 hk k hk2 hne) (.inl (Ext.refl _ _)) rfl hg
  | 19,hk,hd =>
   have s:(ops[19]?).map sig = some (some 146,.pick (.tmp 136) (.tmp 145) (.const (.bool false)),4,none):=by subst hops;kernel_rfl
   have hgd:GdOk ops a none:=trivial
   have d9:=hd 9 (by decide) (by subst hops;kernel_rfl)
   have d18:=hd 18 (by decide) (by subst hops;kernel_rfl)
   have e0:ag a 136 = .bool true:=d9
   have e1:ag a 145 = .bool true:=d18
   refine op_valg s hgd (w':=w) (v:=.bool true) ?_ ?_
   ·simp only [execOp,eval_tmp,e0,e1]
    go_simp
   ·exact PostE.put (i:=19) ho (vwd20_mem 19 hk).2 (hlt 19 hk) (fun k hk2 hne _ => vwd20_inj 19 hk k hk2 hne) (.inl (Ext.refl _ _)) rfl hg
  | 20,hk,hd =>
   have s:(ops[20]?).map sig = some (some 147,.move (.tmp 146),4,none):=by subst hops;kernel_rfl
   have hgd:GdOk ops a none:=trivial
   have d19:=hd 19 (by decide) (by subst hops;kernel_rfl)
   have e0:ag a 146 = .bool true:=d19
   refine op_valg s hgd (w':=w) (v:=.bool true) ?_ ?_
   ·exact congrArg (fun x => Result.ok (Next.value x) w) e0
   ·exact PostE.put (i:=20) ho (vwd20_mem 20 hk).2 (hlt 20 hk) (fun k hk2 hne _ => vwd20_inj 20 hk k hk2 hne) (.inl (Ext.refl _ _)) rfl hg
  | 21,hk,hd =>
   have s:(ops[21]?).map sig = some (some 148,.call { callee:=.value (.func 22),args:=#[],argTypes:=#[] },4,some (20,true)):=by subst hops;kernel_rfl
   have hgd:GdOk ops a (some (20,true)):=yielded_of (d:=147) (by subst hops;kernel_rfl) (hd 20 (by decide) (by subst hops;kernel_rfl))
   refine op_callg s hgd (w':=w) (f:=22) (args:=#[]) ?_ ?_
   ·simp only [execOp]
    go_simp
   ·refine ((show Calls Tryd.prog _ _ w (BRes true w) from lives_any w (hK.later hg))).mono ?_
    rintro e w' ⟨rfl,hb⟩
    exact ⟨_,rfl,PostE.put (i:=21) ho (vwd20_mem 21 hk).2 (hlt 21 hk) (fun k hk2 hne _ => vwd20_inj 21 hk k hk2 hne) (.inl (Ext.of hb)) rfl (later hg hb)⟩
  | 22,hk,hd =>
   have s:(ops[22]?).map sig = some (some 149,.pick (.tmp 147) (.tmp 148) (.const (.bool false)),4,none):=by subst hops;kernel_rfl
   have hgd:GdOk ops a none:=trivial
   have d20:=hd 20 (by decide) (by subst hops;kernel_rfl)
   have d21:=hd 21 (by decide) (by subst hops;kernel_rfl)
   have e0:ag a 147 = .bool true:=d20
   have e1:ag a 148 = .bool true:=d21
   refine op_valg s hgd (w':=w) (v:=.bool true) ?_ ?_
   ·simp only [execOp,eval_tmp,e0,e1]
    go_simp
   ·exact PostE.put (i:=22) ho (vwd20_mem 22 hk).2 (hlt 22 hk) (fun k hk2 hne _ => vwd20_inj 22 hk k hk2 hne) (.inl (Ext.refl _ _)) rfl hg
  | n + 23,hn,_ => exact absurd hn (by omega)
 ·intro a w ho hg hf
  have s:(ops[23]?).map sig = some (some 16,.assign (.tmp 149),4,none):=by subst hops;kernel_rfl
  have hgd:GdOk ops a none:=trivial
  have d22:=hf 22 (by decide)
  have e0:ag a 149 = .bool true:=d22
  refine op_valg s hgd (w':=w) (v:=.bool true) ?_ ?_
  ·exact congrArg (fun x => Result.ok (Next.value x) w) e0
  ·have ho2:Off (vwD20 ++ [16]) a0 (a.put (some 16) (.bool true)):=(ho.mono (fun s hs => List.mem_append_left _ hs)).put (by decide)
   exact hQ (ag (a.put (some 16) (.bool true))) w (ag_put (by rw [ho.size,hsz];decide)) hg _ (ho2.eq (fun s hs => by rw [hsz];revert s;decide))
end Go.Proofs.YtkpoiljioadfgaaDoor
