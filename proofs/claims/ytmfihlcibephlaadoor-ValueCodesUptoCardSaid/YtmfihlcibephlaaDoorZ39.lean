import Derived.Test.YtmfihlcibephlaaDoorZ08
import Derived.Test.YtmfihlcibephlaaDoorZ09
import Derived.Test.YtmfihlcibephlaaDoorZ10
import Derived.Test.YtmfihlcibephlaaDoorZ13
import Derived.Test.YtmfihlcibephlaaDoorZ27
import Derived.Test.YtmfihlcibephlaaDoorZ34
import Derived.Test.YtmfihlcibephlaaDoorZ36
import Derived.Test.YtmfihlcibephlaaDoorZ37
import Derived.Test.YtmfihlcibephlaaDoorZ38
set_option linter.unusedVariables false
set_option linter.unusedSimpArgs false
namespace Go.Proofs.YtmfihlcibephlaaDoor
open Go.RowKit
def vccf2 (gx gd0 o n cap k:Nat) (mv lv:Value) (P:List Df) (S:Nat):Option Nat → Nat → Value → World → Prop
 | γ,0,v,w => v = .agg #[mv,.slice (some ⟨gd0,o,none⟩) n cap]
 | γ,1,v,w => v = .pointer (some ⟨gx,1,none⟩)
 | γ,2,v,w => v = .slice (some ⟨gd0,o,none⟩) n cap
 | γ,3,v,w => v = .pointer (some ⟨gx,1,none⟩)
 | γ,4,v,w => v = .slice (some ⟨gd0,o,none⟩) n cap
 | γ,5,v,w => v = .int .i64 (n:Int)
 | γ,6,v,w => v = .int .i64 (k:Int)
 | γ,7,v,w => v = .pointer (some ⟨gd0,o + k * 31,none⟩)
 | γ,8,v,w => v = .pointer (some ⟨gd0,o + k * 31,none⟩)
 | γ,9,v,w => v = .agg #[.int .i64 0,.int .i64 1,.int .i64 (1 + (k:Int))]
 | γ,10,v,w => v = .agg #[.int .i64 3,.int .i64 0,.int .i64 1,.int .i64 (1 + (k:Int)),.slice none 0 0]
 | γ,11,v,w => v = lv
 | γ,12,v,w => ∃ (x:Tr) (xk xn:Int) (xA:Option Addr) (xl xc:Nat),v = .agg #[.int .i64 xk,.int .i64 xn,.slice xA xl xc] ∧ TrF (fun b => S ≤ b ∧ γ ≠ some b) w x (.agg #[.int .i64 xk,.int .i64 xn,.slice xA xl xc]) ∧ (ft P x (tD k) = true ∧ x.nodes ≤ 256 ∧ x.dep ≤ 10)
 | γ,13,v,w => ∃ g:Nat,γ = some g ∧ v = .pointer (some ⟨g,0,none⟩) ∧ S ≤ g ∧ Arr w g 3 53 zc3
 | _,_,_,_ => True
def vccEa2 (g:Nat) (w w':World):Prop:=∃ xs:Array Value,g = w.heap.size ∧ w' = w.alloc (.cells xs 53)
theorem vccf2_ext (gx gd0 o n cap k:Nat) (mv lv:Value) (P:List Df) (S:Nat):∀ γ j v w w',j < 14 → (Ext S w w' ∨ (j ≠ 999 ∧ Never w w')) → vccf2 gx gd0 o n cap k mv lv P S γ j v w → vccf2 gx gd0 o n cap k mv lv P S γ j v w':=by
 intro γ j v w w' hj he h
 match j,hj,he,h with
 | 0,_,he,h => exact h
 | 1,_,he,h => exact h
 | 2,_,he,h => exact h
 | 3,_,he,h => exact h
 | 4,_,he,h => exact h
 | 5,_,he,h => exact h
 | 6,_,he,h => exact h
 | 7,_,he,h => exact h
 | 8,_,he,h => exact h
 | 9,_,he,h => exact h
 | 10,_,he,h => exact h
 | 11,_,he,h => exact h
 | 12,_,he,h => obtain ⟨x,xk,xn,xA,xl,xc,e1,e2,e3⟩:=h;exact he.elim (fun q => ⟨x,xk,xn,xA,xl,xc,e1,e2.keep (fun _ h => h) (fun b hb hl => q.2 b hb.1 hl),e3⟩) (fun q => absurd q.2 id)
 | 13,_,he,h => obtain ⟨g,e0,e1,e2,e4⟩:=h;exact he.elim (fun q => ⟨g,e0,e1,e2,e4.ext q e2⟩) (fun q => absurd q.2 id)
 | n + 14,hn,_,_ => exact absurd hn (by omega)
theorem vccf2_new (gx gd0 o n cap k:Nat) (mv lv:Value) (P:List Df) (S:Nat):∀ g j v w w',j < 14 → j ≠ 13 → vccEa2 g w w' → vccf2 gx gd0 o n cap k mv lv P S none j v w → vccf2 gx gd0 o n cap k mv lv P S (some g) j v w':=by
 intro g j v w w' hj hjp he h
 match j,hj,hjp,h with
 | 0,_,hjp,h => exact h
 | 1,_,hjp,h => exact h
 | 2,_,hjp,h => exact h
 | 3,_,hjp,h => exact h
 | 4,_,hjp,h => exact h
 | 5,_,hjp,h => exact h
 | 6,_,hjp,h => exact h
 | 7,_,hjp,h => exact h
 | 8,_,hjp,h => exact h
 | 9,_,hjp,h => exact h
 | 10,_,hjp,h => exact h
 | 11,_,hjp,h => exact h
 | 12,_,hjp,h => obtain ⟨x,xk,xn,xA,xl,xc,e1,e2,e3⟩:=h;obtain ⟨xs,rfl,rfl⟩:=he;exact ⟨x,xk,xn,xA,xl,xc,e1,(TrF.both e2 e2.at_.old).keep (fun b hb => ⟨hb.1.1,fun e => by have:=Option.some.inj e;have:=hb.2;omega⟩) (fun b hb _ => (new_later w _).block b hb.2),e3⟩
 | 13,_,hjp,h => exact absurd rfl hjp
 | n + 14,hn,_,_ => exact absurd hn (by omega)
def vccD2:List Nat:=[34,35,36,37,38,39,40,41,42,43,44,45,46,16]
def vccd2 (k:Nat):Nat:=[34,35,36,37,38,39,40,41,42,43,44,45,46,16].getD k 0
theorem vccd2_mem:∀ k,k < 14 → vccd2 k < 158 ∧ vccd2 k ∈ vccD2:=by decide
theorem vccd2_inj:∀ i,i < 14 → ∀ k,k < 14 → k ≠ i → vccd2 i ≠ vccd2 k:=by decide
set_option maxHeartbeats 4000000 in
set_option maxRecDepth 100000 in
theorem vccreg2 {Q:Exit → Act → World → Prop} {id:Nat} {ops:Array Oper} (hops:ops = ((Tryd.f7.body).bind (opsOf 2)).getD #[]) (a0:Act) (w0:World) (gx gd0 o n cap k:Nat) (mv lv:Value) (P:List Df) (hsz:a0.tmps.size = 158)
  (h15:ag a0 15 = .pointer (some ⟨gx,0,none⟩)) (h1:ag a0 1 = lv) (hx:Arr w0 gx 2 26 [mv,.slice (some ⟨gd0,o,none⟩) n cap]) (hi:w0.rangeAt gd0 (o + k * 31) [.int .i64 0,.int .i64 1,.int .i64 (1 + (k:Int))]) (hkn:(k:Int) < (n:Int)) (hk0:(0:Int) ≤ (k:Int)) (hsub:IntKind.i64.wrap ((n:Int) - 1) = (k:Int)) (hz:∀ W,Below w0.heap.size w0 W → Calls Tryd.prog 23 #[.agg #[mv,.slice (some ⟨gd0,o,none⟩) n cap],.agg #[.int .i64 3,.int .i64 0,.int .i64 1,.int .i64 (1 + (k:Int)),.slice none 0 0],lv] W (VVal P (tD k) W))
  (hQ:∀ (vs:Nat → Value) (w':World) (g:Nat) (x:Tr) (xk xn:Int) (xA:Option Addr) (xl xc:Nat),vs 16 = .pointer (some ⟨g,0,none⟩) → w0.heap.size ≤ g → Arr w' g 3 53 [.int .i64 xk,.int .i64 xn,.slice xA xl xc] → TrAt w' x (.agg #[.int .i64 xk,.int .i64 xn,.slice xA xl xc]) → (ft P x (tD k) = true ∧ x.nodes ≤ 256 ∧ x.dep ≤ 10) → Below w0.heap.size w0 w' → ∀ a',a' = vccD2.foldl (fun b s => b.put (some s) (vs s)) a0 → Q .normal a' w') :
  (Code.region id ops true).wp Tryd.prog Q a0 w0:=by
 have hg0:Below w0.heap.size w0 w0.drew:=below_drewN (Below.refl _ _) 1
 have hlt:∀ k,k < 14 → vccd2 k < a0.tmps.size:=fun k hk => by have:=(vccd2_mem k hk).1;omega
 refine wp_region_factsG 14 13 999 vccD2 vccd2 (vccf2 gx gd0 o n cap k mv lv P w0.heap.size) (fun γ w => Below w0.heap.size w0 w ∧ ∀ g,γ = some g → g < w.heap.size) w0.heap.size vccEa2 (fun _ => Never) (fun k => k) (by kernel_rfl) (by subst hops;kernel_rfl) (by subst hops;kernel_rfl) (by subst hops;kernel_rfl) (by decide) (vccf2_ext gx gd0 o n cap k mv lv P w0.heap.size) (vccf2_new gx gd0 o n cap k mv lv P w0.heap.size) ⟨hg0,fun _ h => by cases h⟩ ?_ ?_ ?_
 ·intro γ j a w hj hjp ho hG hd
  have hg:=hG.1
  have hgs:=hg.size
  match j,hj,hjp,hd with
  | 0,hk,hjp,hd =>
   have s:(ops[0]?).map sig = some (some 34,.load 26 (.tmp 15),26,none):=by subst hops;kernel_rfl
   have hgd:GdOk ops a none:=trivial
   have e0:ag a 15 = .pointer (some ⟨gx,0,none⟩):=(ho.off 15 (by decide)).trans h15
   refine op_loadg s hgd gx 0 e0 [mv,.slice (some ⟨gd0,o,none⟩) n cap] _ ((hx.later hg).range) Tryd.underlying26 rfl info_prog ?_
   exact PostE.put (i:=0) ho (vccd2_mem 0 hk).2 (hlt 0 hk) (fun k hk2 hne _ => vccd2_inj 0 hk k hk2 hne) (.inl (Ext.refl _ _)) rfl hG
  | 1,hk,hjp,hd =>
   have s:(ops[1]?).map sig = some (some 35,.fieldAddr 26 (.tmp 15) 1,0,none):=by subst hops;kernel_rfl
   have hgd:GdOk ops a none:=trivial
   have e0:ag a 15 = .pointer (some ⟨gx,0,none⟩):=(ho.off 15 (by decide)).trans h15
   refine op_valg s hgd (w':=w) (v:=.pointer (some ⟨gx,1,none⟩)) ?_ ?_
   ·simp only [execOp,eval_tmp,e0]
    go_simp
   ·exact PostE.put (i:=1) ho (vccd2_mem 1 hk).2 (hlt 1 hk) (fun k hk2 hne _ => vccd2_inj 1 hk k hk2 hne) (.inl (Ext.refl _ _)) rfl hG
  | 2,hk,hjp,hd =>
   have s:(ops[2]?).map sig = some (some 36,.load 24 (.tmp 35),24,none):=by subst hops;kernel_rfl
   have hgd:GdOk ops a none:=trivial
   have d1:=hd 1 (by decide) (by subst hops;kernel_rfl)
   have e0:ag a 35 = .pointer (some ⟨gx,1,none⟩):=d1
   have hc:=(hx.later hg).cell (j:=1) (v:=.slice (some ⟨gd0,o,none⟩) n cap) rfl
   refine op_valg s hgd (w':=w) (v:=.slice (some ⟨gd0,o,none⟩) n cap) ?_ ?_
   ·simp only [execOp,eval_tmp,e0]
    go_simp
   ·exact PostE.put (i:=2) ho (vccd2_mem 2 hk).2 (hlt 2 hk) (fun k hk2 hne _ => vccd2_inj 2 hk k hk2 hne) (.inl (Ext.refl _ _)) rfl hG
  | 3,hk,hjp,hd =>
   have s:(ops[3]?).map sig = some (some 37,.fieldAddr 26 (.tmp 15) 1,0,none):=by subst hops;kernel_rfl
   have hgd:GdOk ops a none:=trivial
   have e0:ag a 15 = .pointer (some ⟨gx,0,none⟩):=(ho.off 15 (by decide)).trans h15
   refine op_valg s hgd (w':=w) (v:=.pointer (some ⟨gx,1,none⟩)) ?_ ?_
   ·simp only [execOp,eval_tmp,e0]
    go_simp
   ·exact PostE.put (i:=3) ho (vccd2_mem 3 hk).2 (hlt 3 hk) (fun k hk2 hne _ => vccd2_inj 3 hk k hk2 hne) (.inl (Ext.refl _ _)) rfl hG
  | 4,hk,hjp,hd =>
   have s:(ops[4]?).map sig = some (some 38,.load 24 (.tmp 37),24,none):=by subst hops;kernel_rfl
   have hgd:GdOk ops a none:=trivial
   have d3:=hd 3 (by decide) (by subst hops;kernel_rfl)
   have e0:ag a 37 = .pointer (some ⟨gx,1,none⟩):=d3
   have hc:=(hx.later hg).cell (j:=1) (v:=.slice (some ⟨gd0,o,none⟩) n cap) rfl
   refine op_valg s hgd (w':=w) (v:=.slice (some ⟨gd0,o,none⟩) n cap) ?_ ?_
   ·simp only [execOp,eval_tmp,e0]
    go_simp
   ·exact PostE.put (i:=4) ho (vccd2_mem 4 hk).2 (hlt 4 hk) (fun k hk2 hne _ => vccd2_inj 4 hk k hk2 hne) (.inl (Ext.refl _ _)) rfl hG
  | 5,hk,hjp,hd =>
   have s:(ops[5]?).map sig = some (some 39,.call { callee:=.builtin .len,args:=#[.tmp 38],argTypes:=#[24] },3,none):=by subst hops;kernel_rfl
   have hgd:GdOk ops a none:=trivial
   have d4:=hd 4 (by decide) (by subst hops;kernel_rfl)
   have e0:ag a 38 = .slice (some ⟨gd0,o,none⟩) n cap:=d4
   refine op_valg s hgd (w':=w) (v:=.int .i64 (n:Int)) ?_ ?_
   ·simp only [execOp]
    go_simp
    rw [show a.tmps[38]?.getD undef = (.slice (some ⟨gd0,o,none⟩) n cap) by simpa [ag] using e0]
    go_simp
   ·exact PostE.put (i:=5) ho (vccd2_mem 5 hk).2 (hlt 5 hk) (fun k hk2 hne _ => vccd2_inj 5 hk k hk2 hne) (.inl (Ext.refl _ _)) rfl hG
  | 6,hk,hjp,hd =>
   have s:(ops[6]?).map sig = some (some 40,.binOp .sub 3 (.tmp 39) (.const (.int .i64 1)) 3,3,none):=by subst hops;kernel_rfl
   have hgd:GdOk ops a none:=trivial
   have d5:=hd 5 (by decide) (by subst hops;kernel_rfl)
   have e0:ag a 39 = .int .i64 (n:Int):=d5
   refine op_valg s hgd (w':=w) (v:=.int .i64 (k:Int)) ?_ ?_
   ·simp only [execOp,eval_tmp,e0]
    go_simp
    first | done | exact hsub | simp [hsub]
   ·exact PostE.put (i:=6) ho (vccd2_mem 6 hk).2 (hlt 6 hk) (fun k hk2 hne _ => vccd2_inj 6 hk k hk2 hne) (.inl (Ext.refl _ _)) rfl hG
  | 7,hk,hjp,hd =>
   have s:(ops[7]?).map sig = some (some 41,.indexAddr 24 (.tmp 36) (.tmp 40),0,none):=by subst hops;kernel_rfl
   have hgd:GdOk ops a none:=trivial
   have d2:=hd 2 (by decide) (by subst hops;kernel_rfl)
   have d6:=hd 6 (by decide) (by subst hops;kernel_rfl)
   have e0:ag a 36 = .slice (some ⟨gd0,o,none⟩) n cap:=d2
   have e1:ag a 40 = .int .i64 (k:Int):=d6
   refine op_valg s hgd (w':=w) (v:=.pointer (some ⟨gd0,o + k * 31,none⟩)) ?_ ?_
   ·simp only [execOp,eval_tmp,e0,e1]
    go_simp
   ·exact PostE.put (i:=7) ho (vccd2_mem 7 hk).2 (hlt 7 hk) (fun k hk2 hne _ => vccd2_inj 7 hk k hk2 hne) (.inl (Ext.refl _ _)) rfl hG
  | 8,hk,hjp,hd =>
   have s:(ops[8]?).map sig = some (some 42,.fieldAddr 46 (.tmp 41) 0,0,none):=by subst hops;kernel_rfl
   have hgd:GdOk ops a none:=trivial
   have d7:=hd 7 (by decide) (by subst hops;kernel_rfl)
   have e0:ag a 41 = .pointer (some ⟨gd0,o + k * 31,none⟩):=d7
   refine op_valg s hgd (w':=w) (v:=.pointer (some ⟨gd0,o + k * 31,none⟩)) ?_ ?_
   ·simp only [execOp,eval_tmp,e0]
    go_simp
   ·exact PostE.put (i:=8) ho (vccd2_mem 8 hk).2 (hlt 8 hk) (fun k hk2 hne _ => vccd2_inj 8 hk k hk2 hne) (.inl (Ext.refl _ _)) rfl hG
  | 9,hk,hjp,hd =>
   have s:(ops[9]?).map sig = some (some 43,.load 28 (.tmp 42),28,none):=by subst hops;kernel_rfl
   have hgd:GdOk ops a none:=trivial
   have d8:=hd 8 (by decide) (by subst hops;kernel_rfl)
   have e0:ag a 42 = .pointer (some ⟨gd0,o + k * 31,none⟩):=d8
   refine op_loadg s hgd gd0 (o + k * 31) e0 [.int .i64 0,.int .i64 1,.int .i64 (1 + (k:Int))] _ (range_below hi hg) Tryd.underlying28 rfl info_id ?_
   exact PostE.put (i:=9) ho (vccd2_mem 9 hk).2 (hlt 9 hk) (fun k hk2 hne _ => vccd2_inj 9 hk k hk2 hne) (.inl (Ext.refl _ _)) rfl hG
  | 10,hk,hjp,hd =>
   have s:(ops[10]?).map sig = some (some 44,.call { callee:=.value (.func 14),args:=#[.tmp 43],argTypes:=#[28] },31,none):=by subst hops;kernel_rfl
   have hgd:GdOk ops a none:=trivial
   have d9:=hd 9 (by decide) (by subst hops;kernel_rfl)
   have e0:ag a 43 = .agg #[.int .i64 0,.int .i64 1,.int .i64 (1 + (k:Int))]:=d9
   refine op_callg s hgd (w':=w) (f:=14) (args:=#[.agg #[.int .i64 0,.int .i64 1,.int .i64 (1 + (k:Int))]]) ?_ ?_
   ·simp only [execOp]
    go_simp
    simpa [ag] using e0
   ·refine (Of_any 0 1 (1 + (k:Int)) w).mono ?_
    rintro e w' ⟨rfl,hb⟩
    exact ⟨_,rfl,PostE.put (i:=10) ho (vccd2_mem 10 hk).2 (hlt 10 hk) (fun k hk2 hne _ => vccd2_inj 10 hk k hk2 hne) (.inl (Ext.of hb)) rfl ⟨later hg hb,fun g h => Nat.lt_of_lt_of_le (hG.2 g h) hb.size⟩⟩
  | 11,hk,hjp,hd =>
   have s:(ops[11]?).map sig = some (some 45,.move (.tmp 1),22,none):=by subst hops;kernel_rfl
   have hgd:GdOk ops a none:=trivial
   have e0:ag a 1 = lv:=(ho.off 1 (by decide)).trans h1
   refine op_valg s hgd (w':=w) (v:=lv) ?_ ?_
   ·exact congrArg (fun x => Result.ok (Next.value x) w) e0
   ·exact PostE.put (i:=11) ho (vccd2_mem 11 hk).2 (hlt 11 hk) (fun k hk2 hne _ => vccd2_inj 11 hk k hk2 hne) (.inl (Ext.refl _ _)) rfl hG
  | 12,hk,hjp,hd =>
   have s:(ops[12]?).map sig = some (some 46,.call { callee:=.value (.func 23),args:=#[.tmp 34,.tmp 44,.tmp 45],argTypes:=#[26,31,22] },53,none):=by subst hops;kernel_rfl
   have hgd:GdOk ops a none:=trivial
   have d0:=hd 0 (by decide) (by subst hops;kernel_rfl)
   have d10:=hd 10 (by decide) (by subst hops;kernel_rfl)
   have d11:=hd 11 (by decide) (by subst hops;kernel_rfl)
   have e0:ag a 34 = .agg #[mv,.slice (some ⟨gd0,o,none⟩) n cap]:=d0
   have e1:ag a 44 = .agg #[.int .i64 3,.int .i64 0,.int .i64 1,.int .i64 (1 + (k:Int)),.slice none 0 0]:=d10
   have e2:ag a 45 = lv:=d11
   refine op_callg s hgd (w':=w) (f:=23) (args:=#[.agg #[mv,.slice (some ⟨gd0,o,none⟩) n cap],.agg #[.int .i64 3,.int .i64 0,.int .i64 1,.int .i64 (1 + (k:Int)),.slice none 0 0],lv]) ?_ ?_
   ·simp only [execOp]
    go_simp
    refine ⟨by simpa [ag] using e0,by simpa [ag] using e1,by simpa [ag] using e2⟩
   ·refine (hz w hg).mono ?_
    rintro e w' ⟨x,xk,xn,xA,xl,xc,rfl,hT,hF,hb⟩
    exact ⟨_,rfl,PostE.put (i:=12) ho (vccd2_mem 12 hk).2 (hlt 12 hk) (fun k hk2 hne _ => vccd2_inj 12 hk k hk2 hne) (.inl (Ext.of hb)) ⟨x,xk,xn,xA,xl,xc,rfl,hT.mono (fun b h => ⟨Nat.le_trans hgs h,fun e => by have:=hG.2 b e;omega⟩),hF⟩ ⟨later hg hb,fun g h => Nat.lt_of_lt_of_le (hG.2 g h) hb.size⟩⟩
  | 13,hk,hjp,hd =>
   have s:(ops[13]?).map sig = some (some 16,.alloc 53,0,none):=by subst hops;kernel_rfl
   have hgd:GdOk ops a none:=trivial
   exact absurd rfl hjp
  | n + 14,hn,_,_ => exact absurd hn (by omega)
 ·intro a w ho hG hd
  have hg:=hG.1
  have hgs:=hg.size
  have s:(ops[13]?).map sig = some (some 16,.alloc 53,0,none):=by subst hops;kernel_rfl
  have hgd:GdOk ops a none:=trivial
  have hb:=new_later w (.cells zc3.toArray 53)
  refine op_valg s hgd (w':=w.alloc (.cells zc3.toArray 53)) (v:=.pointer (some ⟨w.heap.size,0,none⟩)) ?_ ?_
  ·simp only [execOp]
   go_simp
   first | done | rfl
  ·exact ⟨w.heap.size,PostE.put (i:=13) ho (vccd2_mem 13 (by decide)).2 (hlt 13 (by decide)) (fun k hk2 hne _ => vccd2_inj 13 (by decide) k hk2 hne) ⟨_,rfl,rfl⟩ ⟨w.heap.size,rfl,rfl,hgs,Arr.new' w _ _ 3 zc3 rfl rfl (by decide)⟩ ⟨later hg hb,fun g h => by cases h;simp⟩⟩
 ·intro γ a w ho hG hf
  have hg:=hG.1
  have s:(ops[14]?).map sig = some (none,.store 53 (.tmp 16) (.tmp 46),0,none):=by subst hops;kernel_rfl
  have hgd:GdOk ops a none:=trivial
  obtain ⟨g,eg,e1,hgS,hA⟩:=hf 13 (by decide)
  have e1:ag a 16 = .pointer (some ⟨g,0,none⟩):=e1
  obtain ⟨x,xk,xn,xA,xl,xc,e2,hT,hF⟩:=hf 12 (by decide)
  have e2:ag a 46 = .agg #[.int .i64 xk,.int .i64 xn,.slice xA xl xc]:=e2
  refine wpOp_ofg s hgd fun o' h1 h2 h3 => ?_
  refine wp_store_mid _ _ _ h2 g 0 #[.int .i64 xk,.int .i64 xn,.slice xA xl xc] e1 e2 (hA.thereAt (Nat.le_refl 3)) info_val (all_oneCell_toArray (cs:=[.int .i64 xk,.int .i64 xn,.slice xA xl xc]) (List.all_eq_true.mp (by rfl))) ?_
  rw [h1]
  have hA2:=hA.setCells (o:=0) [.int .i64 xk,.int .i64 xn,.slice xA xl xc]
  rw [setAll_all zc3 [.int .i64 xk,.int .i64 xn,.slice xA xl xc] rfl] at hA2
  have hO:=Only.setCells g 0 [.int .i64 xk,.int .i64 xn,.slice xA xl xc] w
  have hb:=below_setCells [.int .i64 xk,.int .i64 xn,.slice xA xl xc] 0 w hg hgS
  have hT2:=(hT.keep (S':=fun _ => True) (fun _ _ => trivial) (fun b hb _ => hO.2 b (fun e => hb.2 (by rw [eg,e])))).at_
  exact hQ (ag a) (w.setCells g 0 [.int .i64 xk,.int .i64 xn,.slice xA xl xc]) g x xk xn xA xl xc e1 hgS hA2 hT2 hF hb _ (ho.eq (fun s hs => by rw [hsz];revert s;decide))
end Go.Proofs.YtmfihlcibephlaaDoor
namespace Go.Proofs.YtmfihlcibephlaaDoor
open Go.RowKit
mutual
def Tr.ok:Tr → Prop
 | .node k n ks => (i64r k ∧ i64r n ∧ ks.length ≤ maxLen) ∧ okL ks
def okL:List Tr → Prop
 | [] => True
 | x :: xs => x.ok ∧ okL xs
end
mutual
theorem TrAt.ok {w:World}:∀ {x:Tr} {v:Value},TrAt w x v → x.ok
 | .node k n ks,v,h => by
  unfold TrAt at h
  obtain ⟨A,cap,_,hm,h2⟩:=h
  unfold Tr.ok
  exact ⟨⟨hm.2.2.1,hm.2.2.2,by omega⟩,KsAt.ok h2⟩
theorem KsAt.ok {w:World} {A:Option Addr}:∀ {xs:List Tr} {i:Nat},KsAt w A i xs → okL xs
 | [],i,h => by unfold okL;trivial
 | x :: xs,i,h => by
  unfold KsAt at h
  obtain ⟨⟨g,o,cs,_,_,h3⟩,h4⟩:=h
  unfold okL
  exact ⟨TrAt.ok h3,KsAt.ok h4⟩
end
theorem len_i64 {n:Nat} (h:n ≤ maxLen):i64r (n:Int):=by unfold i64r;unfold maxLen at h;omega
end Go.Proofs.YtmfihlcibephlaaDoor
namespace Go.Proofs.YtmfihlcibephlaaDoor
open Go.RowKit
theorem map_add0 (A:Option Addr):Option.map (fun x => Addr.add x 0) A = A:=by cases A <;> simp [Addr.add]
end Go.Proofs.YtmfihlcibephlaaDoor
namespace Go.Proofs.YtmfihlcibephlaaDoor
open Go.RowKit
set_option maxHeartbeats 400000 in
set_option maxRecDepth 100000 in
theorem BFew60_any (A:Option Addr) (n cap B:Nat) (l:List Nat) (w:World) (hn:n = l.length) (hr:Rd w B A (bs l)) (hcap:n ≤ cap ∧ cap ≤ maxLen) :
  Calls Tryd.prog 39 #[.slice A n cap,.int .i64 60] w fun e w' => ∃ v',e = .returned v' ∧ OwnB w' w.heap.size v' (l.take 60) ∧ Below w.heap.size w w':=by
 have hm0:=map_add0 A
 have hmx:cap ≤ 9223372036854775807:=by have:=hcap.2;simpa [maxLen] using this
 have h1:=hcap.1
 by_cases hl:n ≤ 60
 ·have e1:(if (n:Int) < 60 then (n:Int) else 60) = (n:Int):=by split <;> omega
  have e2:(if (60:Int) < (n:Int) then (60:Int) else (n:Int)) = (n:Int):=by split <;> omega
  have e3:(if (n:Int) ≤ 60 then (n:Int) else 60) = (n:Int):=by split <;> omega
  have hni:(n:Int) ≤ (cap:Int):=by omega
  have hn0:(0:Int) ≤ (n:Int):=by omega
  have htk:l.take 60 = l:=List.take_of_length_le (by omega)
  rw [htk]
  have HR:=Lib.hid hr
  have HN:=Lib.hid hn
  clear hr hn htk hcap
  go_enter Tryd.func39,Tryd.ntmps39
  go_wp2_with (at_builtin;refine wpList_putL (OwnB.nil _ w.heap.size) HR.out HN.out (Nat.le_refl _) (by have:=HN.out;simp;omega) rfl _ _ rfl rfl rfl ?_;intro v1 w1 ho1 hb1;have HO:=Lib.hid ho1;have HB:=Lib.hid hb1;clear ho1 hb1)
  go_ret
  exact ⟨v1,rfl,by simpa using HO.out,HB.out⟩
 ·have e1:(if (n:Int) < 60 then (n:Int) else 60) = 60:=by split <;> omega
  have e2:(if (60:Int) < (n:Int) then (60:Int) else (n:Int)) = 60:=by split <;> omega
  have e3:(if (n:Int) ≤ 60 then (n:Int) else 60) = 60:=by split <;> omega
  have hni:(60:Int) ≤ (cap:Int):=by omega
  have hni2:60 ≤ cap:=by omega
  have hn0:(0:Int) ≤ (n:Int):=by omega
  have hlt:(l.take 60).length = 60:=by rw [List.length_take];omega
  have hr2:Rd w B A (bs (l.take 60)):=by
   rcases hr with h | ⟨b,o,rfl,hb,hc⟩
   ·have:l = []:=by simpa [bs] using h
    rw [this];exact .inl (by simp [bs])
   ·refine .inr ⟨b,o,rfl,hb,fun j u hu => hc j u ?_⟩
    have hj:=(List.getElem?_eq_some_iff.1 hu).1
    rw [bs_len,hlt] at hj
    rw [← hu]
    simp [bs,List.getElem?_map,List.getElem?_take,hj]
  have HR:=Lib.hid hr2
  have HN:=Lib.hid hlt
  clear hr hr2 hlt hn hcap
  go_enter Tryd.func39,Tryd.ntmps39
  go_wp2_with (at_builtin;refine wpList_putL (OwnB.nil _ w.heap.size) HR.out HN.out.symm (Nat.le_refl _) (by have:=HN.out;simp;omega) rfl _ _ rfl rfl rfl ?_;intro v1 w1 ho1 hb1;have HO:=Lib.hid ho1;have HB:=Lib.hid hb1;clear ho1 hb1)
  go_ret
  exact ⟨v1,rfl,by simpa using HO.out,HB.out⟩
end Go.Proofs.YtmfihlcibephlaaDoor
