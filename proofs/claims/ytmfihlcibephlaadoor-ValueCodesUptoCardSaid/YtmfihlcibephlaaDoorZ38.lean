import Derived.Test.YtmfihlcibephlaaDoorZ10
import Derived.Test.YtmfihlcibephlaaDoorZ12
import Derived.Test.YtmfihlcibephlaaDoorZ13
import Derived.Test.YtmfihlcibephlaaDoorZ33
import Derived.Test.YtmfihlcibephlaaDoorZ36
import Derived.Test.YtmfihlcibephlaaDoorZ37
set_option linter.unusedVariables false
set_option linter.unusedSimpArgs false
namespace Go.Proofs.YtmfihlcibephlaaDoor
open Go.RowKit
theorem OwnB.extc {S:Nat} {w w':World} {v:Value} {xs:List Nat} (h:OwnB w S v xs) (he:Ext S w w'):OwnB w' S v xs:=by
 refine ⟨h.1,?_⟩
 rcases h.2 with h5 | ⟨g,cap,cur,hv,hg,hh,r⟩
 ·exact .inl h5
 ·refine .inr ⟨g,cap,cur,hv,hg,?_,r⟩
  rw [he.2 g hg (Array.getElem?_eq_some_iff.1 hh).1]
  exact hh
def vccf25 (g26 g29:Nat) (C26 C29:List Value) (x:Tr) (n er:Int):Nat → Value → World → Prop
 | 0,v,w => v = .int .i64 er
 | 1,v,w => v = .int .i64 er
 | 2,v,w => v = .bool false
 | 3,v,w => v = .bool false
 | 4,v,w => v = .int .i64 n
 | 5,v,w => v = .int .i64 n
 | 6,v,w => v = .bool false
 | 7,v,w => v = .bool false
 | 8,v,w => v = .bool false
 | 9,v,w => v = .agg C26.toArray
 | 10,v,w => v = .agg C29.toArray
 | 11,v,w => v = .bool true
 | 12,v,w => v = .bool false
 | _,_,_ => True
theorem vccf25_ext (g26 g29:Nat) (C26 C29:List Value) (x:Tr) (n er:Int) (S:Nat):∀ j v w w',j < 13 → (Ext S w w' ∨ (j ≠ 999 ∧ Never w w')) → vccf25 g26 g29 C26 C29 x n er j v w → vccf25 g26 g29 C26 C29 x n er j v w':=by
 intro j v w w' hj he h
 match j,hj,he,h with
 | 0,_,he,h => exact h
 | 1,_,he,h => exact h
 | 2,_,he,h => exact h
 | 3,_,he,h => exact h
 | 4,_,he,h => exact h
 | 5,_,he,h => exact h
 | 6,_,he,h => exact h
 | 7,_,he,h => exact h
 | 8,_,he,h => exact h
 | 9,_,he,h => exact h
 | 10,_,he,h => exact h
 | 11,_,he,h => exact h
 | 12,_,he,h => exact h
 | n + 13,hn,_,_ => exact absurd hn (by omega)
def vccD25:List Nat:=[143,144,145,146,147,148,149,150,151,152,153,154,155]
def vccd25 (k:Nat):Nat:=[143,144,145,146,147,148,149,150,151,152,153,154,155].getD k 0
theorem vccd25_mem:∀ k,k < 13 → vccd25 k < 158 ∧ vccd25 k ∈ vccD25:=by decide
theorem vccd25_inj:∀ i,i < 13 → ∀ k,k < 13 → k ≠ i → vccd25 i ≠ vccd25 k:=by decide
set_option maxHeartbeats 4000000 in
set_option maxRecDepth 100000 in
theorem vccreg25 {Q:Exit → Act → World → Prop} {id:Nat} {ops:Array Oper} (hops:ops = ((Tryd.f7.body).bind (opsOf 25)).getD #[]) (a0:Act) (w0:World) (g26 g29:Nat) (C26 C29:List Value) (x:Tr) (n er:Int) (hsz:a0.tmps.size = 158)
  (h26:ag a0 26 = .pointer (some ⟨g26,0,none⟩)) (h29:ag a0 29 = .pointer (some ⟨g29,0,none⟩)) (h27:ag a0 27 = .int .i64 n) (h30:ag a0 30 = .int .i64 n) (h28:ag a0 28 = .int .i64 er) (h31:ag a0 31 = .int .i64 er) (v26:VarAt w0 g26 x C26) (v29:VarAt w0 g29 x C29)
  (hQ:∀ (vs:Nat → Value) (w':World),vs 156 = .bool false → Below w0.heap.size w0 w' → ∀ a',a' = (vccD25 ++ [156]).foldl (fun b s => b.put (some s) (vs s)) a0 → Q .normal a' w') :
  (Code.region id ops false).wp Tryd.prog Q a0 w0:=by
 have hg0:Below w0.heap.size w0 w0:=Below.refl _ _
 have hlt:∀ k,k < 13 → vccd25 k < a0.tmps.size:=fun k hk => by have:=(vccd25_mem k hk).1;omega
 refine wp_region_seqE 13 999 vccD25 vccd25 (vccf25 g26 g29 C26 C29 x n er) (fun w => Below w0.heap.size w0 w) w0.heap.size Never (by subst hops;kernel_rfl) (by subst hops;kernel_rfl) (vccf25_ext g26 g29 C26 C29 x n er w0.heap.size) hg0 ?_ ?_
 ·intro j a w hj ho hg hd
  have hgs:=hg.size
  match j,hj,hd with
  | 0,hk,hd =>
   have s:(ops[0]?).map sig = some (some 143,.move (.tmp 28),62,none):=by subst hops;kernel_rfl
   have hgd:GdOk ops a none:=trivial
   have e0:ag a 28 = .int .i64 er:=(ho.off 28 (by decide)).trans h28
   refine op_valg s hgd (w':=w) (v:=.int .i64 er) ?_ ?_
   ·exact congrArg (fun x => Result.ok (Next.value x) w) e0
   ·exact PostE.put (i:=0) ho (vccd25_mem 0 hk).2 (hlt 0 hk) (fun k hk2 hne _ => vccd25_inj 0 hk k hk2 hne) (.inl (Ext.refl _ _)) rfl hg
  | 1,hk,hd =>
   have s:(ops[1]?).map sig = some (some 144,.move (.tmp 31),62,none):=by subst hops;kernel_rfl
   have hgd:GdOk ops a none:=trivial
   have e0:ag a 31 = .int .i64 er:=(ho.off 31 (by decide)).trans h31
   refine op_valg s hgd (w':=w) (v:=.int .i64 er) ?_ ?_
   ·exact congrArg (fun x => Result.ok (Next.value x) w) e0
   ·exact PostE.put (i:=1) ho (vccd25_mem 1 hk).2 (hlt 1 hk) (fun k hk2 hne _ => vccd25_inj 1 hk k hk2 hne) (.inl (Ext.refl _ _)) rfl hg
  | 2,hk,hd =>
   have s:(ops[2]?).map sig = some (some 145,.binOp .neq 62 (.tmp 143) (.tmp 144) 62,4,none):=by subst hops;kernel_rfl
   have hgd:GdOk ops a none:=trivial
   have d0:=hd 0 (by decide) (by subst hops;kernel_rfl)
   have d1:=hd 1 (by decide) (by subst hops;kernel_rfl)
   have e0:ag a 143 = .int .i64 er:=d0
   have e1:ag a 144 = .int .i64 er:=d1
   refine op_valg s hgd (w':=w) (v:=.bool false) ?_ ?_
   ·simp only [execOp,eval_tmp,e0,e1]
    go_simp
   ·exact PostE.put (i:=2) ho (vccd25_mem 2 hk).2 (hlt 2 hk) (fun k hk2 hne _ => vccd25_inj 2 hk k hk2 hne) (.inl (Ext.refl _ _)) rfl hg
  | 3,hk,hd =>
   have s:(ops[3]?).map sig = some (some 146,.move (.tmp 145),4,none):=by subst hops;kernel_rfl
   have hgd:GdOk ops a none:=trivial
   have d2:=hd 2 (by decide) (by subst hops;kernel_rfl)
   have e0:ag a 145 = .bool false:=d2
   refine op_valg s hgd (w':=w) (v:=.bool false) ?_ ?_
   ·exact congrArg (fun x => Result.ok (Next.value x) w) e0
   ·exact PostE.put (i:=3) ho (vccd25_mem 3 hk).2 (hlt 3 hk) (fun k hk2 hne _ => vccd25_inj 3 hk k hk2 hne) (.inl (Ext.refl _ _)) rfl hg
  | 4,hk,hd =>
   have s:(ops[4]?).map sig = some (some 147,.move (.tmp 27),3,some (3,false)):=by subst hops;kernel_rfl
   have hgd:GdOk ops a (some (3,false)):=yielded_of (d:=146) (by subst hops;kernel_rfl) (hd 3 (by decide) (by subst hops;kernel_rfl))
   have e0:ag a 27 = .int .i64 n:=(ho.off 27 (by decide)).trans h27
   refine op_valg s hgd (w':=w) (v:=.int .i64 n) ?_ ?_
   ·exact congrArg (fun x => Result.ok (Next.value x) w) e0
   ·exact PostE.put (i:=4) ho (vccd25_mem 4 hk).2 (hlt 4 hk) (fun k hk2 hne _ => vccd25_inj 4 hk k hk2 hne) (.inl (Ext.refl _ _)) rfl hg
  | 5,hk,hd =>
   have s:(ops[5]?).map sig = some (some 148,.move (.tmp 30),3,some (3,false)):=by subst hops;kernel_rfl
   have hgd:GdOk ops a (some (3,false)):=yielded_of (d:=146) (by subst hops;kernel_rfl) (hd 3 (by decide) (by subst hops;kernel_rfl))
   have e0:ag a 30 = .int .i64 n:=(ho.off 30 (by decide)).trans h30
   refine op_valg s hgd (w':=w) (v:=.int .i64 n) ?_ ?_
   ·exact congrArg (fun x => Result.ok (Next.value x) w) e0
   ·exact PostE.put (i:=5) ho (vccd25_mem 5 hk).2 (hlt 5 hk) (fun k hk2 hne _ => vccd25_inj 5 hk k hk2 hne) (.inl (Ext.refl _ _)) rfl hg
  | 6,hk,hd =>
   have s:(ops[6]?).map sig = some (some 149,.binOp .neq 3 (.tmp 147) (.tmp 148) 3,4,some (3,false)):=by subst hops;kernel_rfl
   have hgd:GdOk ops a (some (3,false)):=yielded_of (d:=146) (by subst hops;kernel_rfl) (hd 3 (by decide) (by subst hops;kernel_rfl))
   have d4:=hd 4 (by decide) (by subst hops;kernel_rfl)
   have d5:=hd 5 (by decide) (by subst hops;kernel_rfl)
   have e0:ag a 147 = .int .i64 n:=d4
   have e1:ag a 148 = .int .i64 n:=d5
   refine op_valg s hgd (w':=w) (v:=.bool false) ?_ ?_
   ·simp only [execOp,eval_tmp,e0,e1]
    go_simp
   ·exact PostE.put (i:=6) ho (vccd25_mem 6 hk).2 (hlt 6 hk) (fun k hk2 hne _ => vccd25_inj 6 hk k hk2 hne) (.inl (Ext.refl _ _)) rfl hg
  | 7,hk,hd =>
   have s:(ops[7]?).map sig = some (some 150,.pick (.tmp 146) (.const (.bool true)) (.tmp 149),4,none):=by subst hops;kernel_rfl
   have hgd:GdOk ops a none:=trivial
   have d3:=hd 3 (by decide) (by subst hops;kernel_rfl)
   have d6:=hd 6 (by decide) (by subst hops;kernel_rfl)
   have e0:ag a 146 = .bool false:=d3
   have e1:ag a 149 = .bool false:=d6
   refine op_valg s hgd (w':=w) (v:=.bool false) ?_ ?_
   ·simp only [execOp,eval_tmp,e0,e1]
    go_simp
   ·exact PostE.put (i:=7) ho (vccd25_mem 7 hk).2 (hlt 7 hk) (fun k hk2 hne _ => vccd25_inj 7 hk k hk2 hne) (.inl (Ext.refl _ _)) rfl hg
  | 8,hk,hd =>
   have s:(ops[8]?).map sig = some (some 151,.move (.tmp 150),4,none):=by subst hops;kernel_rfl
   have hgd:GdOk ops a none:=trivial
   have d7:=hd 7 (by decide) (by subst hops;kernel_rfl)
   have e0:ag a 150 = .bool false:=d7
   refine op_valg s hgd (w':=w) (v:=.bool false) ?_ ?_
   ·exact congrArg (fun x => Result.ok (Next.value x) w) e0
   ·exact PostE.put (i:=8) ho (vccd25_mem 8 hk).2 (hlt 8 hk) (fun k hk2 hne _ => vccd25_inj 8 hk k hk2 hne) (.inl (Ext.refl _ _)) rfl hg
  | 9,hk,hd =>
   have s:(ops[9]?).map sig = some (some 152,.load 53 (.tmp 26),53,some (8,false)):=by subst hops;kernel_rfl
   have hgd:GdOk ops a (some (8,false)):=yielded_of (d:=151) (by subst hops;kernel_rfl) (hd 8 (by decide) (by subst hops;kernel_rfl))
   have e0:ag a 26 = .pointer (some ⟨g26,0,none⟩):=(ho.off 26 (by decide)).trans h26
   refine op_loadg s hgd g26 0 e0 C26 _ (range_below v26.rg hg) Tryd.underlying53 rfl (by rw [v26.ln];exact info_val) ?_
   exact PostE.put (i:=9) ho (vccd25_mem 9 hk).2 (hlt 9 hk) (fun k hk2 hne _ => vccd25_inj 9 hk k hk2 hne) (.inl (Ext.refl _ _)) rfl hg
  | 10,hk,hd =>
   have s:(ops[10]?).map sig = some (some 153,.load 53 (.tmp 29),53,some (8,false)):=by subst hops;kernel_rfl
   have hgd:GdOk ops a (some (8,false)):=yielded_of (d:=151) (by subst hops;kernel_rfl) (hd 8 (by decide) (by subst hops;kernel_rfl))
   have e0:ag a 29 = .pointer (some ⟨g29,0,none⟩):=(ho.off 29 (by decide)).trans h29
   refine op_loadg s hgd g29 0 e0 C29 _ (range_below v29.rg hg) Tryd.underlying53 rfl (by rw [v29.ln];exact info_val) ?_
   exact PostE.put (i:=10) ho (vccd25_mem 10 hk).2 (hlt 10 hk) (fun k hk2 hne _ => vccd25_inj 10 hk k hk2 hne) (.inl (Ext.refl _ _)) rfl hg
  | 11,hk,hd =>
   have s:(ops[11]?).map sig = some (some 154,.call { callee:=.value (.func 36),args:=#[.tmp 152,.tmp 153],argTypes:=#[53,53] },4,some (8,false)):=by subst hops;kernel_rfl
   have hgd:GdOk ops a (some (8,false)):=yielded_of (d:=151) (by subst hops;kernel_rfl) (hd 8 (by decide) (by subst hops;kernel_rfl))
   have d9:=hd 9 (by decide) (by subst hops;kernel_rfl)
   have d10:=hd 10 (by decide) (by subst hops;kernel_rfl)
   have e0:ag a 152 = .agg C26.toArray:=d9
   have e1:ag a 153 = .agg C29.toArray:=d10
   refine op_callg s hgd (w':=w) (f:=36) (args:=#[.agg C26.toArray,.agg C29.toArray]) ?_ ?_
   ·simp only [execOp]
    go_simp
    refine ⟨by simpa [ag] using e0,by simpa [ag] using e1⟩
   ·refine ((show Calls Tryd.prog _ _ w (BRes true w) from (same_any x x w _ _ (v26.later hg).tr (v29.later hg).tr).mono (fun e w' h => ⟨h.1.trans (by rw [cp_self];rfl),h.2⟩))).mono ?_
    rintro e w' ⟨rfl,hb⟩
    exact ⟨_,rfl,PostE.put (i:=11) ho (vccd25_mem 11 hk).2 (hlt 11 hk) (fun k hk2 hne _ => vccd25_inj 11 hk k hk2 hne) (.inl (Ext.of hb)) rfl (later hg hb)⟩
  | 12,hk,hd =>
   have s:(ops[12]?).map sig = some (some 155,.unOp .not 4 (.tmp 154),4,some (8,false)):=by subst hops;kernel_rfl
   have hgd:GdOk ops a (some (8,false)):=yielded_of (d:=151) (by subst hops;kernel_rfl) (hd 8 (by decide) (by subst hops;kernel_rfl))
   have d11:=hd 11 (by decide) (by subst hops;kernel_rfl)
   have e0:ag a 154 = .bool true:=d11
   refine op_valg s hgd (w':=w) (v:=.bool false) ?_ ?_
   ·simp only [execOp,eval_tmp,e0]
    go_simp
   ·exact PostE.put (i:=12) ho (vccd25_mem 12 hk).2 (hlt 12 hk) (fun k hk2 hne _ => vccd25_inj 12 hk k hk2 hne) (.inl (Ext.refl _ _)) rfl hg
  | n + 13,hn,_ => exact absurd hn (by omega)
 ·intro a w ho hg hf
  have s:(ops[13]?).map sig = some (some 156,.pick (.tmp 151) (.const (.bool true)) (.tmp 155),4,none):=by subst hops;kernel_rfl
  have hgd:GdOk ops a none:=trivial
  have d8:=hf 8 (by decide)
  have d12:=hf 12 (by decide)
  have e0:ag a 151 = .bool false:=d8
  have e1:ag a 155 = .bool false:=d12
  refine op_valg s hgd (w':=w) (v:=.bool false) ?_ ?_
  ·simp only [execOp,eval_tmp,e0,e1]
   go_simp
  ·have ho2:Off (vccD25 ++ [156]) a0 (a.put (some 156) (.bool false)):=(ho.mono (fun s hs => List.mem_append_left _ hs)).put (by decide)
   exact hQ (ag (a.put (some 156) (.bool false))) w (ag_put (by rw [ho.size,hsz];decide)) hg _ (ho2.eq (fun s hs => by rw [hsz];revert s;decide))
def vccf4 (g9 g16:Nat) (C9 C16:List Value) (x y:Tr) (E E2:List Nat) (lc cc:Nat) (Ac:Option Addr) (S:Nat):Nat → Value → World → Prop
 | 0,v,w => v = .agg C16.toArray
 | 1,v,w => OwnB w S v E
 | 2,v,w => v = .string (mkS E)
 | 3,v,w => v = .slice Ac lc cc
 | 4,v,w => v = .string (mkS E)
 | 5,v,w => v = .bool false
 | 6,v,w => v = .bool false
 | 7,v,w => v = .agg C9.toArray
 | 8,v,w => OwnB w S v E2
 | 9,v,w => v = .string (mkS E2)
 | 10,v,w => v = .agg C9.toArray
 | 11,v,w => OwnB w S v E2
 | 12,v,w => v = .string (mkS E2)
 | 13,v,w => v = .bool false
 | _,_,_ => True
theorem vccf4_ext (g9 g16:Nat) (C9 C16:List Value) (x y:Tr) (E E2:List Nat) (lc cc:Nat) (Ac:Option Addr) (S:Nat):∀ j v w w',j < 14 → (Ext S w w' ∨ (j ≠ 999 ∧ Never w w')) → vccf4 g9 g16 C9 C16 x y E E2 lc cc Ac S j v w → vccf4 g9 g16 C9 C16 x y E E2 lc cc Ac S j v w':=by
 intro j v w w' hj he h
 match j,hj,he,h with
 | 0,_,he,h => exact h
 | 1,_,he,h => exact he.elim (fun q => OwnB.extc h q) (fun q => absurd q.2 id)
 | 2,_,he,h => exact h
 | 3,_,he,h => exact h
 | 4,_,he,h => exact h
 | 5,_,he,h => exact h
 | 6,_,he,h => exact h
 | 7,_,he,h => exact h
 | 8,_,he,h => exact he.elim (fun q => OwnB.extc h q) (fun q => absurd q.2 id)
 | 9,_,he,h => exact h
 | 10,_,he,h => exact h
 | 11,_,he,h => exact he.elim (fun q => OwnB.extc h q) (fun q => absurd q.2 id)
 | 12,_,he,h => exact h
 | 13,_,he,h => exact h
 | n + 14,hn,_,_ => exact absurd hn (by omega)
def vccD4:List Nat:=[49,50,51,52,53,54,55,56,57,58,59,60,61,62]
def vccd4 (k:Nat):Nat:=[49,50,51,52,53,54,55,56,57,58,59,60,61,62].getD k 0
theorem vccd4_mem:∀ k,k < 14 → vccd4 k < 158 ∧ vccd4 k ∈ vccD4:=by decide
theorem vccd4_inj:∀ i,i < 14 → ∀ k,k < 14 → k ≠ i → vccd4 i ≠ vccd4 k:=by decide
set_option maxHeartbeats 4000000 in
set_option maxRecDepth 100000 in
theorem vccreg4 {Q:Exit → Act → World → Prop} {id:Nat} {ops:Array Oper} (hops:ops = ((Tryd.f7.body).bind (opsOf 4)).getD #[]) (a0:Act) (w0:World) (g9 g16:Nat) (C9 C16:List Value) (x y:Tr) (E E2:List Nat) (lc cc:Nat) (Ac:Option Addr) (hsz:a0.tmps.size = 158)
  (h9:ag a0 9 = .pointer (some ⟨g9,0,none⟩)) (h16:ag a0 16 = .pointer (some ⟨g16,0,none⟩)) (h17:ag a0 17 = .slice Ac lc cc) (v9:VarAt w0 g9 y C9) (v16:VarAt w0 g16 x C16) (hE:Hid (x.en = E)) (hE2:Hid (y.en = E2)) (hl:E.length ≤ 100000000000000) (hl2:E2.length ≤ 100000000000000) (hA:∀ W,Below w0.heap.size w0 W → (convert 69 9 (.slice Ac lc cc)).run Tryd.prog W = .ok (.string (mkS E)) W)
  (hQ:∀ (vs:Nat → Value) (w':World),vs 63 = .bool false → Below w0.heap.size w0 w' → ∀ a',a' = (vccD4 ++ [63]).foldl (fun b s => b.put (some s) (vs s)) a0 → Q .normal a' w') :
  (Code.region id ops true).wp Tryd.prog Q a0 w0:=by
 have hg0:Below w0.heap.size w0 w0.drew:=below_drewN (Below.refl _ _) 1
 have hlt:∀ k,k < 14 → vccd4 k < a0.tmps.size:=fun k hk => by have:=(vccd4_mem k hk).1;omega
 refine wp_region_factsE 14 999 vccD4 vccd4 (vccf4 g9 g16 C9 C16 x y E E2 lc cc Ac w0.heap.size) (fun w => Below w0.heap.size w0 w) w0.heap.size Never (fun k => k) (by kernel_rfl) (by subst hops;kernel_rfl) (by subst hops;kernel_rfl) (by subst hops;kernel_rfl) (vccf4_ext g9 g16 C9 C16 x y E E2 lc cc Ac w0.heap.size) hg0 ?_ ?_
 ·intro j a w hj ho hg hd
  have hgs:=hg.size
  match j,hj,hd with
  | 0,hk,hd =>
   have s:(ops[0]?).map sig = some (some 49,.load 53 (.tmp 16),53,none):=by subst hops;kernel_rfl
   have hgd:GdOk ops a none:=trivial
   have e0:ag a 16 = .pointer (some ⟨g16,0,none⟩):=(ho.off 16 (by decide)).trans h16
   refine op_loadg s hgd g16 0 e0 C16 _ (range_below v16.rg hg) Tryd.underlying53 rfl (by rw [v16.ln];exact info_val) ?_
   exact PostE.put (i:=0) ho (vccd4_mem 0 hk).2 (hlt 0 hk) (fun k hk2 hne _ => vccd4_inj 0 hk k hk2 hne) (.inl (Ext.refl _ _)) rfl hg
  | 1,hk,hd =>
   have s:(ops[1]?).map sig = some (some 50,.call { callee:=.value (.func 38),args:=#[.tmp 49],argTypes:=#[53] },69,none):=by subst hops;kernel_rfl
   have hgd:GdOk ops a none:=trivial
   have d0:=hd 0 (by decide) (by subst hops;kernel_rfl)
   have e0:ag a 49 = .agg C16.toArray:=d0
   refine op_callg s hgd (w':=w) (f:=38) (args:=#[.agg C16.toArray]) ?_ ?_
   ·simp only [execOp]
    go_simp
    simpa [ag] using e0
   ·refine (hE.out ▸ encode_any x w _ (v16.later hg).tr (by rw [hE.out];exact hl)).mono ?_
    rintro e w' ⟨v',rfl,ho2,hb⟩
    exact ⟨_,rfl,PostE.put (i:=1) ho (vccd4_mem 1 hk).2 (hlt 1 hk) (fun k hk2 hne _ => vccd4_inj 1 hk k hk2 hne) (.inl (Ext.of hb)) (ho2.less hgs) (later hg hb)⟩
  | 2,hk,hd =>
   have s:(ops[2]?).map sig = some (some 51,.convert 69 9 (.tmp 50),9,none):=by subst hops;kernel_rfl
   have hgd:GdOk ops a none:=trivial
   have d1:=hd 1 (by decide) (by subst hops;kernel_rfl)
   have hw:OwnB w w0.heap.size (ag a 50) E:=d1
   obtain ⟨A,cap,hv,_⟩:=hw.shape
   rw [hv] at hw
   have hcv:(convert 69 9 (.slice A E.length cap)).run Tryd.prog w = .ok (.string (mkS E)) w:=run_conv w.heap.size _ cap A E w rfl hw.rd
   refine op_valg s hgd (w':=w) (v:=.string (mkS E)) ?_ ?_
   ·simp only [execOp,eval_tmp,hv]
    go_simp
   ·exact PostE.put (i:=2) ho (vccd4_mem 2 hk).2 (hlt 2 hk) (fun k hk2 hne _ => vccd4_inj 2 hk k hk2 hne) (.inl (Ext.refl _ _)) rfl hg
  | 3,hk,hd =>
   have s:(ops[3]?).map sig = some (some 52,.move (.tmp 17),69,none):=by subst hops;kernel_rfl
   have hgd:GdOk ops a none:=trivial
   have e0:ag a 17 = .slice Ac lc cc:=(ho.off 17 (by decide)).trans h17
   refine op_valg s hgd (w':=w) (v:=.slice Ac lc cc) ?_ ?_
   ·exact congrArg (fun x => Result.ok (Next.value x) w) e0
   ·exact PostE.put (i:=3) ho (vccd4_mem 3 hk).2 (hlt 3 hk) (fun k hk2 hne _ => vccd4_inj 3 hk k hk2 hne) (.inl (Ext.refl _ _)) rfl hg
  | 4,hk,hd =>
   have s:(ops[4]?).map sig = some (some 53,.convert 69 9 (.tmp 52),9,none):=by subst hops;kernel_rfl
   have hgd:GdOk ops a none:=trivial
   have d3:=hd 3 (by decide) (by subst hops;kernel_rfl)
   have e0:ag a 52 = .slice Ac lc cc:=d3
   have hcv:=hA w hg
   refine op_valg s hgd (w':=w) (v:=.string (mkS E)) ?_ ?_
   ·simp only [execOp,eval_tmp,e0]
    go_simp
   ·exact PostE.put (i:=4) ho (vccd4_mem 4 hk).2 (hlt 4 hk) (fun k hk2 hne _ => vccd4_inj 4 hk k hk2 hne) (.inl (Ext.refl _ _)) rfl hg
  | 5,hk,hd =>
   have s:(ops[5]?).map sig = some (some 54,.binOp .neq 9 (.tmp 51) (.tmp 53) 9,4,none):=by subst hops;kernel_rfl
   have hgd:GdOk ops a none:=trivial
   have d2:=hd 2 (by decide) (by subst hops;kernel_rfl)
   have d4:=hd 4 (by decide) (by subst hops;kernel_rfl)
   have e0:ag a 51 = .string (mkS E):=d2
   have e1:ag a 53 = .string (mkS E):=d4
   refine op_valg s hgd (w':=w) (v:=.bool false) ?_ ?_
   ·simp only [execOp,eval_tmp,e0,e1]
    go_simp
   ·exact PostE.put (i:=5) ho (vccd4_mem 5 hk).2 (hlt 5 hk) (fun k hk2 hne _ => vccd4_inj 5 hk k hk2 hne) (.inl (Ext.refl _ _)) rfl hg
  | 6,hk,hd =>
   have s:(ops[6]?).map sig = some (some 55,.move (.tmp 54),4,none):=by subst hops;kernel_rfl
   have hgd:GdOk ops a none:=trivial
   have d5:=hd 5 (by decide) (by subst hops;kernel_rfl)
   have e0:ag a 54 = .bool false:=d5
   refine op_valg s hgd (w':=w) (v:=.bool false) ?_ ?_
   ·exact congrArg (fun x => Result.ok (Next.value x) w) e0
   ·exact PostE.put (i:=6) ho (vccd4_mem 6 hk).2 (hlt 6 hk) (fun k hk2 hne _ => vccd4_inj 6 hk k hk2 hne) (.inl (Ext.refl _ _)) rfl hg
  | 7,hk,hd =>
   have s:(ops[7]?).map sig = some (some 56,.load 53 (.tmp 9),53,some (6,false)):=by subst hops;kernel_rfl
   have hgd:GdOk ops a (some (6,false)):=yielded_of (d:=55) (by subst hops;kernel_rfl) (hd 6 (by decide) (by subst hops;kernel_rfl))
   have e0:ag a 9 = .pointer (some ⟨g9,0,none⟩):=(ho.off 9 (by decide)).trans h9
   refine op_loadg s hgd g9 0 e0 C9 _ (range_below v9.rg hg) Tryd.underlying53 rfl (by rw [v9.ln];exact info_val) ?_
   exact PostE.put (i:=7) ho (vccd4_mem 7 hk).2 (hlt 7 hk) (fun k hk2 hne _ => vccd4_inj 7 hk k hk2 hne) (.inl (Ext.refl _ _)) rfl hg
  | 8,hk,hd =>
   have s:(ops[8]?).map sig = some (some 57,.call { callee:=.value (.func 38),args:=#[.tmp 56],argTypes:=#[53] },69,some (6,false)):=by subst hops;kernel_rfl
   have hgd:GdOk ops a (some (6,false)):=yielded_of (d:=55) (by subst hops;kernel_rfl) (hd 6 (by decide) (by subst hops;kernel_rfl))
   have d7:=hd 7 (by decide) (by subst hops;kernel_rfl)
   have e0:ag a 56 = .agg C9.toArray:=d7
   refine op_callg s hgd (w':=w) (f:=38) (args:=#[.agg C9.toArray]) ?_ ?_
   ·simp only [execOp]
    go_simp
    simpa [ag] using e0
   ·refine (hE2.out ▸ encode_any y w _ (v9.later hg).tr (by rw [hE2.out];exact hl2)).mono ?_
    rintro e w' ⟨v',rfl,ho2,hb⟩
    exact ⟨_,rfl,PostE.put (i:=8) ho (vccd4_mem 8 hk).2 (hlt 8 hk) (fun k hk2 hne _ => vccd4_inj 8 hk k hk2 hne) (.inl (Ext.of hb)) (ho2.less hgs) (later hg hb)⟩
  | 9,hk,hd =>
   have s:(ops[9]?).map sig = some (some 58,.convert 69 9 (.tmp 57),9,some (6,false)):=by subst hops;kernel_rfl
   have hgd:GdOk ops a (some (6,false)):=yielded_of (d:=55) (by subst hops;kernel_rfl) (hd 6 (by decide) (by subst hops;kernel_rfl))
   have d8:=hd 8 (by decide) (by subst hops;kernel_rfl)
   have hw:OwnB w w0.heap.size (ag a 57) E2:=d8
   obtain ⟨A,cap,hv,_⟩:=hw.shape
   rw [hv] at hw
   have hcv:(convert 69 9 (.slice A E2.length cap)).run Tryd.prog w = .ok (.string (mkS E2)) w:=run_conv w.heap.size _ cap A E2 w rfl hw.rd
   refine op_valg s hgd (w':=w) (v:=.string (mkS E2)) ?_ ?_
   ·simp only [execOp,eval_tmp,hv]
    go_simp
   ·exact PostE.put (i:=9) ho (vccd4_mem 9 hk).2 (hlt 9 hk) (fun k hk2 hne _ => vccd4_inj 9 hk k hk2 hne) (.inl (Ext.refl _ _)) rfl hg
  | 10,hk,hd =>
   have s:(ops[10]?).map sig = some (some 59,.load 53 (.tmp 9),53,some (6,false)):=by subst hops;kernel_rfl
   have hgd:GdOk ops a (some (6,false)):=yielded_of (d:=55) (by subst hops;kernel_rfl) (hd 6 (by decide) (by subst hops;kernel_rfl))
   have e0:ag a 9 = .pointer (some ⟨g9,0,none⟩):=(ho.off 9 (by decide)).trans h9
   refine op_loadg s hgd g9 0 e0 C9 _ (range_below v9.rg hg) Tryd.underlying53 rfl (by rw [v9.ln];exact info_val) ?_
   exact PostE.put (i:=10) ho (vccd4_mem 10 hk).2 (hlt 10 hk) (fun k hk2 hne _ => vccd4_inj 10 hk k hk2 hne) (.inl (Ext.refl _ _)) rfl hg
  | 11,hk,hd =>
   have s:(ops[11]?).map sig = some (some 60,.call { callee:=.value (.func 37),args:=#[.tmp 59],argTypes:=#[53] },69,some (6,false)):=by subst hops;kernel_rfl
   have hgd:GdOk ops a (some (6,false)):=yielded_of (d:=55) (by subst hops;kernel_rfl) (hd 6 (by decide) (by subst hops;kernel_rfl))
   have d10:=hd 10 (by decide) (by subst hops;kernel_rfl)
   have e0:ag a 59 = .agg C9.toArray:=d10
   refine op_callg s hgd (w':=w) (f:=37) (args:=#[.agg C9.toArray]) ?_ ?_
   ·simp only [execOp]
    go_simp
    simpa [ag] using e0
   ·refine (hE2.out ▸ renc_any y.nodes y (Nat.le_refl _) (by rw [hE2.out];exact hl2) w _ (v9.later hg).tr).mono ?_
    rintro e w' ⟨A9,c9,rfl,ho2,hb⟩
    exact ⟨_,rfl,PostE.put (i:=11) ho (vccd4_mem 11 hk).2 (hlt 11 hk) (fun k hk2 hne _ => vccd4_inj 11 hk k hk2 hne) (.inl (Ext.of hb)) (ho2.less hgs) (later hg hb)⟩
  | 12,hk,hd =>
   have s:(ops[12]?).map sig = some (some 61,.convert 69 9 (.tmp 60),9,some (6,false)):=by subst hops;kernel_rfl
   have hgd:GdOk ops a (some (6,false)):=yielded_of (d:=55) (by subst hops;kernel_rfl) (hd 6 (by decide) (by subst hops;kernel_rfl))
   have d11:=hd 11 (by decide) (by subst hops;kernel_rfl)
   have hw:OwnB w w0.heap.size (ag a 60) E2:=d11
   obtain ⟨A,cap,hv,_⟩:=hw.shape
   rw [hv] at hw
   have hcv:(convert 69 9 (.slice A E2.length cap)).run Tryd.prog w = .ok (.string (mkS E2)) w:=run_conv w.heap.size _ cap A E2 w rfl hw.rd
   refine op_valg s hgd (w':=w) (v:=.string (mkS E2)) ?_ ?_
   ·simp only [execOp,eval_tmp,hv]
    go_simp
   ·exact PostE.put (i:=12) ho (vccd4_mem 12 hk).2 (hlt 12 hk) (fun k hk2 hne _ => vccd4_inj 12 hk k hk2 hne) (.inl (Ext.refl _ _)) rfl hg
  | 13,hk,hd =>
   have s:(ops[13]?).map sig = some (some 62,.binOp .neq 9 (.tmp 58) (.tmp 61) 9,4,some (6,false)):=by subst hops;kernel_rfl
   have hgd:GdOk ops a (some (6,false)):=yielded_of (d:=55) (by subst hops;kernel_rfl) (hd 6 (by decide) (by subst hops;kernel_rfl))
   have d9:=hd 9 (by decide) (by subst hops;kernel_rfl)
   have d12:=hd 12 (by decide) (by subst hops;kernel_rfl)
   have e0:ag a 58 = .string (mkS E2):=d9
   have e1:ag a 61 = .string (mkS E2):=d12
   refine op_valg s hgd (w':=w) (v:=.bool false) ?_ ?_
   ·simp only [execOp,eval_tmp,e0,e1]
    go_simp
   ·exact PostE.put (i:=13) ho (vccd4_mem 13 hk).2 (hlt 13 hk) (fun k hk2 hne _ => vccd4_inj 13 hk k hk2 hne) (.inl (Ext.refl _ _)) rfl hg
  | n + 14,hn,_ => exact absurd hn (by omega)
 ·intro a w ho hg hf
  have s:(ops[14]?).map sig = some (some 63,.pick (.tmp 55) (.const (.bool true)) (.tmp 62),4,none):=by subst hops;kernel_rfl
  have hgd:GdOk ops a none:=trivial
  have d6:=hf 6 (by decide)
  have d13:=hf 13 (by decide)
  have e0:ag a 55 = .bool false:=d6
  have e1:ag a 62 = .bool false:=d13
  refine op_valg s hgd (w':=w) (v:=.bool false) ?_ ?_
  ·simp only [execOp,eval_tmp,e0,e1]
   go_simp
  ·have ho2:Off (vccD4 ++ [63]) a0 (a.put (some 63) (.bool false)):=(ho.mono (fun s hs => List.mem_append_left _ hs)).put (by decide)
   exact hQ (ag (a.put (some 63) (.bool false))) w (ag_put (by rw [ho.size,hsz];decide)) hg _ (ho2.eq (fun s hs => by rw [hsz];revert s;decide))
end Go.Proofs.YtmfihlcibephlaaDoor
namespace Go.Proofs.YtmfihlcibephlaaDoor
open Go.RowKit
theorem wp_region_factsG {P:Program} {ops:Array Oper} {Q:Exit → Act → World → Prop} {id:Nat} {a0:Act} {w0:World} (last pa ps:Nat) (D:List Nat) (ds:Nat → Nat) (F:Option Nat → Nat → Value → World → Prop) (G:Option Nat → World → Prop) (B:Nat) (Ea:Nat → World → World → Prop) (Ep:Option Nat → World → World → Prop) (rk:Nat → Nat)
  (hm:P.follows .mixedOrders = true) (hsz:ops.size = last + 1) (hac:acyR ops rk = true) (hnd:needB ops last = true) (hpal:pa < last)
  (hF:∀ γ k v w w',k < last → (Ext B w w' ∨ (k ≠ ps ∧ Ep γ w w')) → F γ k v w → F γ k v w') (hA:∀ g k v w w',k < last → k ≠ pa → Ea g w w' → F none k v w → F (some g) k v w') (h0:G none w0.drew)
  (hs:∀ γ i a w,i < last → i ≠ pa → Off D a0 a → G γ w → (∀ k,k < last → depB ops i k = true → F γ k (ag a (ds k)) w) →
   wpOp P ops Q i (PostE ops D ds last a0 a i (F γ) (fun w' => Ext B w w' ∨ (i = ps ∧ Ep γ w w')) (G γ)) a w)
  (hpa:∀ a w,Off D a0 a → G none w → (∀ k,k < last → depB ops pa k = true → F none k (ag a (ds k)) w) → wpOp P ops Q pa (fun a' w' => ∃ g,PostE ops D ds last a0 a pa (F (some g)) (fun w' => Ea g w w') (G (some g)) a' w') a w)
  (hl:∀ γ a w,Off D a0 a → G γ w → (∀ k,k < last → F γ k (ag a (ds k)) w) → wpOp P ops Q last (fun a' w' => Q .normal a' w') a w) :
  (Code.region id ops true).wp P Q a0 w0:=by
 refine wp_region_inv (fun listed a w => listed.size = last + 1 ∧ ((listed.getD last false = true ∧ (∀ k,k < last + 1 → listed.getD k false = true) ∧ Q .normal a w) ∨ (listed.getD last false = false ∧ (∀ i k,i < last → listed.getD i false = true → depB ops i k = true → listed.getD k false = true) ∧ Off D a0 a ∧ ∃ γ,G γ w ∧ (listed.getD pa false = false → γ = none) ∧ ∀ k,k < last → listed.getD k false = true → F γ k (ag a (ds k)) w))) hm ?_ ?_ ?_
 ·have hz:∀ k,(Array.replicate ops.size false).getD k false = false:=fun k => by
   simp only [Array.getD_eq_getD_getElem?,Array.getElem?_replicate];split <;> rfl
  refine ⟨by simp [hsz],.inr ⟨hz _,fun i k _ h => absurd h (by rw [hz];simp),Off.refl _ _,none,h0,fun _ => rfl,fun k _ h => absurd h (by rw [hz];simp)⟩⟩
 ·rintro listed a w ⟨hls,h | ⟨h1,_⟩⟩ hr
  ·exact h.2.2
  ·exfalso
   have hall:∀ n k,rk k ≤ n → k ≤ last → listed.getD k false = true:=by
    intro n
    induction n using Nat.strongRecOn with
    | _ n ih =>
     intro k hkn hk
     cases hb:listed.getD k false with
     | true => rfl
     | false =>
      have:=ready_ofR (ops:=ops) (listed:=listed) (rk:=rk) (i:=k) (by omega) (by rw [← hb];exact getD_in (by omega) _ _) (fun j hj hr => ih (rk j) (by omega) j (Nat.le_refl _) (by omega)) hac
      rw [hr] at this
      cases this
   rw [hall (rk last) last (Nat.le_refl _) (Nat.le_refl _)] at h1
   cases h1
 ·rintro listed a w i ⟨hls,h⟩ hi
  obtain ⟨hi1,hi2,_⟩:=ready_mem hi
  have hi3:listed.getD i false = false:=by rw [← hi2];exact getD_in (by omega) _ _
  rcases h with ⟨_,h,_⟩ | ⟨h1,hcl,ho,γ,hg,hγ,hf⟩
  ·rw [h i (by omega)] at hi3;cases hi3
  ·by_cases hil:i = last
   ·subst hil
    have hall:∀ n k,k < i → i ≤ k + n → listed.getD k false = true:=by
     intro n
     induction n with
     | zero => intro k h1 h2;omega
     | succ n ih =>
      intro k hk hn
      have hx:=List.all_eq_true.1 hnd k (List.mem_range.2 hk)
      obtain ⟨j,hj,hx⟩:=List.any_eq_true.1 hx
      rw [Bool.and_eq_true,decide_eq_true_eq] at hx
      have hj:=List.mem_range.1 hj
      by_cases hji:j = i
      ·rw [hji] at hx;exact ready_dep hi hx.2
      ·exact hcl j k (by omega) (ih j (by omega) (by omega)) hx.2
    have hall2:∀ k,k < i → listed.getD k false = true:=fun k hk => hall i k hk (by omega)
    refine wpOp_mono (fun a' w' hq => ?_) (hl γ a w ho hg (fun k hk => hf k hk (hall2 k hk)))
    refine ⟨by simp [hls],.inl ⟨?_,?_,hq⟩⟩
    ·rw [getD_set (by omega),if_pos rfl]
    ·intro k hk
     rw [getD_set (by omega)]
     split
     ·rfl
     ·exact hall2 k (by omega)
   ·have hil':i < last:=by omega
    have hcl':∀ j k,j < last → (listed.setIfInBounds i true).getD j false = true → depB ops j k = true → (listed.setIfInBounds i true).getD k false = true:=by
     intro j k hj hjl hd
     rw [getD_set (by omega)] at hjl ⊢
     split
     ·rfl
     ·by_cases hji:j = i
      ·rw [hji] at hd;exact ready_dep hi hd
      ·rw [if_neg hji] at hjl;exact hcl j k hj hjl hd
    have hno:∀ k,k < last → listed.getD k false = true → depB ops k i = false:=by
     intro k hk hkl
     cases hb:depB ops k i with
     | false => rfl
     | true => have:=hcl k i hk hkl hb;rw [hi3] at this;cases this
    by_cases hip:i = pa
    ·subst hip
     obtain rfl:=hγ hi3
     refine wpOp_mono ?_ (hpa a w ho hg (fun k hk hd => hf k hk (ready_dep hi hd)))
     rintro a' w' ⟨g,ho',hk',he,hv,hg'⟩
     refine ⟨by simp [hls],.inr ⟨?_,hcl',ho',some g,hg',?_,?_⟩⟩
     ·rw [getD_set (by omega),if_neg (by omega)];exact h1
     ·intro h;rw [getD_set (by omega),if_pos rfl] at h;cases h
     ·intro k hk hkl
      by_cases hki:k = i
      ·subst hki;exact hv
      ·rw [getD_set (by omega),if_neg hki] at hkl
       rw [hk' k hk hki (hno k hk hkl)]
       exact hA g k _ w w' hk hki he (hf k hk hkl)
    ·refine wpOp_mono ?_ (hs γ i a w hil' hip ho hg (fun k hk hd => hf k hk (ready_dep hi hd)))
     rintro a' w' ⟨ho',hk',he,hv,hg'⟩
     refine ⟨by simp [hls],.inr ⟨?_,hcl',ho',γ,hg',?_,?_⟩⟩
     ·rw [getD_set (by omega),if_neg (by omega)];exact h1
     ·intro h;rw [getD_set (by omega),if_neg (fun e => hip e.symm)] at h;exact hγ h
     ·intro k hk hkl
      by_cases hki:k = i
      ·subst hki;exact hv
      ·rw [getD_set (by omega),if_neg hki] at hkl
       rw [hk' k hk hki (hno k hk hkl)]
       exact hF γ k _ w w' hk (he.imp (fun h => h) (fun h => ⟨fun e => hki (e.trans h.1.symm),h.2⟩)) (hf k hk hkl)
end Go.Proofs.YtmfihlcibephlaaDoor
