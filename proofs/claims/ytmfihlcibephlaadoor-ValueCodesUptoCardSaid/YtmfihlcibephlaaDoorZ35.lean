import Derived.Test.YtmfihlcibephlaaDoorZ34
set_option linter.unusedVariables false
set_option linter.unusedSimpArgs false
namespace Go.Proofs.YtmfihlcibephlaaDoor
open Go.RowKit
theorem wp_region_seqE {P:Program} {ops:Array Oper} {Q:Exit → Act → World → Prop} {id:Nat} {a0:Act} {w0:World} (last p:Nat) (D:List Nat) (ds:Nat → Nat) (F:Nat → Value → World → Prop) (G:World → Prop) (B:Nat) (Ep:World → World → Prop)
  (hsz:ops.size = last + 1) (hac:acyR ops (fun k => k) = true)
  (hF:∀ k v w w',k < last → (Ext B w w' ∨ (k ≠ p ∧ Ep w w')) → F k v w → F k v w') (h0:G w0)
  (hs:∀ i a w,i < last → Off D a0 a → G w → (∀ k,k < last → depB ops i k = true → F k (ag a (ds k)) w) →
   wpOp P ops Q i (PostE ops D ds last a0 a i F (fun w' => Ext B w w' ∨ (i = p ∧ Ep w w')) G) a w)
  (hl:∀ a w,Off D a0 a → G w → (∀ k,k < last → F k (ag a (ds k)) w) → wpOp P ops Q last (fun a' w' => Q .normal a' w') a w) :
  (Code.region id ops false).wp P Q a0 w0:=by
 refine wp_region ?_
 have hdk:∀ i k,i < ops.size → depB ops i k = true → k < i:=by
  intro i k hi hk
  have h1:=List.all_eq_true.1 hac i (List.mem_range.2 hi)
  unfold depB at hk
  rw [Array.getElem?_eq_getElem hi] at h1 hk
  simp only [Option.map_some,Option.getD_some] at h1 hk
  obtain ⟨e,he,hb⟩:=Array.any_eq_true'.1 hk
  have:=Array.all_eq_true'.1 h1 e he
  rw [Bool.and_eq_true] at hb
  have e2:e.on = k:=by simpa using hb.2
  rw [hb.1,Bool.not_true,Bool.false_or,Bool.and_eq_true,decide_eq_true_eq,decide_eq_true_eq] at this
  rw [← e2];exact this.2
 have key:∀ n i a w,i + n = last → Off D a0 a → G w → (∀ k,k < i → F k (ag a (ds k)) w) → wpOps P ops Q (List.range' i (n + 1)) a w:=by
  intro n
  induction n with
  | zero =>
   intro i a w hi ho hg hf
   have hi:i = last:=by omega
   subst hi
   rw [show List.range' i (0 + 1) = [i] from rfl,wpOps_cons]
   refine wpOp_mono (fun a' w' h => ?_) (hl a w ho hg hf)
   simpa [wpOps] using h
  | succ n ih =>
   intro i a w hi ho hg hf
   rw [List.range'_succ,wpOps_cons]
   refine wpOp_mono ?_ (hs i a w (by omega) ho hg (fun k hk hd => hf k (hdk i k (by omega) hd)))
   rintro a' w' ⟨ho',hk',he,hv,hg'⟩
   refine ih (i + 1) a' w' (by omega) ho' hg' ?_
   intro k hk
   by_cases hki:k = i
   ·subst hki;exact hv
   ·rw [hk' k (by omega) hki (by
     cases hb:depB ops k i with
     | false => rfl
     | true => have:=hdk k i (by omega) hb;omega)]
    exact hF k _ w w' (by omega) (he.imp (fun h => h) (fun h => ⟨fun e => hki (e.trans h.1.symm),h.2⟩)) (hf k (by omega))
 have h:=key last 0 a0 w0 (by omega) (Off.refl _ _) h0 (fun k hk => absurd hk (by omega))
 rw [List.range_eq_range',hsz]
 exact h
theorem leafk {w:World} {k n:Int} (hk:i64r k) (hn:i64r n):TrAt w (.node k n []) (.agg #[.int .i64 k,.int .i64 n,.slice none 0 0]):=by
 unfold TrAt
 exact ⟨none,0,rfl,⟨Nat.le_refl _,by simp [maxLen],hk,hn⟩,by unfold KsAt;trivial⟩
theorem ir (n:Int) (h:-10 ≤ n ∧ n ≤ 10):i64r n:=by unfold i64r;omega
def fl18 (g11 g12:Nat) (C11 C12:List Value) (S:Nat):Nat → Value → World → Prop
 | 0,v,w => v = .agg #[.int .i64 0,.int .i64 2,.slice none 0 0]
 | 1,v,w => v = .agg #[.int .i64 1,.int .i64 1,.slice none 0 0]
 | 2,v,w => v = .int .i64 (-1)
 | 3,v,w => v = .bool true
 | 4,v,w => v = .bool true
 | 5,v,w => v = .agg (C11:List Value).toArray
 | 6,v,w => v = .agg (C12:List Value).toArray
 | 7,v,w => v = .int .i64 (-1)
 | 8,v,w => v = .bool true
 | 9,v,w => v = .bool true
 | 10,v,w => v = .bool true
 | 11,v,w => v = .agg (C12:List Value).toArray
 | 12,v,w => v = .agg (C11:List Value).toArray
 | 13,v,w => v = .int .i64 1
 | 14,v,w => v = .bool true
 | 15,v,w => v = .bool true
 | _,_,_ => True
theorem fl18_ext (g11 g12:Nat) (C11 C12:List Value) (S:Nat):∀ j v w w',j < 16 → (Ext S w w' ∨ (j ≠ 999 ∧ Never w w')) → fl18 g11 g12 C11 C12 S j v w → fl18 g11 g12 C11 C12 S j v w':=by
 intro j v w w' hj he h
 match j,hj,he,h with
 | 0,_,he,h => exact h
 | 1,_,he,h => exact h
 | 2,_,he,h => exact h
 | 3,_,he,h => exact h
 | 4,_,he,h => exact h
 | 5,_,he,h => exact h
 | 6,_,he,h => exact h
 | 7,_,he,h => exact h
 | 8,_,he,h => exact h
 | 9,_,he,h => exact h
 | 10,_,he,h => exact h
 | 11,_,he,h => exact h
 | 12,_,he,h => exact h
 | 13,_,he,h => exact h
 | 14,_,he,h => exact h
 | 15,_,he,h => exact h
 | n + 16,hn,_,_ => exact absurd hn (by omega)
def Dl18:List Nat:=[127,128,129,130,131,132,133,134,135,136,137,138,139,140,141,142]
def dl18 (k:Nat):Nat:=[127,128,129,130,131,132,133,134,135,136,137,138,139,140,141,142].getD k 0
theorem dl18_mem:∀ k,k < 16 → dl18 k < 195 ∧ dl18 k ∈ Dl18:=by decide
theorem dl18_inj:∀ i,i < 16 → ∀ k,k < 16 → k ≠ i → dl18 i ≠ dl18 k:=by decide
set_option maxHeartbeats 2000000 in
set_option maxRecDepth 100000 in
theorem regl18 {Q:Exit → Act → World → Prop} {id:Nat} {ops:Array Oper} (hops:ops = ((Tryd.f22.body).bind (opsOf 18)).getD #[]) (a0:Act) (w0:World) (g11 g12:Nat) (C11 C12:List Value) (hsz:a0.tmps.size = 195)
  (h11:ag a0 11 = .pointer (some ⟨g11,0,none⟩)) (h12:ag a0 12 = .pointer (some ⟨g12,0,none⟩)) (v11:VarAt w0 g11 niE C11) (v12:VarAt w0 g12 onE C12)
  (hQ:∀ (vs:Nat → Value) (w':World),vs 21 = .bool true → Below w0.heap.size w0 w' → ∀ a',a' = (Dl18 ++ [21]).foldl (fun b s => b.put (some s) (vs s)) a0 → Q .normal a' w') :
  (Code.region id ops false).wp Tryd.prog Q a0 w0:=by
 have hg0:Below w0.heap.size w0 w0:=Below.refl _ _
 have hlt:∀ k,k < 16 → dl18 k < a0.tmps.size:=fun k hk => by have:=(dl18_mem k hk).1;omega
 refine wp_region_seqE 16 999 Dl18 dl18 (fl18 g11 g12 C11 C12 w0.heap.size) (fun w => Below w0.heap.size w0 w) w0.heap.size Never (by subst hops;kernel_rfl) (by subst hops;kernel_rfl) (fl18_ext g11 g12 C11 C12 w0.heap.size) hg0 ?_ ?_
 ·intro j a w hj ho hg hd
  have hgs:=hg.size
  match j,hj,hd with
  | 0,hk,hd =>
   have s:(ops[0]?).map sig = some (some 127,.call { callee:=.value (.func 27),args:=#[.const (.int .i64 2)],argTypes:=#[3] },53,none):=by subst hops;kernel_rfl
   have hgd:GdOk ops a none:=trivial
   refine op_callg s hgd (w':=w) (f:=27) (args:=#[.int .i64 2]) ?_ ?_
   ·simp only [execOp]
    go_simp
   ·refine (num_any 2 w).mono ?_
    rintro e w' ⟨rfl,hb⟩
    exact ⟨_,rfl,PostE.put (i:=0) ho (dl18_mem 0 hk).2 (hlt 0 hk) (fun k hk2 hne _ => dl18_inj 0 hk k hk2 hne) (.inl (Ext.of hb)) rfl (later hg hb)⟩
  | 1,hk,hd =>
   have s:(ops[1]?).map sig = some (some 128,.build 53 #[(0,.const (.int .i64 1)),(1,.const (.int .i64 1))],53,none):=by subst hops;kernel_rfl
   have hgd:GdOk ops a none:=trivial
   have hb:(Instr.build 53 #[(0,.int .i64 1),(1,.int .i64 1)]).run Tryd.prog w = .ok (.agg #[.int .i64 1,.int .i64 1,.slice none 0 0]) w:=run_build w _ _ _ (by kernel_rfl)
   have ec:a.eval (.const (.int .i64 1)) = .int .i64 1:=rfl
   refine op_valg s hgd (w':=w) (v:=.agg #[.int .i64 1,.int .i64 1,.slice none 0 0]) ?_ ?_
   ·simp only [execOp,List.map_toArray,List.map_cons,List.map_nil,ec,Sem.run_bind,hb]
    rfl
   ·exact PostE.put (i:=1) ho (dl18_mem 1 hk).2 (hlt 1 hk) (fun k hk2 hne _ => dl18_inj 1 hk k hk2 hne) (.inl (Ext.refl _ _)) rfl hg
  | 2,hk,hd =>
   have s:(ops[2]?).map sig = some (some 129,.call { callee:=.value (.func 32),args:=#[.tmp 127,.tmp 128],argTypes:=#[53,53] },3,none):=by subst hops;kernel_rfl
   have hgd:GdOk ops a none:=trivial
   have d0:=hd 0 (by decide) (by subst hops;kernel_rfl)
   have d1:=hd 1 (by decide) (by subst hops;kernel_rfl)
   have e0:ag a 127 = .agg #[.int .i64 0,.int .i64 2,.slice none 0 0]:=d0
   have e1:ag a 128 = .agg #[.int .i64 1,.int .i64 1,.slice none 0 0]:=d1
   refine op_callg s hgd (w':=w) (f:=32) (args:=#[.agg #[.int .i64 0,.int .i64 2,.slice none 0 0],.agg #[.int .i64 1,.int .i64 1,.slice none 0 0]]) ?_ ?_
   ·simp only [execOp]
    go_simp
    refine ⟨by simpa [ag] using e0,by simpa [ag] using e1⟩
   ·refine ((show Calls Tryd.prog _ _ w (NumRes (-1) w) from ex_cp1 ▸ compare_any 100 (lf 2) (by decide) (.node 1 1 []) w _ _ (lf_node (ir _ (by omega))) (leafk (ir _ (by omega)) (ir _ (by omega))))).mono ?_
    rintro e w' ⟨rfl,hb⟩
    exact ⟨_,rfl,PostE.put (i:=2) ho (dl18_mem 2 hk).2 (hlt 2 hk) (fun k hk2 hne _ => dl18_inj 2 hk k hk2 hne) (.inl (Ext.of hb)) rfl (later hg hb)⟩
  | 3,hk,hd =>
   have s:(ops[3]?).map sig = some (some 130,.binOp .eql 3 (.tmp 129) (.const (.int .i64 (-1))) 3,4,none):=by subst hops;kernel_rfl
   have hgd:GdOk ops a none:=trivial
   have d2:=hd 2 (by decide) (by subst hops;kernel_rfl)
   have e1:ag a 129 = .int .i64 (-1):=d2
   refine op_valg s hgd (w':=w) (v:=.bool true) ?_ ?_
   ·simp only [execOp,eval_tmp,e1]
    go_simp
   ·exact PostE.put (i:=3) ho (dl18_mem 3 hk).2 (hlt 3 hk) (fun k hk2 hne _ => dl18_inj 3 hk k hk2 hne) (.inl (Ext.refl _ _)) rfl hg
  | 4,hk,hd =>
   have s:(ops[4]?).map sig = some (some 131,.move (.tmp 130),4,none):=by subst hops;kernel_rfl
   have hgd:GdOk ops a none:=trivial
   have d3:=hd 3 (by decide) (by subst hops;kernel_rfl)
   have e:ag a 130 = .bool true:=d3
   refine op_valg s hgd (w':=w) (v:=.bool true) ?_ ?_
   ·exact congrArg (fun x => Result.ok (Next.value x) w) e
   ·exact PostE.put (i:=4) ho (dl18_mem 4 hk).2 (hlt 4 hk) (fun k hk2 hne _ => dl18_inj 4 hk k hk2 hne) (.inl (Ext.refl _ _)) rfl hg
  | 5,hk,hd =>
   have s:(ops[5]?).map sig = some (some 132,.load 53 (.tmp 11),53,some (4,true)):=by subst hops;kernel_rfl
   have hgd:GdOk ops a (some (4,true)):=yielded_of (d:=131) (by subst hops;kernel_rfl) (hd 4 (by decide) (by subst hops;kernel_rfl))
   have e:a.eval (.tmp 11) = .pointer (some ⟨g11,0,none⟩):=(ho.off 11 (by decide)).trans h11
   refine op_loadg s hgd g11 0 e C11 _ (range_below v11.rg hg) Tryd.underlying53 rfl (by rw [v11.ln];exact info_val) ?_
   exact PostE.put (i:=5) ho (dl18_mem 5 hk).2 (hlt 5 hk) (fun k hk2 hne _ => dl18_inj 5 hk k hk2 hne) (.inl (Ext.refl _ _)) rfl hg
  | 6,hk,hd =>
   have s:(ops[6]?).map sig = some (some 133,.load 53 (.tmp 12),53,some (4,true)):=by subst hops;kernel_rfl
   have hgd:GdOk ops a (some (4,true)):=yielded_of (d:=131) (by subst hops;kernel_rfl) (hd 4 (by decide) (by subst hops;kernel_rfl))
   have e:a.eval (.tmp 12) = .pointer (some ⟨g12,0,none⟩):=(ho.off 12 (by decide)).trans h12
   refine op_loadg s hgd g12 0 e C12 _ (range_below v12.rg hg) Tryd.underlying53 rfl (by rw [v12.ln];exact info_val) ?_
   exact PostE.put (i:=6) ho (dl18_mem 6 hk).2 (hlt 6 hk) (fun k hk2 hne _ => dl18_inj 6 hk k hk2 hne) (.inl (Ext.refl _ _)) rfl hg
  | 7,hk,hd =>
   have s:(ops[7]?).map sig = some (some 134,.call { callee:=.value (.func 32),args:=#[.tmp 132,.tmp 133],argTypes:=#[53,53] },3,some (4,true)):=by subst hops;kernel_rfl
   have hgd:GdOk ops a (some (4,true)):=yielded_of (d:=131) (by subst hops;kernel_rfl) (hd 4 (by decide) (by subst hops;kernel_rfl))
   have d5:=hd 5 (by decide) (by subst hops;kernel_rfl)
   have d6:=hd 6 (by decide) (by subst hops;kernel_rfl)
   have e0:ag a 132 = .agg (C11:List Value).toArray:=d5
   have e1:ag a 133 = .agg (C12:List Value).toArray:=d6
   refine op_callg s hgd (w':=w) (f:=32) (args:=#[.agg (C11:List Value).toArray,.agg (C12:List Value).toArray]) ?_ ?_
   ·simp only [execOp]
    go_simp
    refine ⟨by simpa [ag] using e0,by simpa [ag] using e1⟩
   ·refine ((show Calls Tryd.prog _ _ w (NumRes (-1) w) from ex_cp2 ▸ compare_any 100 niE (by decide) onE w _ _ (v11.later hg).tr (v12.later hg).tr)).mono ?_
    rintro e w' ⟨rfl,hb⟩
    exact ⟨_,rfl,PostE.put (i:=7) ho (dl18_mem 7 hk).2 (hlt 7 hk) (fun k hk2 hne _ => dl18_inj 7 hk k hk2 hne) (.inl (Ext.of hb)) rfl (later hg hb)⟩
  | 8,hk,hd =>
   have s:(ops[8]?).map sig = some (some 135,.binOp .eql 3 (.tmp 134) (.const (.int .i64 (-1))) 3,4,some (4,true)):=by subst hops;kernel_rfl
   have hgd:GdOk ops a (some (4,true)):=yielded_of (d:=131) (by subst hops;kernel_rfl) (hd 4 (by decide) (by subst hops;kernel_rfl))
   have d7:=hd 7 (by decide) (by subst hops;kernel_rfl)
   have e1:ag a 134 = .int .i64 (-1):=d7
   refine op_valg s hgd (w':=w) (v:=.bool true) ?_ ?_
   ·simp only [execOp,eval_tmp,e1]
    go_simp
   ·exact PostE.put (i:=8) ho (dl18_mem 8 hk).2 (hlt 8 hk) (fun k hk2 hne _ => dl18_inj 8 hk k hk2 hne) (.inl (Ext.refl _ _)) rfl hg
  | 9,hk,hd =>
   have s:(ops[9]?).map sig = some (some 136,.pick (.tmp 131) (.tmp 135) (.const (.bool false)),4,none):=by subst hops;kernel_rfl
   have hgd:GdOk ops a none:=trivial
   have d4:=hd 4 (by decide) (by subst hops;kernel_rfl)
   have d8:=hd 8 (by decide) (by subst hops;kernel_rfl)
   have e1:ag a 131 = .bool true:=d4
   have e2:ag a 135 = .bool true:=d8
   refine op_valg s hgd (w':=w) (v:=.bool true) ?_ ?_
   ·simp only [execOp,eval_tmp,e1,e2]
    go_simp
   ·exact PostE.put (i:=9) ho (dl18_mem 9 hk).2 (hlt 9 hk) (fun k hk2 hne _ => dl18_inj 9 hk k hk2 hne) (.inl (Ext.refl _ _)) rfl hg
  | 10,hk,hd =>
   have s:(ops[10]?).map sig = some (some 137,.move (.tmp 136),4,none):=by subst hops;kernel_rfl
   have hgd:GdOk ops a none:=trivial
   have d9:=hd 9 (by decide) (by subst hops;kernel_rfl)
   have e:ag a 136 = .bool true:=d9
   refine op_valg s hgd (w':=w) (v:=.bool true) ?_ ?_
   ·exact congrArg (fun x => Result.ok (Next.value x) w) e
   ·exact PostE.put (i:=10) ho (dl18_mem 10 hk).2 (hlt 10 hk) (fun k hk2 hne _ => dl18_inj 10 hk k hk2 hne) (.inl (Ext.refl _ _)) rfl hg
  | 11,hk,hd =>
   have s:(ops[11]?).map sig = some (some 138,.load 53 (.tmp 12),53,some (10,true)):=by subst hops;kernel_rfl
   have hgd:GdOk ops a (some (10,true)):=yielded_of (d:=137) (by subst hops;kernel_rfl) (hd 10 (by decide) (by subst hops;kernel_rfl))
   have e:a.eval (.tmp 12) = .pointer (some ⟨g12,0,none⟩):=(ho.off 12 (by decide)).trans h12
   refine op_loadg s hgd g12 0 e C12 _ (range_below v12.rg hg) Tryd.underlying53 rfl (by rw [v12.ln];exact info_val) ?_
   exact PostE.put (i:=11) ho (dl18_mem 11 hk).2 (hlt 11 hk) (fun k hk2 hne _ => dl18_inj 11 hk k hk2 hne) (.inl (Ext.refl _ _)) rfl hg
  | 12,hk,hd =>
   have s:(ops[12]?).map sig = some (some 139,.load 53 (.tmp 11),53,some (10,true)):=by subst hops;kernel_rfl
   have hgd:GdOk ops a (some (10,true)):=yielded_of (d:=137) (by subst hops;kernel_rfl) (hd 10 (by decide) (by subst hops;kernel_rfl))
   have e:a.eval (.tmp 11) = .pointer (some ⟨g11,0,none⟩):=(ho.off 11 (by decide)).trans h11
   refine op_loadg s hgd g11 0 e C11 _ (range_below v11.rg hg) Tryd.underlying53 rfl (by rw [v11.ln];exact info_val) ?_
   exact PostE.put (i:=12) ho (dl18_mem 12 hk).2 (hlt 12 hk) (fun k hk2 hne _ => dl18_inj 12 hk k hk2 hne) (.inl (Ext.refl _ _)) rfl hg
  | 13,hk,hd =>
   have s:(ops[13]?).map sig = some (some 140,.call { callee:=.value (.func 32),args:=#[.tmp 138,.tmp 139],argTypes:=#[53,53] },3,some (10,true)):=by subst hops;kernel_rfl
   have hgd:GdOk ops a (some (10,true)):=yielded_of (d:=137) (by subst hops;kernel_rfl) (hd 10 (by decide) (by subst hops;kernel_rfl))
   have d11:=hd 11 (by decide) (by subst hops;kernel_rfl)
   have d12:=hd 12 (by decide) (by subst hops;kernel_rfl)
   have e0:ag a 138 = .agg (C12:List Value).toArray:=d11
   have e1:ag a 139 = .agg (C11:List Value).toArray:=d12
   refine op_callg s hgd (w':=w) (f:=32) (args:=#[.agg (C12:List Value).toArray,.agg (C11:List Value).toArray]) ?_ ?_
   ·simp only [execOp]
    go_simp
    refine ⟨by simpa [ag] using e0,by simpa [ag] using e1⟩
   ·refine ((show Calls Tryd.prog _ _ w (NumRes 1 w) from ex_cp3 ▸ compare_any 100 onE (by decide) niE w _ _ (v12.later hg).tr (v11.later hg).tr)).mono ?_
    rintro e w' ⟨rfl,hb⟩
    exact ⟨_,rfl,PostE.put (i:=13) ho (dl18_mem 13 hk).2 (hlt 13 hk) (fun k hk2 hne _ => dl18_inj 13 hk k hk2 hne) (.inl (Ext.of hb)) rfl (later hg hb)⟩
  | 14,hk,hd =>
   have s:(ops[14]?).map sig = some (some 141,.binOp .eql 3 (.tmp 140) (.const (.int .i64 1)) 3,4,some (10,true)):=by subst hops;kernel_rfl
   have hgd:GdOk ops a (some (10,true)):=yielded_of (d:=137) (by subst hops;kernel_rfl) (hd 10 (by decide) (by subst hops;kernel_rfl))
   have d13:=hd 13 (by decide) (by subst hops;kernel_rfl)
   have e1:ag a 140 = .int .i64 1:=d13
   refine op_valg s hgd (w':=w) (v:=.bool true) ?_ ?_
   ·simp only [execOp,eval_tmp,e1]
    go_simp
   ·exact PostE.put (i:=14) ho (dl18_mem 14 hk).2 (hlt 14 hk) (fun k hk2 hne _ => dl18_inj 14 hk k hk2 hne) (.inl (Ext.refl _ _)) rfl hg
  | 15,hk,hd =>
   have s:(ops[15]?).map sig = some (some 142,.pick (.tmp 137) (.tmp 141) (.const (.bool false)),4,none):=by subst hops;kernel_rfl
   have hgd:GdOk ops a none:=trivial
   have d10:=hd 10 (by decide) (by subst hops;kernel_rfl)
   have d14:=hd 14 (by decide) (by subst hops;kernel_rfl)
   have e1:ag a 137 = .bool true:=d10
   have e2:ag a 141 = .bool true:=d14
   refine op_valg s hgd (w':=w) (v:=.bool true) ?_ ?_
   ·simp only [execOp,eval_tmp,e1,e2]
    go_simp
   ·exact PostE.put (i:=15) ho (dl18_mem 15 hk).2 (hlt 15 hk) (fun k hk2 hne _ => dl18_inj 15 hk k hk2 hne) (.inl (Ext.refl _ _)) rfl hg
  | n + 16,hn,_ => exact absurd hn (by omega)
 ·intro a w ho hg hf
  have s:(ops[16]?).map sig = some (some 21,.assign (.tmp 142),4,none):=by subst hops;kernel_rfl
  have hgd:GdOk ops a none:=trivial
  have e:ag a 142 = .bool true:=hf 15 (by decide)
  refine op_valg s hgd (w':=w) (v:=.bool true) ?_ ?_
  ·exact congrArg (fun x => Result.ok (Next.value x) w) e
  ·have ho2:Off (Dl18 ++ [21]) a0 (a.put (some 21) (.bool true)):=(ho.mono (fun s hs => List.mem_append_left _ hs)).put (by decide)
   exact hQ (ag (a.put (some 21) (.bool true))) w (ag_put (by rw [ho.size,hsz];decide)) hg _ (ho2.eq (fun s hs => by rw [hsz];revert s;decide))
end Go.Proofs.YtmfihlcibephlaaDoor
