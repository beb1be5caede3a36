/-
  A machine on plain data, twelve: any operation.
-/
import Derived.Test.YtbmjdelpgkilcaaE4
set_option linter.unusedVariables false
section
set_option linter.unusedVariables false
set_option linter.unusedSimpArgs false
namespace Go.Eng
open Go.RowKit
structure Prm where
  GL : Nat → Option (List Dt)
  okF : FuncId → Bool
  SH : TypeId → List Nat
  argS : FuncId → Option (List (List Nat))
  resS : FuncId → Option (List (List Nat))
  ro : FuncId → Nat
  ban : Nat
def Prm.bn (M : Prm) (f : FuncId) (n : Nat) : Nat := if (M.argS f).isSome = true ∨ (M.resS f).isSome = true then 0 else (2 ^ n - 1) &&& M.ro f
theorem bn_new {M : Prm} {f : FuncId} {n id : Nat} (h : n ≤ id) : (M.bn f n).testBit id = false := by
  unfold Prm.bn
  split
  · exact Nat.zero_testBit _
  · rw [Nat.testBit_and, Nat.testBit_two_pow_sub_one, decide_eq_false (by omega), Bool.false_and]
theorem bn_arg {M : Prm} (f : FuncId) (n : Nat) (h : (M.argS f).isSome = true) : M.bn f n = 0 := by
  unfold Prm.bn
  rw [if_pos (.inl h)]
theorem bn_res {M : Prm} (f : FuncId) (n : Nat) (h : (M.resS f).isSome = true) : M.bn f n = 0 := by
  unfold Prm.bn
  rw [if_pos (.inr h)]
def orE (x y : AR) : AR := match x with
  | some r => some r
  | none => y
def absCall (M : Prm) (env : EnvT) (tm : List TV) (hp : List Ob) (q : Operand) (args : List Operand) : AR :=
  match evT M.GL tm q with
  | .fn f x y => if M.okF f = true then absCallF env (M.bn f) hp f (x ++ args.map (evT M.GL tm) ++ y) else none
  | _ => none
def absOp (P : Program) (M : Prm) (env : EnvT) (tm : List TV) (hp : List Ob) (o : Oper) : AR :=
  match o.op with
  | .move x => some (evT M.GL tm x, hp, 0, 0)
  | .assign x => some (evT M.GL tm x, hp, 0, 0)
  | .pick c x y => match evT M.GL tm c with
    | .lf (.bool t) => some (if t = true then evT M.GL tm x else evT M.GL tm y, hp, 0, 0)
    | _ => none
  | .alloc t => absAlloc P hp t
  | .box t x => absBox hp t (evT M.GL tm x)
  | .load t x => absLoad P hp t (evT M.GL tm x)
  | .store t x y => absStore P hp t (evT M.GL tm y) (evT M.GL tm x)
  | .build t ps => absBuild P hp t (ps.toList.map fun p => (p.1, evT M.GL tm p.2))
  | .buildSlice t len ps => absBuildSlice P hp t len (ps.toList.map fun p => (p.1, evT M.GL tm p.2))
  | .extract x i => absExtract hp (evT M.GL tm x) i
  | .field s x f => orE (absField P hp s (evT M.GL tm x) f) (absPure P M.GL tm hp o)
  | .fieldAddr s x f => absFieldAddr P hp s (evT M.GL tm x) f
  | .indexAddr t x i => absIndexAddr P hp t (evT M.GL tm x) (evT M.GL tm i)
  | .index t x i => orE (absIndex P hp t (evT M.GL tm x) (evT M.GL tm i)) (absPure P M.GL tm hp o)
  | .slice t x lo hi mx => orE (absSlice P hp t (evT M.GL tm x) (lo.map (evT M.GL tm)) (hi.map (evT M.GL tm)) (mx.map (evT M.GL tm))) (absPure P M.GL tm hp o)
  | .makeFunc f x y => absMakeFunc hp f (x.toList.map (evT M.GL tm)) (y.toList.map (evT M.GL tm))
  | .nilCheck x => orE (absNilCheck hp (evT M.GL tm x)) (absPure P M.GL tm hp o)
  | .binOp op t x y _ => orE (absPure P M.GL tm hp o) (absNil P hp op t (evT M.GL tm x) (evT M.GL tm y))
  | .convert src dst x => orE (absB2S P hp src dst (evT M.GL tm x)) (absPure P M.GL tm hp o)
  | .makeSlice t l c => absMakeSlice P hp t (evT M.GL tm l) (evT M.GL tm c)
  | .makeMap t r => absMakeMap P hp t (r.map (evT M.GL tm))
  | .lookup t m k ok => absLookup P hp t (evT M.GL tm m) (evT M.GL tm k) ok
  | .insert t m k v => absInsert P hp t (evT M.GL tm m) (evT M.GL tm k) (evT M.GL tm v)
  | .mapUpdate t m k v => absInsert P hp t (evT M.GL tm m) (evT M.GL tm k) (evT M.GL tm v)
  | .call { callee := .builtin .append, args := args, argTypes := ats } => match args.toList with
    | [s, x] => absAppend P hp ats (evT M.GL tm s) (evT M.GL tm x)
    | _ => none
  | .call { callee := .builtin .len, args := args, argTypes := ats } => match args.toList with
    | [x] => orE (absLen P hp ats (evT M.GL tm x)) (absPure P M.GL tm hp o)
    | _ => none
  | .call { callee := .builtin .copy, args := args, argTypes := ats } => match args.toList with
    | [d, x] => absCopy P hp ats (evT M.GL tm d) (evT M.GL tm x)
    | _ => none
  | .call { callee := .value q, args := args, argTypes := _ } => absCall M env tm hp q args.toList
  | _ => absPure P M.GL tm hp o
theorem orE_or {x y : AR} {r : TV × List Ob × Nat × Nat} (h : orE x y = some r) : x = some r ∨ y = some r := by
  unfold orE at h
  split at h
  · exact .inl h
  · exact .inr h
theorem ext_same {hp : List Ob} {t : TV} {R W : Nat} : Ext2 hp (t, hp, R, W) := ⟨Nat.le_refl _, fun _ _ _ => rfl⟩
theorem ext_app {hp l : List Ob} {t : TV} {R W : Nat} : Ext2 hp (t, hp ++ l, R, W) := ⟨by simp, fun x hx _ => by rw [List.getElem?_append_left hx]⟩
theorem ext_sap {hp l : List Ob} {t : TV} {R id : Nat} {ob : Ob} : Ext2 hp (t, hp.set id ob ++ l, R, 2 ^ id) := ⟨by simp, fun x hx h => by
  rw [Nat.testBit_two_pow, decide_eq_false_iff_not] at h
  rw [List.getElem?_append_left (by simpa using hx)]
  exact List.getElem?_set_ne h⟩
theorem ext_set {hp : List Ob} {t : TV} {R id : Nat} {ob : Ob} : Ext2 hp (t, hp.set id ob, R, 2 ^ id) := ⟨by simp, fun x hx h => by
  rw [Nat.testBit_two_pow, decide_eq_false_iff_not] at h
  exact List.getElem?_set_ne h⟩
theorem ext_map {α : Type} {hp : List Ob} {x : Option α} {f : α → TV × List Ob × Nat × Nat} {r : TV × List Ob × Nat × Nat} (h : x.map f = some r) (hf : ∀ y, Ext2 hp (f y)) : Ext2 hp r := by
  cases x with
  | none => cases h
  | some y => cases h; exact hf y
section
variable {P : Program} {M : Prm} {env : EnvT} {tm : List TV} {hp : List Ob} {o : Oper} {r : TV × List Ob × Nat × Nat}
theorem ext_pure (h : absPure P M.GL tm hp o = some r) : Ext2 hp r := by
  unfold absPure at h
  repeat' split at h
  all_goals first | (cases h; exact ext_same) | cases h
theorem ext_append {ats : Array TypeId} {s x : TV} (h : absAppend P hp ats s x = some r) : Ext2 hp r := by
  unfold absAppend absApp absAppendS absAppS at h
  repeat' split at h
  all_goals first | (cases h; first | exact ext_same | exact ext_app | exact ext_sap | exact ext_set) | cases h
theorem ext_slice {t : TypeId} {x : TV} {lo hi mx : Option TV} (h : absSlice P hp t x lo hi mx = some r) : Ext2 hp r := by
  unfold absSlice at h
  repeat' split at h
  all_goals first | (cases h; exact ext_same) | cases h
theorem ext_copy {ats : Array TypeId} {d x : TV} (h : absCopy P hp ats d x = some r) : Ext2 hp r := by
  unfold absCopy at h
  repeat' split at h
  all_goals first | (cases h; exact ext_set) | cases h
theorem op_ext (h : absOp P M env tm hp o = some r) : Ext2 hp r := by
  unfold absOp at h
  split at h
  · cases h; exact ext_same
  · cases h; exact ext_same
  · split at h
    · cases h; exact ext_same
    · cases h
  · exact ext_map h fun _ => ext_app
  · exact ext_map h fun _ => ext_app
  · unfold absLoad at h
    repeat' split at h
    all_goals first | exact ext_map h fun _ => ext_same | (cases h; exact ext_same) | cases h
  · unfold absStore at h
    repeat' split at h
    all_goals first | (cases h; exact ext_set) | cases h
  · unfold absBuild at h
    split at h
    · exact ext_map h fun _ => ext_same
    · cases h
  · unfold absBuildSlice at h
    repeat' split at h
    all_goals first | (cases h; exact ext_app) | cases h
  · unfold absExtract at h
    split at h
    · exact ext_map h fun _ => ext_same
    · cases h
  · rcases orE_or h with h | h
    · unfold absField at h
      repeat' split at h
      all_goals first | exact ext_map h fun _ => ext_same | cases h
    · exact ext_pure h
  · unfold absFieldAddr at h
    repeat' split at h
    all_goals first | (cases h; exact ext_same) | cases h
  · unfold absIndexAddr at h
    repeat' split at h
    all_goals first | exact ext_map h fun _ => ext_same | (cases h; exact ext_same) | cases h
  · rcases orE_or h with h | h
    · unfold absIndex at h
      repeat' split at h
      all_goals first | exact ext_map h fun _ => ext_same | cases h
    · exact ext_pure h
  · rcases orE_or h with h | h
    · exact ext_slice h
    · exact ext_pure h
  · unfold absMakeFunc at h
    split at h
    · cases h; exact ext_same
    · cases h
  · rcases orE_or h with h | h
    · unfold absNilCheck at h
      repeat' split at h
      all_goals first | (cases h; exact ext_same) | cases h
    · exact ext_pure h
  · rcases orE_or h with h | h
    · exact ext_pure h
    · unfold absNil at h
      repeat' split at h
      all_goals first | (cases h; exact ext_same) | cases h
  · rcases orE_or h with h | h
    · unfold absB2S at h
      repeat' split at h
      all_goals first | (cases h; exact ext_same) | cases h
    · exact ext_pure h
  · unfold absMakeSlice at h
    repeat' split at h
    all_goals first | (cases h; exact ext_app) | cases h
  · unfold absMakeMap at h
    repeat' split at h
    all_goals first | (cases h; exact ext_app) | cases h
  · unfold absLookup at h
    repeat' split at h
    all_goals first | (cases h; exact ext_same) | cases h
  · unfold absInsert at h
    repeat' split at h
    all_goals first | (cases h; exact ext_set) | cases h
  · unfold absInsert at h
    repeat' split at h
    all_goals first | (cases h; exact ext_set) | cases h
  · split at h
    · exact ext_append h
    · cases h
  · split at h
    · rcases orE_or h with h | h
      · unfold absLen at h
        repeat' split at h
        all_goals first | (cases h; exact ext_same) | cases h
      · exact ext_pure h
    · cases h
  · split at h
    · exact ext_copy h
    · cases h
  · unfold absCall at h
    split at h
    · split at h
      · exact ext_call h
      · cases h
    · cases h
  · exact ext_pure h
theorem lv0 {hp : List Ob} {t : TV} {hp' : List Ob} {R : Nat} : ∀ id, ((t, hp', R, 0) : TV × List Ob × Nat × Nat).2.2.2.testBit id = true → ∃ ob, hp[id]? = some ob ∧ ob.live = true := fun id h => by simp at h
theorem lv1 {hp : List Ob} {t : TV} {hp' : List Ob} {R k : Nat} {ob : Ob} (h : hp[k]? = some ob) (hl : ob.live = true) : ∀ id, ((t, hp', R, 2 ^ k) : TV × List Ob × Nat × Nat).2.2.2.testBit id = true → ∃ ob, hp[id]? = some ob ∧ ob.live = true := fun id hi => by
  rw [Nat.testBit_two_pow, decide_eq_true_eq] at hi
  subst hi
  exact ⟨ob, h, hl⟩
theorem lv_map {α : Type} {hp : List Ob} {x : Option α} {f : α → TV × List Ob × Nat × Nat} {r : TV × List Ob × Nat × Nat} (h : x.map f = some r) (hf : ∀ y, (f y).2.2.2 = 0) : ∀ id, r.2.2.2.testBit id = true → ∃ ob, hp[id]? = some ob ∧ ob.live = true := by
  cases x with
  | none => cases h
  | some y => cases h; intro id hi; rw [hf y] at hi; simp at hi
theorem lv_pure (h : absPure P M.GL tm hp o = some r) : ∀ id, r.2.2.2.testBit id = true → ∃ ob, hp[id]? = some ob ∧ ob.live = true := by
  unfold absPure at h
  repeat' split at h
  all_goals first | (cases h; exact lv0) | cases h
theorem op_live (h : absOp P M env tm hp o = some r) : ∀ id, r.2.2.2.testBit id = true → ∃ ob, hp[id]? = some ob ∧ ob.live = true := by
  unfold absOp at h
  split at h
  · cases h; exact lv0
  · cases h; exact lv0
  · split at h
    · cases h; exact lv0
    · cases h
  · exact lv_map h fun _ => rfl
  · exact lv_map h fun _ => rfl
  · unfold absLoad at h
    repeat' split at h
    all_goals first | exact lv_map h fun _ => rfl | (cases h; exact lv0) | cases h
  · unfold absStore at h
    repeat' split at h
    all_goals first | (cases h; exact lv1 ‹_› rfl) | cases h
  · unfold absBuild at h
    split at h
    · exact lv_map h fun _ => rfl
    · cases h
  · unfold absBuildSlice at h
    repeat' split at h
    all_goals first | (cases h; exact lv0) | cases h
  · unfold absExtract at h
    split at h
    · exact lv_map h fun _ => rfl
    · cases h
  · rcases orE_or h with h | h
    · unfold absField at h
      repeat' split at h
      all_goals first | exact lv_map h fun _ => rfl | cases h
    · exact lv_pure h
  · unfold absFieldAddr at h
    repeat' split at h
    all_goals first | (cases h; exact lv0) | cases h
  · unfold absIndexAddr at h
    repeat' split at h
    all_goals first | exact lv_map h fun _ => rfl | (cases h; exact lv0) | cases h
  · rcases orE_or h with h | h
    · unfold absIndex at h
      repeat' split at h
      all_goals first | exact lv_map h fun _ => rfl | cases h
    · exact lv_pure h
  · rcases orE_or h with h | h
    · unfold absSlice at h
      repeat' split at h
      all_goals first | (cases h; exact lv0) | cases h
    · exact lv_pure h
  · unfold absMakeFunc at h
    split at h
    · cases h; exact lv0
    · cases h
  · rcases orE_or h with h | h
    · unfold absNilCheck at h
      repeat' split at h
      all_goals first | (cases h; exact lv0) | cases h
    · exact lv_pure h
  · rcases orE_or h with h | h
    · exact lv_pure h
    · unfold absNil at h
      repeat' split at h
      all_goals first | (cases h; exact lv0) | cases h
  · rcases orE_or h with h | h
    · unfold absB2S at h
      repeat' split at h
      all_goals first | (cases h; exact lv0) | cases h
    · exact lv_pure h
  · unfold absMakeSlice at h
    repeat' split at h
    all_goals first | (cases h; exact lv0) | cases h
  · unfold absMakeMap at h
    repeat' split at h
    all_goals first | (cases h; exact lv0) | cases h
  · unfold absLookup at h
    repeat' split at h
    all_goals first | (cases h; exact lv0) | cases h
  · unfold absInsert at h
    repeat' split at h
    all_goals first | (cases h; exact lv1 ‹_› rfl) | cases h
  · unfold absInsert at h
    repeat' split at h
    all_goals first | (cases h; exact lv1 ‹_› rfl) | cases h
  · split at h
    · unfold absAppend absApp absAppendS absAppS at h
      repeat' split at h
      all_goals first | (cases h; first | exact lv0 | exact lv1 ‹_› rfl) | cases h
    · cases h
  · split at h
    · rcases orE_or h with h | h
      · unfold absLen at h
        repeat' split at h
        all_goals first | (cases h; exact lv0) | cases h
      · exact lv_pure h
    · cases h
  · split at h
    · unfold absCopy at h
      repeat' split at h
      all_goals first | (cases h; exact lv1 ‹_› rfl) | cases h
    · cases h
  · unfold absCall at h
    split at h
    · split at h
      · exact call_live h
      · cases h
    · cases h
  · exact lv_pure h
end
section
variable {P : Program} {M : Prm} {env : EnvT} {G : Gh} {Z : Zn} {w : World} {HP : Nat → Ob → Prop} {tm : List TV} {hp : List Ob} {o : Oper} {a : Act} {r : TV × List Ob × Nat × Nat}
theorem wp_of_does {K : Act → World → Prop} {Q : Exit → Act → World → Prop} (h : Does P M.GL G Z w a o hp.length r) (hK : ∀ v G' Z' w', Res G Z w hp.length r.2.1 r.2.2.2 r.1 G' Z' w' v → K (a.put o.dst v) w') : o.wp P a w K Q := by
  obtain ⟨v, G', Z', w', hrun | ⟨hrun, rfl⟩, hres⟩ := h
  · unfold Oper.wp
    rw [hrun, Oper.upon_value]
    exact hK v G' Z' w' hres
  · unfold Oper.wp
    rw [hrun, Oper.upon_skip]
    exact hK _ G' Z' w' hres
theorem op_sound (hE : ES P M.GL M.bn env) (hF : OkF P M.okF) (hI : Inv M.GL G Z w HP) (h : absOp P M env tm hp o = some r) (hop : ∀ x ∈ o.op.operands, Rep G Z w (evT M.GL tm x) (a.eval x)) (hn : ∀ id, hp.length ≤ id → id < r.2.1.length → G id = none) (hh : ∀ id ob, (r.2.2.1 ||| r.2.2.2).testBit id = true → hp[id]? = some ob → HP id ob)
    {K : Act → World → Prop} {Q : Exit → Act → World → Prop} (hK : ∀ v G' Z' w', Res G Z w hp.length r.2.1 r.2.2.2 r.1 G' Z' w' v → K (a.put o.dst v) w') : o.wp P a w K Q := by
  have pure : absPure P M.GL tm hp o = some r → o.wp P a w K Q := fun h => wp_of_does (does_pure hI hop h) hK
  have fresh : ∀ {ob : Ob} {t : TV} {R W : Nat}, r = (t, hp ++ [ob], R, W) → G hp.length = none := fun {ob t R W} e => hn _ (Nat.le_refl _) (by rw [e]; simp)
  have hp0 := h
  unfold absOp at h
  split at h
  · rename_i x ho
    cases h
    exact wp_of_does (does_move hI (.inl ho) (hop x (by rw [ho]; simp [Op.operands]))) hK
  · rename_i x ho
    cases h
    exact wp_of_does (does_move hI (.inr ho) (hop x (by rw [ho]; simp [Op.operands]))) hK
  · rename_i c x y ho
    split at h
    · rename_i t ht
      cases h
      have hc := hop c (by rw [ho]; simp [Op.operands])
      rw [ht] at hc
      exact wp_of_does (does_pick hI ho (rep_lf.1 hc) (hop x (by rw [ho]; simp [Op.operands])) (hop y (by rw [ho]; simp [Op.operands]))) hK
    · cases h
  · rename_i t ho
    have := h
    unfold absAlloc at this
    cases hz : zeroT P t with
    | none => rw [hz] at this; cases this
    | some cs =>
      rw [hz] at this
      simp only [Option.map_some, Option.some.injEq] at this
      exact wp_of_does (does_alloc hI (fresh this.symm) ho h) hK
  · rename_i t x ho
    have := h
    unfold absBox at this
    cases hz : cls (evT M.GL tm x) with
    | none => rw [hz] at this; cases this
    | some cs =>
      rw [hz] at this
      simp only [Option.map_some, Option.some.injEq] at this
      exact wp_of_does (does_box hI (fresh this.symm) ho (hop x (by rw [ho]; simp [Op.operands])) h) hK
  · rename_i t x ho
    exact wp_of_does (does_load hI ho (hop x (by rw [ho]; simp [Op.operands])) hh h) hK
  · rename_i t x y ho
    exact wp_of_does (does_store hI ho (hop x (by rw [ho]; simp [Op.operands])) (hop y (by rw [ho]; simp [Op.operands])) hh h) hK
  · rename_i t ps ho
    exact wp_of_does (does_build hI ho (fun p hp' => hop p.2 (by rw [ho]; simp only [Op.operands]; simp; exact ⟨p.1, by simpa using hp'⟩)) h) hK
  · rename_i t len ps ho
    have hfr : G hp.length = none := by
      have := h
      unfold absBuildSlice at this
      repeat' split at this
      all_goals first | (cases this; done) | (cases this; exact hn _ (Nat.le_refl _) (by simp))
    exact wp_of_does (does_buildSlice hI hfr ho (fun p hp' => hop p.2 (by rw [ho]; simp only [Op.operands]; simp; exact ⟨p.1, by simpa using hp'⟩)) h) hK
  · rename_i x i ho
    exact wp_of_does (does_extract hI ho (hop x (by rw [ho]; simp [Op.operands])) h) hK
  · rename_i s x f ho
    rcases orE_or h with h | h
    · exact wp_of_does (does_field hI ho (hop x (by rw [ho]; simp [Op.operands])) h) hK
    · exact pure h
  · rename_i s x f ho
    exact wp_of_does (does_fieldAddr hI ho (hop x (by rw [ho]; simp [Op.operands])) h) hK
  · rename_i t x i ho
    exact wp_of_does (does_indexAddr hI ho (hop x (by rw [ho]; simp [Op.operands])) (hop i (by rw [ho]; simp [Op.operands])) hh h) hK
  · rename_i t x i ho
    rcases orE_or h with h | h
    · exact wp_of_does (does_index hI ho (hop x (by rw [ho]; simp [Op.operands])) (hop i (by rw [ho]; simp [Op.operands])) h) hK
    · exact pure h
  · rename_i t x lo hi mx ho
    rcases orE_or h with h | h
    · exact wp_of_does (does_slice hI ho (hop x (by rw [ho]; simp [Op.operands])) (fun q hq => hop q (by rw [ho]; subst hq; simp [Op.operands])) (fun q hq => hop q (by rw [ho]; subst hq; simp [Op.operands])) (fun q hq => hop q (by rw [ho]; subst hq; simp [Op.operands])) h) hK
    · exact pure h
  · rename_i f x y ho
    exact wp_of_does (does_makeFunc hI ho (fun q hq => hop q (by rw [ho]; simp only [Op.operands]; simpa using hq)) h) hK
  · rename_i x ho
    rcases orE_or h with h | h
    · exact wp_of_does (does_nilCheck hI ho (hop x (by rw [ho]; simp [Op.operands])) h) hK
    · exact pure h
  · rename_i op t x y u ho
    rcases orE_or h with h | h
    · exact pure h
    · exact wp_of_does (does_nil hI ho (hop x (by rw [ho]; simp [Op.operands])) (hop y (by rw [ho]; simp [Op.operands])) hh h) hK
  · rename_i src dst x ho
    rcases orE_or h with h | h
    · exact wp_of_does (does_b2s hI ho (hop x (by rw [ho]; simp [Op.operands])) hh h) hK
    · exact pure h
  · rename_i t l c ho
    exact wp_of_does (does_makeSlice hI hn ho (hop l (by rw [ho]; simp [Op.operands])) (hop c (by rw [ho]; simp [Op.operands])) h) hK
  · rename_i t x ho
    exact wp_of_does (does_makeMap hI hn ho (fun y hy => hop y (by rw [ho, hy]; simp [Op.operands])) h) hK
  · rename_i t m k ok ho
    exact wp_of_does (does_lookup hI ho (hop m (by rw [ho]; simp [Op.operands])) (hop k (by rw [ho]; simp [Op.operands])) hh h) hK
  · rename_i t m k v ho
    exact wp_of_does (does_insert hI (.inl ho) (hop m (by rw [ho]; simp [Op.operands])) (hop k (by rw [ho]; simp [Op.operands])) (hop v (by rw [ho]; simp [Op.operands])) hh h) hK
  · rename_i t m k v ho
    exact wp_of_does (does_insert hI (.inr ho) (hop m (by rw [ho]; simp [Op.operands])) (hop k (by rw [ho]; simp [Op.operands])) (hop v (by rw [ho]; simp [Op.operands])) hh h) hK
  · rename_i args ats ho
    split at h
    · rename_i s x hargs
      obtain rfl : args = #[s, x] := by rw [← Array.toArray_toList (xs := args), hargs]
      exact wp_of_does (does_append hI hn ho (hop s (by rw [ho]; simp [Op.operands, Call.operands])) (hop x (by rw [ho]; simp [Op.operands, Call.operands])) hh h) hK
    · cases h
  · rename_i args ats ho
    split at h
    · rename_i x hargs
      obtain rfl : args = #[x] := by rw [← Array.toArray_toList (xs := args), hargs]
      rcases orE_or h with h | h
      · exact wp_of_does (does_len hI ho (hop x (by rw [ho]; simp [Op.operands, Call.operands])) h) hK
      · exact pure h
    · cases h
  · rename_i args ats ho
    split at h
    · rename_i d x hargs
      obtain rfl : args = #[d, x] := by rw [← Array.toArray_toList (xs := args), hargs]
      exact wp_of_does (does_copy hI ho (hop d (by rw [ho]; simp [Op.operands, Call.operands])) (hop x (by rw [ho]; simp [Op.operands, Call.operands])) hh h) hK
    · cases h
  · rename_i q args ats ho
    unfold absCall at h
    split at h
    · rename_i f x y hq
      split at h
      · rename_i hok
        have hq' := hop q (by rw [ho]; simp [Op.operands, Call.operands])
        rw [hq, Rep] at hq'
        obtain ⟨va, vb, hv, h1, h2⟩ := hq'
        obtain ⟨fn, c, hf, hb, hname⟩ := hF f hok
        have hargs : RepL G Z w (x ++ args.toList.map (evT M.GL tm) ++ y) (va ++ args.toList.map a.eval ++ vb) := repl_app (repl_app h1 (repl_map _ fun z hz => hop z (by rw [ho]; simp [Op.operands, Call.operands]; exact .inr (by simpa using hz)))) h2
        have hrun : (execOp a.eval o).run P w = .ok (.enter f (va ++ args.toList.map a.eval ++ vb).toArray) w := by
          unfold execOp
          simp only [ho, resolve, hv, Deferred.ofValue, Sem.run_bind, Sem.run_pure, Result.andThen_ok, invoke, callFunc]
          have hne : ¬ fn.name = "runtime.NumGoroutine" := by simpa using hname
          have e : va.toArray ++ (Array.map a.eval args ++ vb.toArray) = (va ++ (List.map a.eval args.toList ++ vb)).toArray := by apply Array.ext'; simp
          simp [program, Sem.run, hf, hb, hne, e]
        unfold Oper.wp
        rw [hrun, Oper.upon_enter]
        refine (calls_abs hE hI hn hh h hargs).mono ?_
        rintro e w' ⟨v, G', Z', rfl, hres⟩
        exact hK v G' Z' w' hres
      · cases h
    · cases h
  · exact pure h
end
end Go.Eng
end

section
set_option linter.unusedVariables false
set_option linter.unusedSimpArgs false
namespace Go.Eng
open Go.RowKit
theorem ready_mem {md : Region.Mode} {ops : Array Oper} {listed : Array Bool} {i : Nat} (h : i ∈ Region.ready md ops listed) : i < ops.size ∧ listed.getD i true = false ∧ ∃ o, ops[i]? = some o ∧ ∀ e ∈ o.after, Region.binds md e = true → listed.getD e.on false = true := by
  obtain ⟨h1, o, h2, h3⟩ := mem_ready.1 h
  exact ⟨(Array.getElem?_eq_some_iff.1 h2).1, h1, o, h2, h3⟩
theorem wpAny_inv {P : Program} {md : Region.Mode} {ops : Array Oper} {Q : Exit → Act → World → Prop} (I : Array Bool → Act → World → Prop)
    (hd : ∀ listed a w, I listed a w → Region.ready md ops listed = [] → Q .normal a w)
    (hs : ∀ listed a w i, I listed a w → i ∈ Region.ready md ops listed → wpOp P ops Q i (fun a' w' => I (listed.setIfInBounds i true) a' w') a w) :
    ∀ (fuel : Nat) (L : List Nat) (listed : Array Bool) (a : Act) (w : World), (∀ i, i < ops.size → listed.getD i true = false → i ∈ L) → L.length ≤ fuel → I listed a w → wpAny P md ops Q fuel listed a w
  | 0, L, listed, a, w, hL, hl, hI => by
    have hr : Region.ready md ops listed = [] := by
      rw [List.eq_nil_iff_forall_not_mem]
      intro i hi
      obtain ⟨h1, h2, _⟩ := ready_mem hi
      have := hL i h1 h2
      have h0 : L = [] := List.length_eq_zero_iff.1 (by omega)
      rw [h0] at this
      exact absurd this (by simp)
    exact ⟨hr, hd _ _ _ hI hr⟩
  | fuel + 1, L, listed, a, w, hL, hl, hI => by
    refine ⟨hd _ _ _ hI, fun i hi => wpOp_mono (fun a' w' h' => ?_) (hs _ _ _ i hI hi)⟩
    obtain ⟨h1, h2, _⟩ := ready_mem hi
    have hm := hL i h1 h2
    refine wpAny_inv I hd hs fuel (L.erase i) _ a' w' (fun k hk hk2 => ?_) (by rw [List.length_erase_of_mem hm]; omega) h'
    by_cases e : k = i
    · subst e
      exfalso
      by_cases hb : k < listed.size
      · rw [Array.getD_eq_getD_getElem?, Array.getElem?_setIfInBounds_self_of_lt hb] at hk2
        simp at hk2
      · rw [Array.getD_eq_getD_getElem?, Array.getElem?_eq_none (by omega)] at h2
        simp at h2
    · rw [Array.getD_eq_getD_getElem?, Array.getElem?_setIfInBounds_ne (by omega), ← Array.getD_eq_getD_getElem?] at hk2
      exact (List.mem_erase_of_ne e).2 (hL k hk hk2)
def wantT (ops : Array Oper) (tm : List TV) (o : Oper) : Option Bool :=
  match o.guard with
  | none => some true
  | some (j, want) => match (ops[j]?).bind (·.dst) with
    | none => some false
    | some d => match tm[d]? with
      | some (.lf (.bool b)) => some (b == want)
      | some (.lf (.tuple _)) => some false
      | _ => none
def putT (tm : List TV) (d : Option Tmp) (t : TV) : List TV := match d with
  | some d => tm.set d t
  | none => tm
def newM (a b : Nat) : Nat := (2 ^ (b - a) - 1) <<< a
def stepT (P : Program) (M : Prm) (env : EnvT) (ops : Array Oper) (tm : List TV) (hp : List Ob) (o : Oper) : AR :=
  match wantT ops tm o with
  | some true => match absOp P M env tm hp o with
    | some (t, hp', R, W) => if (W ||| newM hp.length hp'.length) &&& M.ban = 0 then some (t, hp', R, W) else none
    | none => none
  | some false => some (.lf undef, hp, 0, 0)
  | none => none
structure Lg where
  dst : Option Tmp
  look : List Tmp
  R : Nat
  W : Nat
def conf (x y : Lg) : Bool := decide (x.W &&& (y.R ||| y.W) ≠ 0) || decide (x.R &&& y.W ≠ 0) || (match x.dst with | some d => y.look.contains d || y.dst == some d | none => false) || (match y.dst with | some d => x.look.contains d | none => false)
def chk (dm : Nat) (log : List Lg) (y : Lg) : Bool := (List.range log.length).all fun k => !conf (log.getD k ⟨none, [], 0, 0⟩) y || dm.testBit k
def edgM (acc : List Nat) : List Edge → Nat
  | [] => 0
  | e :: es => if Region.binds .any e = true then 2 ^ e.on ||| acc.getD e.on 0 ||| edgM acc es else edgM acc es
def depM : List Oper → List Nat → List Nat
  | [], acc => acc
  | o :: os, acc => depM os (acc ++ [edgM acc o.after.toList])
def lookT (ops : Array Oper) (o : Oper) : List Tmp := o.looksAt ops
def runD (P : Program) (M : Prm) (env : EnvT) (ops : Array Oper) (dms : List Nat) : List Oper → List TV → List Ob → List Lg → Option (List TV × List Ob)
  | [], tm, hp, _ => some (tm, hp)
  | o :: os, tm, hp, log => match stepT P M env ops tm hp o with
    | some (t, hp', R, W) => if chk (dms.getD log.length 0) log ⟨o.dst, lookT ops o, R, W ||| newM hp.length hp'.length⟩ = true then runD P M env ops dms os (putT tm o.dst t) hp' (log ++ [⟨o.dst, lookT ops o, R, W ||| newM hp.length hp'.length⟩]) else none
    | none => none
def runS (P : Program) (M : Prm) (env : EnvT) (ops : Array Oper) : List Oper → List TV → List Ob → Option (List TV × List Ob)
  | [], tm, hp => some (tm, hp)
  | o :: os, tm, hp => match stepT P M env ops tm hp o with
    | some (t, hp', _, _) => runS P M env ops os (putT tm o.dst t) hp'
    | none => none
def acyT (ops : Array Oper) : Bool := (List.range ops.size).all fun i => match ops[i]? with
  | some o => o.after.toList.all fun e => !Region.binds .any e || decide (e.on < i)
  | none => true
theorem newM_iff {a b x : Nat} (h : a ≤ b) : (newM a b).testBit x = true ↔ a ≤ x ∧ x < b := by
  unfold newM
  rw [Nat.testBit_shiftLeft, Nat.testBit_two_pow_sub_one, Bool.and_eq_true, decide_eq_true_eq, decide_eq_true_eq]
  omega
theorem and_ne {a b x : Nat} (ha : a.testBit x = true) (hb : b.testBit x = true) : a &&& b ≠ 0 := fun e => by
  have := Nat.testBit_and a b x
  rw [e, ha, hb] at this
  simp at this
structure Seq (P : Program) (M : Prm) (env : EnvT) (ops : Array Oper) (dms : List Nat) (n : Nat) (tq : Nat → List TV) (hq : Nat → List Ob) (lq : Nat → Lg) (rq : Nat → TV × Nat) (i : Nat) : Prop where
  step : ∀ k o, i ≤ k → k < n → ops[k]? = some o → stepT P M env ops (tq k) (hq k) o = some ((rq k).1, hq (k + 1), (lq k).R, (rq k).2) ∧ tq (k + 1) = putT (tq k) o.dst (rq k).1 ∧ lq k = ⟨o.dst, lookT ops o, (lq k).R, (rq k).2 ||| newM (hq k).length (hq (k + 1)).length⟩
  chk : ∀ k j, i ≤ k → k < n → j < k → conf (lq j) (lq k) = true → (dms.getD k 0).testBit j = true
theorem run_seq {P : Program} {M : Prm} {env : EnvT} {ops : Array Oper} {dms : List Nat} : ∀ (rest : List Oper) {i : Nat} {tm : List TV} {hp : List Ob} {log : List Lg} {tm' : List TV} {hp' : List Ob}, runD P M env ops dms rest tm hp log = some (tm', hp') → log.length = i → (∀ k, rest[k]? = ops[i + k]?) →
    ∃ tq hq lq rq, tq i = tm ∧ hq i = hp ∧ (∀ k, k < i → lq k = log.getD k ⟨none, [], 0, 0⟩) ∧ tq (i + rest.length) = tm' ∧ hq (i + rest.length) = hp' ∧ Seq P M env ops dms (i + rest.length) tq hq lq rq i
  | [], i, tm, hp, log, tm', hp', h, hl, hr => by
    cases h
    exact ⟨fun _ => tm, fun _ => hp, fun k => log.getD k ⟨none, [], 0, 0⟩, fun _ => (.bad, 0), rfl, rfl, fun _ _ => rfl, rfl, rfl, ⟨fun k o h1 h2 => by simp at h2; omega, fun k j h1 h2 => by simp at h2; omega⟩⟩
  | o :: os, i, tm, hp, log, tm', hp', h, hl, hr => by
    rw [runD] at h
    split at h
    · rename_i t hp1 R W hst
      split at h
      · rename_i hck
        obtain ⟨tq, hq, lq, rq, h1, h2, h3, h4, h5, h6⟩ := run_seq os (i := i + 1) h (by simp [hl]) (fun k => by have := hr (k + 1); rwa [List.getElem?_cons_succ, show i + (k + 1) = i + 1 + k by omega] at this)
        have hlen : i + (o :: os).length = i + 1 + os.length := by simp; omega
        have ho : ops[i]? = some o := by have := hr 0; simpa using this.symm
        have hli : lq i = ⟨o.dst, lookT ops o, R, W ||| newM hp.length hp1.length⟩ := by
          rw [h3 i (by omega), List.getD_eq_getElem?_getD, List.getElem?_append_right (by omega), hl, Nat.sub_self]; rfl
        refine ⟨fun k => if k ≤ i then tm else tq k, fun k => if k ≤ i then hp else hq k, lq, fun k => if k = i then (t, W) else rq k, by simp, by simp, fun k hk => ?_, by rw [hlen]; simp [h4]; omega, by rw [hlen]; simp [h5]; omega, ?_⟩
        · rw [h3 k (by omega), List.getD_eq_getElem?_getD, List.getElem?_append_left (by omega), ← List.getD_eq_getElem?_getD]
        · rw [hlen]
          refine ⟨fun k o' hk1 hk2 hok => ?_, fun k j hk1 hk2 hj hc => ?_⟩
          · by_cases e : k = i
            · subst e
              rw [ho] at hok; cases hok
              simp only [Nat.le_refl, if_true, show ¬ k + 1 ≤ k by omega, if_false, h1, h2, hli]
              exact ⟨hst, trivial, trivial⟩
            · have := h6.step k o' (by omega) hk2 hok
              simp only [show ¬ k ≤ i by omega, show ¬ k + 1 ≤ i by omega, if_false, if_neg e]
              exact this
          · by_cases e : k = i
            · subst e
              have hck := List.all_eq_true.1 hck j (List.mem_range.2 (by omega))
              rw [h3 j (by omega), List.getD_eq_getElem?_getD, List.getElem?_append_left (by omega), ← List.getD_eq_getElem?_getD, hli] at hc
              rw [hc] at hck
              rw [← hl]
              simpa using hck
            · exact h6.chk k j (by omega) hk2 hj hc
      · cases h
    · cases h
theorem edgM_iff {acc : List Nat} {x : Nat} : ∀ {es : List Edge}, (edgM acc es).testBit x = true → ∃ e ∈ es, Region.binds .any e = true ∧ (e.on = x ∨ (acc.getD e.on 0).testBit x = true)
  | [], h => by simp [edgM] at h
  | e :: es, h => by
    rw [edgM] at h
    split at h
    · rename_i hb
      rw [Nat.testBit_or, Nat.testBit_or, Bool.or_eq_true, Bool.or_eq_true, Nat.testBit_two_pow, decide_eq_true_eq] at h
      rcases h with (h | h) | h
      · exact ⟨e, by simp, hb, .inl h⟩
      · exact ⟨e, by simp, hb, .inr h⟩
      · obtain ⟨e', h1, h2⟩ := edgM_iff h
        exact ⟨e', by simp [h1], h2⟩
    · obtain ⟨e', h1, h2⟩ := edgM_iff h
      exact ⟨e', by simp [h1], h2⟩
theorem depM_len : ∀ (os : List Oper) (acc : List Nat), (depM os acc).length = acc.length + os.length
  | [], acc => rfl
  | o :: os, acc => by rw [depM, depM_len os]; simp; omega
theorem depM_old : ∀ (os : List Oper) (acc : List Nat) (k : Nat), k < acc.length → (depM os acc)[k]? = acc[k]?
  | [], acc, k, h => rfl
  | o :: os, acc, k, h => by rw [depM, depM_old os _ k (by simp; omega), List.getElem?_append_left h]
theorem depM_get : ∀ (os : List Oper) (acc : List Nat) (k : Nat) (o : Oper), os[k]? = some o → ∃ acc', (depM os acc)[acc.length + k]? = some (edgM acc' o.after.toList) ∧ acc'.length = acc.length + k ∧ ∀ j, j < acc'.length → (depM os acc)[j]? = acc'[j]?
  | [], acc, k, o, h => by simp at h
  | p :: os, acc, 0, o, h => by
    obtain rfl : p = o := by simpa using h
    refine ⟨acc, ?_, rfl, fun j hj => ?_⟩
    · rw [depM, depM_old os _ _ (by simp)]; simp
    · rw [depM, depM_old os _ j (by simp; omega), List.getElem?_append_left hj]
  | p :: os, acc, k + 1, o, h => by
    obtain ⟨acc', h1, h2, h3⟩ := depM_get os (acc ++ [edgM acc p.after.toList]) k o (by simpa using h)
    refine ⟨acc', ?_, by rw [h2]; simp; omega, fun j hj => by rw [depM]; exact h3 j hj⟩
    rw [depM]
    rw [List.length_append, List.length_singleton] at h1
    rwa [show acc.length + (k + 1) = acc.length + 1 + k by omega]
theorem dep_done {ops : Array Oper} {S : Nat → Prop} (hac : acyT ops = true) (hcl : ∀ j o e, S j → ops[j]? = some o → e ∈ o.after → Region.binds .any e = true → S e.on) : ∀ (j : Nat) (o : Oper) (x : Nat), ops[j]? = some o → (∀ e ∈ o.after, Region.binds .any e = true → S e.on) → ((depM ops.toList []).getD j 0).testBit x = true → S x := by
  intro j
  induction j using Nat.strongRecOn with
  | _ j ih =>
    intro o x ho hd hx
    obtain ⟨acc', h1, h2, h3⟩ := depM_get ops.toList [] j o (by simpa using ho)
    simp only [List.length_nil, Nat.zero_add] at h1 h2
    rw [List.getD_eq_getElem?_getD, h1, Option.getD_some] at hx
    obtain ⟨e, k1, k2, k3⟩ := edgM_iff hx
    have k1 : e ∈ o.after := by simpa using k1
    rcases k3 with rfl | k3
    · exact hd e k1 k2
    · have hlt : e.on < j := by
        have := List.all_eq_true.1 hac j (List.mem_range.2 (Array.getElem?_eq_some_iff.1 ho).1)
        rw [ho] at this
        have := List.all_eq_true.1 this e (by simpa using k1)
        rw [k2] at this
        simpa using this
      cases ho' : ops[e.on]? with
      | none =>
        have := (Array.getElem?_eq_some_iff.1 ho).1
        rw [Array.getElem?_eq_none_iff] at ho'
        omega
      | some o' =>
        refine ih e.on hlt o' x ho' (fun e' he' hb' => hcl e.on o' e' (hd e k1 k2) ho' he' hb') ?_
        rw [List.getD_eq_getElem?_getD, h3 e.on (by omega), ← List.getD_eq_getElem?_getD]
        exact k3
end Go.Eng
end
