/-
  A machine on plain data: the same machine once more, quick for the kernel: temporaries in a tree, only what is new is computed ahead.
-/
import Derived.Test.YtbmjdelpgkilcaaE7
set_option linter.unusedVariables false
section
set_option linter.unusedVariables false
set_option linter.unusedSimpArgs false
namespace Go.Eng
open Go.RowKit
inductive Tn
  | e
  | n (l : Tn) (v : TV) (r : Tn)
noncomputable def Tn.get (t : Tn) : Nat → Option TV := Tn.rec (motive := fun _ => Nat → Option TV) (fun _ => none) (fun l v r gl gr i => Nat.rec (motive := fun _ => Option TV) (some v) (fun m _ => Bool.rec (motive := fun _ => Option TV) (gr (Nat.div m 2)) (gl (Nat.div m 2)) (Nat.beq (Nat.mod m 2) 0)) i) t
noncomputable def Tn.ev (t : Tn) : Nat → TV := Tn.rec (motive := fun _ => Nat → TV) (fun _ => .lf undef) (fun l v r gl gr i => Nat.rec (motive := fun _ => TV) v (fun m _ => Bool.rec (motive := fun _ => TV) (gr (Nat.div m 2)) (gl (Nat.div m 2)) (Nat.beq (Nat.mod m 2) 0)) i) t
noncomputable def Tn.set {α : Type} (x : TV) (t : Tn) : Nat → (Tn → α) → α := Tn.rec (motive := fun _ => Nat → (Tn → α) → α) (fun _ k => k .e) (fun l v r sl sr i k => Nat.rec (motive := fun _ => α) (k (.n l x r)) (fun m _ => Bool.rec (motive := fun _ => α) (sr (Nat.div m 2) fun r' => k (.n l v r')) (sl (Nat.div m 2) fun l' => k (.n l' v r)) (Nat.beq (Nat.mod m 2) 0)) i) t
theorem get_e (i : Nat) : Tn.get .e i = none := rfl
theorem get_n0 (l r : Tn) (v : TV) : Tn.get (.n l v r) 0 = some v := rfl
theorem get_ns (l r : Tn) (v : TV) (m : Nat) : Tn.get (.n l v r) (m + 1) = if m % 2 = 0 then l.get (m / 2) else r.get (m / 2) := by
  show Bool.rec (motive := fun _ => Option TV) (r.get (m / 2)) (l.get (m / 2)) (Nat.beq (m % 2) 0) = _
  by_cases h : m % 2 = 0
  · rw [if_pos h, h]; rfl
  · rw [if_neg h]
    have : Nat.beq (m % 2) 0 = false := by
      cases hb : Nat.beq (m % 2) 0
      · rfl
      · exact absurd (Nat.eq_of_beq_eq_true hb) h
    rw [this]
theorem ev_get : ∀ (t : Tn) (i : Nat), t.ev i = (t.get i).getD (.lf undef)
  | .e, i => rfl
  | .n l v r, 0 => rfl
  | .n l v r, m + 1 => by
    rw [get_ns]
    show Bool.rec (motive := fun _ => TV) (r.ev (m / 2)) (l.ev (m / 2)) (Nat.beq (m % 2) 0) = _
    by_cases h : m % 2 = 0
    · rw [if_pos h, h, ← ev_get l]; rfl
    · rw [if_neg h, ← ev_get r]
      have : Nat.beq (m % 2) 0 = false := by
        cases hb : Nat.beq (m % 2) 0
        · rfl
        · exact absurd (Nat.eq_of_beq_eq_true hb) h
      rw [this]
def Tn.put (x : TV) : Tn → Nat → Tn
  | .e, _ => .e
  | .n l _ r, 0 => .n l x r
  | .n l v r, m + 1 => if m % 2 = 0 then .n (l.put x (m / 2)) v r else .n l v (r.put x (m / 2))
theorem set_put {α : Type} (x : TV) : ∀ (t : Tn) (i : Nat) (k : Tn → α), t.set x i k = k (t.put x i)
  | .e, i, k => rfl
  | .n l v r, 0, k => rfl
  | .n l v r, m + 1, k => by
    show Bool.rec (motive := fun _ => α) (r.set x (m / 2) fun r' => k (.n l v r')) (l.set x (m / 2) fun l' => k (.n l' v r)) (Nat.beq (m % 2) 0) = _
    unfold Tn.put
    by_cases h : m % 2 = 0
    · rw [if_pos h, h, ← set_put x l (m / 2) fun l' => k (.n l' v r)]; rfl
    · rw [if_neg h, ← set_put x r (m / 2) fun r' => k (.n l v r')]
      have : Nat.beq (m % 2) 0 = false := by
        cases hb : Nat.beq (m % 2) 0
        · rfl
        · exact absurd (Nat.eq_of_beq_eq_true hb) h
      rw [this]
theorem put_get (x : TV) : ∀ (t : Tn) (i j : Nat), (t.put x i).get j = if i = j ∧ (t.get j).isSome = true then some x else t.get j
  | .e, i, j => by simp [Tn.put, get_e]
  | .n l v r, 0, 0 => by simp [Tn.put, get_n0]
  | .n l v r, 0, j + 1 => by simp [Tn.put, get_ns]
  | .n l v r, m + 1, 0 => by
    unfold Tn.put
    split <;> simp [get_n0]
  | .n l v r, m + 1, j + 1 => by
    unfold Tn.put
    by_cases h : m % 2 = 0
    · rw [if_pos h, get_ns, get_ns]
      by_cases hj : j % 2 = 0
      · rw [if_pos hj, if_pos hj, put_get x l]
        have : (m / 2 = j / 2) ↔ (m + 1 = j + 1) := by omega
        simp only [this]
      · rw [if_neg hj, if_neg hj, if_neg]
        rintro ⟨h1, _⟩
        omega
    · rw [if_neg h, get_ns, get_ns]
      by_cases hj : j % 2 = 0
      · rw [if_pos hj, if_pos hj, if_neg]
        rintro ⟨h1, _⟩
        omega
      · rw [if_neg hj, if_neg hj, put_get x r]
        have : (m / 2 = j / 2) ↔ (m + 1 = j + 1) := by omega
        simp only [this]
def bldT : Nat → Nat → Tn
  | 0, _ => .e
  | f + 1, 0 => .e
  | f + 1, n + 1 => .n (bldT f ((n + 1) / 2)) (.lf undef) (bldT f (n / 2))
theorem bld_get : ∀ (f n i : Nat), n ≤ f → (bldT f n).get i = if i < n then some (.lf undef) else none
  | 0, n, i, h => by
    obtain rfl : n = 0 := by omega
    simp [bldT, get_e]
  | f + 1, 0, i, h => by simp [bldT, get_e]
  | f + 1, n + 1, 0, h => by simp [bldT, get_n0]
  | f + 1, n + 1, j + 1, h => by
    rw [bldT, get_ns, bld_get f _ _ (by omega), bld_get f _ _ (by omega)]
    by_cases hj : j % 2 = 0
    · rw [if_pos hj]
      by_cases h2 : j / 2 < (n + 1) / 2
      · rw [if_pos h2, if_pos (by omega)]
      · rw [if_neg h2, if_neg (by omega)]
    · rw [if_neg hj]
      by_cases h2 : j / 2 < n / 2
      · rw [if_pos h2, if_pos (by omega)]
      · rw [if_neg h2, if_neg (by omega)]
def TR (t : Tn) (tm : List TV) : Prop := ∀ i, t.get i = tm[i]?
theorem TR.put {t : Tn} {tm : List TV} (h : TR t tm) (d : Nat) (x : TV) : TR (t.put x d) (tm.set d x) := fun i => by
  rw [put_get, h i]
  by_cases e : d = i
  · subst e
    cases hi : tm[d]? with
    | none => simp [hi, List.getElem?_eq_none_iff.1 hi]
    | some y =>
      have := (List.getElem?_eq_some_iff.1 hi).1
      simp [List.getElem?_set_self this]
  · rw [if_neg (fun h => e h.1), List.getElem?_set_ne e]
noncomputable def putsT {α : Type} : List TV → Nat → Tn → (Tn → α) → α
  | [], _, t, k => k t
  | x :: xs, i, t, k => Tn.set x t i fun t => putsT xs (i + 1) t k
theorem puts_tr {α : Type} : ∀ (xs : List TV) (pre : List TV) (n : Nat) (t : Tn) (k : Tn → α), TR t (pre ++ List.replicate n (.lf undef)) → xs.length ≤ n → ∃ t', putsT xs pre.length t k = k t' ∧ TR t' (pre ++ xs ++ List.replicate (n - xs.length) (.lf undef))
  | [], pre, n, t, k, h, hn => ⟨t, rfl, by simpa using h⟩
  | x :: xs, pre, n, t, k, h, hn => by
    obtain ⟨m, rfl⟩ : ∃ m, n = m + 1 := ⟨n - 1, by simp at hn; omega⟩
    have h1 := h.put pre.length x
    have e : (pre ++ List.replicate (m + 1) (TV.lf undef)).set pre.length x = (pre ++ [x]) ++ List.replicate m (.lf undef) := by
      rw [List.set_append_right _ _ (Nat.le_refl _), Nat.sub_self, List.replicate_succ, List.set_cons_zero]; simp
    rw [e] at h1
    obtain ⟨t', h2, h3⟩ := puts_tr xs (pre ++ [x]) m (t.put x pre.length) k h1 (by simp at hn; omega)
    refine ⟨t', ?_, ?_⟩
    · rw [putsT, set_put]; simpa using h2
    · simpa using h3
section
variable {α : Type}
def fxT (p : Bool) (t : TV) (k : TV → α) : α := match t with
  | .lf v => match p with
    | true => fcV v fun v => k (.lf v)
    | false => k (.lf v)
  | .fr sz xs full => match p with
    | true => fcL xs fun xs => k (.fr sz xs full)
    | false => k (.fr sz xs full)
  | .vw id sz off len full => fcN id fun id => fcN off fun off => fcN len fun len => fcB full fun full => k (.vw id sz off len full)
  | .pt id off => fcN id fun id => fcN off fun off => k (.pt id off)
  | .ep cs off => fcL cs fun cs => fcN off fun off => k (.ep cs off)
  | .mp id => fcN id fun id => k (.mp id)
  | .bad => k .bad
  | .ag cs => fcTs cs fun cs => k (.ag cs)
  | .tu cs => fcTs cs fun cs => k (.tu cs)
  | .fn f a b => fcN f fun f => fcTs a fun a => fcTs b fun b => k (.fn f a b)
  | .ic t x => fcT x fun x => k (.ic t x)
theorem fxT_eq (p : Bool) (t : TV) (k : TV → α) : fxT p t k = k t := by
  cases p <;> cases t <;> simp only [fxT, fcV_eq, fcL_eq, fcN_eq, fcB_eq, fcTs_eq, fcT_eq]
def fyT (t : TV) (k : TV → α) : α := match t with
  | .lf v => k (.lf v)
  | .fr sz xs full => k (.fr sz xs full)
  | t => fxT false t k
theorem fyT_eq (t : TV) (k : TV → α) : fyT t k = k t := by
  cases t <;> simp only [fyT, fxT_eq]
def fyL : List TV → (List TV → α) → α
  | [], k => k []
  | x :: l, k => fyT x fun x => fyL l fun l => k (x :: l)
theorem fyL_eq : ∀ (l : List TV) (k : List TV → α), fyL l k = k l
  | [], k => by rw [fyL]
  | x :: l, k => by rw [fyL, fyT_eq, fyL_eq l]
def fyO (ob : Ob) (k : Ob → α) : α := match ob with
  | .vr e cs => fyL cs fun cs => k (.vr e cs)
  | .ro e sz n cs fz => fcN e fun e => fcN sz fun sz => fcN n fun n => fyL cs fun cs => fcN fz fun fz => k (.ro e sz n cs fz)
  | .ot none => k (.ot none)
  | .ot (some (es, c)) => fcE es.toList fun es => fcN c fun c => k (.ot (some (⟨es⟩, c)))
theorem fyO_eq (ob : Ob) (k : Ob → α) : fyO ob k = k ob := by
  unfold fyO
  split <;> simp only [fcN_eq, fyL_eq, fcE_eq]
def fyH : List Ob → (List Ob → α) → α
  | [], k => k []
  | ob :: hp, k => fyO ob fun ob => fyH hp fun hp => k (ob :: hp)
theorem fyH_eq : ∀ (l : List Ob) (k : List Ob → α), fyH l k = k l
  | [], k => by rw [fyH]
  | x :: l, k => by rw [fyH, fyO_eq, fyH_eq l]
end
def mdOp : Op → Bool
  | .move _ | .assign _ | .pick .. | .load .. | .extract .. | .field .. => false
  | _ => true
def chOp : Op → Bool
  | .alloc _ | .box .. | .store .. | .buildSlice .. | .makeSlice .. | .makeMap .. | .insert .. | .mapUpdate .. | .call _ => true
  | _ => false
noncomputable def evM (GL : Nat → Option (List Dt)) (t : Tn) (x : Operand) : TV := match x with
  | .tmp i => t.ev i
  | .const v => .lf v
  | .global g => match GL g with | some cs => .ep cs 0 | none => .lf (.pointer (some ⟨g, 0, none⟩))
  | .func f => .fn f [] []
theorem evM_eq {GL : Nat → Option (List Dt)} {t : Tn} {tm : List TV} (h : TR t tm) : evM GL t = evT GL tm := funext fun x => by
  cases x with
  | tmp i => show t.ev i = tm.getD i (.lf undef); rw [ev_get, h i, List.getD_eq_getElem?_getD]
  | const v => rfl
  | global g => rfl
  | func f => rfl
def absPureE (P : Program) (ev : Operand → TV) (hp : List Ob) (o : Oper) : AR :=
  if (o.op.operands.toList.all fun x => (lfo (ev x)).isSome) = true then
    match o.op with
    | .select _ _ => none
    | _ => match prS P (execOp (fun x => (lfo (ev x)).getD undef) o) with
      | some (.value v) => some (tvOf v, hp, 0, 0)
      | some .skip => some (.lf undef, hp, 0, 0)
      | _ => none
  else none
theorem absPureE_eq (P : Program) (GL : Nat → Option (List Dt)) (tm : List TV) (hp : List Ob) (o : Oper) : absPureE P (evT GL tm) hp o = absPure P GL tm hp o := rfl
def absCallE (M : Prm) (env : EnvT) (ev : Operand → TV) (hp : List Ob) (q : Operand) (args : List Operand) : AR :=
  match ev q with
  | .fn f x y => if M.okF f = true then absCallF env (M.bn f) hp f (x ++ args.map ev ++ y) else none
  | _ => none
def opH (op : Op) : Program → Prm → EnvT → (Operand → TV) → List Ob → Oper → AR :=
  match op with
  | .move x => fun P M env ev hp o => some (ev x, hp, 0, 0)
  | .assign x => fun P M env ev hp o => some (ev x, hp, 0, 0)
  | .pick c x y => fun P M env ev hp o => match ev c with
    | .lf (.bool t) => some (if t = true then ev x else ev y, hp, 0, 0)
    | _ => none
  | .alloc t => fun P M env ev hp o => absAlloc P hp t
  | .box t x => fun P M env ev hp o => absBox hp t (ev x)
  | .load t x => fun P M env ev hp o => absLoad P hp t (ev x)
  | .store t x y => fun P M env ev hp o => absStore P hp t (ev y) (ev x)
  | .build t ps => fun P M env ev hp o => absBuild P hp t (ps.toList.map fun p => (p.1, ev p.2))
  | .buildSlice t len ps => fun P M env ev hp o => absBuildSlice P hp t len (ps.toList.map fun p => (p.1, ev p.2))
  | .extract x i => fun P M env ev hp o => absExtract hp (ev x) i
  | .field s x f => fun P M env ev hp o => orE (absField P hp s (ev x) f) (absPureE P ev hp o)
  | .fieldAddr s x f => fun P M env ev hp o => absFieldAddr P hp s (ev x) f
  | .indexAddr t x i => fun P M env ev hp o => absIndexAddr P hp t (ev x) (ev i)
  | .index t x i => fun P M env ev hp o => orE (absIndex P hp t (ev x) (ev i)) (absPureE P ev hp o)
  | .slice t x lo hi mx => fun P M env ev hp o => orE (absSlice P hp t (ev x) (lo.map ev) (hi.map ev) (mx.map ev)) (absPureE P ev hp o)
  | .makeFunc f x y => fun P M env ev hp o => absMakeFunc hp f (x.toList.map ev) (y.toList.map ev)
  | .nilCheck x => fun P M env ev hp o => orE (absNilCheck hp (ev x)) (absPureE P ev hp o)
  | .binOp op t x y _ => fun P M env ev hp o => orE (absPureE P ev hp o) (absNil P hp op t (ev x) (ev y))
  | .convert src dst x => fun P M env ev hp o => orE (absB2S P hp src dst (ev x)) (absPureE P ev hp o)
  | .makeSlice t l c => fun P M env ev hp o => absMakeSlice P hp t (ev l) (ev c)
  | .makeMap t r => fun P M env ev hp o => absMakeMap P hp t (r.map ev)
  | .lookup t m k ok => fun P M env ev hp o => absLookup P hp t (ev m) (ev k) ok
  | .insert t m k v => fun P M env ev hp o => absInsert P hp t (ev m) (ev k) (ev v)
  | .mapUpdate t m k v => fun P M env ev hp o => absInsert P hp t (ev m) (ev k) (ev v)
  | .call { callee := .builtin .append, args := args, argTypes := ats } => fun P M env ev hp o => match args.toList with
    | [s, x] => absAppend P hp ats (ev s) (ev x)
    | _ => none
  | .call { callee := .builtin .len, args := args, argTypes := ats } => fun P M env ev hp o => match args.toList with
    | [x] => orE (absLen P hp ats (ev x)) (absPureE P ev hp o)
    | _ => none
  | .call { callee := .builtin .copy, args := args, argTypes := ats } => fun P M env ev hp o => match args.toList with
    | [d, x] => absCopy P hp ats (ev d) (ev x)
    | _ => none
  | .call { callee := .value q, args := args, argTypes := _ } => fun P M env ev hp o => absCallE M env ev hp q args.toList
  | _ => fun P M env ev hp o => absPureE P ev hp o
def absOpE (P : Program) (M : Prm) (env : EnvT) (ev : Operand → TV) (hp : List Ob) (o : Oper) : AR := opH o.op P M env ev hp o
theorem absOpE_eq (P : Program) (M : Prm) (env : EnvT) (tm : List TV) (hp : List Ob) (o : Oper) : absOpE P M env (evT M.GL tm) hp o = absOp P M env tm hp o := by
  unfold absOpE absOp
  generalize hop : o.op = op
  split
  case h_29 =>
    unfold opH
    split
    case h_29 => rfl
    all_goals (exfalso; solve_by_elim [rfl])
  all_goals rfl
end Go.Eng
end
