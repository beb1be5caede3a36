/-
  A machine on plain data: the same machine once more, quick for the kernel: temporaries in a tree, only what is new is computed ahead.
-/
import Derived.Test.YtjgkocijmbepmaaGreatDoorE7
set_option linter.unusedVariables false
section
set_option linter.unusedVariables false
set_option linter.unusedSimpArgs false
namespace Go.Eng
open Go.RowKit
inductive Tn
  | e
  | n (l : Tn) (v : TV) (r : Tn)
noncomputable def Tn.get (t : Tn) : Nat → Option TV := Tn.rec (motive := fun _ => Nat → Option TV) (fun _ => none) (fun l v r gl gr i => Nat.rec (motive := fun _ => Option TV) (some v) (fun m _ => Bool.rec (motive := fun _ => Option TV) (gr (Nat.div m 2)) (gl (Nat.div m 2)) (Nat.beq (Nat.mod m 2) 0)) i) t
noncomputable def Tn.ev (t : Tn) : Nat → TV := Tn.rec (motive := fun _ => Nat → TV) (fun _ => .lf undef) (fun l v r gl gr i => Nat.rec (motive := fun _ => TV) v (fun m _ => Bool.rec (motive := fun _ => TV) (gr (Nat.div m 2)) (gl (Nat.div m 2)) (Nat.beq (Nat.mod m 2) 0)) i) t
noncomputable def Tn.set {α : Type} (x : TV) (t : Tn) : Nat → (Tn → α) → α := Tn.rec (motive := fun _ => Nat → (Tn → α) → α) (fun _ k => k .e) (fun l v r sl sr i k => Nat.rec (motive := fun _ => α) (k (.n l x r)) (fun m _ => Bool.rec (motive := fun _ => α) (sr (Nat.div m 2) fun r' => k (.n l v r')) (sl (Nat.div m 2) fun l' => k (.n l' v r)) (Nat.beq (Nat.mod m 2) 0)) i) t
theorem get_e (i : Nat) : Tn.get .e i = none := rfl
theorem get_n0 (l r : Tn) (v : TV) : Tn.get (.n l v r) 0 = some v := rfl
theorem get_ns (l r : Tn) (v : TV) (m : Nat) : Tn.get (.n l v r) (m + 1) = if m % 2 = 0 then l.get (m / 2) else r.get (m / 2) := by
  show Bool.rec (motive := fun _ => Option TV) (r.get (m / 2)) (l.get (m / 2)) (Nat.beq (m % 2) 0) = _
  by_cases h : m % 2 = 0
  · rw [if_pos h, h]; rfl
  · rw [if_neg h]
    have : Nat.beq (m % 2) 0 = false := by
      cases hb : Nat.beq (m % 2) 0
      · rfl
      · exact absurd (Nat.eq_of_beq_eq_true hb) h
    rw [this]
theorem ev_get : ∀ (t : Tn) (i : Nat), t.ev i = (t.get i).getD (.lf undef)
  | .e, i => rfl
  | .n l v r, 0 => rfl
  | .n l v r, m + 1 => by
    rw [get_ns]
    show Bool.rec (motive := fun _ => TV) (r.ev (m / 2)) (l.ev (m / 2)) (Nat.beq (m % 2) 0) = _
    by_cases h : m % 2 = 0
    · rw [if_pos h, h, ← ev_get l]; rfl
    · rw [if_neg h, ← ev_get r]
      have : Nat.beq (m % 2) 0 = false := by
        cases hb : Nat.beq (m % 2) 0
        · rfl
        · exact absurd (Nat.eq_of_beq_eq_true hb) h
      rw [this]
def Tn.put (x : TV) : Tn → Nat → Tn
  | .e, _ => .e
  | .n l _ r, 0 => .n l x r
  | .n l v r, m + 1 => if m % 2 = 0 then .n (l.put x (m / 2)) v r else .n l v (r.put x (m / 2))
theorem set_put {α : Type} (x : TV) : ∀ (t : Tn) (i : Nat) (k : Tn → α), t.set x i k = k (t.put x i)
  | .e, i, k => rfl
  | .n l v r, 0, k => rfl
  | .n l v r, m + 1, k => by
    show Bool.rec (motive := fun _ => α) (r.set x (m / 2) fun r' => k (.n l v r')) (l.set x (m / 2) fun l' => k (.n l' v r)) (Nat.beq (m % 2) 0) = _
    unfold Tn.put
    by_cases h : m % 2 = 0
    · rw [if_pos h, h, ← set_put x l (m / 2) fun l' => k (.n l' v r)]; rfl
    · rw [if_neg h, ← set_put x r (m / 2) fun r' => k (.n l v r')]
      have : Nat.beq (m % 2) 0 = false := by
        cases hb : Nat.beq (m % 2) 0
        · rfl
        · exact absurd (Nat.eq_of_beq_eq_true hb) h
      rw [this]
theorem put_get (x : TV) : ∀ (t : Tn) (i j : Nat), (t.put x i).get j = if i = j ∧ (t.get j).isSome = true then some x else t.get j
  | .e, i, j => by simp [Tn.put, get_e]
  | .n l v r, 0, 0 => by simp [Tn.put, get_n0]
  | .n l v r, 0, j + 1 => by simp [Tn.put, get_ns]
  | .n l v r, m + 1, 0 => by
    unfold Tn.put
    split <;> simp [get_n0]
  | .n l v r, m + 1, j + 1 => by
    unfold Tn.put
    by_cases h : m % 2 = 0
    · rw [if_pos h, get_ns, get_ns]
      by_cases hj : j % 2 = 0
      · rw [if_pos hj, if_pos hj, put_get x l]
        have : (m / 2 = j / 2) ↔ (m + 1 = j + 1) := by omega
        simp only [this]
      · rw [if_neg hj, if_neg hj, if_neg]
        rintro ⟨h1, _⟩
        omega
    · rw [if_neg h, get_ns, get_ns]
      by_cases hj : j % 2 = 0
      · rw [if_pos hj, if_pos hj, if_neg]
        rintro ⟨h1, _⟩
        omega
      · rw [if_neg hj, if_neg hj, put_get x r]
        have : (m / 2 = j / 2) ↔ (m + 1 = j + 1) := by omega
        simp only [this]
def bldT : Nat → Nat → Tn
  | 0, _ => .e
  | f + 1, 0 => .e
  | f + 1, n + 1 => .n (bldT f ((n + 1) / 2)) (.lf undef) (bldT f (n / 2))
theorem bld_get : ∀ (f n i : Nat), n ≤ f → (bldT f n).get i = if i < n then some (.lf undef) else none
  | 0, n, i, h => by
    obtain rfl : n = 0 := by omega
    simp [bldT, get_e]
  | f + 1, 0, i, h => by simp [bldT, get_e]
  | f + 1, n + 1, 0, h => by simp [bldT, get_n0]
  | f + 1, n + 1, j + 1, h => by
    rw [bldT, get_ns, bld_get f _ _ (by omega), bld_get f _ _ (by omega)]
    by_cases hj : j % 2 = 0
    · rw [if_pos hj]
      by_cases h2 : j / 2 < (n + 1) / 2
      · rw [if_pos h2, if_pos (by omega)]
      · rw [if_neg h2, if_neg (by omega)]
    · rw [if_neg hj]
      by_cases h2 : j / 2 < n / 2
      · rw [if_pos h2, if_pos (by omega)]
      · rw [if_neg h2, if_neg (by omega)]
def TR (t : Tn) (tm : List TV) : Prop := ∀ i, t.get i = tm[i]?
theorem TR.put {t : Tn} {tm : List TV} (h : TR t tm) (d : Nat) (x : TV) : TR (t.put x d) (tm.set d x) := fun i => by
  rw [put_get, h i]
  by_cases e : d = i
  · subst e
    cases hi : tm[d]? with
    | none => simp [hi, List.getElem?_eq_none_iff.1 hi]
    | some y =>
      have := (List.getElem?_eq_some_iff.1 hi).1
      simp [List.getElem?_set_self this]
  · rw [if_neg (fun h => e h.1), List.getElem?_set_ne e]
noncomputable def putsT {α : Type} : List TV → Nat → Tn → (Tn → α) → α
  | [], _, t, k => k t
  | x :: xs, i, t, k => Tn.set x t i fun t => putsT xs (i + 1) t k
theorem puts_tr {α : Type} : ∀ (xs : List TV) (pre : List TV) (n : Nat) (t : Tn) (k : Tn → α), TR t (pre ++ List.replicate n (.lf undef)) → xs.length ≤ n → ∃ t', putsT xs pre.length t k = k t' ∧ TR t' (pre ++ xs ++ List.replicate (n - xs.length) (.lf undef))
  | [], pre, n, t, k, h, hn => ⟨t, rfl, by simpa using h⟩
  | x :: xs, pre, n, t, k, h, hn => by
    obtain ⟨m, rfl⟩ : ∃ m, n = m + 1 := ⟨n - 1, by simp at hn; omega⟩
    have h1 := h.put pre.length x
    have e : (pre ++ List.replicate (m + 1) (TV.lf undef)).set pre.length x = (pre ++ [x]) ++ List.replicate m (.lf undef) := by
      rw [List.set_append_right _ _ (Nat.le_refl _), Nat.sub_self, List.replicate_succ, List.set_cons_zero]; simp
    rw [e] at h1
    obtain ⟨t', h2, h3⟩ := puts_tr xs (pre ++ [x]) m (t.put x pre.length) k h1 (by simp at hn; omega)
    refine ⟨t', ?_, ?_⟩
    · rw [putsT, set_put]; simpa using h2
    · simpa using h3
section
variable {α : Type}
def fxT (p : Bool) (t : TV) (k : TV → α) : α := match t with
  | .lf v => match p with
    | true => fcV v fun v => k (.lf v)
    | false => k (.lf v)
  | .fr sz xs full => match p with
    | true => fcL xs fun xs => k (.fr sz xs full)
    | false => k (.fr sz xs full)
  | .vw id sz off len full => fcN id fun id => fcN off fun off => fcN len fun len => fcB full fun full => k (.vw id sz off len full)
  | .pt id off => fcN id fun id => fcN off fun off => k (.pt id off)
  | .ep cs off => fcL cs fun cs => fcN off fun off => k (.ep cs off)
  | .mp id => fcN id fun id => k (.mp id)
  | .bad => k .bad
  | .ag cs => fcTs cs fun cs => k (.ag cs)
  | .tu cs => fcTs cs fun cs => k (.tu cs)
  | .fn f a b => fcN f fun f => fcTs a fun a => fcTs b fun b => k (.fn f a b)
  | .ic t x => fcT x fun x => k (.ic t x)
theorem fxT_eq (p : Bool) (t : TV) (k : TV → α) : fxT p t k = k t := by
  cases p <;> cases t <;> simp only [fxT, fcV_eq, fcL_eq, fcN_eq, fcB_eq, fcTs_eq, fcT_eq]
def fyT (t : TV) (k : TV → α) : α := match t with
  | .lf v => k (.lf v)
  | .fr sz xs full => k (.fr sz xs full)
  | t => fxT false t k
theorem fyT_eq (t : TV) (k : TV → α) : fyT t k = k t := by
  cases t <;> simp only [fyT, fxT_eq]
def fyL : List TV → (List TV → α) → α
  | [], k => k []
  | x :: l, k => fyT x fun x => fyL l fun l => k (x :: l)
theorem fyL_eq : ∀ (l : List TV) (k : List TV → α), fyL l k = k l
  | [], k => by rw [fyL]
  | x :: l, k => by rw [fyL, fyT_eq, fyL_eq l]
def fyO (ob : Ob) (k : Ob → α) : α := match ob with
  | .vr e cs => fyL cs fun cs => k (.vr e cs)
  | .ro e sz n cs fz => fcN e fun e => fcN sz fun sz => fcN n fun n => fyL cs fun cs => fcN fz fun fz => k (.ro e sz n cs fz)
  | .ot none => k (.ot none)
  | .ot (some (es, c)) => fcE es.toList fun es => fcN c fun c => k (.ot (some (⟨es⟩, c)))
theorem fyO_eq (ob : Ob) (k : Ob → α) : fyO ob k = k ob := by
  unfold fyO
  split <;> simp only [fcN_eq, fyL_eq, fcE_eq]
def fyH : List Ob → (List Ob → α) → α
  | [], k => k []
  | ob :: hp, k => fyO ob fun ob => fyH hp fun hp => k (ob :: hp)
theorem fyH_eq : ∀ (l : List Ob) (k : List Ob → α), fyH l k = k l
  | [], k => by rw [fyH]
  | x :: l, k => by rw [fyH, fyO_eq, fyH_eq l]
end
def mdOp : Op → Bool
  | .move _ | .assign _ | .pick .. | .load .. | .extract .. | .field .. => false
  | _ => true
def chOp : Op → Bool
  | .alloc _ | .box .. | .store .. | .buildSlice .. | .makeSlice .. | .makeMap .. | .insert .. | .mapUpdate .. | .call _ => true
  | _ => false
noncomputable def evM (GL : Nat → Option (List Dt)) (t : Tn) (x : Operand) : TV := match x with
  | .tmp i => t.ev i
  | .const v => .lf v
  | .global g => match GL g with | some cs => .ep cs 0 | none => .lf (.pointer (some ⟨g, 0, none⟩))
  | .func f => .fn f [] []
theorem evM_eq {GL : Nat → Option (List Dt)} {t : Tn} {tm : List TV} (h : TR t tm) : evM GL t = evT GL tm := funext fun x => by
  cases x with
  | tmp i => show t.ev i = tm.getD i (.lf undef); rw [ev_get, h i, List.getD_eq_getElem?_getD]
  | const v => rfl
  | global g => rfl
  | func f => rfl
def absPureE (P : Program) (ev : Operand → TV) (hp : List Ob) (o : Oper) : AR :=
  if (o.op.operands.toList.all fun x => (lfo (ev x)).isSome) = true then
    match o.op with
    | .select _ _ => none
    | _ => match prS P (execOp (fun x => (lfo (ev x)).getD undef) o) with
      | some (.value v) => some (tvOf v, hp, 0, 0)
      | some .skip => some (.lf undef, hp, 0, 0)
      | _ => none
  else none
theorem absPureE_eq (P : Program) (GL : Nat → Option (List Dt)) (tm : List TV) (hp : List Ob) (o : Oper) : absPureE P (evT GL tm) hp o = absPure P GL tm hp o := rfl
def absCallE (M : Prm) (env : EnvT) (ev : Operand → TV) (hp : List Ob) (q : Operand) (args : List Operand) : AR :=
  match ev q with
  | .fn f x y => if M.okF f = true then absCallF env (M.bn f) hp f (x ++ args.map ev ++ y) else none
  | _ => none
def opH (op : Op) : Program → Prm → EnvT → (Operand → TV) → List Ob → Oper → AR :=
  match op with
  | .move x => fun P M env ev hp o => some (ev x, hp, 0, 0)
  | .assign x => fun P M env ev hp o => some (ev x, hp, 0, 0)
  | .pick c x y => fun P M env ev hp o => match ev c with
    | .lf (.bool t) => some (if t = true then ev x else ev y, hp, 0, 0)
    | _ => none
  | .alloc t => fun P M env ev hp o => absAlloc P hp t
  | .box t x => fun P M env ev hp o => absBox hp t (ev x)
  | .load t x => fun P M env ev hp o => absLoad P hp t (ev x)
  | .store t x y => fun P M env ev hp o => absStore P hp t (ev y) (ev x)
  | .build t ps => fun P M env ev hp o => absBuild P hp t (ps.toList.map fun p => (p.1, ev p.2))
  | .buildSlice t len ps => fun P M env ev hp o => absBuildSlice P hp t len (ps.toList.map fun p => (p.1, ev p.2))
  | .extract x i => fun P M env ev hp o => absExtract hp (ev x) i
  | .field s x f => fun P M env ev hp o => orE (absField P hp s (ev x) f) (absPureE P ev hp o)
  | .fieldAddr s x f => fun P M env ev hp o => absFieldAddr P hp s (ev x) f
  | .indexAddr t x i => fun P M env ev hp o => absIndexAddr P hp t (ev x) (ev i)
  | .index t x i => fun P M env ev hp o => orE (absIndex P hp t (ev x) (ev i)) (absPureE P ev hp o)
  | .slice t x lo hi mx => fun P M env ev hp o => orE (absSlice P hp t (ev x) (lo.map ev) (hi.map ev) (mx.map ev)) (absPureE P ev hp o)
  | .makeFunc f x y => fun P M env ev hp o => absMakeFunc hp f (x.toList.map ev) (y.toList.map ev)
  | .nilCheck x => fun P M env ev hp o => orE (absNilCheck hp (ev x)) (absPureE P ev hp o)
  | .binOp op t x y _ => fun P M env ev hp o => orE (absPureE P ev hp o) (absNil P hp op t (ev x) (ev y))
  | .convert src dst x => fun P M env ev hp o => orE (absB2S P hp src dst (ev x)) (absPureE P ev hp o)
  | .makeSlice t l c => fun P M env ev hp o => absMakeSlice P hp t (ev l) (ev c)
  | .makeMap _ r => fun P M env ev hp o => absMakeMap hp r
  | .lookup t m k ok => fun P M env ev hp o => absLookup P hp t (ev m) (ev k) ok
  | .insert t m k v => fun P M env ev hp o => absInsert P hp t (ev m) (ev k) (ev v)
  | .mapUpdate t m k v => fun P M env ev hp o => absInsert P hp t (ev m) (ev k) (ev v)
  | .call { callee := .builtin .append, args := args, argTypes := ats } => fun P M env ev hp o => match args.toList with
    | [s, x] => absAppend P hp ats (ev s) (ev x)
    | _ => none
  | .call { callee := .builtin .len, args := args, argTypes := ats } => fun P M env ev hp o => match args.toList with
    | [x] => orE (absLen P hp ats (ev x)) (absPureE P ev hp o)
    | _ => none
  | .call { callee := .builtin .copy, args := args, argTypes := ats } => fun P M env ev hp o => match args.toList with
    | [d, x] => absCopy P hp ats (ev d) (ev x)
    | _ => none
  | .call { callee := .value q, args := args, argTypes := _ } => fun P M env ev hp o => absCallE M env ev hp q args.toList
  | _ => fun P M env ev hp o => absPureE P ev hp o
def absOpE (P : Program) (M : Prm) (env : EnvT) (ev : Operand → TV) (hp : List Ob) (o : Oper) : AR := opH o.op P M env ev hp o
theorem absOpE_eq (P : Program) (M : Prm) (env : EnvT) (tm : List TV) (hp : List Ob) (o : Oper) : absOpE P M env (evT M.GL tm) hp o = absOp P M env tm hp o := by
  unfold absOpE absOp
  generalize hop : o.op = op
  split
  case h_29 =>
    unfold opH
    split
    case h_29 => rfl
    all_goals (exfalso; solve_by_elim [rfl])
  all_goals rfl
end Go.Eng
end

section
set_option linter.unusedVariables false
set_option linter.unusedSimpArgs false
namespace Go.Eng
open Go.RowKit
def EnvLe (env env' : EnvT) : Prop := ∀ f args objs r, env f args objs = some r → env' f args objs = some r
section
variable {P : Program} {M : Prm} {env env' : EnvT} {tm : List TV} {hp : List Ob} {o : Oper} {r : TV × List Ob × Nat × Nat}
theorem callF_le (hle : EnvLe env env') {bn : Nat → Nat} {f : FuncId} {args : List TV} (h : absCallF env bn hp f args = some r) : absCallF env' bn hp f args = some r := by
  unfold absCallF at h ⊢
  simp only at h ⊢
  split at h
  · rename_i hc
    rw [if_pos hc]
    split at h
    · rename_i r1 o1 he
      rw [hle _ _ _ _ he]
      exact h
    · cases h
  · cases h
theorem absCall_le (hle : EnvLe env env') {q : Operand} {args : List Operand} (h : absCall M env tm hp q args = some r) : absCall M env' tm hp q args = some r := by
  unfold absCall at h ⊢
  split at h
  · rename_i f x y hq
    split at h
    · rename_i hok
      rw [if_pos hok]
      exact callF_le hle h
    · cases h
  · cases h
theorem absOp_le (hle : EnvLe env env') (h : absOp P M env tm hp o = some r) : absOp P M env' tm hp o = some r := by
  unfold absOp at h ⊢
  split at h
  case h_28 q args ats ho => exact absCall_le hle h
  all_goals exact h
theorem envZ_le {SH : TypeId → List Nat} {argS : FuncId → Option (List (List Nat))} (hle : EnvLe env env') : EnvLe (envZ SH argS env) (envZ SH argS env') := fun f args objs r h => by
  unfold envZ at h ⊢
  split at h
  · exact hle _ _ _ _ h
  · split at h
    · rename_i a1 o1 hfr
      split at h
      · rename_i r1 o2 x y hc
        rw [callF_le hle hc]
        exact h
      · cases h
    · cases h
theorem same_map {α : Type} {x : Option α} {f : α → TV × List Ob × Nat × Nat} (h : x.map f = some r) (hf : ∀ y, (f y).2.1 = hp ∧ (f y).2.2.2 = 0) : r.2.1 = hp ∧ r.2.2.2 = 0 := by
  cases x with
  | none => cases h
  | some y => cases h; exact hf y
theorem same_pure {GL : Nat → Option (List Dt)} (h : absPure P GL tm hp o = some r) : r.2.1 = hp ∧ r.2.2.2 = 0 := by
  unfold absPure at h
  repeat' split at h
  all_goals first | (cases h; exact ⟨rfl, rfl⟩) | cases h
theorem same_or {x : AR} {GL : Nat → Option (List Dt)} (h : orE x (absPure P GL tm hp o) = some r) (hx : x = some r → r.2.1 = hp ∧ r.2.2.2 = 0) : r.2.1 = hp ∧ r.2.2.2 = 0 := by
  rcases orE_or h with h | h
  · exact hx h
  · exact same_pure h
theorem same_or2 {x : AR} {GL : Nat → Option (List Dt)} (h : orE (absPure P GL tm hp o) x = some r) (hx : x = some r → r.2.1 = hp ∧ r.2.2.2 = 0) : r.2.1 = hp ∧ r.2.2.2 = 0 := by
  rcases orE_or h with h | h
  · exact same_pure h
  · exact hx h
theorem op_same (h : absOp P M env tm hp o = some r) (hc : chOp o.op = false) : r.2.1 = hp ∧ r.2.2.2 = 0 := by
  unfold absOp at h
  split at h
  case h_3 =>
    split at h
    · cases h; exact ⟨rfl, rfl⟩
    · cases h
  all_goals first
    | exact same_pure h
    | (rename_i heq; rw [heq] at hc; simp [chOp] at hc; done)
    | exact same_or h (fun h => by
        (first | unfold absField at h | unfold absIndex at h | unfold absSlice at h | unfold absNilCheck at h | unfold absB2S at h)
        (repeat' split at h)
        all_goals first | (exact same_map h fun _ => ⟨rfl, rfl⟩) | (cases h; exact ⟨rfl, rfl⟩) | cases h)
    | exact same_or2 h (fun h => by
        unfold absNil at h
        (repeat' split at h)
        all_goals first | (cases h; exact ⟨rfl, rfl⟩) | cases h)
    | ((first | unfold absLoad at h | unfold absExtract at h | unfold absFieldAddr at h | unfold absIndexAddr at h | unfold absMakeFunc at h | unfold absLookup at h | unfold absBuild at h | skip)
       (repeat' split at h)
       all_goals first | (exact same_map h fun _ => ⟨rfl, rfl⟩) | (cases h; exact ⟨rfl, rfl⟩) | cases h)
end
noncomputable def wantE (ops : Array Oper) (t : Tn) (o : Oper) : Option Bool :=
  match o.guard with
  | none => some true
  | some (j, want) => match (ops[j]?).bind (·.dst) with
    | none => some false
    | some d => match t.get d with
      | some (.lf (.bool b)) => some (b == want)
      | some (.lf (.tuple _)) => some false
      | _ => none
theorem wantE_eq {ops : Array Oper} {t : Tn} {tm : List TV} (h : TR t tm) (o : Oper) : wantE ops t o = wantT ops tm o := by
  unfold wantE wantT
  simp only [h _]
  rfl
noncomputable def stepQ {β : Type} (P : Program) (M : Prm) (env : EnvT) (ops : Array Oper) (t : Tn) (hp : List Ob) (o : Oper) (k : TV → List Ob → Nat → Nat → Option β) : Option β :=
  match wantE ops t o with
  | some true => match absOpE P M env (evM M.GL t) hp o with
    | some (x, hp', R, W) => match chOp o.op with
      | true => fxT true x fun x => fyH hp' fun hp' => fcN R fun R => fcN (W ||| newM hp.length hp'.length) fun W' => match Nat.beq (Nat.land W' M.ban) 0 with
        | true => k x hp' R W'
        | false => none
      | false => fxT (mdOp o.op) x fun x => fcN R fun R => k x hp R 0
    | none => none
  | some false => k (.lf undef) hp 0 0
  | none => none
theorem newM_none (n : Nat) : newM n n = 0 := by simp [newM]
theorem stepQ_spec {β : Type} {P : Program} {M : Prm} {env env' : EnvT} {ops : Array Oper} {t : Tn} {tm : List TV} {hp : List Ob} {o : Oper} {k : TV → List Ob → Nat → Nat → Option β} {y : β} (hle : EnvLe env env') (ht : TR t tm) (h : stepQ P M env ops t hp o k = some y) : ∃ x hp' R W, stepT P M env' ops tm hp o = some (x, hp', R, W) ∧ k x hp' R (W ||| newM hp.length hp'.length) = some y := by
  unfold stepQ at h
  rw [wantE_eq ht, evM_eq ht, absOpE_eq] at h
  unfold stepT
  split at h
  · rename_i hw
    rw [hw]
    cases ha : absOp P M env tm hp o with
    | none => rw [ha] at h; cases h
    | some r =>
      obtain ⟨x, hp', R, W⟩ := r
      rw [ha] at h
      have ha' := absOp_le hle ha
      cases hc : chOp o.op with
      | true =>
        rw [hc] at h
        simp only [fxT_eq, fyH_eq, fcN_eq] at h
        split at h
        · rename_i hb
          have hb : (W ||| newM hp.length hp'.length) &&& M.ban = 0 := Nat.eq_of_beq_eq_true hb
          exact ⟨x, hp', R, W, by simp only [ha', if_pos hb], h⟩
        · cases h
      | false =>
        rw [hc] at h
        simp only [fxT_eq, fcN_eq] at h
        obtain ⟨h1, h2⟩ := op_same ha hc
        simp only at h1 h2
        subst h1 h2
        refine ⟨x, hp', R, 0, by simp only [ha', newM_none, Nat.or_zero, Nat.zero_and, if_pos], ?_⟩
        simpa [newM_none] using h
  · rename_i hw
    rw [hw]
    exact ⟨_, _, _, _, rfl, by simpa [newM_none] using h⟩
  · cases h
abbrev QT := Option (Tn × List Ob)
noncomputable def setQ {β : Type} (d : Option Tmp) (x : TV) (t : Tn) (k : Tn → β) : β := match d with
  | some d => Tn.set x t d k
  | none => k t
theorem setQ_spec {β : Type} {d : Option Tmp} {x : TV} {t : Tn} {tm : List TV} {k : Tn → β} (ht : TR t tm) : ∃ t', setQ d x t k = k t' ∧ TR t' (putT tm d x) := by
  cases d with
  | none => exact ⟨t, rfl, ht⟩
  | some d => exact ⟨t.put x d, by simp only [setQ, set_put], ht.put d x⟩
noncomputable def runDq (P : Program) (M : Prm) (env : EnvT) (ops : Array Oper) (dms : List Nat) : List Oper → Tn → List Ob → List Lg → QT
  | [], t, hp, _ => some (t, hp)
  | o :: os, t, hp, log => stepQ P M env ops t hp o fun x hp' R W => match chk (dms.getD log.length 0) log ⟨o.dst, lookT ops o, R, W⟩ with
    | true => setQ o.dst x t fun t => fcL (log ++ [⟨o.dst, lookT ops o, R, W⟩]) fun log => runDq P M env ops dms os t hp' log
    | false => none
noncomputable def runSq (P : Program) (M : Prm) (env : EnvT) (ops : Array Oper) : List Oper → Tn → List Ob → QT
  | [], t, hp => some (t, hp)
  | o :: os, t, hp => stepQ P M env ops t hp o fun x hp' _ _ => setQ o.dst x t fun t => runSq P M env ops os t hp'
section
variable {P : Program} {M : Prm} {env env' : EnvT} {ops : Array Oper}
theorem runDq_spec {dms : List Nat} (hle : EnvLe env env') : ∀ (l : List Oper) {t t' : Tn} {tm : List TV} {hp hp' : List Ob} {log : List Lg}, TR t tm → runDq P M env ops dms l t hp log = some (t', hp') → ∃ tm', runD P M env' ops dms l tm hp log = some (tm', hp') ∧ TR t' tm'
  | [], t, t', tm, hp, hp', log, ht, h => by
    cases h
    exact ⟨tm, rfl, ht⟩
  | o :: os, t, t', tm, hp, hp', log, ht, h => by
    rw [runDq] at h
    obtain ⟨x, hp1, R, W, h1, h2⟩ := stepQ_spec hle ht h
    rw [runD, h1]
    simp only at h2 ⊢
    split at h2
    · rename_i hck
      rw [if_pos hck]
      obtain ⟨t1, h3, h4⟩ := setQ_spec (d := o.dst) (x := x) (k := fun t => fcL (log ++ [⟨o.dst, lookT ops o, R, W ||| newM hp.length hp1.length⟩]) fun log => runDq P M env ops dms os t hp1 log) ht
      rw [h3, fcL_eq] at h2
      exact runDq_spec hle os h4 h2
    · cases h2
theorem runSq_spec (hle : EnvLe env env') : ∀ (l : List Oper) {t t' : Tn} {tm : List TV} {hp hp' : List Ob}, TR t tm → runSq P M env ops l t hp = some (t', hp') → ∃ tm', runS P M env' ops l tm hp = some (tm', hp') ∧ TR t' tm'
  | [], t, t', tm, hp, hp', ht, h => by
    cases h
    exact ⟨tm, rfl, ht⟩
  | o :: os, t, t', tm, hp, hp', ht, h => by
    rw [runSq] at h
    obtain ⟨x, hp1, R, W, h1, h2⟩ := stepQ_spec hle ht h
    rw [runS, h1]
    obtain ⟨t1, h3, h4⟩ := setQ_spec (d := o.dst) (x := x) (k := fun t => runSq P M env ops os t hp1) ht
    rw [h3] at h2
    exact runSq_spec hle os h4 h2
end
abbrev XQ := Option (Ex × Tn × List Ob)
def iterQ (body : Tn → List Ob → XQ) : Nat → Tn → List Ob → XQ
  | 0, _, _ => none
  | n + 1, t, hp => match body t hp with
    | some (.nor, t2, hp2) => iterQ body n t2 hp2
    | x => x
noncomputable def execQ (P : Program) (M : Prm) (env : EnvT) (fu : Nat) : Code → Tn → List Ob → XQ
  | .skip, t, hp => some (.nor, t, hp)
  | .region _ ops draw, t, hp => match draw with
    | true => match acyT ops with
      | true => match runDq P M env ops (depM ops.toList []) ops.toList t hp [] with
        | some (t, hp) => some (.nor, t, hp)
        | none => none
      | false => none
    | false => match runSq P M env ops ops.toList t hp with
      | some (t, hp) => some (.nor, t, hp)
      | none => none
  | .seq x y, t, hp => match execQ P M env fu x t hp with
    | some (.nor, t1, hp1) => execQ P M env fu y t1 hp1
    | r => r
  | .cond c x y, t, hp => match evM M.GL t c with
    | .lf (.bool true) => execQ P M env fu x t hp
    | .lf (.bool false) => execQ P M env fu y t hp
    | _ => none
  | .block id c, t, hp => match execQ P M env fu c t hp with
    | some (.ext i, t1, hp1) => match Nat.beq i id with
      | true => some (.nor, t1, hp1)
      | false => some (.ext i, t1, hp1)
    | r => r
  | .scope c, t, hp => execQ P M env fu c t hp
  | .loop c, t, hp => iterQ (execQ P M env fu c) fu t hp
  | .exit id, t, hp => some (.ext id, t, hp)
  | .label _, t, hp => some (.nor, t, hp)
  | .ret, t, hp => some (.ret, t, hp)
  | _, _, _ => none
def noH : Nat → Option Hint := fun _ => none
theorem execQ_spec {P : Program} {M : Prm} {env env' : EnvT} {fu n0 : Nat} (hle : EnvLe env env') : ∀ (c : Code) (b : Nat) {t t' : Tn} {tm : List TV} {hp hp' : List Ob} {e : Ex}, TR t tm → execQ P M env fu c t hp = some (e, t', hp') → ∃ tm', exec P M env' fu n0 noH b c tm hp = some (e, tm', hp') ∧ TR t' tm' := by
  intro c
  induction c with
  | region id ops draw =>
    intro b t t' tm hp hp' e ht h
    simp only [execQ] at h
    simp only [exec]
    cases draw with
    | true =>
      simp only at h
      split at h
      · rename_i hac
        split at h
        · rename_i t1 hp1 hr
          cases h
          obtain ⟨tm', h1, h2⟩ := runDq_spec hle _ ht hr
          exact ⟨tm', by simp [hac, h1], h2⟩
        · cases h
      · cases h
    | false =>
      simp only at h
      split at h
      · rename_i t1 hp1 hr
        cases h
        obtain ⟨tm', h1, h2⟩ := runSq_spec hle _ ht hr
        exact ⟨tm', by simp [h1], h2⟩
      · cases h
  | seq x y ihx ihy =>
    intro b t t' tm hp hp' e ht h
    simp only [execQ] at h
    simp only [exec]
    split at h
    · rename_i t1 hp1 hx
      obtain ⟨tm1, h1, h2⟩ := ihx b ht hx
      rw [h1]
      exact ihy b h2 h
    · rename_i hne
      obtain ⟨tm1, h1, h2⟩ := ihx b ht h
      rw [h1]
      refine ⟨tm1, ?_, h2⟩
      split
      · rename_i heq
        cases heq
        exact absurd h (hne _ _)
      · rfl
  | cond c x y ihx ihy =>
    intro b t t' tm hp hp' e ht h
    simp only [execQ] at h
    simp only [exec]
    rw [evM_eq ht] at h
    split at h
    · rename_i hc; rw [hc]; exact ihx b ht h
    · rename_i hc; rw [hc]; exact ihy b ht h
    · cases h
  | block id c ih =>
    intro b t t' tm hp hp' e ht h
    simp only [execQ] at h
    simp only [exec]
    split at h
    · rename_i i t1 hp1 hx
      obtain ⟨tm1, h1, h2⟩ := ih id ht hx
      rw [h1]
      split at h
      · rename_i hb
        cases h
        exact ⟨tm1, by simp only [Nat.eq_of_beq_eq_true hb, if_pos], h2⟩
      · rename_i hb
        cases h
        have : i ≠ id := fun e => by subst e; rw [Nat.beq_refl] at hb; cases hb
        exact ⟨tm1, by simp only [if_neg this], h2⟩
    · rename_i hne
      obtain ⟨tm1, h1, h2⟩ := ih id ht h
      rw [h1]
      refine ⟨tm1, ?_, h2⟩
      split
      · rename_i heq
        cases heq
        exact absurd h (hne _ _ _)
      · rfl
  | scope c ih =>
    intro b t t' tm hp hp' e ht h
    simp only [execQ] at h
    simp only [exec]
    exact ih b ht h
  | loop c ih =>
    intro b t t' tm hp hp' e ht h
    simp only [execQ] at h
    simp only [exec]
    have key : ∀ (n : Nat) {t t' : Tn} {tm : List TV} {hp hp' : List Ob} {e : Ex}, TR t tm → iterQ (execQ P M env fu c) n t hp = some (e, t', hp') → ∃ tm', iter (clean n0 (noH b)) (exec P M env' fu n0 noH b c) n tm hp = some (e, tm', hp') ∧ TR t' tm' := by
      intro n
      induction n with
      | zero => intro t t' tm hp hp' e ht h; cases h
      | succ n ihn =>
        intro t t' tm hp hp' e ht h
        rw [iterQ] at h
        rw [iter]
        have hcl : clean n0 (noH b) tm hp = some (tm, hp) := rfl
        rw [hcl]
        simp only
        split at h
        · rename_i t2 hp2 hx
          obtain ⟨tm2, h1, h2⟩ := ih b ht hx
          rw [h1]
          exact ihn h2 h
        · rename_i hne
          obtain ⟨tm2, h1, h2⟩ := ih b ht h
          rw [h1]
          refine ⟨tm2, ?_, h2⟩
          split
          · rename_i heq
            cases heq
            exact absurd h (hne _ _)
          · rfl
    exact key fu ht h
  | skip => intro b t t' tm hp hp' e ht h; simp only [execQ] at h; cases h; exact ⟨tm, by simp only [exec], ht⟩
  | exit id => intro b t t' tm hp hp' e ht h; simp only [execQ] at h; cases h; exact ⟨tm, by simp only [exec], ht⟩
  | label l => intro b t t' tm hp hp' e ht h; simp only [execQ] at h; cases h; exact ⟨tm, by simp only [exec], ht⟩
  | ret => intro b t t' tm hp hp' e ht h; simp only [execQ] at h; cases h; exact ⟨tm, by simp only [exec], ht⟩
  | _ => intro b t t' tm hp hp' e ht h; simp [execQ] at h
noncomputable def resVQ (P : Program) (t : Tn) (hp : List Ob) : ResultVar → Option TV
  | .tmp i => some (t.ev i)
  | .cell i ty => match t.ev i with
    | .pt id off => match hp[id]? with
      | some ob => match cellsO ob with
        | some cs => ldT P ty cs off
        | none => none
      | none => none
    | _ => none
theorem resVQ_eq {P : Program} {t : Tn} {tm : List TV} {hp : List Ob} (ht : TR t tm) (x : ResultVar) : resVQ P t hp x = resV P tm hp x := by
  cases x with
  | tmp i => simp only [resVQ, resV, ev_get, ht _, List.getD_eq_getElem?_getD]
  | cell i ty => simp only [resVQ, resV, ev_get, ht _, List.getD_eq_getElem?_getD]; rfl
noncomputable def resLQ (P : Program) (t : Tn) (hp : List Ob) : List ResultVar → Option TV
  | [x] => resVQ P t hp x
  | [] => some (.tu [])
  | [x, y] => match resVQ P t hp x, resVQ P t hp y with
    | some a, some b => some (.tu [a, b])
    | _, _ => none
  | [x, y, z] => match resVQ P t hp x, resVQ P t hp y, resVQ P t hp z with
    | some a, some b, some c => some (.tu [a, b, c])
    | _, _, _ => none
  | _ => none
theorem resLQ_eq {P : Program} {t : Tn} {tm : List TV} {hp : List Ob} (ht : TR t tm) (l : List ResultVar) : resLQ P t hp l = resL P tm hp l := by
  unfold resLQ resL
  simp only [resVQ_eq ht]
  rfl
noncomputable def runQ (P : Program) (M : Prm) (env : EnvT) (fu : Nat) : EnvT := fun f args objs =>
  match P.funcs[f]? with
  | some fn => match fn.body with
    | some c => fcN objs.length fun n0 => fcN (M.bn f n0) fun ban => fcN (args.length + (fn.ntmps - args.length)) fun n => putsT args 0 (bldT n n) fun t => match execQ P { M with ban := ban } env fu c t objs with
      | some (.ext _, _, _) => none
      | some (_, t, hp) => match resLQ P t hp fn.results.toList with
        | some r => match (match M.resS f with | some ss => frR M.SH 60 ss hp r | none => some (r, hp)) with
          | some (r1, hp1) => fin n0 r1 hp1
          | none => none
        | none => none
      | none => none
    | none => none
  | none => none
theorem runQ_spec {P : Program} {M : Prm} {env env' : EnvT} {fu : Nat} (hle : EnvLe env env') : EnvLe (runQ P M env fu) (runF P M env' fu fun _ => noH) := fun f args objs r h => by
  unfold runQ at h
  unfold runF
  split at h
  · rename_i fn hf
    rw [hf]
    split at h
    · rename_i c hc
      simp only [hc]
      simp only [fcN_eq] at h
      have h0 : TR (bldT (args.length + (fn.ntmps - args.length)) (args.length + (fn.ntmps - args.length))) ([] ++ List.replicate (args.length + (fn.ntmps - args.length)) (.lf undef)) := fun i => by
        rw [bld_get _ _ _ (Nat.le_refl _), List.nil_append]
        by_cases hi : i < args.length + (fn.ntmps - args.length)
        · rw [if_pos hi, List.getElem?_replicate, if_pos hi]
        · rw [if_neg hi, List.getElem?_replicate, if_neg hi]
      obtain ⟨t, h1, h2⟩ := puts_tr args [] _ _ (fun t => match execQ P { M with ban := M.bn f objs.length } env fu c t objs with
        | some (.ext _, _, _) => none
        | some (_, t, hp) => match resLQ P t hp fn.results.toList with
          | some r => match (match M.resS f with | some ss => frR M.SH 60 ss hp r | none => some (r, hp)) with
            | some (r1, hp1) => fin objs.length r1 hp1
            | none => none
          | none => none
        | none => none) h0 (by omega)
      rw [List.length_nil] at h1
      rw [h1] at h
      rw [List.nil_append, Nat.add_sub_cancel_left] at h2
      cases hx : execQ P { M with ban := M.bn f objs.length } env fu c t objs with
      | none => rw [hx] at h; cases h
      | some x =>
        obtain ⟨e, t', hp'⟩ := x
        rw [hx] at h
        obtain ⟨tm', k1, k2⟩ := execQ_spec (n0 := objs.length) hle c 0 h2 hx
        rw [k1]
        cases e with
        | ext i => cases h
        | nor => simp only [resLQ_eq k2] at h; exact h
        | ret => simp only [resLQ_eq k2] at h; exact h
    · cases h
  · cases h
noncomputable def callQ (P : Program) (M : Prm) (base : EnvT) (fu : Nat) : Nat → EnvT
  | 0 => base
  | n + 1 => fun f args objs => fyL args fun args => fyH objs fun objs => match base f args objs with
    | some (r, objs') => some (r, objs')
    | none => runQ P M (envZ M.SH M.argS (callQ P M base fu n)) fu f args objs
theorem callQ_spec {P : Program} {M : Prm} {base : EnvT} {fu : Nat} : ∀ n, EnvLe (callQ P M base fu n) (callF P M base fu (fun _ => noH) n)
  | 0 => fun f args objs r h => h
  | n + 1 => fun f args objs r h => by
    rw [callQ] at h
    rw [callF]
    simp only [fyL_eq, fyH_eq] at h ⊢
    split at h
    · rename_i hb
      simp only [hb]; exact h
    · rename_i hb
      simp only [hb]
      exact runQ_spec (envZ_le (callQ_spec n)) _ _ _ _ h
end Go.Eng
end
