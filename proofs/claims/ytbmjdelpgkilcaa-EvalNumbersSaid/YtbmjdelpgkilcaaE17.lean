/-
  A machine on plain data: the quick twin: regions, code, calls; what it answers the machine answers.
-/
import Derived.Test.YtbmjdelpgkilcaaE16
set_option linter.unusedVariables false
section
set_option linter.unusedVariables false
set_option linter.unusedSimpArgs false
namespace Go.Eng
open Go.RowKit
def EnvLe (env env' : EnvT) : Prop := ∀ f args objs r, env f args objs = some r → env' f args objs = some r
section
variable {P : Program} {M : Prm} {env env' : EnvT} {tm : List TV} {hp : List Ob} {o : Oper} {r : TV × List Ob × Nat × Nat}
theorem callF_le (hle : EnvLe env env') {bn : Nat → Nat} {f : FuncId} {args : List TV} (h : absCallF env bn hp f args = some r) : absCallF env' bn hp f args = some r := by
  unfold absCallF at h ⊢
  simp only at h ⊢
  split at h
  · rename_i hc
    rw [if_pos hc]
    split at h
    · rename_i r1 o1 he
      rw [hle _ _ _ _ he]
      exact h
    · cases h
  · cases h
theorem absCall_le (hle : EnvLe env env') {q : Operand} {args : List Operand} (h : absCall M env tm hp q args = some r) : absCall M env' tm hp q args = some r := by
  unfold absCall at h ⊢
  split at h
  · rename_i f x y hq
    split at h
    · rename_i hok
      rw [if_pos hok]
      exact callF_le hle h
    · cases h
  · cases h
theorem absOp_le (hle : EnvLe env env') (h : absOp P M env tm hp o = some r) : absOp P M env' tm hp o = some r := by
  unfold absOp at h ⊢
  split at h
  case h_28 q args ats ho => exact absCall_le hle h
  all_goals exact h
theorem envZ_le {SH : TypeId → List Nat} {argS : FuncId → Option (List (List Nat))} (hle : EnvLe env env') : EnvLe (envZ SH argS env) (envZ SH argS env') := fun f args objs r h => by
  unfold envZ at h ⊢
  split at h
  · exact hle _ _ _ _ h
  · split at h
    · rename_i a1 o1 hfr
      split at h
      · rename_i r1 o2 x y hc
        rw [callF_le hle hc]
        exact h
      · cases h
    · cases h
theorem same_map {α : Type} {x : Option α} {f : α → TV × List Ob × Nat × Nat} (h : x.map f = some r) (hf : ∀ y, (f y).2.1 = hp ∧ (f y).2.2.2 = 0) : r.2.1 = hp ∧ r.2.2.2 = 0 := by
  cases x with
  | none => cases h
  | some y => cases h; exact hf y
theorem same_pure {GL : Nat → Option (List Dt)} (h : absPure P GL tm hp o = some r) : r.2.1 = hp ∧ r.2.2.2 = 0 := by
  unfold absPure at h
  repeat' split at h
  all_goals first | (cases h; exact ⟨rfl, rfl⟩) | cases h
theorem same_or {x : AR} {GL : Nat → Option (List Dt)} (h : orE x (absPure P GL tm hp o) = some r) (hx : x = some r → r.2.1 = hp ∧ r.2.2.2 = 0) : r.2.1 = hp ∧ r.2.2.2 = 0 := by
  rcases orE_or h with h | h
  · exact hx h
  · exact same_pure h
theorem same_or2 {x : AR} {GL : Nat → Option (List Dt)} (h : orE (absPure P GL tm hp o) x = some r) (hx : x = some r → r.2.1 = hp ∧ r.2.2.2 = 0) : r.2.1 = hp ∧ r.2.2.2 = 0 := by
  rcases orE_or h with h | h
  · exact same_pure h
  · exact hx h
theorem op_same (h : absOp P M env tm hp o = some r) (hc : chOp o.op = false) : r.2.1 = hp ∧ r.2.2.2 = 0 := by
  unfold absOp at h
  split at h
  case h_3 =>
    split at h
    · cases h; exact ⟨rfl, rfl⟩
    · cases h
  all_goals first
    | exact same_pure h
    | (rename_i heq; rw [heq] at hc; simp [chOp] at hc; done)
    | exact same_or h (fun h => by
        (first | unfold absField at h | unfold absIndex at h | unfold absSlice at h | unfold absNilCheck at h | unfold absB2S at h)
        (repeat' split at h)
        all_goals first | (exact same_map h fun _ => ⟨rfl, rfl⟩) | (cases h; exact ⟨rfl, rfl⟩) | cases h)
    | exact same_or2 h (fun h => by
        unfold absNil at h
        (repeat' split at h)
        all_goals first | (cases h; exact ⟨rfl, rfl⟩) | cases h)
    | ((first | unfold absLoad at h | unfold absExtract at h | unfold absFieldAddr at h | unfold absIndexAddr at h | unfold absMakeFunc at h | unfold absLookup at h | unfold absBuild at h | skip)
       (repeat' split at h)
       all_goals first | (exact same_map h fun _ => ⟨rfl, rfl⟩) | (cases h; exact ⟨rfl, rfl⟩) | cases h)
end
noncomputable def wantE (ops : Array Oper) (t : Tn) (o : Oper) : Option Bool :=
  match o.guard with
  | none => some true
  | some (j, want) => match (ops[j]?).bind (·.dst) with
    | none => some false
    | some d => match t.get d with
      | some (.lf (.bool b)) => some (b == want)
      | some (.lf (.tuple _)) => some false
      | _ => none
theorem wantE_eq {ops : Array Oper} {t : Tn} {tm : List TV} (h : TR t tm) (o : Oper) : wantE ops t o = wantT ops tm o := by
  unfold wantE wantT
  simp only [h _]
  rfl
noncomputable def stepQ {β : Type} (P : Program) (M : Prm) (env : EnvT) (ops : Array Oper) (t : Tn) (hp : List Ob) (o : Oper) (k : TV → List Ob → Nat → Nat → Option β) : Option β :=
  match wantE ops t o with
  | some true => match absOpE P M env (evM M.GL t) hp o with
    | some (x, hp', R, W) => match chOp o.op with
      | true => fxT true x fun x => fyH hp' fun hp' => fcN R fun R => fcN (W ||| newM hp.length hp'.length) fun W' => match Nat.beq (Nat.land W' M.ban) 0 with
        | true => k x hp' R W'
        | false => none
      | false => fxT (mdOp o.op) x fun x => fcN R fun R => k x hp R 0
    | none => none
  | some false => k (.lf undef) hp 0 0
  | none => none
theorem newM_none (n : Nat) : newM n n = 0 := by simp [newM]
theorem stepQ_spec {β : Type} {P : Program} {M : Prm} {env env' : EnvT} {ops : Array Oper} {t : Tn} {tm : List TV} {hp : List Ob} {o : Oper} {k : TV → List Ob → Nat → Nat → Option β} {y : β} (hle : EnvLe env env') (ht : TR t tm) (h : stepQ P M env ops t hp o k = some y) : ∃ x hp' R W, stepT P M env' ops tm hp o = some (x, hp', R, W) ∧ k x hp' R (W ||| newM hp.length hp'.length) = some y := by
  unfold stepQ at h
  rw [wantE_eq ht, evM_eq ht, absOpE_eq] at h
  unfold stepT
  split at h
  · rename_i hw
    rw [hw]
    cases ha : absOp P M env tm hp o with
    | none => rw [ha] at h; cases h
    | some r =>
      obtain ⟨x, hp', R, W⟩ := r
      rw [ha] at h
      have ha' := absOp_le hle ha
      cases hc : chOp o.op with
      | true =>
        rw [hc] at h
        simp only [fxT_eq, fyH_eq, fcN_eq] at h
        split at h
        · rename_i hb
          have hb : (W ||| newM hp.length hp'.length) &&& M.ban = 0 := Nat.eq_of_beq_eq_true hb
          exact ⟨x, hp', R, W, by simp only [ha', if_pos hb], h⟩
        · cases h
      | false =>
        rw [hc] at h
        simp only [fxT_eq, fcN_eq] at h
        obtain ⟨h1, h2⟩ := op_same ha hc
        simp only at h1 h2
        subst h1 h2
        refine ⟨x, hp', R, 0, by simp only [ha', newM_none, Nat.or_zero, Nat.zero_and, if_pos], ?_⟩
        simpa [newM_none] using h
  · rename_i hw
    rw [hw]
    exact ⟨_, _, _, _, rfl, by simpa [newM_none] using h⟩
  · cases h
abbrev QT := Option (Tn × List Ob)
noncomputable def setQ {β : Type} (d : Option Tmp) (x : TV) (t : Tn) (k : Tn → β) : β := match d with
  | some d => Tn.set x t d k
  | none => k t
theorem setQ_spec {β : Type} {d : Option Tmp} {x : TV} {t : Tn} {tm : List TV} {k : Tn → β} (ht : TR t tm) : ∃ t', setQ d x t k = k t' ∧ TR t' (putT tm d x) := by
  cases d with
  | none => exact ⟨t, rfl, ht⟩
  | some d => exact ⟨t.put x d, by simp only [setQ, set_put], ht.put d x⟩
noncomputable def runDq (P : Program) (M : Prm) (env : EnvT) (ops : Array Oper) (dms : List Nat) : List Oper → Tn → List Ob → List Lg → QT
  | [], t, hp, _ => some (t, hp)
  | o :: os, t, hp, log => stepQ P M env ops t hp o fun x hp' R W => match chk (dms.getD log.length 0) log ⟨o.dst, lookT ops o, R, W⟩ with
    | true => setQ o.dst x t fun t => fcL (log ++ [⟨o.dst, lookT ops o, R, W⟩]) fun log => runDq P M env ops dms os t hp' log
    | false => none
noncomputable def runSq (P : Program) (M : Prm) (env : EnvT) (ops : Array Oper) : List Oper → Tn → List Ob → QT
  | [], t, hp => some (t, hp)
  | o :: os, t, hp => stepQ P M env ops t hp o fun x hp' _ _ => setQ o.dst x t fun t => runSq P M env ops os t hp'
section
variable {P : Program} {M : Prm} {env env' : EnvT} {ops : Array Oper}
theorem runDq_spec {dms : List Nat} (hle : EnvLe env env') : ∀ (l : List Oper) {t t' : Tn} {tm : List TV} {hp hp' : List Ob} {log : List Lg}, TR t tm → runDq P M env ops dms l t hp log = some (t', hp') → ∃ tm', runD P M env' ops dms l tm hp log = some (tm', hp') ∧ TR t' tm'
  | [], t, t', tm, hp, hp', log, ht, h => by
    cases h
    exact ⟨tm, rfl, ht⟩
  | o :: os, t, t', tm, hp, hp', log, ht, h => by
    rw [runDq] at h
    obtain ⟨x, hp1, R, W, h1, h2⟩ := stepQ_spec hle ht h
    rw [runD, h1]
    simp only at h2 ⊢
    split at h2
    · rename_i hck
      rw [if_pos hck]
      obtain ⟨t1, h3, h4⟩ := setQ_spec (d := o.dst) (x := x) (k := fun t => fcL (log ++ [⟨o.dst, lookT ops o, R, W ||| newM hp.length hp1.length⟩]) fun log => runDq P M env ops dms os t hp1 log) ht
      rw [h3, fcL_eq] at h2
      exact runDq_spec hle os h4 h2
    · cases h2
theorem runSq_spec (hle : EnvLe env env') : ∀ (l : List Oper) {t t' : Tn} {tm : List TV} {hp hp' : List Ob}, TR t tm → runSq P M env ops l t hp = some (t', hp') → ∃ tm', runS P M env' ops l tm hp = some (tm', hp') ∧ TR t' tm'
  | [], t, t', tm, hp, hp', ht, h => by
    cases h
    exact ⟨tm, rfl, ht⟩
  | o :: os, t, t', tm, hp, hp', ht, h => by
    rw [runSq] at h
    obtain ⟨x, hp1, R, W, h1, h2⟩ := stepQ_spec hle ht h
    rw [runS, h1]
    obtain ⟨t1, h3, h4⟩ := setQ_spec (d := o.dst) (x := x) (k := fun t => runSq P M env ops os t hp1) ht
    rw [h3] at h2
    exact runSq_spec hle os h4 h2
end
abbrev XQ := Option (Ex × Tn × List Ob)
def iterQ (body : Tn → List Ob → XQ) : Nat → Tn → List Ob → XQ
  | 0, _, _ => none
  | n + 1, t, hp => match body t hp with
    | some (.nor, t2, hp2) => iterQ body n t2 hp2
    | x => x
noncomputable def execQ (P : Program) (M : Prm) (env : EnvT) (fu : Nat) : Code → Tn → List Ob → XQ
  | .skip, t, hp => some (.nor, t, hp)
  | .region _ ops draw, t, hp => match draw with
    | true => match acyT ops with
      | true => match runDq P M env ops (depM ops.toList []) ops.toList t hp [] with
        | some (t, hp) => some (.nor, t, hp)
        | none => none
      | false => none
    | false => match runSq P M env ops ops.toList t hp with
      | some (t, hp) => some (.nor, t, hp)
      | none => none
  | .seq x y, t, hp => match execQ P M env fu x t hp with
    | some (.nor, t1, hp1) => execQ P M env fu y t1 hp1
    | r => r
  | .cond c x y, t, hp => match evM M.GL t c with
    | .lf (.bool true) => execQ P M env fu x t hp
    | .lf (.bool false) => execQ P M env fu y t hp
    | _ => none
  | .block id c, t, hp => match execQ P M env fu c t hp with
    | some (.ext i, t1, hp1) => match Nat.beq i id with
      | true => some (.nor, t1, hp1)
      | false => some (.ext i, t1, hp1)
    | r => r
  | .scope c, t, hp => execQ P M env fu c t hp
  | .loop c, t, hp => iterQ (execQ P M env fu c) fu t hp
  | .exit id, t, hp => some (.ext id, t, hp)
  | .label _, t, hp => some (.nor, t, hp)
  | .ret, t, hp => some (.ret, t, hp)
  | _, _, _ => none
def noH : Nat → Option Hint := fun _ => none
theorem execQ_spec {P : Program} {M : Prm} {env env' : EnvT} {fu n0 : Nat} (hle : EnvLe env env') : ∀ (c : Code) (b : Nat) {t t' : Tn} {tm : List TV} {hp hp' : List Ob} {e : Ex}, TR t tm → execQ P M env fu c t hp = some (e, t', hp') → ∃ tm', exec P M env' fu n0 noH b c tm hp = some (e, tm', hp') ∧ TR t' tm' := by
  intro c
  induction c with
  | region id ops draw =>
    intro b t t' tm hp hp' e ht h
    simp only [execQ] at h
    simp only [exec]
    cases draw with
    | true =>
      simp only at h
      split at h
      · rename_i hac
        split at h
        · rename_i t1 hp1 hr
          cases h
          obtain ⟨tm', h1, h2⟩ := runDq_spec hle _ ht hr
          exact ⟨tm', by simp [hac, h1], h2⟩
        · cases h
      · cases h
    | false =>
      simp only at h
      split at h
      · rename_i t1 hp1 hr
        cases h
        obtain ⟨tm', h1, h2⟩ := runSq_spec hle _ ht hr
        exact ⟨tm', by simp [h1], h2⟩
      · cases h
  | seq x y ihx ihy =>
    intro b t t' tm hp hp' e ht h
    simp only [execQ] at h
    simp only [exec]
    split at h
    · rename_i t1 hp1 hx
      obtain ⟨tm1, h1, h2⟩ := ihx b ht hx
      rw [h1]
      exact ihy b h2 h
    · rename_i hne
      obtain ⟨tm1, h1, h2⟩ := ihx b ht h
      rw [h1]
      refine ⟨tm1, ?_, h2⟩
      split
      · rename_i heq
        cases heq
        exact absurd h (hne _ _)
      · rfl
  | cond c x y ihx ihy =>
    intro b t t' tm hp hp' e ht h
    simp only [execQ] at h
    simp only [exec]
    rw [evM_eq ht] at h
    split at h
    · rename_i hc; rw [hc]; exact ihx b ht h
    · rename_i hc; rw [hc]; exact ihy b ht h
    · cases h
  | block id c ih =>
    intro b t t' tm hp hp' e ht h
    simp only [execQ] at h
    simp only [exec]
    split at h
    · rename_i i t1 hp1 hx
      obtain ⟨tm1, h1, h2⟩ := ih id ht hx
      rw [h1]
      split at h
      · rename_i hb
        cases h
        exact ⟨tm1, by simp only [Nat.eq_of_beq_eq_true hb, if_pos], h2⟩
      · rename_i hb
        cases h
        have : i ≠ id := fun e => by subst e; rw [Nat.beq_refl] at hb; cases hb
        exact ⟨tm1, by simp only [if_neg this], h2⟩
    · rename_i hne
      obtain ⟨tm1, h1, h2⟩ := ih id ht h
      rw [h1]
      refine ⟨tm1, ?_, h2⟩
      split
      · rename_i heq
        cases heq
        exact absurd h (hne _ _ _)
      · rfl
  | scope c ih =>
    intro b t t' tm hp hp' e ht h
    simp only [execQ] at h
    simp only [exec]
    exact ih b ht h
  | loop c ih =>
    intro b t t' tm hp hp' e ht h
    simp only [execQ] at h
    simp only [exec]
    have key : ∀ (n : Nat) {t t' : Tn} {tm : List TV} {hp hp' : List Ob} {e : Ex}, TR t tm → iterQ (execQ P M env fu c) n t hp = some (e, t', hp') → ∃ tm', iter (clean n0 (noH b)) (exec P M env' fu n0 noH b c) n tm hp = some (e, tm', hp') ∧ TR t' tm' := by
      intro n
      induction n with
      | zero => intro t t' tm hp hp' e ht h; cases h
      | succ n ihn =>
        intro t t' tm hp hp' e ht h
        rw [iterQ] at h
        rw [iter]
        have hcl : clean n0 (noH b) tm hp = some (tm, hp) := rfl
        rw [hcl]
        simp only
        split at h
        · rename_i t2 hp2 hx
          obtain ⟨tm2, h1, h2⟩ := ih b ht hx
          rw [h1]
          exact ihn h2 h
        · rename_i hne
          obtain ⟨tm2, h1, h2⟩ := ih b ht h
          rw [h1]
          refine ⟨tm2, ?_, h2⟩
          split
          · rename_i heq
            cases heq
            exact absurd h (hne _ _)
          · rfl
    exact key fu ht h
  | skip => intro b t t' tm hp hp' e ht h; simp only [execQ] at h; cases h; exact ⟨tm, by simp only [exec], ht⟩
  | exit id => intro b t t' tm hp hp' e ht h; simp only [execQ] at h; cases h; exact ⟨tm, by simp only [exec], ht⟩
  | label l => intro b t t' tm hp hp' e ht h; simp only [execQ] at h; cases h; exact ⟨tm, by simp only [exec], ht⟩
  | ret => intro b t t' tm hp hp' e ht h; simp only [execQ] at h; cases h; exact ⟨tm, by simp only [exec], ht⟩
  | _ => intro b t t' tm hp hp' e ht h; simp [execQ] at h
noncomputable def resVQ (P : Program) (t : Tn) (hp : List Ob) : ResultVar → Option TV
  | .tmp i => some (t.ev i)
  | .cell i ty => match t.ev i with
    | .pt id off => match hp[id]? with
      | some ob => match cellsO ob with
        | some cs => ldT P ty cs off
        | none => none
      | none => none
    | _ => none
theorem resVQ_eq {P : Program} {t : Tn} {tm : List TV} {hp : List Ob} (ht : TR t tm) (x : ResultVar) : resVQ P t hp x = resV P tm hp x := by
  cases x with
  | tmp i => simp only [resVQ, resV, ev_get, ht _, List.getD_eq_getElem?_getD]
  | cell i ty => simp only [resVQ, resV, ev_get, ht _, List.getD_eq_getElem?_getD]; rfl
noncomputable def resLQ (P : Program) (t : Tn) (hp : List Ob) : List ResultVar → Option TV
  | [x] => resVQ P t hp x
  | [] => some (.tu [])
  | [x, y] => match resVQ P t hp x, resVQ P t hp y with
    | some a, some b => some (.tu [a, b])
    | _, _ => none
  | [x, y, z] => match resVQ P t hp x, resVQ P t hp y, resVQ P t hp z with
    | some a, some b, some c => some (.tu [a, b, c])
    | _, _, _ => none
  | _ => none
theorem resLQ_eq {P : Program} {t : Tn} {tm : List TV} {hp : List Ob} (ht : TR t tm) (l : List ResultVar) : resLQ P t hp l = resL P tm hp l := by
  unfold resLQ resL
  simp only [resVQ_eq ht]
  rfl
noncomputable def runQ (P : Program) (M : Prm) (env : EnvT) (fu : Nat) : EnvT := fun f args objs =>
  match P.funcs[f]? with
  | some fn => match fn.body with
    | some c => fcN objs.length fun n0 => fcN (M.bn f n0) fun ban => fcN (args.length + (fn.ntmps - args.length)) fun n => putsT args 0 (bldT n n) fun t => match execQ P { M with ban := ban } env fu c t objs with
      | some (.ext _, _, _) => none
      | some (_, t, hp) => match resLQ P t hp fn.results.toList with
        | some r => match (match M.resS f with | some ss => frR M.SH 60 ss hp r | none => some (r, hp)) with
          | some (r1, hp1) => fin n0 r1 hp1
          | none => none
        | none => none
      | none => none
    | none => none
  | none => none
theorem runQ_spec {P : Program} {M : Prm} {env env' : EnvT} {fu : Nat} (hle : EnvLe env env') : EnvLe (runQ P M env fu) (runF P M env' fu fun _ => noH) := fun f args objs r h => by
  unfold runQ at h
  unfold runF
  split at h
  · rename_i fn hf
    rw [hf]
    split at h
    · rename_i c hc
      simp only [hc]
      simp only [fcN_eq] at h
      have h0 : TR (bldT (args.length + (fn.ntmps - args.length)) (args.length + (fn.ntmps - args.length))) ([] ++ List.replicate (args.length + (fn.ntmps - args.length)) (.lf undef)) := fun i => by
        rw [bld_get _ _ _ (Nat.le_refl _), List.nil_append]
        by_cases hi : i < args.length + (fn.ntmps - args.length)
        · rw [if_pos hi, List.getElem?_replicate, if_pos hi]
        · rw [if_neg hi, List.getElem?_replicate, if_neg hi]
      obtain ⟨t, h1, h2⟩ := puts_tr args [] _ _ (fun t => match execQ P { M with ban := M.bn f objs.length } env fu c t objs with
        | some (.ext _, _, _) => none
        | some (_, t, hp) => match resLQ P t hp fn.results.toList with
          | some r => match (match M.resS f with | some ss => frR M.SH 60 ss hp r | none => some (r, hp)) with
            | some (r1, hp1) => fin objs.length r1 hp1
            | none => none
          | none => none
        | none => none) h0 (by omega)
      rw [List.length_nil] at h1
      rw [h1] at h
      rw [List.nil_append, Nat.add_sub_cancel_left] at h2
      cases hx : execQ P { M with ban := M.bn f objs.length } env fu c t objs with
      | none => rw [hx] at h; cases h
      | some x =>
        obtain ⟨e, t', hp'⟩ := x
        rw [hx] at h
        obtain ⟨tm', k1, k2⟩ := execQ_spec (n0 := objs.length) hle c 0 h2 hx
        rw [k1]
        cases e with
        | ext i => cases h
        | nor => simp only [resLQ_eq k2] at h; exact h
        | ret => simp only [resLQ_eq k2] at h; exact h
    · cases h
  · cases h
noncomputable def callQ (P : Program) (M : Prm) (base : EnvT) (fu : Nat) : Nat → EnvT
  | 0 => base
  | n + 1 => fun f args objs => fyL args fun args => fyH objs fun objs => match base f args objs with
    | some (r, objs') => some (r, objs')
    | none => runQ P M (envZ M.SH M.argS (callQ P M base fu n)) fu f args objs
theorem callQ_spec {P : Program} {M : Prm} {base : EnvT} {fu : Nat} : ∀ n, EnvLe (callQ P M base fu n) (callF P M base fu (fun _ => noH) n)
  | 0 => fun f args objs r h => h
  | n + 1 => fun f args objs r h => by
    rw [callQ] at h
    rw [callF]
    simp only [fyL_eq, fyH_eq] at h ⊢
    split at h
    · rename_i hb
      simp only [hb]; exact h
    · rename_i hb
      simp only [hb]
      exact runQ_spec (envZ_le (callQ_spec n)) _ _ _ _ h
end Go.Eng
end
