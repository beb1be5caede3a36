/-
  A machine on plain data, thirty-six: a run with what the decisions are told; what is told is left to be proved.
-/
import Derived.Test.YtbmjdelpgkilcaaE17
set_option linter.unusedVariables false
section
set_option linter.unusedVariables false
set_option linter.unusedSimpArgs false
namespace Go.Eng
open Go.RowKit
abbrev Obl := List (TV × Bool)
abbrev Ora := List (Option Bool)
def OblOk (l : Obl) : Prop := ∀ p ∈ l, p.1 = .lf (.bool p.2)
theorem obl_nil : OblOk [] := fun p h => by cases h
theorem obl_cons {t : TV} {b : Bool} {l : Obl} (h : t = .lf (.bool b)) (hl : OblOk l) : OblOk ((t, b) :: l) := fun p hp => by
  rcases List.mem_cons.1 hp with rfl | hp
  · exact h
  · exact hl p hp
theorem obl_l {a b : Obl} (h : OblOk (a ++ b)) : OblOk a := fun p hp => h p (List.mem_append_left _ hp)
theorem obl_r {a b : Obl} (h : OblOk (a ++ b)) : OblOk b := fun p hp => h p (List.mem_append_right _ hp)
def litB (t : TV) (os : Ora) : Option (Bool × Ora × Obl) := match t with
  | .lf (.bool b) => some (b, os, [])
  | _ => none
def dec (t : TV) (os : Ora) : Option (Bool × Ora × Obl) := match os with
  | some b :: os => some (b, os, [(t, b)])
  | none :: os => litB t os
  | [] => litB t []
theorem dec_spec {t : TV} {os os' : Ora} {b : Bool} {l : Obl} (h : dec t os = some (b, os', l)) (hl : OblOk l) : t = .lf (.bool b) := by
  unfold dec at h
  split at h
  · cases h
    exact hl (t, b) (by simp)
  · unfold litB at h
    split at h
    · cases h; rfl
    · cases h
  · unfold litB at h
    split at h
    · cases h; rfl
    · cases h
def wantO (ops : Array Oper) (tm : List TV) (o : Oper) (os : Ora) : Option (Bool × Ora × Obl) :=
  match o.guard with
  | none => some (true, os, [])
  | some (j, want) => match (ops[j]?).bind (·.dst) with
    | none => some (false, os, [])
    | some d => match tm[d]? with
      | some (.lf (.tuple _)) => some (false, os, [])
      | some t => match dec t os with
        | some (b, os, l) => some (b == want, os, l)
        | none => none
      | none => none
theorem wantO_spec {ops : Array Oper} {tm : List TV} {o : Oper} {os os' : Ora} {b : Bool} {l : Obl} (h : wantO ops tm o os = some (b, os', l)) (hl : OblOk l) : wantT ops tm o = some b := by
  unfold wantO at h
  unfold wantT
  split at h
  · cases h; rename_i hg; rw [hg]
  · rename_i j want hg
    rw [hg]
    simp only
    split at h
    · cases h; rename_i hd; rw [hd]
    · rename_i d hd
      rw [hd]
      simp only
      split at h
      · rename_i vs ht
        cases h
        rw [ht]
      · rename_i t hne ht
        split at h
        · rename_i b' os'' l' hdec
          cases h
          rw [ht, dec_spec hdec hl]
        · cases h
      · cases h
abbrev SO := Option (TV × List Ob × Nat × Nat × Ora × Obl)
def stepO (P : Program) (M : Prm) (env : EnvT) (ops : Array Oper) (tm : List TV) (hp : List Ob) (o : Oper) (os : Ora) : SO :=
  match wantO ops tm o os with
  | some (true, os, l) => match o.op with
    | .pick c x y => match dec (evT M.GL tm c) os with
      | some (b, os, l') => some ((match b with | true => evT M.GL tm x | false => evT M.GL tm y), hp, 0, 0, os, l ++ l')
      | none => none
    | _ => match absOp P M env tm hp o with
      | some (t, hp', R, W) => (match Nat.beq (Nat.land (W ||| newM hp.length hp'.length) M.ban) 0 with
        | true => some (t, hp', R, W, os, l)
        | false => none)
      | none => none
  | some (false, os, l) => some (.lf undef, hp, 0, 0, os, l)
  | none => none
section
variable {P : Program} {M : Prm} {env env' : EnvT} {ops : Array Oper} {tm : List TV} {hp hp' : List Ob} {o : Oper}
theorem stepO_spec (hle : EnvLe env env') {os os' : Ora} {t : TV} {R W : Nat} {l : Obl} (h : stepO P M env ops tm hp o os = some (t, hp', R, W, os', l)) (hl : OblOk l) : stepT P M env' ops tm hp o = some (t, hp', R, W) := by
  unfold stepO at h
  unfold stepT
  split at h
  · rename_i os1 l1 hw
    split at h
    · rename_i c x y ho
      split at h
      · rename_i b os2 l2 hd
        cases h
        rw [wantO_spec hw (obl_l hl)]
        have hc := dec_spec hd (obl_r hl)
        have ha : absOp P M env' tm hp o = some (if b = true then evT M.GL tm x else evT M.GL tm y, hp, 0, 0) := by
          unfold absOp
          rw [ho]
          simp only [hc]
        simp only [ha, newM_none, Nat.or_zero, Nat.zero_and, if_pos]
        cases b <;> simp
      · cases h
    · split at h
      · rename_i t1 hp1 R1 W1 ha
        split at h
        · rename_i hb
          cases h
          rw [wantO_spec hw hl]
          have hb : (W ||| newM hp.length hp'.length) &&& M.ban = 0 := Nat.eq_of_beq_eq_true hb
          simp only [absOp_le hle ha, if_pos hb]
        · cases h
      · cases h
  · rename_i os1 l1 hw
    cases h
    rw [wantO_spec hw hl]
  · cases h
end
abbrev RO := Option (List TV × List Ob × Ora × Obl)
def runDo (P : Program) (M : Prm) (env : EnvT) (ops : Array Oper) (dms : List Nat) : List Oper → List TV → List Ob → List Lg → Ora → Obl → RO
  | [], tm, hp, _, os, l => some (tm, hp, os, l)
  | o :: rest, tm, hp, log, os, l => match stepO P M env ops tm hp o os with
    | some (t, hp', R, W, os', l') => match chk (dms.getD log.length 0) log ⟨o.dst, lookT ops o, R, W ||| newM hp.length hp'.length⟩ with
      | true => runDo P M env ops dms rest (putT tm o.dst t) hp' (log ++ [⟨o.dst, lookT ops o, R, W ||| newM hp.length hp'.length⟩]) os' (l' ++ l)
      | false => none
    | none => none
def runSo (P : Program) (M : Prm) (env : EnvT) (ops : Array Oper) : List Oper → List TV → List Ob → Ora → Obl → RO
  | [], tm, hp, os, l => some (tm, hp, os, l)
  | o :: rest, tm, hp, os, l => match stepO P M env ops tm hp o os with
    | some (t, hp', R, W, os', l') => runSo P M env ops rest (putT tm o.dst t) hp' os' (l' ++ l)
    | none => none
section
variable {P : Program} {M : Prm} {env env' : EnvT} {ops : Array Oper}
theorem runDo_spec {dms : List Nat} (hle : EnvLe env env') : ∀ (rest : List Oper) {tm tm' : List TV} {hp hp' : List Ob} {log : List Lg} {os os' : Ora} {l l' : Obl}, runDo P M env ops dms rest tm hp log os l = some (tm', hp', os', l') → OblOk l' → OblOk l ∧ runD P M env' ops dms rest tm hp log = some (tm', hp')
  | [], tm, tm', hp, hp', log, os, os', l, l', h, hl => by
    cases h
    exact ⟨hl, rfl⟩
  | o :: rest, tm, tm', hp, hp', log, os, os', l, l', h, hl => by
    rw [runDo] at h
    split at h
    · rename_i t hp1 R W os1 l1 hs
      split at h
      · rename_i hc
        obtain ⟨h1, h2⟩ := runDo_spec hle rest h hl
        rw [runD, stepO_spec hle hs (obl_l h1)]
        simp only [hc, if_true]
        exact ⟨obl_r h1, h2⟩
      · cases h
    · cases h
theorem runSo_spec (hle : EnvLe env env') : ∀ (rest : List Oper) {tm tm' : List TV} {hp hp' : List Ob} {os os' : Ora} {l l' : Obl}, runSo P M env ops rest tm hp os l = some (tm', hp', os', l') → OblOk l' → OblOk l ∧ runS P M env' ops rest tm hp = some (tm', hp')
  | [], tm, tm', hp, hp', os, os', l, l', h, hl => by
    cases h
    exact ⟨hl, rfl⟩
  | o :: rest, tm, tm', hp, hp', os, os', l, l', h, hl => by
    rw [runSo] at h
    split at h
    · rename_i t hp1 R W os1 l1 hs
      obtain ⟨h1, h2⟩ := runSo_spec hle rest h hl
      rw [runS, stepO_spec hle hs (obl_l h1)]
      exact ⟨obl_r h1, h2⟩
    · cases h
end
abbrev XO := Option (Ex × List TV × List Ob × Ora × Obl)
def iterO (cl : List TV → List Ob → Option (List TV × List Ob)) (body : List TV → List Ob → Ora → Obl → XO) : Nat → List TV → List Ob → Ora → Obl → XO
  | 0, _, _, _, _ => none
  | n + 1, tm, hp, os, l => match cl tm hp with
    | some (tm1, hp1) => match body tm1 hp1 os l with
      | some (.nor, tm2, hp2, os2, l2) => iterO cl body n tm2 hp2 os2 l2
      | x => x
    | none => none
def execO (P : Program) (M : Prm) (env : EnvT) (fu n0 : Nat) (hint : Nat → Option Hint) : Nat → Code → List TV → List Ob → Ora → Obl → XO
  | _, .skip, tm, hp, os, l => some (.nor, tm, hp, os, l)
  | _, .region _ ops draw, tm, hp, os, l => match draw with
    | true => match acyT ops with
      | true => match runDo P M env ops (depM ops.toList []) ops.toList tm hp [] os l with
        | some (tm, hp, os, l) => some (.nor, tm, hp, os, l)
        | none => none
      | false => none
    | false => match runSo P M env ops ops.toList tm hp os l with
      | some (tm, hp, os, l) => some (.nor, tm, hp, os, l)
      | none => none
  | b, .seq x y, tm, hp, os, l => match execO P M env fu n0 hint b x tm hp os l with
    | some (.nor, tm1, hp1, os1, l1) => execO P M env fu n0 hint b y tm1 hp1 os1 l1
    | r => r
  | b, .cond c x y, tm, hp, os, l => match dec (evT M.GL tm c) os with
    | some (true, os, l') => execO P M env fu n0 hint b x tm hp os (l' ++ l)
    | some (false, os, l') => execO P M env fu n0 hint b y tm hp os (l' ++ l)
    | none => none
  | _, .block id c, tm, hp, os, l => match execO P M env fu n0 hint id c tm hp os l with
    | some (.ext i, tm1, hp1, os1, l1) => match Nat.beq i id with
      | true => some (.nor, tm1, hp1, os1, l1)
      | false => some (.ext i, tm1, hp1, os1, l1)
    | r => r
  | b, .scope c, tm, hp, os, l => execO P M env fu n0 hint b c tm hp os l
  | b, .loop c, tm, hp, os, l => iterO (clean n0 (hint b)) (execO P M env fu n0 hint b c) fu tm hp os l
  | _, .exit id, tm, hp, os, l => some (.ext id, tm, hp, os, l)
  | _, .label _, tm, hp, os, l => some (.nor, tm, hp, os, l)
  | _, .ret, tm, hp, os, l => some (.ret, tm, hp, os, l)
  | _, _, _, _, _, _ => none
theorem execO_spec {P : Program} {M : Prm} {env env' : EnvT} {fu n0 : Nat} {hint : Nat → Option Hint} (hle : EnvLe env env') : ∀ (c : Code) (b : Nat) {tm tm' : List TV} {hp hp' : List Ob} {e : Ex} {os os' : Ora} {l l' : Obl}, execO P M env fu n0 hint b c tm hp os l = some (e, tm', hp', os', l') → OblOk l' → OblOk l ∧ exec P M env' fu n0 hint b c tm hp = some (e, tm', hp') := by
  intro c
  induction c with
  | region id ops draw =>
    intro b tm tm' hp hp' e os os' l l' h hl
    simp only [execO] at h
    simp only [exec]
    cases draw with
    | true =>
      simp only at h
      split at h
      · rename_i hac
        split at h
        · rename_i tm1 hp1 os1 l1 hr
          cases h
          obtain ⟨h1, h2⟩ := runDo_spec hle _ hr hl
          exact ⟨h1, by simp [hac, h2]⟩
        · cases h
      · cases h
    | false =>
      simp only at h
      split at h
      · rename_i tm1 hp1 os1 l1 hr
        cases h
        obtain ⟨h1, h2⟩ := runSo_spec hle _ hr hl
        exact ⟨h1, by simp [h2]⟩
      · cases h
  | seq x y ihx ihy =>
    intro b tm tm' hp hp' e os os' l l' h hl
    simp only [execO] at h
    simp only [exec]
    split at h
    · rename_i tm1 hp1 os1 l1 hx
      obtain ⟨h1, h2⟩ := ihy b h hl
      obtain ⟨h3, h4⟩ := ihx b hx h1
      rw [h4]
      exact ⟨h3, h2⟩
    · rename_i hne
      obtain ⟨h1, h2⟩ := ihx b h hl
      rw [h2]
      refine ⟨h1, ?_⟩
      split
      · rename_i heq
        cases heq
        exact absurd h (hne _ _ _ _)
      · rfl
  | cond c x y ihx ihy =>
    intro b tm tm' hp hp' e os os' l l' h hl
    simp only [execO] at h
    simp only [exec]
    split at h
    · rename_i os1 l1 hd
      obtain ⟨h1, h2⟩ := ihx b h hl
      rw [dec_spec hd (obl_l h1)]
      exact ⟨obl_r h1, h2⟩
    · rename_i os1 l1 hd
      obtain ⟨h1, h2⟩ := ihy b h hl
      rw [dec_spec hd (obl_l h1)]
      exact ⟨obl_r h1, h2⟩
    · cases h
  | block id c ih =>
    intro b tm tm' hp hp' e os os' l l' h hl
    simp only [execO] at h
    simp only [exec]
    split at h
    · rename_i i tm1 hp1 os1 l1 hx
      split at h
      · rename_i hb
        cases h
        obtain ⟨h1, h2⟩ := ih id hx hl
        rw [h2]
        exact ⟨h1, by simp only [Nat.eq_of_beq_eq_true hb, if_pos]⟩
      · rename_i hb
        cases h
        obtain ⟨h1, h2⟩ := ih id hx hl
        rw [h2]
        have : i ≠ id := fun e => by subst e; rw [Nat.beq_refl] at hb; cases hb
        exact ⟨h1, by simp only [if_neg this]⟩
    · rename_i hne
      obtain ⟨h1, h2⟩ := ih id h hl
      rw [h2]
      refine ⟨h1, ?_⟩
      split
      · rename_i heq
        cases heq
        exact absurd h (hne _ _ _ _ _)
      · rfl
  | scope c ih =>
    intro b tm tm' hp hp' e os os' l l' h hl
    simp only [execO] at h
    simp only [exec]
    exact ih b h hl
  | loop c ih =>
    intro b tm tm' hp hp' e os os' l l' h hl
    simp only [execO] at h
    simp only [exec]
    have key : ∀ (n : Nat) {tm tm' : List TV} {hp hp' : List Ob} {e : Ex} {os os' : Ora} {l l' : Obl}, iterO (clean n0 (hint b)) (execO P M env fu n0 hint b c) n tm hp os l = some (e, tm', hp', os', l') → OblOk l' → OblOk l ∧ iter (clean n0 (hint b)) (exec P M env' fu n0 hint b c) n tm hp = some (e, tm', hp') := by
      intro n
      induction n with
      | zero => intro tm tm' hp hp' e os os' l l' h; cases h
      | succ n ihn =>
        intro tm tm' hp hp' e os os' l l' h hl
        rw [iterO] at h
        rw [iter]
        split at h
        · rename_i tm1 hp1 hcl
          rw [hcl]
          simp only
          split at h
          · rename_i tm2 hp2 os2 l2 hx
            obtain ⟨h1, h2⟩ := ihn h hl
            obtain ⟨h3, h4⟩ := ih b hx h1
            rw [h4]
            exact ⟨h3, h2⟩
          · rename_i hne
            obtain ⟨h1, h2⟩ := ih b h hl
            rw [h2]
            refine ⟨h1, ?_⟩
            split
            · rename_i heq
              cases heq
              exact absurd h (hne _ _ _ _)
            · rfl
        · cases h
    exact key fu h hl
  | skip => intro b tm tm' hp hp' e os os' l l' h hl; simp only [execO] at h; cases h; exact ⟨hl, by simp only [exec]⟩
  | exit id => intro b tm tm' hp hp' e os os' l l' h hl; simp only [execO] at h; cases h; exact ⟨hl, by simp only [exec]⟩
  | label k => intro b tm tm' hp hp' e os os' l l' h hl; simp only [execO] at h; cases h; exact ⟨hl, by simp only [exec]⟩
  | ret => intro b tm tm' hp hp' e os os' l l' h hl; simp only [execO] at h; cases h; exact ⟨hl, by simp only [exec]⟩
  | _ => intro b tm tm' hp hp' e os os' l l' h hl; simp [execO] at h
def runO (P : Program) (M : Prm) (env : EnvT) (fu : Nat) (hint : FuncId → Nat → Option Hint) (f : FuncId) (args : List TV) (objs : List Ob) (os : Ora) : Option (TV × List Ob × Obl) :=
  match P.funcs[f]? with
  | some fn => match fn.body with
    | some c => match execO P { M with ban := M.bn f objs.length } env fu objs.length (hint f) 0 c (args ++ List.replicate (fn.ntmps - args.length) (.lf undef)) objs os [] with
      | some (.ext _, _, _, _, _) => none
      | some (_, tm, hp, _, l) => match resL P tm hp fn.results.toList with
        | some r => match (match M.resS f with | some ss => frR M.SH 60 ss hp r | none => some (r, hp)) with
          | some (r1, hp1) => match fin objs.length r1 hp1 with
            | some (r2, hp2) => some (r2, hp2, l)
            | none => none
          | none => none
        | none => none
      | none => none
    | none => none
  | none => none
theorem runO_spec {P : Program} {M : Prm} {env env' : EnvT} {fu : Nat} {hint : FuncId → Nat → Option Hint} (hle : EnvLe env env') {f : FuncId} {args : List TV} {objs objs' : List Ob} {os : Ora} {r : TV} {l : Obl} (h : runO P M env fu hint f args objs os = some (r, objs', l)) (hl : OblOk l) : runF P M env' fu hint f args objs = some (r, objs') := by
  unfold runO at h
  unfold runF
  split at h
  · rename_i fn hf
    rw [hf]
    split at h
    · rename_i c hc
      simp only [hc]
      split at h
      · cases h
      · rename_i e tm hp os1 l1 hne hx
        split at h
        · rename_i r0 hr0
          split at h
          · rename_i r1 hp1 hfz
            split at h
            · rename_i r2 hp2 hfin
              cases h
              obtain ⟨_, h2⟩ := execO_spec hle c 0 hx hl
              rw [h2]
              cases e with
              | ext i => exact absurd rfl (hne i)
              | nor =>
                simp only [hr0]
                cases hrs : M.resS f with
                | none => simp only [hrs] at hfz ⊢; cases hfz; exact hfin
                | some ss => simp only [hrs] at hfz ⊢; rw [hfz]; exact hfin
              | ret =>
                simp only [hr0]
                cases hrs : M.resS f with
                | none => simp only [hrs] at hfz ⊢; cases hfz; exact hfin
                | some ss => simp only [hrs] at hfz ⊢; rw [hfz]; exact hfin
            · cases h
          · cases h
        · cases h
      · cases h
    · cases h
  · cases h
end Go.Eng
end
