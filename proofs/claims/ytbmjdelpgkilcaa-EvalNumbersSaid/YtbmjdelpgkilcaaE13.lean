/-
  A machine on plain data, twenty-three: rounds.
-/
import Derived.Test.YtbmjdelpgkilcaaE12
set_option linter.unusedVariables false
section
set_option linter.unusedVariables false
set_option linter.unusedSimpArgs false
namespace Go.Eng
abbrev Cl := List TV → List Ob → Option (List TV × List Ob)
abbrev Bd := List TV → List Ob → XR
def rnd (cl : Cl) (body : Bd) (tm : List TV) (hp : List Ob) : XR := match body tm hp with
  | some (.nor, t, h) => (match cl t h with | some (t', h') => some (.nor, t', h') | none => none)
  | x => x
def itc (cl : Cl) (body : Bd) : Nat → List TV → List Ob → XR
  | 0, _, _ => none
  | k + 1, tm, hp => match rnd cl body tm hp with
    | some (.nor, t, h) => itc cl body k t h
    | x => x
theorem itc_nor {cl : Cl} {body : Bd} {k : Nat} {tm t : List TV} {hp h : List Ob} (hr : rnd cl body tm hp = some (.nor, t, h)) : itc cl body (k + 1) tm hp = itc cl body k t h := by rw [itc, hr]
theorem itc_ext {cl : Cl} {body : Bd} {k i : Nat} {tm t : List TV} {hp h : List Ob} (hr : rnd cl body tm hp = some (.ext i, t, h)) : itc cl body (k + 1) tm hp = some (.ext i, t, h) := by rw [itc, hr]
theorem itc_ret {cl : Cl} {body : Bd} {k : Nat} {tm t : List TV} {hp h : List Ob} (hr : rnd cl body tm hp = some (.ret, t, h)) : itc cl body (k + 1) tm hp = some (.ret, t, h) := by rw [itc, hr]
theorem iter_of {cl : Cl} {body : Bd} : ∀ {k : Nat} {tm t : List TV} {hp h : List Ob} {r : Ex × List TV × List Ob}, cl tm hp = some (t, h) → itc cl body k t h = some r → iter cl body k tm hp = some r
  | 0, tm, t, hp, h, r, _, hi => by cases hi
  | k + 1, tm, t, hp, h, r, hc, hi => by
    rw [iter, hc]
    rw [itc] at hi
    unfold rnd at hi
    simp only
    rcases hb : body t h with _ | ⟨e, t2, h2⟩
    · rw [hb] at hi; cases hi
    · rw [hb] at hi
      cases e with
      | nor =>
        simp only at hi ⊢
        rcases hc2 : cl t2 h2 with _ | ⟨t3, h3⟩
        · rw [hc2] at hi; cases hi
        · rw [hc2] at hi
          exact iter_of hc2 hi
      | ext i => exact hi
      | ret => exact hi
def bod (P : Program) (M : Prm) (env : EnvT) (fu n0 : Nat) (hint : Nat → Option Hint) (b : Nat) (c : Code) : Bd := exec P M env fu n0 hint b c
section
variable {P : Program} {M : Prm} {env : EnvT} {fu n0 : Nat} {hint : Nat → Option Hint} {b : Nat} {tm : List TV} {hp : List Ob}
theorem ex_skip : exec P M env fu n0 hint b .skip tm hp = some (.nor, tm, hp) := rfl
theorem ex_plain {id : Nat} {ops : Array Oper} : exec P M env fu n0 hint b (.region id ops false) tm hp = (runS P M env ops ops.toList tm hp).map fun s => (.nor, s.1, s.2) := rfl
theorem ex_drawn {id : Nat} {ops : Array Oper} : exec P M env fu n0 hint b (.region id ops true) tm hp = if acyT ops = true then (runD P M env ops (depM ops.toList []) ops.toList tm hp []).map fun s => (.nor, s.1, s.2) else none := rfl
theorem ex_seq {x y : Code} : exec P M env fu n0 hint b (.seq x y) tm hp = match exec P M env fu n0 hint b x tm hp with
    | some (.nor, tm1, hp1) => exec P M env fu n0 hint b y tm1 hp1
    | r => r := rfl
theorem ex_cond {c : Operand} {x y : Code} : exec P M env fu n0 hint b (.cond c x y) tm hp = match evT M.GL tm c with
    | .lf (.bool true) => exec P M env fu n0 hint b x tm hp
    | .lf (.bool false) => exec P M env fu n0 hint b y tm hp
    | _ => none := rfl
theorem ex_block {id : Nat} {c : Code} : exec P M env fu n0 hint b (.block id c) tm hp = match exec P M env fu n0 hint id c tm hp with
    | some (.ext i, tm1, hp1) => if i = id then some (.nor, tm1, hp1) else some (.ext i, tm1, hp1)
    | r => r := rfl
theorem ex_scope {c : Code} : exec P M env fu n0 hint b (.scope c) tm hp = exec P M env fu n0 hint b c tm hp := rfl
theorem ex_loop {c : Code} : exec P M env fu n0 hint b (.loop c) tm hp = iter (clean n0 (hint b)) (bod P M env fu n0 hint b c) fu tm hp := rfl
theorem ex_exit {id : Nat} : exec P M env fu n0 hint b (.exit id) tm hp = some (.ext id, tm, hp) := rfl
theorem ex_label {l : Nat} : exec P M env fu n0 hint b (.label l) tm hp = some (.nor, tm, hp) := rfl
theorem ex_ret : exec P M env fu n0 hint b .ret tm hp = some (.ret, tm, hp) := rfl
end
end Go.Eng
end
