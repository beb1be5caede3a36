/-
  The evaluator's operations by the machine: a function from the middle on.
-/
import Derived.Test.YtbmjdelpgkilcaaY6
set_option linter.unusedVariables false
section
set_option linter.unusedVariables false
set_option linter.unusedSimpArgs false
set_option maxRecDepth 20000
namespace Go.Eng
open Go.Proofs
def endF (P : Program) (rs : List ResultVar) (n0 : Nat) (x : XR) : Option (TV × List Ob) := match x with
  | some (.ext _, _, _) => none
  | some (_, tm, hp) => (match resL P tm hp rs with | some r => fin n0 r hp | none => none)
  | none => none
def runC (P : Program) (M : Prm) (env : EnvT) (fu n0 : Nat) (hint : Nat → Option Hint) (rs : List ResultVar) (c : Code) (tm : List TV) (hp : List Ob) (os : Ora) : Option (TV × List Ob × Obl) :=
  match execO P M env fu n0 hint 0 c tm hp os [] with
  | some (.ext _, _, _, _, _) => none
  | some (_, tm, hp, _, l) => match resL P tm hp rs with
    | some r => match fin n0 r hp with
      | some (r2, hp2) => some (r2, hp2, l)
      | none => none
    | none => none
  | none => none
theorem runC_spec {P : Program} {M : Prm} {env env' : EnvT} {fu n0 : Nat} {hint : Nat → Option Hint} {rs : List ResultVar} {c : Code} {tm : List TV} {hp objs' : List Ob} {os : Ora} {r : TV} {l : Obl} (hle : EnvLe env env') (h : runC P M env fu n0 hint rs c tm hp os = some (r, objs', l)) (hl : OblOk l) : endF P rs n0 (exec P M env' fu n0 hint 0 c tm hp) = some (r, objs') := by
  unfold runC at h
  unfold endF
  split at h
  · cases h
  · rename_i e tm1 hp1 os1 l1 hne hx
    split at h
    · rename_i r0 hr0
      split at h
      · rename_i r2 hp2 hfin
        cases h
        obtain ⟨_, h2⟩ := execO_spec hle c 0 hx hl
        rw [h2]
        cases e with
        | ext i => exact absurd rfl (hne i)
        | nor => simp only [hr0, hfin]
        | ret => simp only [hr0, hfin]
      · cases h
    · cases h
  · cases h
def seqL : Code → Code
  | .seq x _ => x
  | c => c
def seqR : Code → Code
  | .seq _ y => y
  | c => c
theorem Cn_end {bz2 : EnvT} {f : FuncId} {fn : Func} {c : Code} {args : List TV} {objs : List Ob} (n : Nat) (hB : bz2 f args objs = none) (hf : Try.prog.funcs[f]? = some fn) (hb : fn.body = some c) (hd : dfy f = false) : Cn bz2 (n + 1) f args objs = endF Try.prog fn.results.toList objs.length (exec Try.prog Mp (En bz2 n) 1000000 objs.length (hz f) 0 c (args ++ List.replicate (fn.ntmps - args.length) (.lf undef)) objs) := by
  rw [Cn_fn n hB hf hb hd]
  rfl
end Go.Eng
end
