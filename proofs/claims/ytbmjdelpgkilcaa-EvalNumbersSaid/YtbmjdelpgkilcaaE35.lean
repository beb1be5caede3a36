/-
  A machine on plain data, thirty-five: calls of any depth, with functions that defer and that panic.
-/
import Derived.Test.YtbmjdelpgkilcaaE34
import Derived.Test.YtbmjdelpgkilcaaE17
set_option linter.unusedVariables false
section
set_option linter.unusedVariables false
set_option linter.unusedSimpArgs false
namespace Go.Eng
open Go.RowKit
noncomputable def callX (P : Program) (M : Prm) (base : EnvT) (df : FuncId → Bool) (fu : Nat) : Nat → EnvT × EnvT
  | 0 => (base, fun _ _ _ => none)
  | n + 1 => (fun f args objs => fyL args fun args => fyH objs fun objs => match base f args objs with
    | some (r, objs') => some (r, objs')
    | none => match df f with
      | true => runDf P M (callX P M base df fu n).1 (callX P M base df fu n).2 (runR P M (callX P M base df fu n).1 fu fun _ => noH) fu (fun _ => noH) f args objs
      | false => runQ P M (callX P M base df fu n).1 fu f args objs,
    fun f args objs => fyL args fun args => fyH objs fun objs => runP P M (callX P M base df fu n).1 (callX P M base df fu n).2 fu (fun _ => noH) f args objs)
theorem EnvLe.refl (env : EnvT) : EnvLe env env := fun _ _ _ _ h => h
theorem es_le {P : Program} {GL : Nat → Option (List Dt)} {bn : FuncId → Nat → Nat} {env env' : EnvT} (hle : EnvLe env env') (h : ES P GL bn env') : ES P GL bn env := fun f args objs r objs' he => h f args objs r objs' (hle _ _ _ _ he)
section
variable {P : Program} {M : Prm} {base : EnvT} {df : FuncId → Bool} {fu : Nat}
theorem callX_sound (hB : ES P M.GL M.bn base) (hF : OkF P M.okF) (hm : P.follows .mixedOrders = true) : ∀ n, ES P M.GL M.bn (callX P M base df fu n).1 ∧ ESP P M.GL M.bn (callX P M base df fu n).2
  | 0 => ⟨hB, fun f args objs r objs' h => by cases h⟩
  | n + 1 => by
    obtain ⟨h1, h2⟩ := callX_sound hB hF hm n
    refine ⟨fun f args objs r objs' h => ?_, fun f args objs r objs' h => ?_⟩
    · simp only [callX, fyL_eq, fyH_eq] at h
      split at h
      · rename_i r' o' hb
        cases h
        exact hB f args objs _ _ hb
      · split at h
        · exact runDf_sound h1 h2 (runR_sound h1 hF hm) hF hm f args objs r objs' h
        · exact runF_sound h1 hF hm f args objs r objs' (runQ_spec (EnvLe.refl _) _ _ _ _ h)
    · simp only [callX, fyL_eq, fyH_eq] at h
      exact runP_sound h1 h2 hF hm f args objs r objs' h
end
end Go.Eng
end
