/-
  EvalNumbers by the machine: for all numbers.
-/
import Derived.Test.YtbmjdelpgkilcaaY9
import Derived.Test.YtbmjdelpgkilcaaX6
set_option linter.unusedVariables false
section
set_option linter.unusedVariables false
set_option linter.unusedSimpArgs false
namespace Go.Eng
open Go.RowKit Go.Proofs
def bzE : EnvT := fun f args objs => match f, args, objs with
  | 10, [], [] => some (.lf (.bool true), [])
  | _, _, _ => none
theorem bas_bzE : Bas bzE := ⟨fun f args objs h => by
  unfold bzE
  split
  · exact absurd rfl h
  · rfl, rfl⟩
theorem bzE_es : ES Try.prog glz Mp.bn bzE := by
  intro f args objs r objs' h w G Z vs hI hr
  unfold bzE at h
  split at h
  · cases h
    have := x_es 40 10 [] [] _ _ lives_runs w G Z vs hI hr
    rw [show Mz.bn 10 ([] : List Ob).length = 0 by show (if _ then 0 else _) = 0; split <;> simp] at this
    rw [mp_bn]
    exact this
  · cases h
set_option maxRecDepth 100000 in
theorem law_es : ES Try.prog glz Mp.bn (Cn bzE 7) := by
  have := cn_es (bz2 := bzE) (by rw [mp_gl]; exact bzE_es) mixT 7
  rw [mp_gl] at this
  exact this
def Zw (W : World) : Zn := fun g _ => g < W.heap.size
theorem inv_start (W : World) : Inv glz (fun _ => none) (Zw W) W (HPl []) := ⟨fun id ob h => by have h : ([] : List Ob)[id]? = some ob := h; simp at h, fun id ob h => by have h : ([] : List Ob)[id]? = some ob := h; simp at h, fun id id' ob ob' i i' b h => by have h : ([] : List Ob)[id]? = some ob := h; simp at h, fun id i h => (by cases h), fun g o h => h, fun g cs h => by cases h⟩
theorem evalNumbers_any (W : World) (a b : Int) (ha : -9223372036854775808 ≤ a ∧ a ≤ 9223372036854775807) (hb : -9223372036854775808 ≤ b ∧ b ≤ 9223372036854775807) :
    Calls Try.prog 3 #[.int .i64 a, .int .i64 b] W fun e W' => e = .returned (.bool true) ∧ Below W.heap.size W W' := by
  have := law_es _ _ _ _ _ (main_any bas_bzE 0 a b ha hb) W (fun _ => none) (Zw W) [.int .i64 a, .int .i64 b] (inv_start W) (repl_cons.2 ⟨_, _, rfl, rep_lf.2 rfl, repl_cons.2 ⟨_, _, rfl, rep_lf.2 rfl, repl_nil.2 rfl⟩⟩)
  refine this.mono ?_
  rintro e W' ⟨v, G', Z', rfl, hst, _, hr⟩
  rw [rep_lf.1 hr]
  exact ⟨rfl, ⟨hst.bel.os, hst.bel.tape, hst.bel.output, hst.bel.size, fun k hk => hst.far k hk fun id i _ h => (by cases h)⟩⟩
end Go.Eng
end
