/-
  A machine on plain data, twenty-two: functions that it does not run itself.
-/
import Derived.Test.YtbmjdelpgkilcaaE11
set_option linter.unusedVariables false
section
set_option linter.unusedVariables false
set_option linter.unusedSimpArgs false
namespace Go.Eng
open Go.RowKit
def okL (P : Program) (f : FuncId) : Bool := match P.funcs[f]? with
  | some fn => fn.body.isSome && !(fn.name == "runtime.NumGoroutine")
  | none => false
theorem okL_ok (P : Program) : OkF P (okL P) := fun f h => by
  unfold okL at h
  split at h
  · rename_i fn hf
    rw [Bool.and_eq_true, Bool.not_eq_true'] at h
    obtain ⟨c, hc⟩ := Option.isSome_iff_exists.1 h.1
    exact ⟨fn, c, hf, hc, h.2⟩
  · cases h
section
variable {P : Program} {GL : Nat → Option (List Dt)} {G : Gh} {Z : Zn} {w w' : World} {hp : List Ob}
theorem stp_below {T : Nat → Prop} (hz : ∀ g o, Z g o → g < w.heap.size) (hb : Below w.heap.size w w') : Stp G G Z Z w w' T :=
  ⟨Gle.refl G, fun _ _ h => h, ⟨fun _ _ h => h, fun g o h => hb.cell (hz g o h)⟩, hb.mono (Nat.zero_le _), fun b hb' _ => hb.block b hb', fun id i b h1 h2 => .inr ⟨id, i, .inr rfl, h1, h2⟩, fun _ _ h => .inl h, fun g o h => Nat.lt_of_lt_of_le (hz g o h) hb.size⟩
theorem es_quiet {f : FuncId} {bn : Nat} {vs : List Value} {r : TV} (hI : Inv GL G Z w (HPl hp)) (h : Calls P f vs.toArray w fun e w' => ∃ v, e = .returned v ∧ Below w.heap.size w w' ∧ Rep G Z w' r v) :
    Calls P f vs.toArray w fun e w' => ∃ v G' Z', e = .returned v ∧ Stp G G' Z Z' w w' (TB bn) ∧ Inv GL G' Z' w' (HPl hp) ∧ Rep G' Z' w' r v := by
  refine h.mono ?_
  rintro e w' ⟨v, rfl, hb, hr⟩
  have hs : ∀ {T : Nat → Prop}, Stp G G Z Z w w' T := stp_below hI.zlt hb
  have res : Res G Z w hp.length hp 0 r G Z w' v := ⟨hs, hr, fun id ob h => (tt_none h).elim, fun id ob h => (tt_none h).elim, fun id id' ob ob' i i' b h => (tt_none h).elim, fun id i h => (tt_none h).elim⟩
  exact ⟨v, G, Z, rfl, hs, inv_full hI (ext_same (R := 0)) (fun id i h => (tt_none h).elim) res, hr⟩
end
end Go.Eng
end
