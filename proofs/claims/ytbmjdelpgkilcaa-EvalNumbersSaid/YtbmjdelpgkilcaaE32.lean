/-
  A machine on plain data, thirty-two: functions that panic.
-/
import Derived.Test.YtbmjdelpgkilcaaE31
set_option linter.unusedVariables false
section
set_option linter.unusedVariables false
set_option linter.unusedSimpArgs false
namespace Go.Eng
open Go.RowKit
def args0 (fn : Func) (args : List TV) : List TV := args ++ List.replicate (fn.ntmps - args.length) (.lf undef)
def runP (P : Program) (M : Prm) (env envP : EnvT) (fu : Nat) (hint : FuncId → Nat → Option Hint) : EnvT := fun f args objs =>
  match P.funcs[f]? with
  | some fn => match fn.body with
    | some c => match execP P { M with ban := M.bn f objs.length } env envP fu objs.length (hint f) 0 c (args0 fn args) objs with
      | some (x, _, hp) => fin objs.length x hp
      | none => none
    | none => none
  | none => none
def callP (P : Program) (M : Prm) (env : Nat → EnvT) (fu : Nat) (hint : FuncId → Nat → Option Hint) : Nat → EnvT
  | 0 => fun _ _ _ => none
  | n + 1 => runP P M (env n) (callP P M env fu hint n) fu hint
section
variable {P : Program} {M : Prm} {env envP : EnvT} {fu : Nat} {hint : FuncId → Nat → Option Hint}
theorem sr_args {fn : Func} {G : Gh} {Z : Zn} {w : World} {args : List TV} {vs : List Value} {objs : List Ob} {ban : Nat} {d : List Deferred} (hI : Inv M.GL G Z w (HPl objs)) (hr : RepL G Z w args vs) : SR { M with ban := ban } G Z w { tmps := vs.toArray ++ Array.replicate (fn.ntmps - vs.toArray.size) undef, defers := d } (args0 fn args) objs := by
  have hlen := repl_len hr
  refine ⟨hI, by simp [hlen, args0], fun t x hx => ?_⟩
  have hRL : RepL G Z w (args ++ List.replicate (fn.ntmps - args.length) (.lf undef)) (vs ++ List.replicate (fn.ntmps - args.length) undef) := repl_app hr (repl_of (by simp) fun i t v h1 h2 => by
    rw [List.getElem?_replicate] at h1 h2
    split at h1
    · rename_i hh
      rw [if_pos hh] at h2
      cases h1; cases h2
      exact rep_lf.2 rfl
    · cases h1)
  obtain ⟨v, h1, h2⟩ := repl_get hRL hx
  have e : (vs.toArray ++ Array.replicate (fn.ntmps - vs.toArray.size) undef).getD t undef = v := by
    have : (vs.toArray ++ Array.replicate (fn.ntmps - vs.toArray.size) undef) = (vs ++ List.replicate (fn.ntmps - args.length) undef).toArray := by
      rw [List.size_toArray, hlen]; simp
    rw [this, Array.getD_eq_getD_getElem?]
    simp only [List.getElem?_toArray, h1, Option.getD_some]
  rw [e]; exact h2
theorem hn0_of {GL : Nat → Option (List Dt)} {G : Gh} {Z : Zn} {w : World} {objs : List Ob} (hI : Inv GL G Z w (HPl objs)) : ∀ id i, G id = some i → id < objs.length := fun id i hi => by
  obtain ⟨ob, ho⟩ := hI.dom id i hi
  exact (List.getElem?_eq_some_iff.1 ho).1
theorem fin_sound {GL : Nat → Option (List Dt)} {G G' : Gh} {Z Z' : Zn} {w w' : World} {objs hp objs' : List Ob} {r x : TV} {v : Value} {ban : Nat} (hb : ∀ id, objs.length ≤ id → TB ban id) (hn0 : ∀ id i, G id = some i → id < objs.length) (h : fin objs.length x hp = some (r, objs')) (hI : Inv GL G' Z' w' (HPl hp)) (hst : Stp G G' Z Z' w w' (TB ban)) (hv : Rep G' Z' w' x v) : ∃ G'', Stp G G'' Z Z' w w' (TB ban) ∧ Inv GL G'' Z' w' (HPl objs') ∧ Rep G'' Z' w' r v := by
  unfold fin at h
  simp only at h
  generalize reach hp (4 * hp.length + 4) (((hp.take objs.length).map idsO).flatten ++ ids x) (List.range objs.length) = L at h
  split at h
  · rename_i hc
    obtain ⟨⟨hcl, hid⟩, htk⟩ := hc
    obtain ⟨hnd, hex, hclo⟩ := closed0_iff hcl
    cases h
    refine ⟨Gsub G' L, sub_stp hb hn0 hnd htk hst, hI.sub hnd (fun id ob _ ho => ho) hex hclo, Rep.ren (fun i y hi hx => ?_) hv⟩
    have := List.all_eq_true.1 hid i hi
    rw [gsub_idx (by simpa using this)]; exact hx
  · cases h
theorem runP_sound (hE : ES P M.GL M.bn env) (hEP : ESP P M.GL M.bn envP) (hF : OkF P M.okF) (hm : P.follows .mixedOrders = true) : ESP P M.GL M.bn (runP P M env envP fu hint) := by
  intro f args objs r objs' h w G Z vs hI hr
  unfold runP at h
  split at h
  · rename_i fn hf
    split at h
    · rename_i c hb
      split at h
      · rename_i x tm hp hx
        refine calls_of_wp hf hb ?_
        refine wp_mono (execP_sound (M := { M with ban := M.bn f objs.length }) hE hEP hF hm (fun id h => bn_new h) (hn0_of hI) c 0 hx (sr_args hI hr) rfl (Stp.refl hI.zlt)) ?_
        rintro e a' w' ⟨G', Z', v, rfl, hv, hs', hd', hst'⟩
        obtain ⟨G'', k1, k2, k3⟩ := fin_sound (fun id h => bn_new h) (hn0_of hI) h hs'.inv hst' hv
        exact ⟨hd', v, G'', Z', rfl, k1, k2, k3⟩
      · cases h
    · cases h
  · cases h
theorem callP_sound {env : Nat → EnvT} (hE : ∀ n, ES P M.GL M.bn (env n)) (hF : OkF P M.okF) (hm : P.follows .mixedOrders = true) : ∀ n, ESP P M.GL M.bn (callP P M env fu hint n)
  | 0 => fun f args objs r objs' h => by cases h
  | n + 1 => runP_sound (hE n) (callP_sound hE hF hm n) hF hm
end
end Go.Eng
end
