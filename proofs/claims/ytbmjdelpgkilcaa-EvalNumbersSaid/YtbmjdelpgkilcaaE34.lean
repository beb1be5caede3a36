/-
  A machine on plain data, thirty-four: functions that defer a call; calls of any depth, with these.
-/
import Derived.Test.YtbmjdelpgkilcaaE33
set_option linter.unusedVariables false
section
set_option linter.unusedVariables false
set_option linter.unusedSimpArgs false
namespace Go.Eng
open Go.RowKit
def isDef : Code → Option (Array Oper × List Oper × Operand × List Operand)
  | .region _ ops false => match ops.toList.reverse with
    | { dst := none, op := .defer { callee := .value q, args := az, argTypes := _ }, guard := none, .. } :: os => some (ops, os.reverse, q, az.toList)
    | _ => none
  | _ => none
def deferAt (P : Program) (M : Prm) (env : EnvT) (fu n0 : Nat) (hint : Nat → Option Hint) : List Code → List TV → List Ob → Option (List TV × List Ob × (FuncId × List TV) × List Code)
  | [], _, _ => none
  | c :: l, tm, hp => match isDef c with
    | some (ops, os, q, az) => match runS P M env ops os tm hp with
      | some (tm1, hp1) => match evT M.GL tm1 q with
        | .fn g x y => if M.okF g = true then some (tm1, hp1, (g, x ++ az.map (evT M.GL tm1) ++ y), l) else none
        | _ => none
      | none => none
    | none => match exec P M env fu n0 hint 0 c tm hp with
      | some (.nor, tm1, hp1) => deferAt P M env fu n0 hint l tm1 hp1
      | _ => none
def behD (P : Program) (M : Prm) (env envP : EnvT) (fu n0 : Nat) (hint : Nat → Option Hint) (l : List Code) (tm : List TV) (hp : List Ob) : Option (Option Value × List TV × List Ob) :=
  match exL P M env fu n0 hint l tm hp with
  | some (_, tm1, hp1) => some (none, tm1, hp1)
  | none => match exLP P M env envP fu n0 hint l tm hp with
    | some (.lf u, tm1, hp1) => some (some u, tm1, hp1)
    | _ => none
def runDf (P : Program) (M : Prm) (env envP : EnvT) (envD : EnvD) (fu : Nat) (hint : FuncId → Nat → Option Hint) : EnvT := fun f args objs =>
  match P.funcs[f]? with
  | some fn => match fn.body with
    | some c => match deferAt P { M with ban := M.bn f objs.length } env fu objs.length (hint f) (flat c) (args0 fn args) objs with
      | some (tm1, hp1, (g, xs), l) => match behD P { M with ban := M.bn f objs.length } env envP fu hp1.length (hint f) l tm1 hp1 with
        | some (m, tm2, hp2) => match absCallF (envD m) (M.bn g) hp2 g xs with
          | some (_, hp3, R, W) => if objs.length ≤ hp1.length ∧ (W ||| newM hp2.length hp3.length) &&& M.bn f objs.length = 0 then (match resL P tm2 hp3 fn.results.toList with
            | some r => fin objs.length r hp3
            | none => none) else none
          | none => none
        | none => none
      | none => none
    | none => none
  | none => none
structure FnV (G : Gh) (Z : Zn) (w : World) (g : FuncId) (xs : List TV) (d : Deferred) : Prop where
  ex : ∃ va vb az : List Value, d = { target := .fn (.func g) vb.toArray, args := (va ++ az).toArray } ∧ RepL G Z w xs (va ++ az ++ vb)
section
variable {P : Program} {M : Prm} {env envP : EnvT} {envD : EnvD} {ops : Array Oper} {fu n0 : Nat} {hint : Nat → Option Hint} {G0 : Gh} {Z0 : Zn} {w0 : World}
theorem isDef_iff {c : Code} {ops : Array Oper} {os : List Oper} {q : Operand} {xs : List Operand} (h : isDef c = some (ops, os, q, xs)) : ∃ id o ats xa, c = .region id ops false ∧ ops.toList = os ++ [o] ∧ o.dst = none ∧ o.guard = none ∧ o.op = .defer { callee := .value q, args := xa, argTypes := ats } ∧ xs = xa.toList := by
  unfold isDef at h
  split at h
  · rename_i id ops'
    split at h
    · rename_i e
      cases h
      have := congrArg List.reverse e
      rw [List.reverse_reverse, List.reverse_cons] at this
      exact ⟨id, _, _, _, rfl, this, rfl, rfl, rfl, rfl⟩
    · cases h
  · cases h
theorem deferAt_sound (hE : ES P M.GL M.bn env) (hF : OkF P M.okF) (hm : P.follows .mixedOrders = true) (hb : ∀ id, n0 ≤ id → TB M.ban id) (hn0 : ∀ id i, G0 id = some i → id < n0) {Q : Exit → Act → World → Prop} {tm1 : List TV} {hp1 : List Ob} {g : FuncId} {xs : List TV} {l' : List Code} : ∀ (l : List Code) {G : Gh} {Z : Zn} {w : World} {a : Act} {tm : List TV} {hp : List Ob}, deferAt P M env fu n0 hint l tm hp = some (tm1, hp1, (g, xs), l') → SR M G Z w a tm hp → a.defers = [] → Stp G0 G Z0 Z w0 w (TB M.ban) →
    (∀ a G Z w d, M.okF g = true → SR M G Z w a tm1 hp1 → a.defers = [d] → FnV G Z w g xs d → Stp G0 G Z0 Z w0 w (TB M.ban) → wpL P Q l' a w) → wpL P Q l a w
  | [], G, Z, w, a, tm, hp, h, hs, hd, hst, hQ => by cases h
  | c :: l, G, Z, w, a, tm, hp, h, hs, hd, hst, hQ => by
    rw [deferAt] at h
    rw [wpL]
    split at h
    · rename_i ops os q az hdef
      obtain ⟨id, o, ats, xa, rfl, hol, hod, hog, hoo, rfl⟩ := isDef_iff hdef
      split at h
      · rename_i tmx hpx hrs
        split at h
        · rename_i g' x y hq
          split at h
          · rename_i hok
            cases h
            refine wp_region ?_
            have hsz : ops.size = os.length + 1 := by rw [← Array.length_toList, hol]; simp
            have hlast : ops[os.length]? = some o := by rw [← Array.getElem?_toList, hol]; simp
            have : List.range ops.size = List.range' 0 os.length ++ [os.length] := by
              rw [hsz, List.range_succ, List.range_eq_range']
            rw [this]
            refine runS_tail hE hF os 0 (fun k o' hk => ?_) hrs hs hd hst fun a2 G2 Z2 w2 hs2 hd2 hst2 => ?_
            · rw [Nat.zero_add, ← Array.getElem?_toList, hol, List.getElem?_append_left (List.getElem?_eq_some_iff.1 hk).1]; exact hk
            · have hv := eval_rep (x := q) hs2.inv.glo hs2.siz fun t z _ hz => hs2.tmp t z hz
              rw [hq, Rep] at hv
              obtain ⟨va, vb, hv, h1, h2⟩ := hv
              have hargs : RepL G2 Z2 w2 (x ++ xa.toList.map (evT M.GL tm1) ++ y) (va ++ xa.toList.map a2.eval ++ vb) := repl_app (repl_app h1 (repl_map _ fun z hz => eval_rep hs2.inv.glo hs2.siz fun t z _ hz => hs2.tmp t z hz)) h2
              rw [wpOps_cons]
              unfold wpOp
              rw [hlast]
              simp only
              have hwt : Region.wanted o (yielded ops a2.tmps) = true := by unfold Region.wanted; rw [hog]
              rw [hwt, if_pos rfl]
              have hrun : (execOp a2.eval o).run P w2 = .ok (.defer { target := .fn (.func g) vb.toArray, args := (va ++ xa.toList.map a2.eval).toArray }) w2 := by
                have e : va.toArray ++ xa.map a2.eval = (va ++ xa.toList.map a2.eval).toArray := by apply Array.ext'; simp
                unfold execOp
                simp only [hoo, resolve, hv, Deferred.ofValue, Sem.run_bind, Sem.run_pure, Result.andThen_ok, e]
              left
              unfold Oper.wp
              rw [hrun, Oper.upon_defer, hod]
              show wpL P Q l' _ w2
              exact hQ _ G2 Z2 w2 _ hok ⟨hs2.inv, hs2.siz, hs2.tmp⟩ (by show _ :: a2.defers = _; rw [hd2]) ⟨va, vb, _, rfl, hargs⟩ hst2
          · cases h
        · cases h
      · cases h
    · split at h
      · rename_i tm2 hp2 hx
        refine wp_mono (exec_sound hE hF hm hb hn0 c 0 hx hs hd hst) ?_
        rintro e a' w' ⟨G', Z', he, h1, h2, h3⟩
        cases e <;> simp only [exM] at he
        exact deferAt_sound hE hF hm hb hn0 l h h1 h2 h3 hQ
      · cases h
end
section
variable {P : Program} {M : Prm} {env envP : EnvT} {envD : EnvD} {fu : Nat} {hint : FuncId → Nat → Option Hint}
theorem settle_to (m : Option Value) : settle (modeTo m) = .returning := by
  cases m <;> simp [modeTo, settle]
theorem modeOf_run (m : Option Value) : modeOf m ≠ .run := by cases m <;> simp [modeOf]
theorem runDf_sound (hE : ES P M.GL M.bn env) (hEP : ESP P M.GL M.bn envP) (hED : ESD P M.GL M.bn envD) (hF : OkF P M.okF) (hm : P.follows .mixedOrders = true) : ES P M.GL M.bn (runDf P M env envP envD fu hint) := by
  intro f args objs r objs' h w G Z vs hI hr
  unfold runDf at h
  split at h
  · rename_i fn hf
    split at h
    · rename_i c hb
      split at h
      · rename_i tm1 hp1 g xs l hda
        split at h
        · rename_i m tm2 hp2 hbd
          split at h
          · rename_i _ rr hp3 R W hcall
            split at h
            · rename_i hlb
              obtain ⟨hle0, hban⟩ := hlb
              split at h
              · rename_i r0 hres
                refine calls_of_wp_defers hf hb (flat_wp0 ?_)
                refine deferAt_sound (M := { M with ban := M.bn f objs.length }) hE hF hm (fun id h => bn_new h) (hn0_of hI) _ hda (sr_args hI hr) rfl (Stp.refl hI.zlt) ?_
                intro a1 G1 Z1 w1 d hok hs1 hd1 hfv hst1
                have fin' : ∀ {a2 : Act} {G2 : Gh} {Z2 : Zn} {w2 : World}, SR { M with ban := M.bn f objs.length } G2 Z2 w2 a2 tm2 hp2 → Stp G1 G2 Z1 Z2 w1 w2 (TB (M.bn f objs.length)) → Leaves P fn a2.tmps (fun e w' => ∃ v G' Z', e = .returned v ∧ Stp G G' Z Z' w w' (TB (M.bn f objs.length)) ∧ Inv M.GL G' Z' w' (HPl objs') ∧ Rep G' Z' w' r v) [d] (modeOf m) w2 := fun {a2 G2 Z2 w2} hs2 hst2 => by
                  obtain ⟨va, vb, az', rfl, hrep⟩ := hfv.ex
                  have hrep2 : RepL G2 Z2 w2 xs (va ++ az' ++ vb) := hrep.keep hst2.gle hst2.kp
                  obtain ⟨fn', c', hf', hb', hname⟩ := hF g hok
                  refine leaves_cons (modeOf_run m) (f := g) (args := (va ++ az' ++ vb).toArray) ?_ ?_
                  · have hne : ¬ fn'.name = "runtime.NumGoroutine" := by simpa using hname
                    have e : (va ++ az').toArray ++ vb.toArray = (va ++ az' ++ vb).toArray := by apply Array.ext'; simp
                    simp only [invoke, callFunc, e]
                    simp [program, Sem.run, hf', hb', hne]
                  · refine (calls_absD (m := m) hED hs2.inv (fun id h1 _ => fresh_of hs2 id h1) (fun id ob _ hob => hob) hcall hrep2).mono ?_
                    rintro e u' w3 ⟨v, G3, Z3, rfl, rfl, res⟩
                    show Leaves P fn a2.tmps _ [] (settle (modeTo m)) w3
                    rw [settle_to]
                    have hs3 := sr_next (d := none) hs2 (ext_call hcall) (call_live hcall) res
                    have hs3 : SR { M with ban := M.bn f objs.length } G3 Z3 w3 a2 tm2 hp3 := hs3
                    obtain ⟨u, hu1, hu2⟩ := resL_run hs3 hres
                    have hTB : ∀ id, TT W hp2.length hp3.length id → TB (M.bn f objs.length) id := fun id hT => by
                      have h1 : (W ||| newM hp2.length hp3.length).testBit id = true := by
                        rw [Nat.testBit_or, Bool.or_eq_true]
                        rcases hT with hT | hT
                        · exact .inl hT
                        · exact .inr ((newM_iff (by omega)).2 hT)
                      have h2 := Nat.testBit_and (W ||| newM hp2.length hp3.length) (M.bn f objs.length) id
                      rw [hban, h1, Nat.zero_testBit, Bool.true_and] at h2
                      exact h2.symm
                    have hst3 : Stp G G3 Z Z3 w w3 (TB (M.bn f objs.length)) := (hst1.trans hst2).trans (res.stp.mono hTB)
                    obtain ⟨G4, k1, k2, k3⟩ := fin_sound (fun id h => bn_new h) (hn0_of hI) h hs3.inv hst3 hu2
                    exact ⟨u, hu1, u, G4, Z3, rfl, k1, k2, k3⟩
                have hn1 : ∀ id i, G1 id = some i → id < hp1.length := hn0_of hs1.inv
                have hb1 : ∀ id, hp1.length ≤ id → TB (M.bn f objs.length) id := fun id h => bn_new (Nat.le_trans hle0 h)
                unfold behD at hbd
                split at hbd
                · rename_i ex tmx hpx hx
                  cases hbd
                  refine wpL_mono l (exL_sound (M := { M with ban := M.bn f objs.length }) hE hF hm hb1 hn1 l hx hs1 hd1 (Stp.refl hs1.inv.zlt)) ?_
                  rintro e a2 w2 ⟨G2, Z2, he, hs2, hd2, hst2⟩
                  have body := fin' hs2 hst2
                  rw [← hd2] at body
                  cases ex <;> cases e <;> simp only [exM] at he
                  · exact body
                  · exfalso; exact exL_ext l hx
                  · exact body
                · split at hbd
                  · rename_i u tmx hpx hx
                    cases hbd
                    refine wpL_mono l (exLP_sound (M := { M with ban := M.bn f objs.length }) hE hEP hF hm hb1 hn1 l hx hs1 hd1 (Stp.refl hs1.inv.zlt)) ?_
                    rintro e a2 w2 ⟨G2, Z2, v, rfl, hv, hs2, hd2, hst2⟩
                    have body := fin' hs2 hst2
                    rw [← hd2] at body
                    rw [rep_lf.1 hv]
                    exact body
                  · cases hbd
              · cases h
            · cases h
          · cases h
        · cases h
      · cases h
    · cases h
  · cases h
end
end Go.Eng
end
