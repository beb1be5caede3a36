/-
  A machine on plain data, thirty-one: what panics.
-/
import Derived.Test.YtbmjdelpgkilcaaE30
set_option linter.unusedVariables false
section
set_option linter.unusedVariables false
set_option linter.unusedSimpArgs false
namespace Go.Eng
open Go.RowKit
def ESP (P : Program) (GL : Nat → Option (List Dt)) (bn : FuncId → Nat → Nat) (env : EnvT) : Prop := ∀ f args objs r objs', env f args objs = some (r, objs') → ∀ (w : World) (G : Gh) (Z : Zn) (vs : List Value), Inv GL G Z w (HPl objs) → RepL G Z w args vs →
  Calls P f vs.toArray w fun e w' => ∃ v G' Z', e = .panicked [{ v := v, recovered := false }] ∧ Stp G G' Z Z' w w' (TB (bn f objs.length)) ∧ Inv GL G' Z' w' (HPl objs') ∧ Rep G' Z' w' r v
section
variable {P : Program} {GL : Nat → Option (List Dt)} {G : Gh} {Z : Zn} {w : World} {HP : Nat → Ob → Prop} {tm : List TV} {hp : List Ob} {o : Oper} {a : Act} {env : EnvT} {bn : FuncId → Nat → Nat}
theorem calls_absP {f : FuncId} {args : List TV} {r : TV × List Ob × Nat × Nat} {vs : List Value} (hE : ESP P GL bn env) (hI : Inv GL G Z w HP) (hn : ∀ id, hp.length ≤ id → id < r.2.1.length → G id = none) (hh : ∀ id ob, (r.2.2.1 ||| r.2.2.2).testBit id = true → hp[id]? = some ob → HP id ob) (h : absCallF env (bn f) hp f args = some r) (ha : RepL G Z w args vs) :
    Calls P f vs.toArray w fun e w' => ∃ v G' Z', e = .panicked [{ v := v, recovered := false }] ∧ Res G Z w hp.length r.2.1 r.2.2.2 r.1 G' Z' w' v := by
  unfold absCallF at h
  generalize reach hp (4 * hp.length + 4) (idsL args) [] = L at h
  simp only at h
  split at h
  · rename_i hc
    obtain ⟨hcl, hids⟩ := hc
    obtain ⟨hnd, hex, hclo⟩ := closed_iff hcl
    split at h
    · rename_i res objs' hcall
      split at h
      · rename_i hlen
        cases h
        simp only at hn hh ⊢
        have hlt : ∀ id ∈ L, id < hp.length := fun id hid => by
          obtain ⟨ob, ho, _⟩ := hex id hid
          exact (List.getElem?_eq_some_iff.1 ho).1
        have hHP : ∀ id ob, id ∈ L → hp[id]? = some ob → HP id ob := fun id ob hid ho => hh id ob (by rw [Nat.testBit_or, mask_iff.2 hid, Bool.true_or]) ho
        have hI1 := hI.sub (hp := hp) hnd hHP (fun id hid => by obtain ⟨ob, ho, _⟩ := hex id hid; exact ⟨ob, ho⟩) hclo
        have ha1 : RepL (Gsub G L) Z w (renL (idx L) args) vs := ha.ren fun i x hi hx => by
          have := List.all_eq_true.1 hids i hi
          rw [gsub_idx (by simpa using this)]; exact hx
        refine (hE f _ _ _ _ hcall w _ Z vs hI1 ha1).mono ?_
        rintro e w' ⟨v, G1, Z', rfl, hs, hI', hr⟩
        rw [List.length_map] at hs
        obtain ⟨B, hB⟩ : ∃ B, B = bn f L.length := ⟨_, rfl⟩
        rw [← hB] at hs hn hh ⊢
        have hn' : (mergeH hp objs' L B).length = hp.length + (objs'.length - L.length) := merge_len hp objs' L B
        have backL : ∀ {i id : Nat}, L[i]? = some id → backO L hp.length i = id := fun {i id} hi => by unfold backO; rw [hi]
        have backN : ∀ {i : Nat}, L.length ≤ i → backO L hp.length i = hp.length + (i - L.length) := fun {i} hi => by unfold backO; rw [List.getElem?_eq_none hi]
        have hG2b : ∀ i, i < objs'.length → Gback G G1 L hp.length (mergeH hp objs' L B).length (backO L hp.length i) = G1 i := fun i hi => by
          unfold Gback
          by_cases hiL : i < L.length
          · have h1 : L[i]? = some L[i] := List.getElem?_eq_getElem hiL
            rw [backL h1, if_pos (List.getElem_mem hiL), idx_of hnd h1]
          · rw [backN (by omega), if_neg (fun hm => by have := hlt _ hm; omega), if_pos ⟨by omega, by omega⟩]
            congr 1; omega
        have hG1 : ∀ i x, G1 i = some x → i < objs'.length := fun i x hx => by
          obtain ⟨ob, ho⟩ := hI'.dom i x hx
          exact (List.getElem?_eq_some_iff.1 ho).1
        have hren : ∀ i x, G1 i = some x → Gback G G1 L hp.length (mergeH hp objs' L B).length (backO L hp.length i) = some x := fun i x hx => by rw [hG2b i (hG1 i x hx)]; exact hx
        have inT : ∀ id, TT (mask (alw L B)) hp.length (mergeH hp objs' L B).length id → ∃ i, (i < objs'.length ∧ (i < L.length → B.testBit i = false)) ∧ backO L hp.length i = id := fun id hT => by
          rcases hT with hT | ⟨h1, h2⟩
          · obtain ⟨hm, hb⟩ := alw_iff.1 (mask_iff.1 hT)
            exact ⟨idx L id, ⟨Nat.lt_of_lt_of_le (idx_lt hm) hlen, fun _ => hb⟩, backL (idx_get hm)⟩
          · exact ⟨id - hp.length + L.length, ⟨by omega, fun h => by omega⟩, by rw [backN (by omega)]; omega⟩
        have binj : ∀ i j, i < objs'.length → j < objs'.length → backO L hp.length i = backO L hp.length j → i = j := fun i j hi hj e => by
          by_cases hiL : i < L.length <;> by_cases hjL : j < L.length
          · rw [backL (List.getElem?_eq_getElem hiL), backL (List.getElem?_eq_getElem hjL)] at e
            exact (List.getElem?_inj hiL hnd).1 (by rw [List.getElem?_eq_getElem hiL, List.getElem?_eq_getElem hjL, e])
          · rw [backL (List.getElem?_eq_getElem hiL), backN (by omega)] at e
            have := hlt _ (List.getElem_mem hiL); omega
          · rw [backN (by omega), backL (List.getElem?_eq_getElem hjL)] at e
            have := hlt _ (List.getElem_mem hjL); omega
          · rw [backN (by omega), backN (by omega)] at e
            omega
        have getM : ∀ i, i < objs'.length ∧ (i < L.length → B.testBit i = false) → ∀ ob, (mergeH hp objs' L B)[backO L hp.length i]? = some ob → ∃ ob', objs'[i]? = some ob' ∧ ob = renO (backO L hp.length) ob' := fun i ⟨hi, hb⟩ ob ho => by
          unfold mergeH at ho
          by_cases hiL : i < L.length
          · have h1 : L[i]? = some L[i] := List.getElem?_eq_getElem hiL
            have h2 := hlt _ (List.getElem_mem hiL)
            rw [backL h1, List.getElem?_append_left (by simpa using h2), List.getElem?_map, List.getElem?_range h2] at ho
            simp only [Option.map_some, Option.some.injEq] at ho
            rw [idx_of hnd h1, if_pos ⟨by simp, hb hiL⟩, List.getD_eq_getElem?_getD, List.getElem?_eq_getElem hi] at ho
            exact ⟨_, List.getElem?_eq_getElem hi, ho.symm⟩
          · rw [backN (by omega), List.getElem?_append_right (by simp), List.getElem?_map, List.getElem?_drop] at ho
            simp only [List.length_map, List.length_range] at ho
            rw [show L.length + (hp.length + (i - L.length) - hp.length) = i by omega, List.getElem?_eq_getElem hi] at ho
            simp only [Option.map_some, Option.some.injEq] at ho
            exact ⟨_, List.getElem?_eq_getElem hi, ho.symm⟩
        have out : ∀ id, ¬ TT (mask (alw L B)) hp.length (mergeH hp objs' L B).length id → Gback G G1 L hp.length (mergeH hp objs' L B).length id = G id := fun id hT => by
          unfold Gback
          by_cases hm : id ∈ L
          · rw [if_pos hm]
            have hb : ¬ TB B (idx L id) := fun hb => hT (.inl (mask_iff.2 (alw_iff.2 ⟨hm, hb⟩)))
            cases hg : G id with
            | none => exact hs.none_ _ hb (by rw [gsub_idx hm]; exact hg)
            | some x => exact hs.gle _ x (by rw [gsub_idx hm]; exact hg)
          · rw [if_neg hm, if_neg (fun hm => hT (.inr hm))]
        have old : ∀ id x, id ∈ L → (Gsub G L (idx L id) = some x ↔ G id = some x) := fun id x hid => by rw [gsub_idx hid]
        refine ⟨v, Gback G G1 L hp.length (mergeH hp objs' L B).length, Z', rfl, ?_⟩
        refine ⟨⟨?_, ?_, hs.kp, hs.bel, ?_, ?_, ?_, hs.zlt⟩, hr.ren fun i x _ hx => hren i x hx, ?_, ?_, ?_, ?_⟩
        · intro id x hx
          by_cases hm : id ∈ L
          · have k1 := hs.gle (idx L id) x ((old id x hm).2 hx)
            unfold Gback; rw [if_pos hm]; exact k1
          · have hnn : ¬ (hp.length ≤ id ∧ id < (mergeH hp objs' L B).length) := fun hm2 => by rw [hn id hm2.1 hm2.2] at hx; cases hx
            unfold Gback; rw [if_neg hm, if_neg hnn]; exact hx
        · intro id hT hx; rw [out id hT]; exact hx
        · intro b hb hT
          refine hs.far b hb fun i x hi hx => ?_
          unfold Gsub at hx
          cases hL : L[i]? with
          | none => rw [hL] at hx; cases hx
          | some id =>
            rw [hL] at hx
            exact hT id x (.inl (mask_iff.2 (alw_iff.2 ⟨List.mem_of_getElem? hL, by rw [idx_of hnd hL]; exact hi⟩))) hx
        · intro id x b hx hb
          by_cases hT : TT (mask (alw L B)) hp.length (mergeH hp objs' L B).length id
          · obtain ⟨i, hi, rfl⟩ := inT id hT
            rw [hG2b i hi.1] at hx
            rcases hs.nb i x b hx hb with k | ⟨j, y, k0, k1, k2⟩
            · exact .inl k
            · right
              unfold Gsub at k1
              cases hL : L[j]? with
              | none => rw [hL] at k1; cases k1
              | some id =>
                rw [hL] at k1
                refine ⟨id, y, ?_, k1, k2⟩
                rcases k0 with k0 | rfl
                · exact .inl (.inl (mask_iff.2 (alw_iff.2 ⟨List.mem_of_getElem? hL, by rw [idx_of hnd hL]; exact k0⟩)))
                · exact .inr (backL hL).symm
          · rw [out id hT] at hx
            exact .inr ⟨id, x, .inr rfl, hx, hb⟩
        · intro b x hz
          rcases hs.zn b x hz with k | k | ⟨i, y, k0, k1, k2⟩
          · exact .inl k
          · exact .inr (.inl k)
          · unfold Gsub at k1
            cases hL : L[i]? with
            | none => rw [hL] at k1; cases k1
            | some id =>
              rw [hL] at k1
              exact .inr (.inr ⟨id, y, .inl (mask_iff.2 (alw_iff.2 ⟨List.mem_of_getElem? hL, by rw [idx_of hnd hL]; exact k0⟩)), k1, k2⟩)
        · intro id ob hT ho
          obtain ⟨i, hi, rfl⟩ := inT id hT
          obtain ⟨ob', k1, rfl⟩ := getM i hi ob ho
          exact Good.ren (fun j x _ hx => hren j x hx) (fun x hx => hren i x hx) (hI'.good i ob' k1)
        · intro id ob hT ho
          obtain ⟨i, hi, rfl⟩ := inT id hT
          obtain ⟨ob', k1, rfl⟩ := getM i hi ob ho
          exact NoZ.ren (hG2b i hi.1) (hI'.free i ob' k1)
        · intro id id' ob ob' x x' b hT hT' o1 l1 o2 l2 h1 h2 h3 h4
          obtain ⟨i, hi, rfl⟩ := inT id hT
          obtain ⟨j, hj, rfl⟩ := inT id' hT'
          obtain ⟨oa, p1, rfl⟩ := getM i hi ob o1
          obtain ⟨oc, p2, rfl⟩ := getM j hj ob' o2
          rw [live_ren] at l1 l2
          rw [hG2b i hi.1] at h1
          rw [hG2b j hj.1] at h2
          rw [hI'.dist i j oa oc x x' b p1 l1 p2 l2 h1 h2 h3 h4]
        · intro id x hT hx
          have hlt2 : id < (mergeH hp objs' L B).length := by
            rcases hT with hT | hT
            · have := hlt _ (alw_iff.1 (mask_iff.1 hT)).1; omega
            · exact hT.2
          exact ⟨_, List.getElem?_eq_getElem hlt2⟩
      · cases h
    · cases h
  · cases h
end
def absPan (M : Prm) (env : EnvT) (tm : List TV) (hp : List Ob) (o : Oper) : AR :=
  match o.op with
  | .panic x => match evT M.GL tm x with
    | .lf (.iface t v) => some (.lf (.iface t v), hp, 0, 0)
    | _ => none
  | .call { callee := .builtin .panic, args := args, argTypes := _ } => match args.toList with
    | [x] => match evT M.GL tm x with
      | .lf (.iface t v) => some (.lf (.iface t v), hp, 0, 0)
      | _ => none
    | _ => none
  | .call { callee := .value q, args := args, argTypes := _ } => absCall M env tm hp q args.toList
  | _ => none
def stepP (P : Program) (M : Prm) (env : EnvT) (ops : Array Oper) (tm : List TV) (hp : List Ob) (o : Oper) : AR :=
  match wantT ops tm o with
  | some true => match absPan M env tm hp o with
    | some (t, hp', R, W) => if (W ||| newM hp.length hp'.length) &&& M.ban = 0 then some (t, hp', R, W) else none
    | none => none
  | _ => none
section
variable {P : Program} {M : Prm} {env envP : EnvT} {ops : Array Oper} {G : Gh} {Z : Zn} {w : World} {HP : Nat → Ob → Prop} {tm : List TV} {hp : List Ob} {o : Oper} {a : Act} {r : TV × List Ob × Nat × Nat}
theorem pan_ext (h : absPan M envP tm hp o = some r) : Ext2 hp r := by
  unfold absPan at h
  split at h
  · split at h
    · cases h; exact ext_same
    · cases h
  · split at h
    · split at h
      · cases h; exact ext_same
      · cases h
    · cases h
  · unfold absCall at h
    split at h
    · split at h
      · exact ext_call h
      · cases h
    · cases h
  · cases h
theorem pan_live (h : absPan M envP tm hp o = some r) : ∀ id, r.2.2.2.testBit id = true → ∃ ob, hp[id]? = some ob ∧ ob.live = true := by
  unfold absPan at h
  split at h
  · split at h
    · cases h; exact lv0
    · cases h
  · split at h
    · split at h
      · cases h; exact lv0
      · cases h
    · cases h
  · unfold absCall at h
    split at h
    · split at h
      · exact call_live h
      · cases h
    · cases h
  · cases h
theorem pan_sound (hE : ESP P M.GL M.bn envP) (hF : OkF P M.okF) (hI : Inv M.GL G Z w HP) (h : absPan M envP tm hp o = some r) (hop : ∀ x ∈ o.op.operands, Rep G Z w (evT M.GL tm x) (a.eval x)) (hn : ∀ id, hp.length ≤ id → id < r.2.1.length → G id = none) (hh : ∀ id ob, (r.2.2.1 ||| r.2.2.2).testBit id = true → hp[id]? = some ob → HP id ob)
    {K : Act → World → Prop} {Q : Exit → Act → World → Prop} (hQ : ∀ v G' Z' w', Res G Z w hp.length r.2.1 r.2.2.2 r.1 G' Z' w' v → Q (.panic [{ v := v, recovered := false }]) a w') : o.wp P a w K Q := by
  unfold absPan at h
  split at h
  · rename_i x ho
    split at h
    · rename_i t v hx
      cases h
      have hv := hop x (by rw [ho]; simp [Op.operands])
      rw [hx] at hv
      have hv := rep_lf.1 hv
      unfold Oper.wp
      have hrun : (execOp a.eval o).run P w = .halt (.panic (.iface t v)) w := by
        unfold execOp
        simp only [ho, hv, Instr.panic]
        rfl
      rw [hrun, Oper.upon_panic]
      exact hQ _ G Z w (res_pure hI (rep_lf.2 rfl))
    · cases h
  · rename_i args ats ho
    split at h
    · rename_i x hargs
      split at h
      · rename_i t v hx
        cases h
        have hxm : x ∈ args := by
          have : x ∈ args.toList := by rw [hargs]; simp
          simpa using this
        have hv := hop x (by rw [ho]; simp [Op.operands, Call.operands, hxm])
        rw [hx] at hv
        have hv := rep_lf.1 hv
        unfold Oper.wp
        have hrun : (execOp a.eval o).run P w = .halt (.panic (.iface t v)) w := by
          have ha : args = #[x] := by
            obtain ⟨l⟩ := args
            simp only at hargs
            rw [hargs]
          subst ha
          unfold execOp
          simp only [ho, resolve, Sem.run_bind, Sem.run_pure, Result.andThen_ok, invoke, builtin, Instr.panic]
          simp [hv, Instr.panic]
        rw [hrun, Oper.upon_panic]
        exact hQ _ G Z w (res_pure hI (rep_lf.2 rfl))
      · cases h
    · cases h
  · rename_i q args ats ho
    unfold absCall at h
    split at h
    · rename_i f x y hq
      split at h
      · rename_i hok
        have hq' := hop q (by rw [ho]; simp [Op.operands, Call.operands])
        rw [hq, Rep] at hq'
        obtain ⟨va, vb, hv, h1, h2⟩ := hq'
        obtain ⟨fn, c, hf, hb, hname⟩ := hF f hok
        have hargs : RepL G Z w (x ++ args.toList.map (evT M.GL tm) ++ y) (va ++ args.toList.map a.eval ++ vb) := repl_app (repl_app h1 (repl_map _ fun z hz => hop z (by rw [ho]; simp [Op.operands, Call.operands]; exact .inr (by simpa using hz)))) h2
        have hrun : (execOp a.eval o).run P w = .ok (.enter f (va ++ args.toList.map a.eval ++ vb).toArray) w := by
          unfold execOp
          simp only [ho, resolve, hv, Deferred.ofValue, Sem.run_bind, Sem.run_pure, Result.andThen_ok, invoke, callFunc]
          have hne : ¬ fn.name = "runtime.NumGoroutine" := by simpa using hname
          have e : va.toArray ++ (Array.map a.eval args ++ vb.toArray) = (va ++ (List.map a.eval args.toList ++ vb)).toArray := by apply Array.ext'; simp
          simp [program, Sem.run, hf, hb, hne, e]
        unfold Oper.wp
        rw [hrun, Oper.upon_enter]
        refine (calls_absP hE hI hn hh h hargs).mono ?_
        rintro e w' ⟨v, G', Z', rfl, hres⟩
        exact hQ v G' Z' w' hres
      · cases h
    · cases h
  · cases h
theorem stepP_op (h : stepP P M envP ops tm hp o = some r) : wantT ops tm o = some true ∧ absPan M envP tm hp o = some r ∧ (r.2.2.2 ||| newM hp.length r.2.1.length) &&& M.ban = 0 := by
  unfold stepP at h
  split at h
  · rename_i hw
    split at h
    · rename_i ho
      split at h
      · rename_i hb
        cases h
        exact ⟨hw, ho, hb⟩
      · cases h
    · cases h
  · cases h
theorem stepP_ban (h : stepP P M envP ops tm hp o = some r) : ∀ id, TT r.2.2.2 hp.length r.2.1.length id → TB M.ban id := by
  obtain ⟨_, _, hb⟩ := stepP_op h
  intro id hT
  have h1 : (r.2.2.2 ||| newM hp.length r.2.1.length).testBit id = true := by
    rw [Nat.testBit_or, Bool.or_eq_true]
    rcases hT with hT | hT
    · exact .inl hT
    · exact .inr ((newM_iff (by omega)).2 hT)
  have h2 := Nat.testBit_and (r.2.2.2 ||| newM hp.length r.2.1.length) M.ban id
  rw [hb, h1, Nat.zero_testBit, Bool.true_and] at h2
  exact h2.symm
end
def badL : List Lg → List TV → List TV
  | [], tm => tm
  | l :: ls, tm => badL ls (match l.dst with | some d => tm.set d .bad | none => tm)
abbrev PR := Option (TV × List TV × List Ob)
def firstP (P : Program) (M : Prm) (env envP : EnvT) (ops : Array Oper) (dms : List Nat) : List Oper → List TV → List Ob → List Lg → PR
  | [], _, _, _ => none
  | o :: os, tm, hp, log => match stepT P M env ops tm hp o with
    | some (t, hp', R, W) => if chk (dms.getD log.length 0) log ⟨o.dst, lookT ops o, R, W ||| newM hp.length hp'.length⟩ = true then firstP P M env envP ops dms os (putT tm o.dst t) hp' (log ++ [⟨o.dst, lookT ops o, R, W ||| newM hp.length hp'.length⟩]) else none
    | none => match stepP P M envP ops tm hp o with
      | some (x, hp', R, W) => if cutOk ops dms log.length (lookT ops o) log = true then some (x, badL log tm, hp') else none
      | none => none
def firstS (P : Program) (M : Prm) (env envP : EnvT) (ops : Array Oper) : List Oper → List TV → List Ob → PR
  | [], _, _ => none
  | o :: os, tm, hp => match stepT P M env ops tm hp o with
    | some (t, hp', R, W) => firstS P M env envP ops os (putT tm o.dst t) hp'
    | none => match stepP P M envP ops tm hp o with
      | some (x, hp', R, W) => some (x, tm, hp')
      | none => none
def iterP (cl : List TV → List Ob → Option (List TV × List Ob)) (body : List TV → List Ob → XR) (bodyP : List TV → List Ob → PR) : Nat → List TV → List Ob → PR
  | 0, _, _ => none
  | n + 1, tm, hp => match cl tm hp with
    | some (tm1, hp1) => match body tm1 hp1 with
      | some (.nor, tm2, hp2) => iterP cl body bodyP n tm2 hp2
      | some _ => none
      | none => bodyP tm1 hp1
    | none => none
def execP (P : Program) (M : Prm) (env envP : EnvT) (fu n0 : Nat) (hint : Nat → Option Hint) : Nat → Code → List TV → List Ob → PR
  | _, .region _ ops draw, tm, hp => if draw = true then (if acyT ops = true then firstP P M env envP ops (depM ops.toList []) ops.toList tm hp [] else none) else firstS P M env envP ops ops.toList tm hp
  | b, .seq x y, tm, hp => match exec P M env fu n0 hint b x tm hp with
    | some (.nor, tm1, hp1) => execP P M env envP fu n0 hint b y tm1 hp1
    | some _ => none
    | none => execP P M env envP fu n0 hint b x tm hp
  | b, .cond c x y, tm, hp => match evT M.GL tm c with
    | .lf (.bool true) => execP P M env envP fu n0 hint b x tm hp
    | .lf (.bool false) => execP P M env envP fu n0 hint b y tm hp
    | _ => none
  | _, .block id c, tm, hp => execP P M env envP fu n0 hint id c tm hp
  | b, .scope c, tm, hp => execP P M env envP fu n0 hint b c tm hp
  | b, .loop c, tm, hp => iterP (clean n0 (hint b)) (exec P M env fu n0 hint b c) (execP P M env envP fu n0 hint b c) fu tm hp
  | _, _, _, _ => none
def BehP (M : Prm) (G0 : Gh) (Z0 : Zn) (w0 : World) (d0 : List Deferred) (r : TV × List TV × List Ob) (e : Exit) (a : Act) (w : World) : Prop := ∃ G Z v, e = .panic [{ v := v, recovered := false }] ∧ Rep G Z w r.1 v ∧ SR M G Z w a r.2.1 r.2.2 ∧ a.defers = d0 ∧ Stp G0 G Z0 Z w0 w (TB M.ban)
section
variable {P : Program} {M : Prm} {env envP : EnvT} {ops : Array Oper} {fu n0 : Nat} {hint : Nat → Option Hint} {G0 : Gh} {Z0 : Zn} {w0 : World} {d0 : List Deferred}
theorem firstP_cut {dms : List Nat} {r : TV × List TV × List Ob} : ∀ (rest : List Oper) {tm : List TV} {hp : List Ob} {log : List Lg}, firstP P M env envP ops dms rest tm hp log = some r → ∃ (p : Nat) (o : Oper) (tm' : List TV) (hp' : List Ob) (log' : List Lg) (q : TV × List Ob × Nat × Nat), rest[p]? = some o ∧ runL P M env ops dms (rest.take p) tm hp log = some (tm', hp', log') ∧ log'.length = log.length + p ∧ stepP P M envP ops tm' hp' o = some q ∧ cutOk ops dms (log.length + p) (lookT ops o) log' = true ∧ r = (q.1, badL log' tm', q.2.1)
  | [], tm, hp, log, h => by cases h
  | o :: os, tm, hp, log, h => by
    rw [firstP] at h
    split at h
    · rename_i t hp' R W hs
      split at h
      · rename_i hc
        obtain ⟨p, o', tm', hp'', log', q, h1, h2, h3, h4, h5, h6⟩ := firstP_cut os h
        refine ⟨p + 1, o', tm', hp'', log', q, by simpa using h1, ?_, by rw [h3]; simp; omega, h4, ?_, h6⟩
        · rw [List.take_succ_cons, runL, hs]
          simp only [hc, if_true]
          exact h2
        · rw [List.length_append, List.length_singleton] at h5
          rwa [show log.length + (p + 1) = log.length + 1 + p by omega]
      · cases h
    · split at h
      · rename_i x hp' R W hs
        split at h
        · rename_i hc
          cases h
          exact ⟨0, o, tm, hp, log, _, rfl, rfl, rfl, hs, hc, rfl⟩
        · cases h
      · cases h
theorem badL_len : ∀ (l : List Lg) (tm : List TV), (badL l tm).length = tm.length
  | [], tm => rfl
  | l :: ls, tm => by rw [badL, badL_len ls]; split <;> simp
theorem badL_get : ∀ (l : List Lg) {tm : List TV} {t : Nat} {y : TV}, (badL l tm)[t]? = some y → y = .bad ∨ ((∀ k, k < l.length → (l.getD k ⟨none, [], 0, 0⟩).dst ≠ some t) ∧ tm[t]? = some y)
  | [], tm, t, y, h => .inr ⟨fun k hk => by simp at hk, h⟩
  | l :: ls, tm, t, y, h => by
    rw [badL] at h
    rcases badL_get ls h with h1 | ⟨h1, h2⟩
    · exact .inl h1
    · by_cases hd : l.dst = some t
      · left
        rw [hd] at h2
        simp only [List.getElem?_set_self'] at h2
        cases htm : tm[t]? with
        | none => rw [htm] at h2; cases h2
        | some z => rw [htm] at h2; simpa using h2.symm
      · right
        refine ⟨fun k hk => ?_, ?_⟩
        · cases k with
          | zero => exact hd
          | succ k => simpa using h1 k (by simpa using hk)
        · cases hl : l.dst with
          | none => rw [hl] at h2; exact h2
          | some d =>
            rw [hl] at h2 hd
            rwa [List.getElem?_set_ne (fun e => hd (by rw [e]))] at h2
theorem firstS_sound (hE : ES P M.GL M.bn env) (hEP : ESP P M.GL M.bn envP) (hF : OkF P M.okF) {Q : Exit → Act → World → Prop} {r : TV × List TV × List Ob} : ∀ (rest : List Oper) (i : Nat) {G : Gh} {Z : Zn} {w : World} {a : Act} {tm : List TV} {hp : List Ob}, (∀ k, rest[k]? = ops[i + k]?) → firstS P M env envP ops rest tm hp = some r → SR M G Z w a tm hp → a.defers = d0 → Stp G0 G Z0 Z w0 w (TB M.ban) →
    (∀ e a w, BehP M G0 Z0 w0 d0 r e a w → Q e a w) → wpOps P ops Q (List.range' i rest.length) a w
  | [], i, G, Z, w, a, tm, hp, hr, h, hs, hd, hst, hQ => by cases h
  | o :: os, i, G, Z, w, a, tm, hp, hr, h, hs, hd, hst, hQ => by
    rw [firstS] at h
    have ho : ops[i]? = some o := by have := hr 0; simpa using this.symm
    rw [List.length_cons, List.range'_succ, wpOps_cons]
    split at h
    · rename_i t hp1 R W hstp
      have next : ∀ {v : Value} {G' : Gh} {Z' : Zn} {w' : World}, Res G Z w hp.length hp1 W t G' Z' w' v → wpOps P ops Q (List.range' (i + 1) os.length) (a.put o.dst v) w' := fun {v G' Z' w'} res =>
        firstS_sound hE hEP hF os (i + 1) (fun k => by have := hr (k + 1); rwa [List.getElem?_cons_succ, show i + (k + 1) = i + 1 + k by omega] at this) h (sr_next hs (step_ext hstp) (step_live hstp) res) (by rw [Act.put_defs, hd]) (hst.trans (res.stp.mono (step_ban hstp))) hQ
      unfold wpOp
      rw [ho]
      simp only
      rcases step_op hstp with ⟨hwt, hstp', _⟩ | ⟨hwt, hstp'⟩
      · rw [want_rep hs.siz (fun t y _ hy => hs.tmp t y hy) hwt, if_pos rfl]
        exact .inl (op_sound hE hF hs.inv hstp' (fun x hx => eval_rep hs.inv.glo hs.siz fun t y _ hy => hs.tmp t y hy) (fun id h1 _ => fresh_of hs id h1) (fun id ob _ hob => hob) fun v G' Z' w' res => next res)
      · rw [want_rep hs.siz (fun t y _ hy => hs.tmp t y hy) hwt]
        simp only [Bool.false_eq_true, if_false]
        cases hstp'
        exact next (G' := G) (Z' := Z) (res_pure hs.inv (rep_lf.2 rfl))
    · split at h
      · rename_i x hp' R W hstp
        cases h
        obtain ⟨hwt, hpan, _⟩ := stepP_op hstp
        unfold wpOp
        rw [ho]
        simp only
        rw [want_rep hs.siz (fun t y _ hy => hs.tmp t y hy) hwt, if_pos rfl]
        refine .inl (pan_sound hEP hF hs.inv hpan (fun x hx => eval_rep hs.inv.glo hs.siz fun t y _ hy => hs.tmp t y hy) (fun id h1 _ => fresh_of hs id h1) (fun id ob _ hob => hob) fun v G' Z' w' res => hQ _ _ _ ⟨G', Z', v, rfl, res.rep, ?_, hd, hst.trans (res.stp.mono (stepP_ban hstp))⟩)
        exact sr_next (d := none) hs (pan_ext hpan) (pan_live hpan) res
      · cases h
theorem firstP_sound (hE : ES P M.GL M.bn env) (hEP : ESP P M.GL M.bn envP) (hF : OkF P M.okF) (hm : P.follows .mixedOrders = true) (hac : acyT ops = true) {id : Nat} {G : Gh} {Z : Zn} {w : World} {a : Act} {tm : List TV} {hp : List Ob} {r : TV × List TV × List Ob} (h : firstP P M env envP ops (depM ops.toList []) ops.toList tm hp [] = some r) (hs : SR M G Z w a tm hp) (hd : a.defers = d0) (hst : Stp G0 G Z0 Z w0 w (TB M.ban)) : (Code.region id ops true).wp P (BehP M G0 Z0 w0 d0 r) a w := by
  obtain ⟨p, o, tm', hp', log', q, h1, h2, h3, h4, h5, rfl⟩ := firstP_cut _ h
  simp only [List.length_nil, Nat.zero_add] at h3 h5
  have ho : ops[p]? = some o := by simpa using h1
  refine region_cut hE hF hm hac hs ho h2 h5 fun a' G' Z' w' hI hsz hT _ hdf hst' => ?_
  obtain ⟨hwt, hpan, _⟩ := stepP_op h4
  have hT1 : ∀ t y, t ∈ lookT ops o → tm'[t]? = some y → Rep G' Z' w' y (a'.tmps.getD t undef) := fun t y ht hy => hT t y (.inl ht) hy
  have hs' : SR M G' Z' w' a' (badL log' tm') hp' := ⟨hI, by rw [badL_len]; exact hsz, fun t y hy => by
    rcases badL_get _ hy with rfl | ⟨k1, k2⟩
    · exact rep_bad
    · exact hT t y (.inr fun k hk => k1 k (by omega)) k2⟩
  unfold wpOp
  rw [ho]
  simp only
  rw [want_rep hsz hT1 hwt, if_pos rfl]
  refine .inl (pan_sound hEP hF hI hpan (fun x hx => eval_rep hI.glo hsz fun t y e hy => hT1 t y (mem_look (e ▸ hx)) hy) (fun id h1 _ => fresh_l hI id h1) (fun id ob _ hob => hob) fun v G2 Z2 w2 res => ⟨G2, Z2, v, rfl, res.rep, ?_, hdf.trans hd, (hst.trans hst').trans (res.stp.mono (stepP_ban h4))⟩)
  exact sr_next (d := none) hs' (pan_ext hpan) (pan_live hpan) res
theorem execP_sound (hE : ES P M.GL M.bn env) (hEP : ESP P M.GL M.bn envP) (hF : OkF P M.okF) (hm : P.follows .mixedOrders = true) (hb : ∀ id, n0 ≤ id → TB M.ban id) (hn0 : ∀ id i, G0 id = some i → id < n0) : ∀ (c : Code) (b : Nat) {G : Gh} {Z : Zn} {w : World} {a : Act} {tm : List TV} {hp : List Ob} {r : TV × List TV × List Ob}, execP P M env envP fu n0 hint b c tm hp = some r → SR M G Z w a tm hp → a.defers = d0 → Stp G0 G Z0 Z w0 w (TB M.ban) → c.wp P (BehP M G0 Z0 w0 d0 r) a w := by
  intro c
  induction c with
  | region id ops draw =>
    intro b G Z w a tm hp r h hs hd hst
    simp only [execP] at h
    split at h
    · rename_i hdr
      subst hdr
      split at h
      · rename_i hac
        exact firstP_sound hE hEP hF hm hac h hs hd hst
      · cases h
    · rename_i hdr
      have hdr : draw = false := by simpa using hdr
      subst hdr
      refine wp_region ?_
      have := firstS_sound (ops := ops) (Q := BehP M G0 Z0 w0 d0 r) hE hEP hF ops.toList 0 (fun k => by simp) h hs hd hst fun e a w h => h
      rwa [Array.length_toList, ← List.range_eq_range'] at this
  | seq x y ihx ihy =>
    intro b G Z w a tm hp r h hs hd hst
    simp only [execP] at h
    split at h
    · rename_i tm1 hp1 hx
      refine wp_seq (wp_mono (exec_sound hE hF hm hb hn0 x b hx hs hd hst) ?_)
      rintro e a' w' ⟨G', Z', he, h1, h2, h3⟩
      cases e <;> simp only [exM] at he
      exact ihy b h h1 h2 h3
    · cases h
    · refine wp_seq (wp_mono (ihx b h hs hd hst) ?_)
      rintro e a' w' ⟨G', Z', v, rfl, h1, h2, h3, h4⟩
      exact ⟨G', Z', v, rfl, h1, h2, h3, h4⟩
  | cond c x y ihx ihy =>
    intro b G Z w a tm hp r h hs hd hst
    simp only [execP] at h
    have hc := eval_rep (x := c) hs.inv.glo hs.siz fun t z _ hz => hs.tmp t z hz
    split at h
    · rename_i e
      rw [e] at hc
      exact wp_cond_true (rep_lf.1 hc) (ihx b h hs hd hst)
    · rename_i e
      rw [e] at hc
      exact wp_cond_false (rep_lf.1 hc) (ihy b h hs hd hst)
    · cases h
  | block id c ih =>
    intro b G Z w a tm hp r h hs hd hst
    simp only [execP] at h
    refine wp_block (wp_mono (ih id h hs hd hst) ?_)
    rintro e a' w' ⟨G', Z', v, rfl, h1, h2, h3, h4⟩
    exact ⟨G', Z', v, rfl, h1, h2, h3, h4⟩
  | loop c ih =>
    intro b G Z w a tm hp r h hs hd hst
    simp only [execP] at h
    have key : ∀ (n : Nat) {G : Gh} {Z : Zn} {w : World} {a : Act} {tm : List TV} {hp : List Ob}, iterP (clean n0 (hint b)) (exec P M env fu n0 hint b c) (execP P M env envP fu n0 hint b c) n tm hp = some r → SR M G Z w a tm hp → a.defers = d0 → Stp G0 G Z0 Z w0 w (TB M.ban) → Code.rounds P c (BehP M G0 Z0 w0 d0 r) n a w := by
      intro n
      induction n with
      | zero => intro G Z w a tm hp h; cases h
      | succ n ihn =>
        intro G Z w a tm hp h hs hd hst
        rw [iterP] at h
        split at h
        · rename_i tm1 hp1 hcl
          obtain ⟨G1, Z1, hs1, hst1⟩ := sr_clean hb hn0 hs hst hcl
          rw [rounds_succ]
          split at h
          · rename_i tm2 hp2 hx
            refine wp_mono (exec_sound hE hF hm hb hn0 c b hx hs1 hd hst1) ?_
            rintro e a' w' ⟨G', Z', he, h1, h2, h3⟩
            cases e <;> simp only [exM] at he
            exact ihn h h1 h2 h3
          · cases h
          · refine wp_mono (ih b h hs1 hd hst1) ?_
            rintro e a' w' ⟨G', Z', v, rfl, h1, h2, h3, h4⟩
            exact ⟨G', Z', v, rfl, h1, h2, h3, h4⟩
        · cases h
    exact wp_loop_rounds fu (key fu h hs hd hst)
  | scope c ih =>
    intro b G Z w a tm hp r h hs hd hst
    simp only [execP] at h
    refine wp_scope_straight (wp_mono (ih b h hs hd hst) ?_)
    rintro e a' w' ⟨G', Z', v, rfl, h1, h2, h3, h4⟩
    exact ⟨G', Z', v, rfl, h1, h2, h3, h4⟩
  | _ => intro b G Z w a tm hp r h; simp [execP] at h
end
end Go.Eng
end
