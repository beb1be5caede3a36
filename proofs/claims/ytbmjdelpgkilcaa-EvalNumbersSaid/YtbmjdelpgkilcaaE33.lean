/-
  A machine on plain data, thirty-three: functions that defer a call, which may recover.
-/
import Derived.Test.YtbmjdelpgkilcaaE32
import Derived.Recover
set_option linter.unusedVariables false
section
set_option linter.unusedVariables false
set_option linter.unusedSimpArgs false
namespace Go.Eng
open Go.RowKit
def flat : Code → List Code
  | .seq x y => flat x ++ flat y
  | c => [c]
def wpL (P : Program) (Q : Exit → Act → World → Prop) : List Code → Act → World → Prop
  | [], a, w => Q .normal a w
  | c :: l, a, w => c.wp P (Exit.then (wpL P Q l) Q) a w
def wpSL (P : Program) (Q : Exit → Act → List Frame → World → Prop) : List Code → Act → List Frame → World → Prop
  | [], a, cs, w => Q .normal a cs w
  | c :: l, a, cs, w => c.wpS P (Exit.thenS (wpSL P Q l) Q) a cs w
theorem Code.wpS_mono {P : Program} {Q Q' : Exit → Act → List Frame → World → Prop} {c : Code} {a : Act} {cs : List Frame} {w : World} (h : c.wpS P Q a cs w) (hq : ∀ e a cs w, Q e a cs w → Q' e a cs w) : c.wpS P Q' a cs w :=
  fun b k h1 h2 => let ⟨e, a', cs', w', q, r⟩ := h b k h1 h2; ⟨e, a', cs', w', hq _ _ _ _ q, r⟩
theorem flat_wp {P : Program} : ∀ (c : Code) {Q : Exit → Act → World → Prop} {rest : List Code} {a : Act} {w : World}, wpL P Q (flat c ++ rest) a w → c.wp P (Exit.then (wpL P Q rest) Q) a w := by
  intro c
  induction c with
  | seq x y ihx ihy =>
    intro Q rest a w h
    rw [flat, List.append_assoc] at h
    refine wp_seq (wp_mono (ihx h) ?_)
    intro e a w h
    cases e with
    | normal => exact ihy h
    | _ => exact h
  | _ => intro Q rest a w h; exact h
theorem flat_wp0 {P : Program} {c : Code} {Q : Exit → Act → World → Prop} {a : Act} {w : World} (h : wpL P Q (flat c) a w) : c.wp P Q a w :=
  wp_mono (flat_wp c (rest := []) (by rw [List.append_nil]; exact h)) fun e a w h => by cases e <;> exact h
theorem flat_wpS {P : Program} : ∀ (c : Code) {Q : Exit → Act → List Frame → World → Prop} {rest : List Code} {a : Act} {cs : List Frame} {w : World}, wpSL P Q (flat c ++ rest) a cs w → c.wpS P (Exit.thenS (wpSL P Q rest) Q) a cs w := by
  intro c
  induction c with
  | seq x y ihx ihy =>
    intro Q rest a cs w h
    rw [flat, List.append_assoc] at h
    refine wpS_seq (Code.wpS_mono (ihx h) ?_)
    intro e a cs w h
    cases e with
    | normal => exact ihy h
    | _ => exact h
  | _ => intro Q rest a cs w h; exact h
theorem flat_wpS0 {P : Program} {c : Code} {Q : Exit → Act → List Frame → World → Prop} {a : Act} {cs : List Frame} {w : World} (h : wpSL P Q (flat c) a cs w) : c.wpS P Q a cs w :=
  Code.wpS_mono (flat_wpS c (rest := []) (by rw [List.append_nil]; exact h)) fun e a cs w h => by cases e <;> exact h
theorem wpSL_of {P : Program} {Q : Exit → Act → List Frame → World → Prop} {cs : List Frame} : ∀ (l : List Code) {a : Act} {w : World}, wpL P (fun e a w => Q e a cs w) l a w → wpSL P Q l a cs w
  | [], a, w, h => h
  | c :: l, a, w, h => wpS_of_wp (wp_mono h fun e a w h => by
    cases e with
    | normal => exact wpSL_of l h
    | _ => exact h)
theorem wpOps_S {P : Program} {ops : Array Oper} {Q : Exit → Act → List Frame → World → Prop} {cs : List Frame} (hQ : ¬ LetsOut (fun e a w => Q e a cs w)) : ∀ (l : List Nat) {a : Act} {w : World}, wpOps P ops (fun e a w => Q e a cs w) l a w → wpOpsS P ops Q l a cs w
  | [], a, w, h => h
  | i :: l, a, w, h => by
    rw [wpOps_cons] at h
    unfold wpOp at h
    rw [wpOpsS]
    cases ho : ops[i]? with
    | none => rw [ho] at h; exact wpOps_S hQ l h
    | some o =>
      rw [ho] at h
      simp only at h ⊢
      by_cases hw : Region.wanted o (yielded ops a.tmps) = true
      · rw [if_pos hw] at h ⊢
        have h := (h.resolve_right fun h => hQ h.2)
        have h := Oper.wp_mono (K' := fun a' w' => wpOpsS P ops Q l a' cs w') (fun a w h => wpOps_S hQ l h) h
        unfold Oper.wp at h
        split
        · rename_i w' hr
          rw [hr] at h
          exact h.elim
        · exact h
      · rw [if_neg hw] at h ⊢
        exact wpOps_S hQ l h
abbrev EnvD := Option Value → EnvT
def modeOf : Option Value → FrameMode
  | none => .returning
  | some u => .panicking [{ v := u, recovered := false }]
def modeTo : Option Value → FrameMode
  | none => .returning
  | some u => .panicking [{ v := u, recovered := true }]
def ESD (P : Program) (GL : Nat → Option (List Dt)) (bn : FuncId → Nat → Nat) (env : EnvD) : Prop := ∀ m f args objs r objs', env m f args objs = some (r, objs') → ∀ (w : World) (G : Gh) (Z : Zn) (vs : List Value), Inv GL G Z w (HPl objs) → RepL G Z w args vs →
  CallsD P f vs.toArray (modeOf m) w fun e u' w' => ∃ v G' Z', e = .returned v ∧ u' = modeTo m ∧ Stp G G' Z Z' w w' (TB (bn f objs.length)) ∧ Inv GL G' Z' w' (HPl objs') ∧ Rep G' Z' w' r v
section
variable {P : Program} {GL : Nat → Option (List Dt)} {G : Gh} {Z : Zn} {w : World} {HP : Nat → Ob → Prop} {tm : List TV} {hp : List Ob} {o : Oper} {a : Act} {envD : EnvD} {m : Option Value} {bn : FuncId → Nat → Nat}
theorem calls_absD {f : FuncId} {args : List TV} {r : TV × List Ob × Nat × Nat} {vs : List Value} (hE : ESD P GL bn envD) (hI : Inv GL G Z w HP) (hn : ∀ id, hp.length ≤ id → id < r.2.1.length → G id = none) (hh : ∀ id ob, (r.2.2.1 ||| r.2.2.2).testBit id = true → hp[id]? = some ob → HP id ob) (h : absCallF (envD m) (bn f) hp f args = some r) (ha : RepL G Z w args vs) :
    CallsD P f vs.toArray (modeOf m) w fun e u' w' => ∃ v G' Z', e = .returned v ∧ u' = modeTo m ∧ Res G Z w hp.length r.2.1 r.2.2.2 r.1 G' Z' w' v := by
  unfold absCallF at h
  generalize reach hp (4 * hp.length + 4) (idsL args) [] = L at h
  simp only at h
  split at h
  · rename_i hc
    obtain ⟨hcl, hids⟩ := hc
    obtain ⟨hnd, hex, hclo⟩ := closed_iff hcl
    split at h
    · rename_i res objs' hcall
      split at h
      · rename_i hlen
        cases h
        simp only at hn hh ⊢
        have hlt : ∀ id ∈ L, id < hp.length := fun id hid => by
          obtain ⟨ob, ho, _⟩ := hex id hid
          exact (List.getElem?_eq_some_iff.1 ho).1
        have hHP : ∀ id ob, id ∈ L → hp[id]? = some ob → HP id ob := fun id ob hid ho => hh id ob (by rw [Nat.testBit_or, mask_iff.2 hid, Bool.true_or]) ho
        have hI1 := hI.sub (hp := hp) hnd hHP (fun id hid => by obtain ⟨ob, ho, _⟩ := hex id hid; exact ⟨ob, ho⟩) hclo
        have ha1 : RepL (Gsub G L) Z w (renL (idx L) args) vs := ha.ren fun i x hi hx => by
          have := List.all_eq_true.1 hids i hi
          rw [gsub_idx (by simpa using this)]; exact hx
        refine (hE m f _ _ _ _ hcall w _ Z vs hI1 ha1).mono ?_
        rintro e u' w' ⟨v, G1, Z', rfl, rfl, hs, hI', hr⟩
        rw [List.length_map] at hs
        obtain ⟨B, hB⟩ : ∃ B, B = bn f L.length := ⟨_, rfl⟩
        rw [← hB] at hs hn hh ⊢
        have hn' : (mergeH hp objs' L B).length = hp.length + (objs'.length - L.length) := merge_len hp objs' L B
        have backL : ∀ {i id : Nat}, L[i]? = some id → backO L hp.length i = id := fun {i id} hi => by unfold backO; rw [hi]
        have backN : ∀ {i : Nat}, L.length ≤ i → backO L hp.length i = hp.length + (i - L.length) := fun {i} hi => by unfold backO; rw [List.getElem?_eq_none hi]
        have hG2b : ∀ i, i < objs'.length → Gback G G1 L hp.length (mergeH hp objs' L B).length (backO L hp.length i) = G1 i := fun i hi => by
          unfold Gback
          by_cases hiL : i < L.length
          · have h1 : L[i]? = some L[i] := List.getElem?_eq_getElem hiL
            rw [backL h1, if_pos (List.getElem_mem hiL), idx_of hnd h1]
          · rw [backN (by omega), if_neg (fun hm => by have := hlt _ hm; omega), if_pos ⟨by omega, by omega⟩]
            congr 1; omega
        have hG1 : ∀ i x, G1 i = some x → i < objs'.length := fun i x hx => by
          obtain ⟨ob, ho⟩ := hI'.dom i x hx
          exact (List.getElem?_eq_some_iff.1 ho).1
        have hren : ∀ i x, G1 i = some x → Gback G G1 L hp.length (mergeH hp objs' L B).length (backO L hp.length i) = some x := fun i x hx => by rw [hG2b i (hG1 i x hx)]; exact hx
        have inT : ∀ id, TT (mask (alw L B)) hp.length (mergeH hp objs' L B).length id → ∃ i, (i < objs'.length ∧ (i < L.length → B.testBit i = false)) ∧ backO L hp.length i = id := fun id hT => by
          rcases hT with hT | ⟨h1, h2⟩
          · obtain ⟨hm, hb⟩ := alw_iff.1 (mask_iff.1 hT)
            exact ⟨idx L id, ⟨Nat.lt_of_lt_of_le (idx_lt hm) hlen, fun _ => hb⟩, backL (idx_get hm)⟩
          · exact ⟨id - hp.length + L.length, ⟨by omega, fun h => by omega⟩, by rw [backN (by omega)]; omega⟩
        have binj : ∀ i j, i < objs'.length → j < objs'.length → backO L hp.length i = backO L hp.length j → i = j := fun i j hi hj e => by
          by_cases hiL : i < L.length <;> by_cases hjL : j < L.length
          · rw [backL (List.getElem?_eq_getElem hiL), backL (List.getElem?_eq_getElem hjL)] at e
            exact (List.getElem?_inj hiL hnd).1 (by rw [List.getElem?_eq_getElem hiL, List.getElem?_eq_getElem hjL, e])
          · rw [backL (List.getElem?_eq_getElem hiL), backN (by omega)] at e
            have := hlt _ (List.getElem_mem hiL); omega
          · rw [backN (by omega), backL (List.getElem?_eq_getElem hjL)] at e
            have := hlt _ (List.getElem_mem hjL); omega
          · rw [backN (by omega), backN (by omega)] at e
            omega
        have getM : ∀ i, i < objs'.length ∧ (i < L.length → B.testBit i = false) → ∀ ob, (mergeH hp objs' L B)[backO L hp.length i]? = some ob → ∃ ob', objs'[i]? = some ob' ∧ ob = renO (backO L hp.length) ob' := fun i ⟨hi, hb⟩ ob ho => by
          unfold mergeH at ho
          by_cases hiL : i < L.length
          · have h1 : L[i]? = some L[i] := List.getElem?_eq_getElem hiL
            have h2 := hlt _ (List.getElem_mem hiL)
            rw [backL h1, List.getElem?_append_left (by simpa using h2), List.getElem?_map, List.getElem?_range h2] at ho
            simp only [Option.map_some, Option.some.injEq] at ho
            rw [idx_of hnd h1, if_pos ⟨by simp, hb hiL⟩, List.getD_eq_getElem?_getD, List.getElem?_eq_getElem hi] at ho
            exact ⟨_, List.getElem?_eq_getElem hi, ho.symm⟩
          · rw [backN (by omega), List.getElem?_append_right (by simp), List.getElem?_map, List.getElem?_drop] at ho
            simp only [List.length_map, List.length_range] at ho
            rw [show L.length + (hp.length + (i - L.length) - hp.length) = i by omega, List.getElem?_eq_getElem hi] at ho
            simp only [Option.map_some, Option.some.injEq] at ho
            exact ⟨_, List.getElem?_eq_getElem hi, ho.symm⟩
        have out : ∀ id, ¬ TT (mask (alw L B)) hp.length (mergeH hp objs' L B).length id → Gback G G1 L hp.length (mergeH hp objs' L B).length id = G id := fun id hT => by
          unfold Gback
          by_cases hm : id ∈ L
          · rw [if_pos hm]
            have hb : ¬ TB B (idx L id) := fun hb => hT (.inl (mask_iff.2 (alw_iff.2 ⟨hm, hb⟩)))
            cases hg : G id with
            | none => exact hs.none_ _ hb (by rw [gsub_idx hm]; exact hg)
            | some x => exact hs.gle _ x (by rw [gsub_idx hm]; exact hg)
          · rw [if_neg hm, if_neg (fun hm => hT (.inr hm))]
        have old : ∀ id x, id ∈ L → (Gsub G L (idx L id) = some x ↔ G id = some x) := fun id x hid => by rw [gsub_idx hid]
        refine ⟨v, Gback G G1 L hp.length (mergeH hp objs' L B).length, Z', rfl, rfl, ?_⟩
        refine ⟨⟨?_, ?_, hs.kp, hs.bel, ?_, ?_, ?_, hs.zlt⟩, hr.ren fun i x _ hx => hren i x hx, ?_, ?_, ?_, ?_⟩
        · intro id x hx
          by_cases hm : id ∈ L
          · have k1 := hs.gle (idx L id) x ((old id x hm).2 hx)
            unfold Gback; rw [if_pos hm]; exact k1
          · have hnn : ¬ (hp.length ≤ id ∧ id < (mergeH hp objs' L B).length) := fun hm2 => by rw [hn id hm2.1 hm2.2] at hx; cases hx
            unfold Gback; rw [if_neg hm, if_neg hnn]; exact hx
        · intro id hT hx; rw [out id hT]; exact hx
        · intro b hb hT
          refine hs.far b hb fun i x hi hx => ?_
          unfold Gsub at hx
          cases hL : L[i]? with
          | none => rw [hL] at hx; cases hx
          | some id =>
            rw [hL] at hx
            exact hT id x (.inl (mask_iff.2 (alw_iff.2 ⟨List.mem_of_getElem? hL, by rw [idx_of hnd hL]; exact hi⟩))) hx
        · intro id x b hx hb
          by_cases hT : TT (mask (alw L B)) hp.length (mergeH hp objs' L B).length id
          · obtain ⟨i, hi, rfl⟩ := inT id hT
            rw [hG2b i hi.1] at hx
            rcases hs.nb i x b hx hb with k | ⟨j, y, k0, k1, k2⟩
            · exact .inl k
            · right
              unfold Gsub at k1
              cases hL : L[j]? with
              | none => rw [hL] at k1; cases k1
              | some id =>
                rw [hL] at k1
                refine ⟨id, y, ?_, k1, k2⟩
                rcases k0 with k0 | rfl
                · exact .inl (.inl (mask_iff.2 (alw_iff.2 ⟨List.mem_of_getElem? hL, by rw [idx_of hnd hL]; exact k0⟩)))
                · exact .inr (backL hL).symm
          · rw [out id hT] at hx
            exact .inr ⟨id, x, .inr rfl, hx, hb⟩
        · intro b x hz
          rcases hs.zn b x hz with k | k | ⟨i, y, k0, k1, k2⟩
          · exact .inl k
          · exact .inr (.inl k)
          · unfold Gsub at k1
            cases hL : L[i]? with
            | none => rw [hL] at k1; cases k1
            | some id =>
              rw [hL] at k1
              exact .inr (.inr ⟨id, y, .inl (mask_iff.2 (alw_iff.2 ⟨List.mem_of_getElem? hL, by rw [idx_of hnd hL]; exact k0⟩)), k1, k2⟩)
        · intro id ob hT ho
          obtain ⟨i, hi, rfl⟩ := inT id hT
          obtain ⟨ob', k1, rfl⟩ := getM i hi ob ho
          exact Good.ren (fun j x _ hx => hren j x hx) (fun x hx => hren i x hx) (hI'.good i ob' k1)
        · intro id ob hT ho
          obtain ⟨i, hi, rfl⟩ := inT id hT
          obtain ⟨ob', k1, rfl⟩ := getM i hi ob ho
          exact NoZ.ren (hG2b i hi.1) (hI'.free i ob' k1)
        · intro id id' ob ob' x x' b hT hT' o1 l1 o2 l2 h1 h2 h3 h4
          obtain ⟨i, hi, rfl⟩ := inT id hT
          obtain ⟨j, hj, rfl⟩ := inT id' hT'
          obtain ⟨oa, p1, rfl⟩ := getM i hi ob o1
          obtain ⟨oc, p2, rfl⟩ := getM j hj ob' o2
          rw [live_ren] at l1 l2
          rw [hG2b i hi.1] at h1
          rw [hG2b j hj.1] at h2
          rw [hI'.dist i j oa oc x x' b p1 l1 p2 l2 h1 h2 h3 h4]
        · intro id x hT hx
          have hlt2 : id < (mergeH hp objs' L B).length := by
            rcases hT with hT | hT
            · have := hlt _ (alw_iff.1 (mask_iff.1 hT)).1; omega
            · exact hT.2
          exact ⟨_, List.getElem?_eq_getElem hlt2⟩
      · cases h
    · cases h
  · cases h
end
def exL (P : Program) (M : Prm) (env : EnvT) (fu n0 : Nat) (hint : Nat → Option Hint) : List Code → List TV → List Ob → XR
  | [], tm, hp => some (.nor, tm, hp)
  | c :: l, tm, hp => match exec P M env fu n0 hint 0 c tm hp with
    | some (.nor, tm1, hp1) => exL P M env fu n0 hint l tm1 hp1
    | some (.ret, tm1, hp1) => some (.ret, tm1, hp1)
    | _ => none
def exLP (P : Program) (M : Prm) (env envP : EnvT) (fu n0 : Nat) (hint : Nat → Option Hint) : List Code → List TV → List Ob → PR
  | [], tm, hp => none
  | c :: l, tm, hp => match exec P M env fu n0 hint 0 c tm hp with
    | some (.nor, tm1, hp1) => exLP P M env envP fu n0 hint l tm1 hp1
    | some _ => none
    | none => execP P M env envP fu n0 hint 0 c tm hp
section
variable {P : Program} {M : Prm} {env envP : EnvT} {ops : Array Oper} {fu n0 : Nat} {hint : Nat → Option Hint} {G0 : Gh} {Z0 : Zn} {w0 : World} {d0 : List Deferred}
theorem runS_tail (hE : ES P M.GL M.bn env) (hF : OkF P M.okF) {Q : Exit → Act → World → Prop} {tm' : List TV} {hp' : List Ob} {tail : List Nat} : ∀ (rest : List Oper) (i : Nat) {G : Gh} {Z : Zn} {w : World} {a : Act} {tm : List TV} {hp : List Ob}, (∀ k o, rest[k]? = some o → ops[i + k]? = some o) → runS P M env ops rest tm hp = some (tm', hp') → SR M G Z w a tm hp → a.defers = d0 → Stp G0 G Z0 Z w0 w (TB M.ban) →
    (∀ a G Z w, SR M G Z w a tm' hp' → a.defers = d0 → Stp G0 G Z0 Z w0 w (TB M.ban) → wpOps P ops Q tail a w) → wpOps P ops Q (List.range' i rest.length ++ tail) a w
  | [], i, G, Z, w, a, tm, hp, hr, h, hs, hd, hst, hQ => by
    cases h
    exact hQ a G Z w hs hd hst
  | o :: os, i, G, Z, w, a, tm, hp, hr, h, hs, hd, hst, hQ => by
    rw [runS] at h
    split at h
    · rename_i t hp1 R W hstp
      have ho : ops[i]? = some o := by have := hr 0 o rfl; simpa using this
      rw [List.length_cons, List.range'_succ, List.cons_append, wpOps_cons]
      have next : ∀ {v : Value} {G' : Gh} {Z' : Zn} {w' : World}, Res G Z w hp.length hp1 W t G' Z' w' v → wpOps P ops Q (List.range' (i + 1) os.length ++ tail) (a.put o.dst v) w' := fun {v G' Z' w'} res =>
        runS_tail hE hF os (i + 1) (fun k o' h' => by have := hr (k + 1) o' (by rwa [List.getElem?_cons_succ]); rwa [show i + (k + 1) = i + 1 + k by omega] at this) h (sr_next hs (step_ext hstp) (step_live hstp) res) (by rw [Act.put_defs, hd]) (hst.trans (res.stp.mono (step_ban hstp))) hQ
      unfold wpOp
      rw [ho]
      simp only
      rcases step_op hstp with ⟨hwt, hstp', _⟩ | ⟨hwt, hstp'⟩
      · rw [want_rep hs.siz (fun t y _ hy => hs.tmp t y hy) hwt, if_pos rfl]
        exact .inl (op_sound hE hF hs.inv hstp' (fun x hx => eval_rep hs.inv.glo hs.siz fun t y _ hy => hs.tmp t y hy) (fun id h1 _ => fresh_of hs id h1) (fun id ob _ hob => hob) fun v G' Z' w' res => next res)
      · rw [want_rep hs.siz (fun t y _ hy => hs.tmp t y hy) hwt]
        simp only [Bool.false_eq_true, if_false]
        cases hstp'
        exact next (G' := G) (Z' := Z) (res_pure hs.inv (rep_lf.2 rfl))
    · cases h
theorem exL_sound (hE : ES P M.GL M.bn env) (hF : OkF P M.okF) (hm : P.follows .mixedOrders = true) (hb : ∀ id, n0 ≤ id → TB M.ban id) (hn0 : ∀ id i, G0 id = some i → id < n0) {r : Ex × List TV × List Ob} : ∀ (l : List Code) {G : Gh} {Z : Zn} {w : World} {a : Act} {tm : List TV} {hp : List Ob}, exL P M env fu n0 hint l tm hp = some r → SR M G Z w a tm hp → a.defers = d0 → Stp G0 G Z0 Z w0 w (TB M.ban) → wpL P (Beh M G0 Z0 w0 d0 r) l a w
  | [], G, Z, w, a, tm, hp, h, hs, hd, hst => by
    cases h
    exact ⟨G, Z, trivial, hs, hd, hst⟩
  | c :: l, G, Z, w, a, tm, hp, h, hs, hd, hst => by
    rw [exL] at h
    rw [wpL]
    split at h
    · rename_i tm1 hp1 hx
      refine wp_mono (exec_sound hE hF hm hb hn0 c 0 hx hs hd hst) ?_
      rintro e a' w' ⟨G', Z', he, h1, h2, h3⟩
      cases e <;> simp only [exM] at he
      exact exL_sound hE hF hm hb hn0 l h h1 h2 h3
    · rename_i tm1 hp1 hx
      cases h
      refine wp_mono (exec_sound hE hF hm hb hn0 c 0 hx hs hd hst) ?_
      rintro e a' w' ⟨G', Z', he, h1, h2, h3⟩
      cases e <;> simp only [exM] at he
      exact ⟨G', Z', trivial, h1, h2, h3⟩
    · cases h
theorem exLP_sound (hE : ES P M.GL M.bn env) (hEP : ESP P M.GL M.bn envP) (hF : OkF P M.okF) (hm : P.follows .mixedOrders = true) (hb : ∀ id, n0 ≤ id → TB M.ban id) (hn0 : ∀ id i, G0 id = some i → id < n0) {r : TV × List TV × List Ob} : ∀ (l : List Code) {G : Gh} {Z : Zn} {w : World} {a : Act} {tm : List TV} {hp : List Ob}, exLP P M env envP fu n0 hint l tm hp = some r → SR M G Z w a tm hp → a.defers = d0 → Stp G0 G Z0 Z w0 w (TB M.ban) → wpL P (BehP M G0 Z0 w0 d0 r) l a w
  | [], G, Z, w, a, tm, hp, h, hs, hd, hst => by cases h
  | c :: l, G, Z, w, a, tm, hp, h, hs, hd, hst => by
    rw [exLP] at h
    rw [wpL]
    split at h
    · rename_i tm1 hp1 hx
      refine wp_mono (exec_sound hE hF hm hb hn0 c 0 hx hs hd hst) ?_
      rintro e a' w' ⟨G', Z', he, h1, h2, h3⟩
      cases e <;> simp only [exM] at he
      exact exLP_sound hE hEP hF hm hb hn0 l h h1 h2 h3
    · cases h
    · refine wp_mono (execP_sound hE hEP hF hm hb hn0 c 0 h hs hd hst) ?_
      rintro e a' w' ⟨G', Z', v, rfl, h1, h2, h3, h4⟩
      exact ⟨G', Z', v, rfl, h1, h2, h3, h4⟩
end
theorem wpL_mono {P : Program} {Q Q' : Exit → Act → World → Prop} : ∀ (l : List Code) {a : Act} {w : World}, wpL P Q l a w → (∀ e a w, Q e a w → Q' e a w) → wpL P Q' l a w
  | [], a, w, h, hq => hq _ _ _ h
  | c :: l, a, w, h, hq => wp_mono h fun e a w h => by
    cases e with
    | normal => exact wpL_mono l h hq
    | _ => exact hq _ _ _ h
theorem exL_ext {P : Program} {M : Prm} {env : EnvT} {fu n0 : Nat} {hint : Nat → Option Hint} : ∀ (l : List Code) {tm tm' : List TV} {hp hp' : List Ob} {i : Nat}, ¬ exL P M env fu n0 hint l tm hp = some (.ext i, tm', hp')
  | [], tm, tm', hp, hp', i => fun h => by cases h
  | c :: l, tm, tm', hp, hp', i => fun h => by
    rw [exL] at h
    split at h
    · exact exL_ext l h
    · cases h
    · cases h
def isRec : Code → Option (Array Oper × Tmp × List Oper)
  | .region _ ops false => match ops.toList with
    | { dst := some d, op := .call { callee := .builtin .recover, args := _, argTypes := _ }, guard := none, .. } :: os => some (ops, d, os)
    | _ => none
  | _ => none
def runR (P : Program) (M : Prm) (env : EnvT) (fu : Nat) (hint : FuncId → Nat → Option Hint) : EnvD := fun m f args objs =>
  match P.funcs[f]? with
  | some fn => match fn.body with
    | some c => match flat c with
      | c0 :: l => match isRec c0 with
        | some (ops, d, os) => match runS P { M with ban := M.bn f objs.length } env ops os (putT (args0 fn args) (some d) (.lf (m.getD .nilIface))) objs with
          | some (tm1, hp1) => match exL P { M with ban := M.bn f objs.length } env fu objs.length (hint f) l tm1 hp1 with
            | some (_, tm, hp) => match resL P tm hp fn.results.toList with
              | some r => fin objs.length r hp
              | none => none
            | none => none
          | none => none
        | none => none
      | [] => none
    | none => none
  | none => none
section
variable {P : Program} {M : Prm} {env envP : EnvT} {fu : Nat} {hint : FuncId → Nat → Option Hint}
theorem recoverD_of {c₀ : Frame} {cs : List Frame} {m : Option Value} (h : c₀.mode = modeOf m) : recoverD (c₀ :: cs) = m.map fun u => (u, { c₀ with mode := modeTo m } :: cs) := by
  cases m with
  | none => simp [recoverD, h, modeOf]
  | some u => simp [recoverD, h, modeOf, modeTo]
theorem runR_sound (hE : ES P M.GL M.bn env) (hF : OkF P M.okF) (hm : P.follows .mixedOrders = true) : ESD P M.GL M.bn (runR P M env fu hint) := by
  intro m f args objs r objs' h w G Z vs hI hr
  unfold runR at h
  split at h
  · rename_i fn hf
    split at h
    · rename_i c hb
      split at h
      · rename_i c0 l hfl
        split at h
        · rename_i ops d os hrec
          split at h
          · rename_i tm1 hp1 hrs
            split at h
            · rename_i ex tm hp hx
              split at h
              · rename_i r0 hres
                refine callsD_of_wpS hf hb fun c₀ cs hu => flat_wpS0 ?_
                rw [hfl]
                obtain ⟨id, hc0, o, hol, hod, hog, args', ats, hoo⟩ : ∃ id, c0 = .region id ops false ∧ ∃ o, ops.toList = o :: os ∧ o.dst = some d ∧ o.guard = none ∧ ∃ args' ats, o.op = .call { callee := .builtin .recover, args := args', argTypes := ats } := by
                  unfold isRec at hrec
                  split at hrec
                  · rename_i id ops'
                    split at hrec
                    · rename_i e
                      cases hrec
                      exact ⟨id, rfl, _, e, rfl, rfl, _, _, rfl⟩
                    · cases hrec
                  · cases hrec
                subst hc0
                have hsz : ops.size = os.length + 1 := by rw [← Array.length_toList, hol]; rfl
                have ho0 : ops[0]? = some o := by rw [← Array.getElem?_toList, hol]; rfl
                have hs0 : SR { M with ban := M.bn f objs.length } G Z w { tmps := vs.toArray ++ Array.replicate (fn.ntmps - vs.toArray.size) undef, defers := [] } (args0 fn args) objs := sr_args hI hr
                obtain ⟨a, ha⟩ : ∃ a : Act, a = { tmps := vs.toArray ++ Array.replicate (fn.ntmps - vs.toArray.size) undef, defers := [] } := ⟨_, rfl⟩
                rw [← ha] at hs0 ⊢
                have hd0 : a.defers = [] := by rw [ha]
                rw [wpSL]
                refine wpS_region ?_
                rw [hsz, List.range_eq_range', List.range'_succ, wpOpsS, ho0]
                have hwt : Region.wanted o (yielded ops a.tmps) = true := by unfold Region.wanted; rw [hog]
                have hrun : (execOp a.eval o).run P w = .ok .recover w := by
                  unfold execOp
                  simp only [hoo, resolve, Sem.run_bind, Sem.run_pure, Result.andThen_ok, invoke, builtin]
                simp only [hwt, if_true, hrun, recoverD_of hu]
                have key : wpOpsS P ops (Exit.thenS (wpSL P (bodyPostS P fn c₀ cs fun e u' w' => ∃ v G' Z', e = .returned v ∧ u' = modeTo m ∧ Stp G G' Z Z' w w' (TB (M.bn f objs.length)) ∧ Inv M.GL G' Z' w' (HPl objs') ∧ Rep G' Z' w' r v) l) (bodyPostS P fn c₀ cs fun e u' w' => ∃ v G' Z', e = .returned v ∧ u' = modeTo m ∧ Stp G G' Z Z' w w' (TB (M.bn f objs.length)) ∧ Inv M.GL G' Z' w' (HPl objs') ∧ Rep G' Z' w' r v)) (List.range' 1 os.length) (a.put (some d) (m.getD .nilIface)) ({ c₀ with mode := modeTo m } :: cs) w := by
                  refine wpOps_S ?_ _ ?_
                  · rintro ⟨_, _, _, v, _, _, hv, _⟩
                    cases hv
                  have hs1 : SR { M with ban := M.bn f objs.length } G Z w (a.put (some d) (m.getD .nilIface)) (putT (args0 fn args) (some d) (.lf (m.getD .nilIface))) objs := sr_next (R := 0) (W := 0) (hp' := objs) hs0 ext_same (fun id h => by simp at h) (res_pure hI (rep_lf.2 rfl))
                  have := runS_tail (ops := ops) (tail := []) (d0 := []) (Q := fun e a w' => Exit.thenS (wpSL P (bodyPostS P fn c₀ cs fun e u' w' => ∃ v G' Z', e = .returned v ∧ u' = modeTo m ∧ Stp G G' Z Z' w w' (TB (M.bn f objs.length)) ∧ Inv M.GL G' Z' w' (HPl objs') ∧ Rep G' Z' w' r v) l) (bodyPostS P fn c₀ cs fun e u' w' => ∃ v G' Z', e = .returned v ∧ u' = modeTo m ∧ Stp G G' Z Z' w w' (TB (M.bn f objs.length)) ∧ Inv M.GL G' Z' w' (HPl objs') ∧ Rep G' Z' w' r v) e a ({ c₀ with mode := modeTo m } :: cs) w') (M := { M with ban := M.bn f objs.length }) hE hF os 1 (fun k o' hk => by
                    rw [← Array.getElem?_toList, hol, Nat.add_comm, List.getElem?_cons_succ]; exact hk) hrs hs1 (by rw [Act.put_defs, hd0]) (Stp.refl hI.zlt) (fun a2 G2 Z2 w2 hs2 hd2 hst2 => by
                    show wpSL P _ l a2 _ w2
                    refine wpSL_of l (wpL_mono l (exL_sound (M := { M with ban := M.bn f objs.length }) hE hF hm (fun id h => bn_new h) (hn0_of hI) l hx hs2 hd2 hst2) ?_)
                    rintro e a' w' ⟨G', Z', he, hs', hd', hst'⟩
                    obtain ⟨v, hv1, hv2⟩ := resL_run hs' hres
                    obtain ⟨G'', k1, k2, k3⟩ := fin_sound (fun id h => bn_new h) (hn0_of hI) h hs'.inv hst' hv2
                    have body : a'.defers = [] ∧ ∃ u', ({ c₀ with mode := modeTo m } :: cs : List Frame) = { c₀ with mode := u' } :: cs ∧ ∃ v, (results fn a'.tmps).run P w' = .ok v w' ∧ ∃ x G' Z', Ending.returned v = .returned x ∧ u' = modeTo m ∧ Stp G G' Z Z' w w' (TB (M.bn f objs.length)) ∧ Inv M.GL G' Z' w' (HPl objs') ∧ Rep G' Z' w' r x := ⟨hd', _, rfl, v, hv1, v, G'', Z', rfl, rfl, k1, k2, k3⟩
                    cases ex <;> cases e <;> simp only [exM] at he
                    · exact body
                    · exfalso; exact exL_ext l hx
                    · exact body)
                  rwa [List.append_nil] at this
                cases m with
                | none =>
                  have hc : ({ c₀ with mode := modeTo none } : Frame) = c₀ := by
                    have hu : c₀.mode = modeTo none := hu
                    rw [← hu]
                  rw [hc, ← hod] at key
                  exact key
                | some u =>
                  rw [← hod] at key
                  exact key
              · cases h
            · cases h
          · cases h
        · cases h
      · cases h
    · cases h
  · cases h
end
end Go.Eng
end
