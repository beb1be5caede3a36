/-
  A machine on plain data, eleven: calls.
-/
import Derived.Test.YtbmjdelpgkilcaaE3
import Derived.Laws.BytesString
import Derived.Laws.MakeOwn
import Derived.Laws.OwnMore
import Derived.Laws.CopyRow
set_option linter.unusedVariables false
section
set_option linter.unusedVariables false
set_option linter.unusedSimpArgs false
namespace Go.Eng
open Go.RowKit
def cvC (s : Nat) : TV → TV
  | .lf v => if isNil (.lf v) = true ∧ 0 < s then .fr s [] false else .lf v
  | .fr sz xs _ => .fr sz xs false
  | t => t
def frLW (g : List Ob → Nat → TV → Option (TV × List Ob)) (full : List Nat) : List Nat → List Ob → List TV → Option (List TV × List Ob)
  | _, hp, [] => some ([], hp)
  | [], hp, t :: ts => match g hp (full.headD 0) t with
    | some (t', hp1) => match frLW g full full.tail hp1 ts with
      | some (ts', hp2) => some (t' :: ts', hp2)
      | none => none
    | none => none
  | s :: ss, hp, t :: ts => match g hp s t with
    | some (t', hp1) => match frLW g full ss hp1 ts with
      | some (ts', hp2) => some (t' :: ts', hp2)
      | none => none
    | none => none
def frC (SH : TypeId → List Nat) : Nat → List Ob → Nat → TV → Option (TV × List Ob)
  | 0, _, _, _ => none
  | n + 1, hp, s, t => match t with
    | .vw id sz off len _ => match hp[id]? with
      | some (.ro e sz' m cs _) => if sz' = sz ∧ off + len ≤ m then match frLW (frC SH n) (SH e) [] hp cs with
        | some (cs', hp1) => match chunks sz len ((cs'.drop (off * sz)).take (len * sz)), hp1[id]? with
          | some xs, some (.ro _ sz1 _ _ fz1) => if sz1 = sz then some (.fr sz xs false, hp1.set id (.ro e sz m cs' (max fz1 (off + len)))) else none
          | _, _ => none
        | none => none else none
      | _ => none
    | t => some (cvC s t, hp)
def frV (SH : TypeId → List Nat) (n : Nat) (hp : List Ob) (ss : List Nat) : TV → Option (TV × List Ob)
  | .ag cs => (frLW (frC SH n) ss [] hp cs).map fun r => (.ag r.1, r.2)
  | t => frC SH n hp (ss.headD 0) t
def frA (SH : TypeId → List Nat) (n : Nat) : List (List Nat) → List Ob → List TV → Option (List TV × List Ob)
  | _, hp, [] => some ([], hp)
  | [], hp, t :: ts => match frV SH n hp [] t with
    | some (t', hp1) => match frA SH n [] hp1 ts with
      | some (ts', hp2) => some (t' :: ts', hp2)
      | none => none
    | none => none
  | s :: ss, hp, t :: ts => match frV SH n hp s t with
    | some (t', hp1) => match frA SH n ss hp1 ts with
      | some (ts', hp2) => some (t' :: ts', hp2)
      | none => none
    | none => none
def frR (SH : TypeId → List Nat) (n : Nat) (ss : List (List Nat)) (hp : List Ob) : TV → Option (TV × List Ob)
  | .tu cs => (frA SH n ss hp cs).map fun r => (.tu r.1, r.2)
  | t => frV SH n hp (ss.headD []) t
section
variable {GL : Nat → Option (List Dt)} {G : Gh} {w : World} {SH : TypeId → List Nat}
theorem cvC_rep {Z : Zn} {s : Nat} {t : TV} {v : Value} (h : Rep G Z w t v) : Rep G Z w (cvC s t) v := by
  cases t <;> simp only [cvC] <;> try exact h
  case lf u =>
    split
    · rename_i hc
      have := isNil_rep hc.1 h
      show Rep G Z w (.fr s [] false) _
      rw [this, Rep]
      exact ⟨none, 0, rfl, ⟨by simp, by simp [maxLen], hc.2⟩, by simp, rw_nil⟩
    · exact h
  case fr sz xs full =>
    rw [Rep] at h ⊢
    obtain ⟨A, cap, h1, h2, _, h3⟩ := h
    exact ⟨A, cap, h1, h2, by simp, h3⟩
structure Fzd (GL : Nat → Option (List Dt)) (G : Gh) (w : World) (Z Z' : Zn) (hp hp' : List Ob) : Prop where
  inv : Inv GL G Z' w (HPl hp')
  stp : Stp G G Z Z' w w TA
  len : hp'.length = hp.length
  liv : ∀ (k : Nat) (ob : Ob), hp[k]? = some ob → ob.live = true → ∃ ob' : Ob, hp'[k]? = some ob' ∧ ob'.live = true
theorem Fzd.refl {Z : Zn} {hp : List Ob} (h : Inv GL G Z w (HPl hp)) : Fzd GL G w Z Z hp hp := ⟨h, Stp.refl h.zlt, rfl, fun k ob h1 h2 => ⟨ob, h1, h2⟩⟩
theorem Fzd.trans {Z Z' Z'' : Zn} {hp hp' hp'' : List Ob} (h : Fzd GL G w Z Z' hp hp') (h' : Fzd GL G w Z' Z'' hp' hp'') : Fzd GL G w Z Z'' hp hp'' := ⟨h'.inv, h.stp.trans h'.stp, h'.len.trans h.len, fun k ob h1 h2 => by
  obtain ⟨ob', k1, k2⟩ := h.liv k ob h1 h2
  exact h'.liv k ob' k1 k2⟩
theorem frLW_sound {g : List Ob → Nat → TV → Option (TV × List Ob)} (hg : ∀ {Z : Zn} {hp hp' : List Ob} {s : Nat} {t t' : TV} {v : Value}, g hp s t = some (t', hp') → Inv GL G Z w (HPl hp) → Rep G Z w t v → ∃ Z', Fzd GL G w Z Z' hp hp' ∧ Rep G Z' w t' v) {full : List Nat} : ∀ {ts : List TV} {cur : List Nat} {Z : Zn} {hp hp' : List Ob} {ts' : List TV} {vs : List Value}, frLW g full cur hp ts = some (ts', hp') → Inv GL G Z w (HPl hp) → RepL G Z w ts vs → ∃ Z', Fzd GL G w Z Z' hp hp' ∧ RepL G Z' w ts' vs
  | [], cur, Z, hp, hp', ts', vs, h, hI, hr => by
    cases cur <;> (simp only [frLW, Option.some.injEq, Prod.mk.injEq] at h; obtain ⟨rfl, rfl⟩ := h; exact ⟨Z, Fzd.refl hI, hr⟩)
  | t :: ts, cur, Z, hp, hp', ts', vs, h, hI, hr => by
    obtain ⟨v, vs', rfl, h1, h2⟩ := repl_cons.1 hr
    have main : ∀ {s : Nat} {cur' : List Nat}, (match g hp s t with | some (t', hp1) => (match frLW g full cur' hp1 ts with | some (ts', hp2) => some (t' :: ts', hp2) | none => none) | none => none) = some (ts', hp') → ∃ Z', Fzd GL G w Z Z' hp hp' ∧ RepL G Z' w ts' (v :: vs') := fun {s cur'} h => by
      split at h
      · rename_i t' hp1 hgt
        split at h
        · rename_i ts'' hp2 hts
          cases h
          obtain ⟨Z1, f1, r1⟩ := hg hgt hI h1
          obtain ⟨Z2, f2, r2⟩ := frLW_sound hg hts f1.inv (h2.keep (Gle.refl G) f1.stp.kp)
          exact ⟨Z2, f1.trans f2, repl_cons.2 ⟨v, vs', rfl, r1.keep (Gle.refl G) f2.stp.kp, r2⟩⟩
        · cases h
      · cases h
    cases cur with
    | nil => rw [frLW] at h; exact main h
    | cons s ss => rw [frLW] at h; exact main h
theorem frC_sound : ∀ (n : Nat) {Z : Zn} {hp hp' : List Ob} {s : Nat} {t t' : TV} {v : Value}, frC SH n hp s t = some (t', hp') → Inv GL G Z w (HPl hp) → Rep G Z w t v → ∃ Z', Fzd GL G w Z Z' hp hp' ∧ Rep G Z' w t' v
  | 0, Z, hp, hp', s, t, t', v, h, hI, hr => by cases h
  | n + 1, Z, hp, hp', s, t, t', v, h, hI, hr => by
    cases t
    case vw id sz off len full =>
      simp only [frC] at h
      split at h
      · rename_i e sz' m cs fz hid
        split at h
        · rename_i hc
          obtain ⟨hszz, hle⟩ := hc
          subst hszz
          split at h
          · rename_i cs' hp1 hcs
            split at h
            · rename_i xs e1 sz1 n1 cs1 fz1 hxs ho1
              split at h
              rotate_left
              · cases h
              rename_i hsz1
              subst hsz1
              cases h
              obtain ⟨A', cap', v0, cells, k1, k2, k3, k4, k5, k6, k7, k8, _, k9, _⟩ := vw_at hI (show HPl hp id _ from hid) hr hle
              obtain ⟨Z1, f1, r1⟩ := frLW_sound (fun h1 h2 h3 => frC_sound n h1 h2 h3) hcs hI k5
              have hl1 : (Ob.ro e1 sz1 n1 cs1 fz1).live = true := rfl
              have hlt := (List.getElem?_eq_some_iff.1 ho1).1
              have h0 : 0 < sz1 := by
                obtain ⟨_, _, _, _, _, _, _, q⟩ := hI.good id _ (show HPl hp id _ from hid)
                exact q
              obtain ⟨Z2, hZ2⟩ : ∃ Z2 : Zn, ∀ b x, Z2 b x ↔ (Z1 b x ∨ (v0.ownBlock = some b ∧ x < (off + len) * sz1)) := ⟨fun b x => Z1 b x ∨ (v0.ownBlock = some b ∧ x < (off + len) * sz1), fun _ _ => Iff.rfl⟩
              have hkp : Kp Z1 Z2 w w := ⟨fun b x h => (hZ2 b x).2 (.inl h), fun _ _ _ => rfl⟩
              have hget : (hp1.set id (.ro e sz1 m cs' (max fz1 (off + len))))[id]? = some (.ro e sz1 m cs' (max fz1 (off + len))) := List.getElem?_set_self hlt
              have get : ∀ k ob, HPl (hp1.set id (.ro e sz1 m cs' (max fz1 (off + len)))) k ob → (k = id ∧ ob = .ro e sz1 m cs' (max fz1 (off + len))) ∨ (k ≠ id ∧ HPl hp1 k ob) := fun k ob hk => by
                unfold HPl at hk
                by_cases ek : k = id
                · subst ek; rw [hget] at hk; cases hk; exact .inl ⟨rfl, rfl⟩
                · rw [List.getElem?_set_ne (fun h => ek h.symm)] at hk
                  exact .inr ⟨ek, hk⟩
              have hdist : ∀ k ob i b, HPl hp1 k ob → ob.live = true → G k = some i → blk i = some b → v0.ownBlock = some b → k = id := fun k ob i b h1 h2 h3 h4 h5 => f1.inv.dist k id ob _ i v0 b h1 h2 ho1 hl1 h3 k2 h4 (by rw [isSl_blk k3]; exact h5)
              have hI2 : Inv GL G Z2 w (HPl (hp1.set id (.ro e sz1 m cs' (max fz1 (off + len))))) := by
                refine ⟨fun k ob hk => ?_, fun k ob hk => ?_, fun k k' ob ob' i i' b p1 l1 p2 l2 => ?_, fun k i hi => ?_, fun b x hz => ?_, f1.inv.glo.keep hkp⟩
                · rcases get k ob hk with ⟨rfl, rfl⟩ | ⟨_, hk⟩
                  · exact ⟨v0, cells, k2, k3, k4, r1.keep (Gle.refl G) hkp, k6, h0⟩
                  · have := f1.inv.good k ob hk
                    cases ob with
                    | vr e cs =>
                      obtain ⟨g, vs, q1, q2, q3, q4⟩ := this
                      exact ⟨g, vs, q1, q2, q3.keep (Gle.refl G) hkp, q4⟩
                    | ro e sz n cs fz =>
                      obtain ⟨v, cells, q1, q2, q3, q4, q5⟩ := this
                      exact ⟨v, cells, q1, q2, q3, q4.keep (Gle.refl G) hkp, q5⟩
                    | ot m => exact this
                · rcases get k ob hk with ⟨rfl, rfl⟩ | ⟨hne, hk⟩
                  · intro i b hi hb x hx hz
                    rw [k2] at hi; cases hi
                    rcases (hZ2 b x).1 hz with hz | ⟨_, hz⟩
                    · have hnz1 := f1.inv.free k _ ho1
                      exact hnz1 _ b k2 hb x (Nat.le_trans (Nat.mul_le_mul_right _ (Nat.le_max_left ..)) hx) hz
                    · have : (off + len) * sz1 ≤ max fz1 (off + len) * sz1 := Nat.mul_le_mul_right _ (Nat.le_max_right ..)
                      omega
                  · have := f1.inv.free k ob hk
                    cases ob with
                    | vr e cs =>
                      intro i b hi hb x hz
                      rcases (hZ2 b x).1 hz with hz | ⟨hz, _⟩
                      · exact this i b hi hb x hz
                      · exact hne (hdist k _ i b hk rfl hi hb hz)
                    | ro e sz n cs fz =>
                      intro i b hi hb x hx hz
                      rcases (hZ2 b x).1 hz with hz | ⟨hz, _⟩
                      · exact this i b hi hb x hx hz
                      · exact hne (hdist k _ i b hk rfl hi hb hz)
                    | ot m =>
                      intro hm i b hi hb x hz
                      rcases (hZ2 b x).1 hz with hz | ⟨hz, _⟩
                      · exact this hm i b hi hb x hz
                      · exact hne (hdist k _ i b hk hm hi hb hz)
                · rcases get k ob p1 with ⟨ek, eo⟩ | ⟨_, q1⟩ <;> rcases get k' ob' p2 with ⟨ek', eo'⟩ | ⟨_, q2⟩
                  · intro _ _ _ _; rw [ek, ek']
                  · subst ek; exact f1.inv.dist k k' _ ob' i i' b ho1 hl1 q2 l2
                  · subst ek'; exact f1.inv.dist k k' ob _ i i' b q1 l1 ho1 hl1
                  · exact f1.inv.dist k k' ob ob' i i' b q1 l1 q2 l2
                · obtain ⟨ob, ho⟩ := f1.inv.dom k i hi
                  have ho : hp1[k]? = some ob := ho
                  have : k < (hp1.set id (Ob.ro e sz1 m cs' (max fz1 (off + len)))).length := by
                    have := (List.getElem?_eq_some_iff.1 ho).1; simpa using this
                  exact ⟨_, List.getElem?_eq_getElem this⟩
                · rcases (hZ2 b x).1 hz with hz | ⟨hz, _⟩
                  · exact f1.inv.zlt b x hz
                  · exact (k4.lt b hz).2
              have hst : Stp G G Z1 Z2 w w TA := ⟨Gle.refl G, fun _ h _ => absurd trivial h, hkp, Below.refl _ _, fun _ _ _ => rfl, fun id i b h1 h2 => .inr ⟨id, i, .inr rfl, h1, h2⟩, fun b x hz => by
                rcases (hZ2 b x).1 hz with hz | ⟨hz, _⟩
                · exact .inl hz
                · exact .inr (.inr ⟨id, v0, trivial, k2, by rw [isSl_blk k3]; exact hz⟩), hI2.zlt⟩
              refine ⟨Z2, f1.trans ⟨hI2, hst, by simp, fun k ob h1 h2 => ?_⟩, ?_⟩
              · by_cases ek : k = id
                · subst ek; exact ⟨_, hget, rfl⟩
                · exact ⟨ob, by rw [List.getElem?_set_ne (fun h => ek h.symm)]; exact h1, h2⟩
              · rw [Rep]
                have hxl := chunks_len hxs
                have hm : off * sz1 + len * sz1 ≤ m * sz1 := by rw [← Nat.add_mul]; exact Nat.mul_le_mul_right _ hle
                have hcl : cells.length = m * sz1 := k4.1
                refine ⟨A', cap', by rw [k1, hxl], by rw [hxl]; exact ⟨k7, k8, h0⟩, by simp, ?_⟩
                by_cases hl0 : len = 0
                · have : xs = [] := List.eq_nil_of_length_eq_zero (by omega)
                  rw [this]; exact rw_nil
                · obtain ⟨g, hA, hcell⟩ := k9 (by omega)
                  rw [hA]
                  refine chunks_rep hxs (repl_take (repl_drop (r1.keep (Gle.refl G) hkp) _) _) (by rw [List.length_take, List.length_drop, hcl]; omega) fun j u hu => ?_
                  have hj := (List.getElem?_eq_some_iff.1 hu).1
                  rw [List.length_take, List.length_drop, hcl] at hj
                  rw [Nat.zero_mul, Nat.add_zero]
                  refine ⟨hcell j u hu, (hZ2 g _).2 (.inr ⟨?_, ?_⟩)⟩
                  · rcases k4.2 with ⟨rfl, hz⟩ | ⟨g2, cap2, cur2, e2, _⟩
                    · omega
                    · have hr2 := hr
                      rw [Rep] at hr2
                      obtain ⟨_, v2, hv2, A2, n2, c2, A3, c3, q0, q1, _, _, _, _, _, q5, _⟩ := hr2
                      rw [k2] at hv2; cases hv2
                      rw [e2] at q0; cases q0
                      have q5 := q5 (by omega)
                      rw [k1] at q1; cases q1
                      rw [hA, Option.map_some, Addr.add_mid] at q5
                      simp only [Option.some.injEq, Addr.mk.injEq] at q5
                      rw [e2, q5.1]; rfl
                  · rw [Nat.add_mul]; omega
            · cases h
          · cases h
        · cases h
      · cases h
    all_goals
      simp only [frC, Option.some.injEq, Prod.mk.injEq] at h
      obtain ⟨rfl, rfl⟩ := h
      exact ⟨Z, Fzd.refl hI, cvC_rep hr⟩
theorem frV_sound {n : Nat} {Z : Zn} {hp hp' : List Ob} {ss : List Nat} {t t' : TV} {v : Value} (h : frV SH n hp ss t = some (t', hp')) (hI : Inv GL G Z w (HPl hp)) (hr : Rep G Z w t v) : ∃ Z', Fzd GL G w Z Z' hp hp' ∧ Rep G Z' w t' v := by
  cases t
  case ag cs =>
    simp only [frV] at h
    cases hc : frLW (frC SH n) ss [] hp cs with
    | none => rw [hc] at h; cases h
    | some r =>
      rw [hc] at h
      cases h
      rw [Rep] at hr
      obtain ⟨vs, hv, h2⟩ := hr
      obtain ⟨Z', f, r'⟩ := frLW_sound (fun h1 h2 h3 => frC_sound n h1 h2 h3) hc hI h2
      exact ⟨Z', f, by rw [Rep]; exact ⟨vs, hv, r'⟩⟩
  all_goals
    simp only [frV] at h
    exact frC_sound n h hI hr
theorem frA_sound {n : Nat} : ∀ {ts : List TV} {ss : List (List Nat)} {Z : Zn} {hp hp' : List Ob} {ts' : List TV} {vs : List Value}, frA SH n ss hp ts = some (ts', hp') → Inv GL G Z w (HPl hp) → RepL G Z w ts vs → ∃ Z', Fzd GL G w Z Z' hp hp' ∧ RepL G Z' w ts' vs
  | [], ss, Z, hp, hp', ts', vs, h, hI, hr => by
    cases ss <;> (simp only [frA, Option.some.injEq, Prod.mk.injEq] at h; obtain ⟨rfl, rfl⟩ := h; exact ⟨Z, Fzd.refl hI, hr⟩)
  | t :: ts, ss, Z, hp, hp', ts', vs, h, hI, hr => by
    obtain ⟨v, vs', rfl, h1, h2⟩ := repl_cons.1 hr
    have main : ∀ {s : List Nat} {ss' : List (List Nat)}, (match frV SH n hp s t with | some (t', hp1) => (match frA SH n ss' hp1 ts with | some (ts', hp2) => some (t' :: ts', hp2) | none => none) | none => none) = some (ts', hp') → ∃ Z', Fzd GL G w Z Z' hp hp' ∧ RepL G Z' w ts' (v :: vs') := fun {s ss'} h => by
      split at h
      · rename_i t' hp1 hgt
        split at h
        · rename_i ts'' hp2 hts
          cases h
          obtain ⟨Z1, f1, r1⟩ := frV_sound hgt hI h1
          obtain ⟨Z2, f2, r2⟩ := frA_sound hts f1.inv (h2.keep (Gle.refl G) f1.stp.kp)
          exact ⟨Z2, f1.trans f2, repl_cons.2 ⟨v, vs', rfl, r1.keep (Gle.refl G) f2.stp.kp, r2⟩⟩
        · cases h
      · cases h
    cases ss with
    | nil => rw [frA] at h; exact main h
    | cons s ss => rw [frA] at h; exact main h
theorem frR_sound {n : Nat} {Z : Zn} {hp hp' : List Ob} {ss : List (List Nat)} {t t' : TV} {v : Value} (h : frR SH n ss hp t = some (t', hp')) (hI : Inv GL G Z w (HPl hp)) (hr : Rep G Z w t v) : ∃ Z', Fzd GL G w Z Z' hp hp' ∧ Rep G Z' w t' v := by
  cases t
  case tu cs =>
    simp only [frR] at h
    cases hc : frA SH n ss hp cs with
    | none => rw [hc] at h; cases h
    | some r =>
      rw [hc] at h
      cases h
      rw [Rep] at hr
      obtain ⟨vs, hv, h2⟩ := hr
      obtain ⟨Z', f, r'⟩ := frA_sound hc hI h2
      exact ⟨Z', f, by rw [Rep]; exact ⟨vs, hv, r'⟩⟩
  all_goals
    simp only [frR] at h
    exact frV_sound h hI hr
end
end Go.Eng
end

section
set_option linter.unusedVariables false
set_option linter.unusedSimpArgs false
namespace Go.Eng
open Go.RowKit
abbrev EnvT := FuncId → List TV → List Ob → Option (TV × List Ob)
def ES (P : Program) (GL : Nat → Option (List Dt)) (bn : FuncId → Nat → Nat) (env : EnvT) : Prop := ∀ f args objs r objs', env f args objs = some (r, objs') → ∀ (w : World) (G : Gh) (Z : Zn) (vs : List Value), Inv GL G Z w (HPl objs) → RepL G Z w args vs →
  Calls P f vs.toArray w fun e w' => ∃ v G' Z', e = .returned v ∧ Stp G G' Z Z' w w' (TB (bn f objs.length)) ∧ Inv GL G' Z' w' (HPl objs') ∧ Rep G' Z' w' r v
def OkF (P : Program) (okF : FuncId → Bool) : Prop := ∀ f, okF f = true → ∃ fn c, P.funcs[f]? = some fn ∧ fn.body = some c ∧ (fn.name == "runtime.NumGoroutine") = false
def backO (L : List Nat) (n : Nat) (i : Nat) : Nat := match L[i]? with
  | some id => id
  | none => n + (i - L.length)
def mergeH (hp objs' : List Ob) (L : List Nat) (b : Nat) : List Ob :=
  ((List.range hp.length).map fun id => if L.contains id = true ∧ b.testBit (idx L id) = false then renO (backO L hp.length) (objs'.getD (idx L id) (.ot none)) else hp.getD id (.ot none)) ++ (objs'.drop L.length).map (renO (backO L hp.length))
def alw (L : List Nat) (b : Nat) : List Nat := L.filter fun id => !b.testBit (idx L id)
def absCallF (env : EnvT) (bn : Nat → Nat) (hp : List Ob) (f : FuncId) (args : List TV) : AR :=
  let L := reach hp (4 * hp.length + 4) (idsL args) []
  if closed hp L = true ∧ (idsL args).all (fun i => L.contains i) = true then
    match env f (renL (idx L) args) (L.map fun id => renO (idx L) (hp.getD id (.ot none))) with
    | some (r, objs') => if L.length ≤ objs'.length then some (ren (backO L hp.length) r, mergeH hp objs' L (bn L.length), mask L, mask (alw L (bn L.length))) else none
    | none => none
  else none
theorem alw_iff {L : List Nat} {b id : Nat} : id ∈ alw L b ↔ id ∈ L ∧ b.testBit (idx L id) = false := by simp [alw]
def Gback (G G1 : Gh) (L : List Nat) (n n' : Nat) : Gh := fun id => if id ∈ L then G1 (idx L id) else if n ≤ id ∧ id < n' then G1 (id - n + L.length) else G id
section
variable {P : Program} {GL : Nat → Option (List Dt)} {G : Gh} {Z : Zn} {w : World} {HP : Nat → Ob → Prop} {tm : List TV} {hp : List Ob} {o : Oper} {a : Act} {env : EnvT} {bn : FuncId → Nat → Nat}
theorem merge_len (hp objs' : List Ob) (L : List Nat) (b : Nat) : (mergeH hp objs' L b).length = hp.length + (objs'.length - L.length) := by simp [mergeH]
theorem idx_lt {L : List Nat} {id : Nat} (h : id ∈ L) : idx L id < L.length := List.idxOf_lt_length_of_mem h
theorem idx_get {L : List Nat} {id : Nat} (h : id ∈ L) : L[idx L id]? = some id := by
  unfold idx
  have hlt : L.idxOf id < L.length := List.idxOf_lt_length_of_mem h
  rw [List.getElem?_eq_getElem hlt, List.getElem_idxOf hlt]
theorem idx_of {L : List Nat} {i id : Nat} (hnd : L.Nodup) (h : L[i]? = some id) : idx L id = i := by
  have hm := List.mem_of_getElem? h
  exact (List.getElem?_inj (idx_lt hm) hnd).1 ((idx_get hm).trans h.symm)
theorem calls_abs {f : FuncId} {args : List TV} {r : TV × List Ob × Nat × Nat} {vs : List Value} (hE : ES P GL bn env) (hI : Inv GL G Z w HP) (hn : ∀ id, hp.length ≤ id → id < r.2.1.length → G id = none) (hh : ∀ id ob, (r.2.2.1 ||| r.2.2.2).testBit id = true → hp[id]? = some ob → HP id ob) (h : absCallF env (bn f) hp f args = some r) (ha : RepL G Z w args vs) :
    Calls P f vs.toArray w fun e w' => ∃ v G' Z', e = .returned v ∧ Res G Z w hp.length r.2.1 r.2.2.2 r.1 G' Z' w' v := by
  unfold absCallF at h
  generalize reach hp (4 * hp.length + 4) (idsL args) [] = L at h
  simp only at h
  split at h
  · rename_i hc
    obtain ⟨hcl, hids⟩ := hc
    obtain ⟨hnd, hex, hclo⟩ := closed_iff hcl
    split at h
    · rename_i res objs' hcall
      split at h
      · rename_i hlen
        cases h
        simp only at hn hh ⊢
        have hlt : ∀ id ∈ L, id < hp.length := fun id hid => by
          obtain ⟨ob, ho, _⟩ := hex id hid
          exact (List.getElem?_eq_some_iff.1 ho).1
        have hHP : ∀ id ob, id ∈ L → hp[id]? = some ob → HP id ob := fun id ob hid ho => hh id ob (by rw [Nat.testBit_or, mask_iff.2 hid, Bool.true_or]) ho
        have hI1 := hI.sub (hp := hp) hnd hHP (fun id hid => by obtain ⟨ob, ho, _⟩ := hex id hid; exact ⟨ob, ho⟩) hclo
        have ha1 : RepL (Gsub G L) Z w (renL (idx L) args) vs := ha.ren fun i x hi hx => by
          have := List.all_eq_true.1 hids i hi
          rw [gsub_idx (by simpa using this)]; exact hx
        refine (hE f _ _ _ _ hcall w _ Z vs hI1 ha1).mono ?_
        rintro e w' ⟨v, G1, Z', rfl, hs, hI', hr⟩
        rw [List.length_map] at hs
        obtain ⟨B, hB⟩ : ∃ B, B = bn f L.length := ⟨_, rfl⟩
        rw [← hB] at hs hn hh ⊢
        have hn' : (mergeH hp objs' L B).length = hp.length + (objs'.length - L.length) := merge_len hp objs' L B
        have backL : ∀ {i id : Nat}, L[i]? = some id → backO L hp.length i = id := fun {i id} hi => by unfold backO; rw [hi]
        have backN : ∀ {i : Nat}, L.length ≤ i → backO L hp.length i = hp.length + (i - L.length) := fun {i} hi => by unfold backO; rw [List.getElem?_eq_none hi]
        have hG2b : ∀ i, i < objs'.length → Gback G G1 L hp.length (mergeH hp objs' L B).length (backO L hp.length i) = G1 i := fun i hi => by
          unfold Gback
          by_cases hiL : i < L.length
          · have h1 : L[i]? = some L[i] := List.getElem?_eq_getElem hiL
            rw [backL h1, if_pos (List.getElem_mem hiL), idx_of hnd h1]
          · rw [backN (by omega), if_neg (fun hm => by have := hlt _ hm; omega), if_pos ⟨by omega, by omega⟩]
            congr 1; omega
        have hG1 : ∀ i x, G1 i = some x → i < objs'.length := fun i x hx => by
          obtain ⟨ob, ho⟩ := hI'.dom i x hx
          exact (List.getElem?_eq_some_iff.1 ho).1
        have hren : ∀ i x, G1 i = some x → Gback G G1 L hp.length (mergeH hp objs' L B).length (backO L hp.length i) = some x := fun i x hx => by rw [hG2b i (hG1 i x hx)]; exact hx
        have inT : ∀ id, TT (mask (alw L B)) hp.length (mergeH hp objs' L B).length id → ∃ i, (i < objs'.length ∧ (i < L.length → B.testBit i = false)) ∧ backO L hp.length i = id := fun id hT => by
          rcases hT with hT | ⟨h1, h2⟩
          · obtain ⟨hm, hb⟩ := alw_iff.1 (mask_iff.1 hT)
            exact ⟨idx L id, ⟨Nat.lt_of_lt_of_le (idx_lt hm) hlen, fun _ => hb⟩, backL (idx_get hm)⟩
          · exact ⟨id - hp.length + L.length, ⟨by omega, fun h => by omega⟩, by rw [backN (by omega)]; omega⟩
        have binj : ∀ i j, i < objs'.length → j < objs'.length → backO L hp.length i = backO L hp.length j → i = j := fun i j hi hj e => by
          by_cases hiL : i < L.length <;> by_cases hjL : j < L.length
          · rw [backL (List.getElem?_eq_getElem hiL), backL (List.getElem?_eq_getElem hjL)] at e
            exact (List.getElem?_inj hiL hnd).1 (by rw [List.getElem?_eq_getElem hiL, List.getElem?_eq_getElem hjL, e])
          · rw [backL (List.getElem?_eq_getElem hiL), backN (by omega)] at e
            have := hlt _ (List.getElem_mem hiL); omega
          · rw [backN (by omega), backL (List.getElem?_eq_getElem hjL)] at e
            have := hlt _ (List.getElem_mem hjL); omega
          · rw [backN (by omega), backN (by omega)] at e
            omega
        have getM : ∀ i, i < objs'.length ∧ (i < L.length → B.testBit i = false) → ∀ ob, (mergeH hp objs' L B)[backO L hp.length i]? = some ob → ∃ ob', objs'[i]? = some ob' ∧ ob = renO (backO L hp.length) ob' := fun i ⟨hi, hb⟩ ob ho => by
          unfold mergeH at ho
          by_cases hiL : i < L.length
          · have h1 : L[i]? = some L[i] := List.getElem?_eq_getElem hiL
            have h2 := hlt _ (List.getElem_mem hiL)
            rw [backL h1, List.getElem?_append_left (by simpa using h2), List.getElem?_map, List.getElem?_range h2] at ho
            simp only [Option.map_some, Option.some.injEq] at ho
            rw [idx_of hnd h1, if_pos ⟨by simp, hb hiL⟩, List.getD_eq_getElem?_getD, List.getElem?_eq_getElem hi] at ho
            exact ⟨_, List.getElem?_eq_getElem hi, ho.symm⟩
          · rw [backN (by omega), List.getElem?_append_right (by simp), List.getElem?_map, List.getElem?_drop] at ho
            simp only [List.length_map, List.length_range] at ho
            rw [show L.length + (hp.length + (i - L.length) - hp.length) = i by omega, List.getElem?_eq_getElem hi] at ho
            simp only [Option.map_some, Option.some.injEq] at ho
            exact ⟨_, List.getElem?_eq_getElem hi, ho.symm⟩
        have out : ∀ id, ¬ TT (mask (alw L B)) hp.length (mergeH hp objs' L B).length id → Gback G G1 L hp.length (mergeH hp objs' L B).length id = G id := fun id hT => by
          unfold Gback
          by_cases hm : id ∈ L
          · rw [if_pos hm]
            have hb : ¬ TB B (idx L id) := fun hb => hT (.inl (mask_iff.2 (alw_iff.2 ⟨hm, hb⟩)))
            cases hg : G id with
            | none => exact hs.none_ _ hb (by rw [gsub_idx hm]; exact hg)
            | some x => exact hs.gle _ x (by rw [gsub_idx hm]; exact hg)
          · rw [if_neg hm, if_neg (fun hm => hT (.inr hm))]
        have old : ∀ id x, id ∈ L → (Gsub G L (idx L id) = some x ↔ G id = some x) := fun id x hid => by rw [gsub_idx hid]
        refine ⟨v, Gback G G1 L hp.length (mergeH hp objs' L B).length, Z', rfl, ?_⟩
        refine ⟨⟨?_, ?_, hs.kp, hs.bel, ?_, ?_, ?_, hs.zlt⟩, hr.ren fun i x _ hx => hren i x hx, ?_, ?_, ?_, ?_⟩
        · intro id x hx
          by_cases hm : id ∈ L
          · have k1 := hs.gle (idx L id) x ((old id x hm).2 hx)
            unfold Gback; rw [if_pos hm]; exact k1
          · have hnn : ¬ (hp.length ≤ id ∧ id < (mergeH hp objs' L B).length) := fun hm2 => by rw [hn id hm2.1 hm2.2] at hx; cases hx
            unfold Gback; rw [if_neg hm, if_neg hnn]; exact hx
        · intro id hT hx; rw [out id hT]; exact hx
        · intro b hb hT
          refine hs.far b hb fun i x hi hx => ?_
          unfold Gsub at hx
          cases hL : L[i]? with
          | none => rw [hL] at hx; cases hx
          | some id =>
            rw [hL] at hx
            exact hT id x (.inl (mask_iff.2 (alw_iff.2 ⟨List.mem_of_getElem? hL, by rw [idx_of hnd hL]; exact hi⟩))) hx
        · intro id x b hx hb
          by_cases hT : TT (mask (alw L B)) hp.length (mergeH hp objs' L B).length id
          · obtain ⟨i, hi, rfl⟩ := inT id hT
            rw [hG2b i hi.1] at hx
            rcases hs.nb i x b hx hb with k | ⟨j, y, k0, k1, k2⟩
            · exact .inl k
            · right
              unfold Gsub at k1
              cases hL : L[j]? with
              | none => rw [hL] at k1; cases k1
              | some id =>
                rw [hL] at k1
                refine ⟨id, y, ?_, k1, k2⟩
                rcases k0 with k0 | rfl
                · exact .inl (.inl (mask_iff.2 (alw_iff.2 ⟨List.mem_of_getElem? hL, by rw [idx_of hnd hL]; exact k0⟩)))
                · exact .inr (backL hL).symm
          · rw [out id hT] at hx
            exact .inr ⟨id, x, .inr rfl, hx, hb⟩
        · intro b x hz
          rcases hs.zn b x hz with k | k | ⟨i, y, k0, k1, k2⟩
          · exact .inl k
          · exact .inr (.inl k)
          · unfold Gsub at k1
            cases hL : L[i]? with
            | none => rw [hL] at k1; cases k1
            | some id =>
              rw [hL] at k1
              exact .inr (.inr ⟨id, y, .inl (mask_iff.2 (alw_iff.2 ⟨List.mem_of_getElem? hL, by rw [idx_of hnd hL]; exact k0⟩)), k1, k2⟩)
        · intro id ob hT ho
          obtain ⟨i, hi, rfl⟩ := inT id hT
          obtain ⟨ob', k1, rfl⟩ := getM i hi ob ho
          exact Good.ren (fun j x _ hx => hren j x hx) (fun x hx => hren i x hx) (hI'.good i ob' k1)
        · intro id ob hT ho
          obtain ⟨i, hi, rfl⟩ := inT id hT
          obtain ⟨ob', k1, rfl⟩ := getM i hi ob ho
          exact NoZ.ren (hG2b i hi.1) (hI'.free i ob' k1)
        · intro id id' ob ob' x x' b hT hT' o1 l1 o2 l2 h1 h2 h3 h4
          obtain ⟨i, hi, rfl⟩ := inT id hT
          obtain ⟨j, hj, rfl⟩ := inT id' hT'
          obtain ⟨oa, p1, rfl⟩ := getM i hi ob o1
          obtain ⟨oc, p2, rfl⟩ := getM j hj ob' o2
          rw [live_ren] at l1 l2
          rw [hG2b i hi.1] at h1
          rw [hG2b j hj.1] at h2
          rw [hI'.dist i j oa oc x x' b p1 l1 p2 l2 h1 h2 h3 h4]
        · intro id x hT hx
          have hlt2 : id < (mergeH hp objs' L B).length := by
            rcases hT with hT | hT
            · have := hlt _ (alw_iff.1 (mask_iff.1 hT)).1; omega
            · exact hT.2
          exact ⟨_, List.getElem?_eq_getElem hlt2⟩
      · cases h
    · cases h
  · cases h
theorem call_live {b : Nat → Nat} {f : FuncId} {args : List TV} {r : TV × List Ob × Nat × Nat} (h : absCallF env b hp f args = some r) : ∀ id, r.2.2.2.testBit id = true → ∃ ob, hp[id]? = some ob ∧ ob.live = true := by
  unfold absCallF at h
  generalize reach hp (4 * hp.length + 4) (idsL args) [] = L at h
  simp only at h
  split at h
  · rename_i hc
    obtain ⟨_, hex, _⟩ := closed_iff hc.1
    split at h
    · split at h
      · cases h
        intro id hid
        exact hex id (alw_iff.1 (mask_iff.1 hid)).1
      · cases h
    · cases h
  · cases h
def Ext2 (hp : List Ob) (r : TV × List Ob × Nat × Nat) : Prop := hp.length ≤ r.2.1.length ∧ ∀ x, x < hp.length → r.2.2.2.testBit x = false → r.2.1[x]? = hp[x]?
theorem ext_call {b : Nat → Nat} {f : FuncId} {args : List TV} {r : TV × List Ob × Nat × Nat} (h : absCallF env b hp f args = some r) : Ext2 hp r := by
  unfold absCallF at h
  simp only at h
  split at h
  · split at h
    · split at h
      · cases h
        refine ⟨by rw [merge_len]; omega, fun x hx hw => ?_⟩
        have hL : ¬ ((reach hp (4 * hp.length + 4) (idsL args) []).contains x = true ∧ (b (reach hp (4 * hp.length + 4) (idsL args) []).length).testBit (idx (reach hp (4 * hp.length + 4) (idsL args) []) x) = false) := fun hm => by
          have := mask_iff.2 (alw_iff.2 ⟨by simpa using hm.1, hm.2⟩)
          rw [this] at hw; cases hw
        simp only [mergeH]
        rw [List.getElem?_append_left (by simpa using hx), List.getElem?_map, List.getElem?_range hx]
        simp only [Option.map_some]
        rw [if_neg hL, List.getD_eq_getElem?_getD, List.getElem?_eq_getElem hx]
        rfl
      · cases h
    · cases h
  · cases h
theorem inv_imp {GL : Nat → Option (List Dt)} {G : Gh} {Z : Zn} {w : World} {HP HP' : Nat → Ob → Prop} (h : Inv GL G Z w HP) (h1 : ∀ id ob, HP' id ob → HP id ob) (h2 : ∀ id ob, HP id ob → ∃ ob', HP' id ob') : Inv GL G Z w HP' :=
  ⟨fun id ob x => h.good id ob (h1 id ob x), fun id ob x => h.free id ob (h1 id ob x), fun id id' ob ob' i i' b p1 l1 p2 l2 => h.dist id id' ob ob' i i' b (h1 id ob p1) l1 (h1 id' ob' p2) l2, fun id i hi => by obtain ⟨ob, x⟩ := h.dom id i hi; exact h2 id ob x, h.zlt, h.glo⟩
theorem inv_full {G' : Gh} {Z' : Zn} {w' : World} {t : TV} {hp' : List Ob} {R W : Nat} {v : Value} (hI : Inv GL G Z w (HPl hp)) (hx : Ext2 hp (t, hp', R, W)) (hl : Liv (HPl hp) G (TT W hp.length hp'.length)) (hr : Res G Z w hp.length hp' W t G' Z' w' v) : Inv GL G' Z' w' (HPl hp') := by
  refine inv_imp (hI.next hl hr) (fun x ob h => ?_) (fun x ob h => ?_)
  · by_cases hT : TT W hp.length hp'.length x
    · exact .inl ⟨hT, h⟩
    · refine .inr ⟨hT, ?_⟩
      have hlt : x < hp.length := Nat.lt_of_not_le fun hle => hT (.inr ⟨hle, (List.getElem?_eq_some_iff.1 h).1⟩)
      have := hx.2 x hlt (by cases hb : W.testBit x with | false => rfl | true => exact absurd (.inl hb) hT)
      show hp[x]? = some ob
      rw [← this]; exact h
  · rcases h with ⟨_, h⟩ | ⟨hT, h⟩
    · exact ⟨ob, h⟩
    · refine ⟨ob, ?_⟩
      have h : hp[x]? = some ob := h
      have := hx.2 x (List.getElem?_eq_some_iff.1 h).1 (by cases hb : W.testBit x with | false => rfl | true => exact absurd (.inl hb) hT)
      show hp'[x]? = some ob
      rw [this]; exact h
theorem liv_of {W n' : Nat} (hf : ∀ id, hp.length ≤ id → G id = none) (hW : ∀ id, W.testBit id = true → ∃ ob, hp[id]? = some ob ∧ ob.live = true) : Liv (HPl hp) G (TT W hp.length n') := fun id i hT hi => by
  rcases hT with hT | ⟨h1, _⟩
  · exact hW id hT
  · rw [hf id h1] at hi; cases hi
theorem fresh_l (hI : Inv GL G Z w (HPl hp)) : ∀ id, hp.length ≤ id → G id = none := fun id h => by
  cases hg : G id with
  | none => rfl
  | some i =>
    obtain ⟨ob, ho⟩ := hI.dom id i hg
    have ho : hp[id]? = some ob := ho
    have := (List.getElem?_eq_some_iff.1 ho).1
    omega
def envZ (SH : TypeId → List Nat) (argS : FuncId → Option (List (List Nat))) (env : EnvT) : EnvT := fun f args objs => match argS f with
  | none => env f args objs
  | some ss => match frA SH 60 ss objs args with
    | some (args1, objs1) => match absCallF env (fun _ => 0) objs1 f args1 with
      | some (r, objs2, _, _) => some (r, objs2)
      | none => none
    | none => none
theorem envZ_sound {SH : TypeId → List Nat} {argS : FuncId → Option (List (List Nat))} (hz : ∀ f n, (argS f).isSome = true → bn f n = 0) (hE : ES P GL bn env) : ES P GL bn (envZ SH argS env) := by
  intro f args objs r objs' h w G Z vs hI hr
  unfold envZ at h
  split at h
  · exact hE f args objs r objs' h w G Z vs hI hr
  · rename_i ss hss
    have hb0 : bn f = fun _ => 0 := funext fun n => hz f n (by rw [hss]; rfl)
    split at h
    · rename_i args1 objs1 hf
      split at h
      · rename_i r2 objs2 R W hc
        cases h
        obtain ⟨Z1, f1, r1⟩ := frA_sound hf hI hr
        rw [← hb0] at hc
        refine (calls_abs hE f1.inv (fun id h1 _ => fresh_l f1.inv id h1) (fun id ob _ h => h) hc r1).mono ?_
        rintro e w' ⟨v, G', Z', rfl, res⟩
        rw [hb0]
        exact ⟨v, G', Z', rfl, (f1.stp.trans (res.stp.mono fun _ _ => trivial)).mono fun _ _ => Nat.zero_testBit _, inv_full f1.inv (ext_call hc) (liv_of (fresh_l f1.inv) (call_live hc)) res, res.rep⟩
      · cases h
    · cases h
end
end Go.Eng
end

section
set_option linter.unusedVariables false
set_option linter.unusedSimpArgs false
namespace Go.Eng
open Go.RowKit
def absNilCheck (hp : List Ob) (x : TV) : AR := match x with
  | .pt id off => some (.pt id off, hp, 0, 0)
  | .ep cs off => some (.ep cs off, hp, 0, 0)
  | _ => none
def bytesT : List TV → Option (List Int)
  | [] => some []
  | .lf (.int .u8 n) :: ts => match bytesT ts with
    | some ns => some (n :: ns)
    | none => none
  | _ :: _ => none
def textOf (ns : List Int) : ByteArray := ns.foldl (fun r n => r.push (UInt8.ofNat n.toNat)) ByteArray.empty
def absB2S (P : Program) (hp : List Ob) (src dst : TypeId) (x : TV) : AR :=
  match P.underlying src, P.underlying dst with
  | some (.slice e), some .string => match P.underlying e, srcR hp 1 x with
    | some (.int .u8), some (_, ys, R) => match bytesT ys with
      | some ns => some (.lf (.string (textOf ns)), hp, R, 0)
      | none => none
    | _, _ => none
  | _, _ => none
def absMakeSlice (P : Program) (hp : List Ob) (t : TypeId) (l c : TV) : AR :=
  match P.underlying t, l, c with
  | some (.slice e), .lf (.int _ n), .lf (.int _ m) => match P.info? e with
    | some ie => match ie.zero with
      | some z => if (n = m ∧ 0 ≤ n ∧ 0 < ie.size) ∧ (n.toNat * ie.size ≤ 16777216 ∧ ie.bytes * n.toNat ≤ 281474976710656 ∧ n.toNat ≤ maxLen) ∧ z.cells.toList.all (·.oneCell') = true ∧ z.cells.size = ie.size then some (.vw hp.length ie.size 0 n.toNat false, hp ++ [.ro e ie.size n.toNat ((List.range (n.toNat * ie.size)).map fun i => .lf (z.cells[i % z.cells.size]!)) 0], 0, 0) else none
      | none => none
    | none => none
  | _, _, _ => none
def absMakeMap (P : Program) (hp : List Ob) (t : TypeId) (r : Option TV) : AR := match r with
  | none => some (.mp hp.length, hp ++ [.ot (some (#[], 0))], 0, 0)
  | some x => match P.underlying t, x with
    | some (.map _ _), .lf (.int _ _) => some (.mp hp.length, hp ++ [.ot (some (#[], 0))], 0, 0)
    | _, _ => none
def updS (kt : TypeId) (k v : Value) (es : Array MapEntry) (c : Nat) : Sem (Array MapEntry × Nat) := do
  Instr.checkKey false 10000 kt k
  match ← Instr.findKey kt k es.toList with
  | some (i, _) => do
    let key ← Instr.keyThatStays (((es[i]?).map (·.key)).getD k) k
    pure (es.modify i fun e => { e with key, val := v }, c)
  | none => pure (es.push { key := k, val := v, born := c }, c + 1)
def lookS (kt et : TypeId) (k : Value) (es : Array MapEntry) (ok : Bool) : Sem Value := do
  Instr.checkKey es.isEmpty 10000 kt k
  let (v, b) ← match ← Instr.findKey kt k es.toList with
    | some (_, v) => pure (v, true)
    | none => pure (← zeroValue et, false)
  pure (if ok then .tuple #[v, .bool b] else v)
def absInsert (P : Program) (hp : List Ob) (t : TypeId) (m k v : TV) : AR :=
  match P.underlying t, m, lfo k, lfo v with
  | some (.map kt _), .mp id, some kv, some vv => match hp[id]? with
    | some (.ot (some x)) => match prS P (updS kt kv vv x.1 x.2) with
      | some y => some (.lf undef, hp.set id (.ot (some y)), 0, 2 ^ id)
      | none => none
    | _ => none
  | _, _, _, _ => none
def absLookup (P : Program) (hp : List Ob) (t : TypeId) (m k : TV) (ok : Bool) : AR :=
  match P.underlying t, m, lfo k with
  | some (.map kt et), .mp id, some kv => match hp[id]? with
    | some (.ot (some x)) => match prS P (lookS kt et kv x.1 ok) with
      | some y => some (tvOf y, hp, 2 ^ id, 0)
      | none => none
    | _ => none
  | _, _, _ => none
section
variable {P : Program} {GL : Nat → Option (List Dt)} {G : Gh} {Z : Zn} {w : World} {HP : Nat → Ob → Prop} {tm : List TV} {hp : List Ob} {o : Oper} {a : Act}
theorem does_nilCheck {r : TV × List Ob × Nat × Nat} {x : Operand} (hI : Inv GL G Z w HP) (ho : o.op = .nilCheck x) (hx : Rep G Z w (evT GL tm x) (a.eval x)) (h : absNilCheck hp (evT GL tm x) = some r) : Does P GL G Z w a o hp.length r := by
  generalize evT GL tm x = X at hx h
  unfold absNilCheck at h
  have fin : ∀ {t : TV} {A : Addr}, a.eval x = .pointer (some A) → Rep G Z w t (a.eval x) → Does P GL G Z w a o hp.length (t, hp, 0, 0) := fun {t A} hv hr => by
    refine does_value hI (v := a.eval x) ?_ hr
    unfold execOp
    simp only [ho, hv]
    rfl
  split at h
  · cases h
    have hr := hx
    rw [Rep] at hx
    obtain ⟨g, _, hv⟩ := hx
    exact fin hv hr
  · cases h
    have hr := hx
    rw [Rep] at hx
    obtain ⟨g, o', vs, hv, _⟩ := hx
    exact fin hv hr
  · cases h
theorem bytesT_rep : ∀ {ts : List TV} {ns : List Int} {vs : List Value}, bytesT ts = some ns → RepL G Z w ts vs → vs = ns.map (Value.int .u8)
  | [], ns, vs, h, hr => by simp only [bytesT, Option.some.injEq] at h; subst h; exact repl_nil.1 hr
  | t :: ts, ns, vs, h, hr => by
    obtain ⟨v, vs', rfl, h1, h2⟩ := repl_cons.1 hr
    unfold bytesT at h
    split at h
    · cases ‹t :: ts = []›
    · rename_i n ts' e
      cases e
      split at h
      · rename_i ns' hn
        cases h
        rw [rep_lf.1 h1, bytesT_rep hn h2]
        rfl
      · cases h
    · cases h
theorem does_b2s {r : TV × List Ob × Nat × Nat} {src dst : TypeId} {x : Operand} (hI : Inv GL G Z w HP) (ho : o.op = .convert src dst x) (hx : Rep G Z w (evT GL tm x) (a.eval x)) (hh : ∀ id ob, (r.2.2.1 ||| r.2.2.2).testBit id = true → hp[id]? = some ob → HP id ob) (h : absB2S P hp src dst (evT GL tm x) = some r) : Does P GL G Z w a o hp.length r := by
  unfold absB2S at h
  split at h
  · rename_i e hs hd
    split at h
    · rename_i m ys R he hys
      split at h
      · rename_i ns hns
        cases h
        obtain ⟨B, c, news, hv, hl, hr, _, hB⟩ := srcR_rep hI (by omega) hys (fun id ob hb => hh id ob (by simp only [Nat.testBit_or, Bool.or_eq_true]; exact .inl hb)) hx
        have hn := bytesT_rep hns hr
        have hlen : ns.length = m := by have := congrArg List.length hn; rw [List.length_map] at this; omega
        refine does_value hI (v := .string (textOf ns)) ?_ (rep_lf.2 rfl)
        have hrun : (Conv.bytesToString (.slice B m c)).run P w = .ok (.string (textOf ns)) w := by
          cases B with
          | none =>
            have : m = 0 := Nat.eq_zero_of_not_pos fun hp => by obtain ⟨_, _, e, _⟩ := hB hp; cases e
            have : ns = [] := List.eq_nil_of_length_eq_zero (by omega)
            subst this
            simp [Conv.bytesToString, textOf]
          | some A =>
            refine run_bytesToString w A m c ns ?_
            by_cases h0 : m = 0
            · have : ns = [] := List.eq_nil_of_length_eq_zero (by omega)
              subst this
              rw [h0]
              simp [loadCells, loadCellsFrom]
            · obtain ⟨g, o', e, hc⟩ := hB (by omega)
              cases e
              have := run_loadCells_list (P := P) w ⟨g, o', none⟩ news (fun j v hv => by rw [Addr.add_mid]; exact hc j v hv)
              rw [show news.length = m by omega] at this
              rw [this, hn]
        unfold execOp
        simp [ho, hv, convert, run_underlying hs, run_underlying hd, run_underlying he, hrun]
      · cases h
    · cases h
  · cases h
theorem does_makeSlice {r : TV × List Ob × Nat × Nat} {t : TypeId} {x y : Operand} (hI : Inv GL G Z w HP) (hn : ∀ id, hp.length ≤ id → id < r.2.1.length → G id = none) (ho : o.op = .makeSlice t x y) (hx : Rep G Z w (evT GL tm x) (a.eval x)) (hy : Rep G Z w (evT GL tm y) (a.eval y)) (h : absMakeSlice P hp t (evT GL tm x) (evT GL tm y) = some r) : Does P GL G Z w a o hp.length r := by
  generalize evT GL tm x = X at hx h
  generalize evT GL tm y = Y at hy h
  unfold absMakeSlice at h
  split at h
  · rename_i e kl n kc m hu
    have hx := rep_lf.1 hx
    have hy := rep_lf.1 hy
    split at h
    · rename_i ie hie
      split at h
      · rename_i z hz
        split at h
        · rename_i hc
          obtain ⟨⟨rfl, h0, hsz⟩, ⟨hb1, hb2, hb3⟩, hone, hzs⟩ := hc
          cases h
          obtain ⟨k, rfl⟩ : ∃ k : Nat, n = (k : Int) := ⟨n.toNat, by omega⟩
          simp only [Int.toNat_natCast] at hb1 hb2 hb3 hn ⊢
          obtain ⟨w', hrun, hown, hg⟩ := run_makeSlice_full (P := P) w 0 t e ie z ie.size hu hie hz rfl kl kc k hb1 hb2 hb3 (Nat.zero_le _)
          have hcells : (madeCells z.cells (k * ie.size)).toList = (List.range (k * ie.size)).map fun i => z.cells[i % z.cells.size]! := by simp [madeCells]
          have h1c : ∀ u ∈ (madeCells z.cells (k * ie.size)).toList, u.oneCell' = true := fun u hu => by
            rw [hcells] at hu
            obtain ⟨i, _, rfl⟩ := List.mem_map.1 hu
            have hlt : i % z.cells.size < z.cells.size := Nat.mod_lt _ (by omega)
            rw [getElem!_pos z.cells _ hlt]
            exact List.all_eq_true.1 hone _ (by simp)
          have hbel : Below w.heap.size w w' := ⟨hg.os, hg.tape, hg.output, hg.size, fun b hb => hg.block b hb (by simp)⟩
          obtain ⟨G', Z', hres⟩ := res_newrow (hp := hp) (cs := (List.range (k * ie.size)).map fun i => .lf (z.cells[i % z.cells.size]!)) hI (hn _ (Nat.le_refl _) (by simp)) hsz (by rw [hcells]; exact repl_range z.cells _) h1c hown hbel (.inr ⟨_, rfl, Nat.le_refl _⟩)
          refine ⟨_, G', Z', w', .inl ?_, hres⟩
          unfold execOp
          simp only [ho, hx, hy, Sem.run_bind, hrun, Result.andThen_ok, Sem.run_pure]
        · cases h
      · cases h
    · cases h
  · cases h
theorem does_makeMap {r : TV × List Ob × Nat × Nat} {t : TypeId} {x : Option Operand} (hI : Inv GL G Z w HP) (hn : ∀ id, hp.length ≤ id → id < r.2.1.length → G id = none) (ho : o.op = .makeMap t x) (hx : ∀ y, x = some y → Rep G Z w (evT GL tm y) (a.eval y)) (h : absMakeMap P hp t (x.map (evT GL tm)) = some r) : Does P GL G Z w a o hp.length r := by
  have hs : Below w.heap.size w (w.alloc (.map #[] 0)) := (Below.refl _ w).alloc (Nat.le_refl _) _
  have fin : r = (.mp hp.length, hp ++ [.ot (some (#[], 0))], 0, 0) → (execOp a.eval o).run P w = .ok (.value (.map (some w.heap.size))) (w.alloc (.map #[] 0)) → Does P GL G Z w a o hp.length r := fun e hrun => by
    subst e
    refine ⟨_, _, _, _, .inl hrun, res_new (k := 0) (i0 := .map (some w.heap.size)) hI (hn _ (Nat.le_refl _) (by simp)) (fun b hb => by cases hb; exact Nat.le_refl _) hs 0 (.inl rfl) (by rw [Rep]; exact ⟨_, gup_self, rfl⟩) (fun y hy => ⟨w.heap.size, gup_self, by cases hy; exact heap_alloc_new w _⟩) ?_⟩
    intro _ i b hi hb x hz
    rw [gup_self] at hi; cases hi
    cases hb
    rcases hz with hz | ⟨_, hz⟩
    · exact Nat.lt_irrefl _ (hI.zlt _ _ hz)
    · omega
  unfold absMakeMap at h
  cases x with
  | none =>
    cases h
    refine fin rfl ?_
    unfold execOp
    simp [ho, Instr.makeMap]
  | some y =>
    have hy := hx y rfl
    simp only [Option.map_some] at h
    generalize evT GL tm y = Y at hy h
    split at h
    · rename_i kt et k n hu
      cases h
      refine fin rfl ?_
      unfold execOp
      simp [ho, Instr.makeMap, rep_lf.1 hy, run_underlying hu, asInt, asIntOf]
    · cases h
theorem does_lookup {r : TV × List Ob × Nat × Nat} {t : TypeId} {x y : Operand} {ok : Bool} (hI : Inv GL G Z w HP) (ho : o.op = .lookup t x y ok) (hx : Rep G Z w (evT GL tm x) (a.eval x)) (hy : Rep G Z w (evT GL tm y) (a.eval y)) (hh : ∀ id ob, (r.2.2.1 ||| r.2.2.2).testBit id = true → hp[id]? = some ob → HP id ob) (h : absLookup P hp t (evT GL tm x) (evT GL tm y) ok = some r) : Does P GL G Z w a o hp.length r := by
  generalize evT GL tm x = X at hx h
  generalize evT GL tm y = Y at hy h
  unfold absLookup at h
  split at h
  · rename_i kt et id kv hu hk
    have hy := lfo_rep hk hy
    split at h
    · rename_i xx hid
      split at h
      · rename_i y' hy'
        cases h
        obtain ⟨rr, k1, k2⟩ := hI.good id _ (hh id _ (by simp [Nat.testBit_two_pow_self]) hid) xx rfl
        rw [Rep] at hx
        obtain ⟨r2, h1, h2⟩ := hx
        rw [k1] at h1; cases h1
        refine does_value hI (v := y') ?_ (tvOf_rep G Z w y')
        have hrun := prS_run hy' w
        unfold lookS at hrun
        simp only [Sem.run_bind] at hrun
        have key : (Instr.lookup t (.map (some rr)) kv ok).run P w = .ok y' w := by
          simp only [Instr.lookup, Sem.run_bind, run_underlying hu, Result.andThen_ok, getObj, Sem.run, k2, Sem.run_pure]
          exact hrun
        unfold execOp
        simp only [ho, h2, hy, Sem.run_bind, key, Result.andThen_ok, Sem.run_pure]
      · cases h
    · cases h
  · cases h
theorem does_insert {r : TV × List Ob × Nat × Nat} {t : TypeId} {x y z : Operand} (hI : Inv GL G Z w HP) (ho : o.op = .insert t x y z ∨ o.op = .mapUpdate t x y z) (hx : Rep G Z w (evT GL tm x) (a.eval x)) (hy : Rep G Z w (evT GL tm y) (a.eval y)) (hz : Rep G Z w (evT GL tm z) (a.eval z)) (hh : ∀ id ob, (r.2.2.1 ||| r.2.2.2).testBit id = true → hp[id]? = some ob → HP id ob) (h : absInsert P hp t (evT GL tm x) (evT GL tm y) (evT GL tm z) = some r) : Does P GL G Z w a o hp.length r := by
  generalize evT GL tm x = X at hx h
  generalize evT GL tm y = Y at hy h
  generalize evT GL tm z = V at hz h
  unfold absInsert at h
  split at h
  · rename_i kt et id kv vv hu hk hv
    have hy := lfo_rep hk hy
    have hz := lfo_rep hv hz
    split at h
    · rename_i xx hid
      split at h
      · rename_i y' hy'
        cases h
        have hob := hh id _ (by simp [Nat.testBit_two_pow_self]) hid
        obtain ⟨rr, k1, k2⟩ := hI.good id _ hob xx rfl
        have hnz := hI.free id _ hob rfl
        rw [Rep] at hx
        obtain ⟨r2, h1, h2⟩ := hx
        rw [k1] at h1; cases h1
        have hlt := (List.getElem?_eq_some_iff.1 hid).1
        have hrl : rr < w.heap.size := (Array.getElem?_eq_some_iff.1 k2).1
        obtain ⟨w', hw'⟩ : ∃ w' : World, w' = { w with heap := w.heap.setIfInBounds rr (.map y'.1 y'.2) } := ⟨_, rfl⟩
        have hrun : (execOp a.eval o).run P w = .ok .skip w' := by
          have hr := prS_run hy' w
          unfold updS at hr
          have key : (Instr.mapUpdate t (.map (some rr)) kv vv).run P w = .ok () w' := by
            simp only [Sem.run_bind] at hr
            simp only [Instr.mapUpdate, Sem.run_bind, run_underlying hu, Result.andThen_ok, getObj, Sem.run, k2]
            cases hck : (Instr.checkKey false 10000 kt kv).run P w with
            | halt q w1 => rw [hck] at hr; cases hr
            | ok q w1 =>
              rw [hck] at hr
              simp only [Result.andThen_ok] at hr ⊢
              cases hfk : (Instr.findKey kt kv xx.1.toList).run P w1 with
              | halt q w2 => rw [hfk] at hr; cases hr
              | ok q w2 =>
                rw [hfk] at hr
                simp only [Result.andThen_ok] at hr ⊢
                have fin : ∀ {es : Array MapEntry} {c : Nat} {w3 : World}, Result.ok (es, c) w3 = Result.ok y' w → (setObj rr (.map es c)).run P w3 = .ok () w' := fun {es c w3} e => by
                  injection e with e1 e2
                  subst e1 e2
                  simp [setObj, Sem.run, k2, hw']
                cases q with
                | none =>
                  simp only [Sem.run_pure] at hr
                  exact fin hr
                | some q =>
                  obtain ⟨i, q⟩ := q
                  simp only [Sem.run_bind] at hr ⊢
                  cases hks : (Instr.keyThatStays (((xx.1[i]?).map (·.key)).getD kv) kv).run P w2 with
                  | halt q w3 => rw [hks] at hr; cases hr
                  | ok key w3 =>
                    rw [hks] at hr
                    simp only [Result.andThen_ok, Sem.run_pure] at hr ⊢
                    exact fin hr
          unfold execOp
          rcases ho with ho | ho <;> simp only [ho, h2, hy, hz, Sem.run_bind, key, Result.andThen_ok, Sem.run_pure]
        have hoth : ∀ b, b ≠ rr → w'.heap[b]? = w.heap[b]? := fun b hb => by
          rw [hw']
          exact Array.getElem?_setIfInBounds_ne (fun e => hb e.symm)
        have hb0 : Below 0 w w' := ⟨by rw [hw'], by rw [hw'], by rw [hw'], by rw [hw']; simp, fun k hk => by omega⟩
        have hkp : Kp Z Z w w' := ⟨fun _ _ h => h, fun b x hz => World.cell?_of_block (a := ⟨b, x, none⟩) (hoth b (fun e => hnz _ rr k1 rfl x (e ▸ hz)))⟩
        have hlen' : (hp.set id (.ot (some y'))).length = hp.length := by simp
        have hget : (hp.set id (.ot (some y')))[id]? = some (.ot (some y')) := List.getElem?_set_self hlt
        refine ⟨undef, G, Z, w', .inr ⟨hrun, rfl⟩, ⟨⟨Gle.refl G, fun _ _ h => h, hkp, hb0, fun b hb hT => hoth b (fun e => hT id _ tt_self k1 (by rw [e]; rfl)), fun k i b h1 h2 => .inr ⟨k, i, .inr rfl, h1, h2⟩, fun _ _ h => .inl h, fun b x hz => Nat.lt_of_lt_of_le (hI.zlt b x hz) hb0.size⟩, rep_lf.2 rfl, ?_, ?_, ?_, ?_⟩⟩
        · intro k ob hT ho'
          have := tt_one hlen' hT
          subst this
          rw [hget] at ho'; cases ho'
          intro q hq
          cases hq
          refine ⟨rr, k1, ?_⟩
          rw [hw']
          exact Array.getElem?_setIfInBounds_self_of_lt hrl
        · intro k ob hT ho'
          have := tt_one hlen' hT
          subst this
          rw [hget] at ho'; cases ho'
          intro _; exact hnz
        · intro k1 k2 _ _ i i' b hT hT' _ _ _ _ _ _ _ _
          rw [tt_one hlen' hT, tt_one hlen' hT']
        · intro k i' hT _
          have := tt_one hlen' hT
          subst this
          exact ⟨_, hget⟩
      · cases h
    · cases h
  · cases h
end
end Go.Eng
end

section
set_option linter.unusedVariables false
set_option linter.unusedSimpArgs false
namespace Go.Eng
open Go.RowKit
def nnK (hp : List Ob) : TV → Nat × Nat
  | .fr _ (_ :: _) _ => (1, 0)
  | .vw id _ _ _ _ => match hp[id]? with
    | some (.ro _ _ (_ + 1) _ _) => (1, 2 ^ id)
    | _ => (0, 0)
  | .pt _ _ => (2, 0)
  | .ep _ _ => (2, 0)
  | .mp _ => (3, 0)
  | .fn _ _ _ => (4, 0)
  | .ic _ _ => (5, 0)
  | _ => (0, 0)
def nlK : TV → Nat
  | .lf (.slice none _ _) => 1
  | .lf (.pointer none) => 2
  | .lf (.map none) => 3
  | .lf .nilFunc => 4
  | .lf .nilIface => 5
  | _ => 0
def tyK (P : Program) (t : TypeId) : Nat := match P.underlying t with
  | some (.slice _) => 1
  | some (.pointer _) => 2
  | some (.map _ _) => 3
  | some (.func _ _ _) => 4
  | some (.interface _) => 5
  | _ => 0
def absNil (P : Program) (hp : List Ob) (op : BinOp) (t : TypeId) (x y : TV) : AR :=
  if tyK P t ≠ 0 ∧ (((nnK hp x).1 = tyK P t ∧ nlK y = tyK P t) ∨ (nlK x = tyK P t ∧ (nnK hp y).1 = tyK P t)) then
    match op with
    | .eql => some (.lf (.bool false), hp, (nnK hp x).2 ||| (nnK hp y).2, 0)
    | .neq => some (.lf (.bool true), hp, (nnK hp x).2 ||| (nnK hp y).2, 0)
    | _ => none
  else none
def vnK : Value → Nat
  | .slice (some _) _ _ => 1
  | .pointer (some _) => 2
  | .map (some _) => 3
  | .func _ _ _ => 4
  | .iface _ _ => 5
  | _ => 0
def vlK : Value → Nat
  | .slice none _ _ => 1
  | .pointer none => 2
  | .map none => 3
  | .nilFunc => 4
  | .nilIface => 5
  | _ => 0
section
variable {P : Program} {GL : Nat → Option (List Dt)} {G : Gh} {Z : Zn} {w : World} {HP : Nat → Ob → Prop} {tm : List TV} {hp : List Ob} {o : Oper} {a : Act}
theorem nnK_rep (hI : Inv GL G Z w HP) {t : TV} {v : Value} (h : Rep G Z w t v) (hh : ∀ id ob, (nnK hp t).2.testBit id = true → hp[id]? = some ob → HP id ob) (h0 : (nnK hp t).1 ≠ 0) : vnK v = (nnK hp t).1 := by
  unfold nnK at h0 hh ⊢
  split at h0
  · rw [Rep] at h
    obtain ⟨A, cap, rfl, h2, _, h3⟩ := h
    obtain ⟨g, o, vs, rfl, _⟩ := row_at h3 (i := 0) (c := _) rfl
    rfl
  · split at h0
    · rename_i e sz' n cs fz hid
      simp only [hid] at hh ⊢
      obtain ⟨v1, cells, k1, k2, k3, _⟩ := hI.good _ _ (hh _ _ (Nat.testBit_two_pow_self ..) hid)
      rw [Rep] at h
      obtain ⟨_, v0, hG, A, n', cap, A', cap', rfl, rfl, _, _, _, _, _, _, hA⟩ := h
      rw [k1] at hG; cases hG
      rcases k3.2 with ⟨hv, hz⟩ | ⟨g, cap2, cur, hv, _⟩
      · cases hz
      · cases hv
        cases A' with
        | none => cases hA
        | some _ => rfl
    · exact absurd rfl h0
  · rw [Rep] at h
    obtain ⟨g, _, rfl⟩ := h
    rfl
  · rw [Rep] at h
    obtain ⟨g, o', vs, rfl, _⟩ := h
    rfl
  · rw [Rep] at h
    obtain ⟨r, _, rfl⟩ := h
    rfl
  · rw [Rep] at h
    obtain ⟨va, vb, rfl, _⟩ := h
    rfl
  · rw [Rep] at h
    obtain ⟨u, rfl, _⟩ := h
    rfl
  · exact absurd rfl h0
theorem nlK_rep {t : TV} {v : Value} (h : Rep G Z w t v) (h0 : nlK t ≠ 0) : vlK v = nlK t := by
  unfold nlK at h0 ⊢
  split at h0 <;> first | (rw [rep_lf.1 h]; rfl) | exact absurd rfl h0
theorem run_nilEq {t : TypeId} {X Y : Value} {x y : Operand} (h : tyK P t ≠ 0) (hx : (vnK X = tyK P t ∧ vlK Y = tyK P t) ∨ (vlK X = tyK P t ∧ vnK Y = tyK P t)) :
    (do eqGuard .eql t x y X Y; binOp .eql t X Y : Sem Value).run P w = .ok (.bool false) w ∧ (do eqGuard .neq t x y X Y; binOp .neq t X Y : Sem Value).run P w = .ok (.bool true) w := by
  have fin : eqGuard .eql t x y X Y = pure () → eqGuard .neq t x y X Y = pure () → (binOp .eql t X Y = do pure (.bool (← Op.equal t X Y))) → (binOp .neq t X Y = do pure (.bool (!(← Op.equal t X Y)))) → (Op.equalIn (9999 + 1) t X Y).run P w = .ok false w → (do eqGuard .eql t x y X Y; binOp .eql t X Y : Sem Value).run P w = .ok (.bool false) w ∧ (do eqGuard .neq t x y X Y; binOp .neq t X Y : Sem Value).run P w = .ok (.bool true) w := fun h1 h2 h3 h4 h5 => by
    have h5 : (Op.equal t X Y).run P w = .ok false w := h5
    rw [h1, h2, h3, h4]
    constructor <;> simp only [Sem.run_bind, Sem.run_pure, Result.andThen_ok, h5, Bool.not_false]
  unfold tyK at h hx
  split at h
  all_goals first | exact absurd rfl h | skip
  all_goals
    rename_i hu
    rw [hu] at hx
    simp only at hx
    rcases hx with ⟨hx, hy⟩ | ⟨hx, hy⟩
    all_goals
      (try unfold vnK at hx) <;> (try unfold vlK at hx) <;> (try unfold vnK at hy) <;> (try unfold vlK at hy)
      split at hx <;> first | cases hx | skip
      all_goals
        split at hy <;> first | cases hy | skip
        all_goals
          refine fin rfl rfl rfl rfl ?_
          rw [Op.equalIn]
          simp only [Sem.run_bind, run_underlying hu, Result.andThen_ok, Sem.run_pure, Option.isNone_some, Option.isNone_none]
theorem does_nil {r : TV × List Ob × Nat × Nat} {op : BinOp} {t u : TypeId} {x y : Operand} (hI : Inv GL G Z w HP) (ho : o.op = .binOp op t x y u) (hx : Rep G Z w (evT GL tm x) (a.eval x)) (hy : Rep G Z w (evT GL tm y) (a.eval y)) (hh : ∀ id ob, (r.2.2.1 ||| r.2.2.2).testBit id = true → hp[id]? = some ob → HP id ob) (h : absNil P hp op t (evT GL tm x) (evT GL tm y) = some r) : Does P GL G Z w a o hp.length r := by
  unfold absNil at h
  split at h
  · rename_i hc
    obtain ⟨h0, hc⟩ := hc
    have key : r.2.2.1 = (nnK hp (evT GL tm x)).2 ||| (nnK hp (evT GL tm y)).2 → (vnK (a.eval x) = tyK P t ∧ vlK (a.eval y) = tyK P t) ∨ (vlK (a.eval x) = tyK P t ∧ vnK (a.eval y) = tyK P t) := fun hr => by
      rcases hc with ⟨h1, h2⟩ | ⟨h1, h2⟩
      · exact .inl ⟨by rw [nnK_rep hI hx (fun id ob hb => hh id ob (by rw [hr]; simp [Nat.testBit_or, hb])) (by rw [h1]; exact h0), h1], by rw [nlK_rep hy (by rw [h2]; exact h0), h2]⟩
      · exact .inr ⟨by rw [nlK_rep hx (by rw [h1]; exact h0), h1], by rw [nnK_rep hI hy (fun id ob hb => hh id ob (by rw [hr]; simp [Nat.testBit_or, hb])) (by rw [h2]; exact h0), h2]⟩
    split at h
    · cases h
      have := (run_nilEq (P := P) (w := w) (x := x) (y := y) h0 (key rfl)).1
      refine does_value hI (v := .bool false) ?_ (rep_lf.2 rfl)
      unfold execOp
      simp only [ho]
      simp only [Sem.run_bind] at this ⊢
      rw [this]
      rfl
    · cases h
      have := (run_nilEq (P := P) (w := w) (x := x) (y := y) h0 (key rfl)).2
      refine does_value hI (v := .bool true) ?_ (rep_lf.2 rfl)
      unfold execOp
      simp only [ho]
      simp only [Sem.run_bind] at this ⊢
      rw [this]
      rfl
    · cases h
  · cases h
end
end Go.Eng
end

section
set_option linter.unusedVariables false
set_option linter.unusedSimpArgs false
namespace Go.Eng
open Go.RowKit
def absCopy (P : Program) (hp : List Ob) (ats : Array TypeId) (d x : TV) : AR :=
  match ats.toList with
  | [t, _] => match P.underlying t with
    | some (.slice e) => match P.info? e with
      | some ie => if ie.size = 1 then match srcR hp 1 x with
        | some (m, ys, R) => match d with
          | .vw id sz off len _ => match hp[id]? with
            | some (.ro e' sz' n cs fz) => if (sz = 1 ∧ sz' = 1) ∧ off + len ≤ n ∧ fz ≤ off then some (.lf (.int .i64 ((Nat.min m len : Nat) : Int)), hp.set id (.ro e' 1 n (putC cs off (ys.take (Nat.min m len))) fz), R, 2 ^ id) else none
            | _ => none
          | _ => none
        | none => none else none
      | none => none
    | _ => none
  | _ => none
section
variable {P : Program} {GL : Nat → Option (List Dt)} {G : Gh} {Z : Zn} {w : World} {HP : Nat → Ob → Prop} {tm : List TV} {hp : List Ob} {o : Oper} {a : Act}
theorem copy_exec {ats : Array TypeId} {s x : Operand} {v' : Value} {w' : World} (ho : o.op = .call { callee := .builtin .copy, args := #[s, x], argTypes := ats }) (h : (Builtin.copy_ ats o.type #[a.eval s, a.eval x]).run P w = .ok v' w') : (execOp a.eval o).run P w = .ok (.value v') w' := by
  unfold execOp
  simp [ho, resolve, invoke, builtin, h]
theorem putC_nil (cs : List TV) (off : Nat) : putC cs off [] = cs := by simp [putC]
theorem does_copy {r : TV × List Ob × Nat × Nat} {d x : Operand} {ats : Array TypeId} (hI : Inv GL G Z w HP) (ho : o.op = .call { callee := .builtin .copy, args := #[d, x], argTypes := ats }) (hd : Rep G Z w (evT GL tm d) (a.eval d)) (hx : Rep G Z w (evT GL tm x) (a.eval x)) (hh : ∀ id ob, (r.2.2.1 ||| r.2.2.2).testBit id = true → hp[id]? = some ob → HP id ob) (h : absCopy P hp ats (evT GL tm d) (evT GL tm x) = some r) : Does P GL G Z w a o hp.length r := by
  generalize evT GL tm d = D at hd h
  generalize evT GL tm x = X at hx h
  unfold absCopy at h
  split at h
  rotate_left
  · cases h
  rename_i t t2 hats
  split at h
  rotate_left
  · cases h
  rename_i e hu
  split at h
  rotate_left
  · cases h
  rename_i ie hie
  split at h
  rotate_left
  · cases h
  rename_i hsz1
  split at h
  rotate_left
  · cases h
  rename_i m ys R hsrc
  split at h
  rotate_left
  · cases h
  rename_i id sz off len full
  split at h
  rotate_left
  · cases h
  rename_i e' sz' n cs fz hid
  split at h
  rotate_left
  · cases h
  rename_i hc
  obtain ⟨⟨rfl, rfl⟩, hle, hfz⟩ := hc
  simp only [Option.some.injEq] at h
  subst h
  have hats2 : ats = #[t, t2] := by rw [← hats]
  have hob := hh id _ (by simp [Nat.testBit_two_pow_self]) hid
  have hlt := (List.getElem?_eq_some_iff.1 hid).1
  obtain ⟨B, c, news, hxv, hnl, hnr, hn1, hnpos⟩ := srcR_rep hI (by omega) hsrc (fun i ob hi => hh i ob (by simp only [Nat.testBit_or, hi, Bool.true_or])) hx
  rw [Nat.mul_one] at hnl
  rw [Rep] at hd
  obtain ⟨_, v0, hG, A, n', cap, A', cap', e0, hdv, hn', hc1, hc2, hc3, hc4, hc5, _⟩ := hd
  obtain ⟨v1, cells, k1, k2, k3, k4, k5, k6⟩ := hI.good id _ hob
  have hfree := hI.free id _ hob
  rw [hG] at k1
  obtain rfl : v0 = v1 := by injection k1
  have hinfo : (P.info? e).map (·.size) = some 1 := by rw [hie]; simp [hsz1]
  have hcl : cells.length = n := by have := k3.1; omega
  have hcsl := repl_len k4
  have hysl := repl_len hnr
  by_cases hk : Nat.min m len = 0
  · have hrun : (execOp a.eval o).run P w = .ok (.value (goInt 0)) w := copy_exec ho (by
      rw [hats2, hdv, hxv]
      exact run_copy_none (P := P) w t t2 o.type e A' B len cap' m c hu hinfo hk)
    have hset : hp.set id (.ro e' 1 n (putC cs off (ys.take (Nat.min m len))) fz) = hp := by
      rw [hk, List.take_zero, putC_nil]
      refine List.ext_getElem? fun p => ?_
      by_cases ep : id = p
      · subst ep; rw [List.getElem?_set_self hlt, hid]
      · rw [List.getElem?_set_ne ep]
    rw [hset, hk]
    refine ⟨goInt 0, G, Z, w, .inl hrun, ?_⟩
    refine ⟨Stp.mono (Stp.refl hI.zlt) (fun _ h => h), rep_lf.2 rfl, ?_, ?_, ?_, ?_⟩
    · intro id' ob'' hT hob'
      have := tt_one rfl hT; subst this
      rw [hid] at hob'; cases hob'
      exact hI.good _ _ hob
    · intro id' ob'' hT hob'
      have := tt_one rfl hT; subst this
      rw [hid] at hob'; cases hob'
      exact hfree
    · intro id1 id2 _ _ i i' b hT hT' _ _ _ _ _ _ _ _
      rw [tt_one rfl hT, tt_one rfl hT']
    · intro id' i' hT _
      have := tt_one rfl hT; subst this
      exact ⟨_, hid⟩
  · have hm : 0 < m := by rcases Nat.eq_zero_or_pos m with h0 | h0; (subst h0; simp at hk); exact h0
    have hl0 : 0 < len := by rcases Nat.eq_zero_or_pos len with h0 | h0; (subst h0; simp at hk); exact h0
    have hkm : Nat.min m len ≤ m := Nat.min_le_left ..
    have hkl : Nat.min m len ≤ len := Nat.min_le_right ..
    have hlen' : (hp.set id (.ro e' 1 n (putC cs off (ys.take (Nat.min m len))) fz)).length = hp.length := by simp
    have hmin : Nat.min m len = Nat.min m len := rfl
    generalize hkk : Nat.min m len = k at hk hkm hkl hlen' ⊢
    rcases k3.2 with ⟨rfl, hz⟩ | ⟨g, cap2, cur, rfl, hg0, hgg, hnc, hcm, hcs, htake⟩
    · omega
    cases e0
    have hA := hc5 hl0
    rw [Option.map_some, Addr.add_mid, Nat.zero_add, Nat.mul_one] at hA
    subst hA
    obtain ⟨gs, os, hB, hcell⟩ := hnpos hm
    subst hB
    have hul : (news.take k).length = k := by rw [List.length_take]; omega
    have h3 : ∀ u ∈ news.take k, u.oneCell' = true := fun u hu => hn1 u (List.mem_of_mem_take hu)
    have hcsz : n ≤ cur.size := by omega
    have hrun := run_copy_row (P := P) w t t2 o.type e g off len cap' ⟨gs, os, none⟩ m c cur e' (news.take k) hu hinfo hgg (by rw [hul, hkk]) (fun j v hj => by
      rw [Addr.add_mid]
      refine hcell j v ?_
      rw [List.getElem?_take] at hj
      split at hj
      · exact hj
      · cases hj) (by omega) h3
    rw [hul] at hrun
    have hrun2 : (execOp a.eval o).run P w = .ok (.value (goInt k)) (w.setRow g (cur.toList.take off ++ news.take k ++ cur.toList.drop (off + k)).toArray) := copy_exec ho (by
      rw [hats2, hdv, hxv]
      exact hrun)
    generalize hus : news.take k = us at *
    subst hul
    have hnz : ∀ x, off ≤ x → x < off + us.length → ¬ Z g x := fun x h1 h2 hz => hfree _ _ hG rfl x (by omega) hz
    have hoth : ∀ b, b ≠ g → (w.setRow g (cur.toList.take off ++ us ++ cur.toList.drop (off + us.length)).toArray).heap[b]? = w.heap[b]? := fun b hb => setRow_other w g b _ hb
    have hb0 : Below 0 w (w.setRow g (cur.toList.take off ++ us ++ cur.toList.drop (off + us.length)).toArray) := below_setRow (Below.refl 0 w) (Nat.zero_le _) _
    have hkp : Kp Z Z w (w.setRow g (cur.toList.take off ++ us ++ cur.toList.drop (off + us.length)).toArray) := ⟨fun _ _ h => h, fun b x hz => by
      by_cases e : b = g
      · subst e
        rw [cell_setRow_same w b x cur _ _ _ hgg]
        have hx2 : x < off ∨ off + us.length ≤ x := Nat.lt_or_ge x off |>.elim .inl fun hge => .inr (Nat.le_of_not_lt fun hlt => hnz x hge hlt hz)
        have : w.cell? ⟨b, x, none⟩ = cur[x]? := by simp [World.cell?, hgg]
        rw [this]
        have hll : (cur.toList.take off ++ us).length = off + us.length := by rw [List.length_append, List.length_take, Array.length_toList]; omega
        rw [List.getElem?_toArray]
        rcases hx2 with hx2 | hx2
        · rw [List.append_assoc, List.getElem?_append_left (by rw [List.length_take, Array.length_toList]; omega), List.getElem?_take, if_pos hx2]; simp
        · rw [List.getElem?_append_right (by omega), hll, List.getElem?_drop, show off + us.length + (x - (off + us.length)) = x by omega]; simp
      · exact World.cell?_of_block (a := ⟨b, x, none⟩) (hoth b e)⟩
    have hur : RepL G Z w (ys.take us.length) us := by
      have := repl_take hnr us.length
      rwa [hus] at this
    have hget : (hp.set id (.ro e' 1 n (putC cs off (ys.take us.length)) fz))[id]? = some (.ro e' 1 n (putC cs off (ys.take us.length)) fz) := by rw [List.getElem?_set_self hlt]
    have hyl : (ys.take us.length).length = us.length := by rw [List.length_take]; omega
    have hgood : Good G Z (w.setRow g (cur.toList.take off ++ us ++ cur.toList.drop (off + us.length)).toArray) id (.ro e' 1 n (putC cs off (ys.take us.length)) fz) := by
      refine ⟨_, cells.take off ++ us ++ cells.drop (off + us.length), hG, rfl, ⟨?_, .inr ⟨g, cap, (cur.toList.take off ++ us ++ cur.toList.drop (off + us.length)).toArray, rfl, hg0, ?_, hnc, hcm, ?_, ?_⟩⟩, ?_, ?_, k6⟩
      · rw [List.length_append, List.length_append, List.length_take, List.length_drop]; omega
      · exact setRow_heap w g _ _ e' _ hgg
      · simp only [List.size_toArray, List.length_append, List.length_take, List.length_drop, Array.length_toList]; omega
      · have hoff : off + us.length ≤ n * 1 := by omega
        have hle2 : n * 1 ≤ cur.size := by omega
        have hcl2 : cells.length = n * 1 := by omega
        clear hcs hkp hgg k3 hfree hrun hrun2 hget
        generalize n * 1 = N at htake hcl2 hle2 hoff ⊢
        subst htake
        refine List.ext_getElem? fun p => ?_
        rw [List.getElem?_take]
        have e1 : (cur.toList.take off).length = off := by rw [List.length_take, Array.length_toList]; omega
        have e2 : ((cur.toList.take N).take off).length = off := by rw [List.length_take]; omega
        by_cases hp1 : p < N
        · rw [if_pos hp1]
          by_cases hp2 : p < off
          · rw [List.append_assoc, List.append_assoc, List.getElem?_append_left (by omega), List.getElem?_append_left (by omega), List.getElem?_take, List.getElem?_take, List.getElem?_take, if_pos hp2, if_pos hp1, if_pos hp2]
          · by_cases hp3 : p < off + us.length
            · rw [mid_get e1 (by omega) hp3, mid_get e2 (by omega) hp3]
            · rw [end_get e1 (by omega), end_get e2 (by omega), List.getElem?_drop, List.getElem?_drop, List.getElem?_take, if_pos (by omega)]
        · rw [if_neg hp1, List.getElem?_eq_none]
          rw [List.length_append, List.length_append, e2, List.length_drop, hcl2]
          omega
      · unfold putC
        rw [hyl]
        exact (repl_app (repl_app (repl_take k4 off) hur) (repl_drop k4 _)).keep (Gle.refl G) hkp
      · intro u hu
        rcases List.mem_append.1 hu with hu | hu
        · rcases List.mem_append.1 hu with hu | hu
          · exact k5 u (List.mem_of_mem_take hu)
          · exact h3 u hu
        · exact k5 u (List.mem_of_mem_drop hu)
    refine ⟨goInt us.length, G, Z, _, .inl hrun2, ?_⟩
    refine ⟨⟨Gle.refl G, fun _ _ h => h, hkp, hb0, fun b hb hT => hoth b (fun e => hT id _ tt_self hG (by rw [e]; rfl)), fun id i b h1 h2 => .inr ⟨id, i, .inr rfl, h1, h2⟩, fun _ _ h => .inl h, fun b x hz => by simpa using hI.zlt b x hz⟩, rep_lf.2 rfl, ?_, ?_, ?_, ?_⟩
    · intro id' ob'' hT hob'
      have hid' := tt_one hlen' hT
      subst hid'
      rw [hget] at hob'; cases hob'
      exact hgood
    · intro id' ob'' hT hob'
      have hid' := tt_one hlen' hT
      subst hid'
      rw [hget] at hob'; cases hob'
      exact hfree
    · intro id1 id2 _ _ i i' b hT hT' _ _ _ _ _ _ _ _
      rw [tt_one hlen' hT, tt_one hlen' hT']
    · intro id' i' hT _
      have hid' := tt_one hlen' hT
      subst hid'
      exact ⟨_, hget⟩
end
end Go.Eng
end
