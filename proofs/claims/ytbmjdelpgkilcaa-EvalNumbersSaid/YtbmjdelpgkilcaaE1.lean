/-
  A machine on plain data, one: data that no one changes any more, values, what they stand for in a world.
-/
import Derived.Orders
import Derived.LoopN
import Derived.Scope
import Derived.Deep.AppendLies
import Derived.Deep.MidRow
import Derived.Laws.Tables
import Derived.Below
import Derived.Laws.CopyRow
import Derived.Great.BuildSlice
import Derived.Maps.AppendAt
import Derived.RegionTactic
import Derived.OwnWalk
import Derived.Shelf.Abstract
import Derived.ArgAppend
import Derived.Laws.CopyOwn
set_option linter.unusedVariables false
section
set_option linter.unusedVariables false
set_option linter.unusedSimpArgs false
namespace Go.Eng
open Go.RowKit
inductive Dt
  | leaf (v : Value)
  | row (sz : Nat) (xs : List (List Dt))
abbrev Zn := Nat → Nat → Prop
def FrR (Z : Zn) (w : World) (g o : Nat) (cs : List Value) : Prop := ∀ (j : Nat) (v : Value), cs[j]? = some v → w.cell? ⟨g, o + j, none⟩ = some v ∧ Z g (o + j)
mutual
def DtR (Z : Zn) (w : World) : Dt → Value → Prop
  | .leaf u, v => v = u ∧ u.oneCell' = true
  | .row sz xs, v => ∃ A cap, v = .slice A xs.length cap ∧ (xs.length ≤ cap ∧ cap ≤ maxLen ∧ 0 < sz) ∧ RwR Z w sz A 0 xs
def RwR (Z : Zn) (w : World) (sz : Nat) (A : Option Addr) : Nat → List (List Dt) → Prop
  | _, [] => True
  | i, x :: xs => (∃ g o cs, A = some ⟨g, o, none⟩ ∧ FrR Z w g (o + i * sz) cs ∧ cs.length = sz ∧ FsR Z w x cs) ∧ RwR Z w sz A (i + 1) xs
def FsR (Z : Zn) (w : World) : List Dt → List Value → Prop
  | [], cs => cs = []
  | d :: ds, cs => ∃ c cs', cs = c :: cs' ∧ DtR Z w d c ∧ FsR Z w ds cs'
end
theorem dt_leaf {Z : Zn} {w : World} {u v : Value} : DtR Z w (.leaf u) v ↔ v = u ∧ u.oneCell' = true := by unfold DtR; exact Iff.rfl
theorem dt_row {Z : Zn} {w : World} {sz : Nat} {xs : List (List Dt)} {v : Value} : DtR Z w (.row sz xs) v ↔ ∃ A cap, v = .slice A xs.length cap ∧ (xs.length ≤ cap ∧ cap ≤ maxLen ∧ 0 < sz) ∧ RwR Z w sz A 0 xs := by unfold DtR; exact Iff.rfl
theorem rw_cons {Z : Zn} {w : World} {sz : Nat} {A : Option Addr} {i : Nat} {x : List Dt} {xs : List (List Dt)} : RwR Z w sz A i (x :: xs) ↔ (∃ g o cs, A = some ⟨g, o, none⟩ ∧ FrR Z w g (o + i * sz) cs ∧ cs.length = sz ∧ FsR Z w x cs) ∧ RwR Z w sz A (i + 1) xs := by rw [RwR]
theorem rw_nil {Z : Zn} {w : World} {sz : Nat} {A : Option Addr} {i : Nat} : RwR Z w sz A i [] := by unfold RwR; trivial
theorem fs_cons {Z : Zn} {w : World} {d : Dt} {ds : List Dt} {cs : List Value} : FsR Z w (d :: ds) cs ↔ ∃ c cs', cs = c :: cs' ∧ DtR Z w d c ∧ FsR Z w ds cs' := by rw [FsR]
theorem fs_nil {Z : Zn} {w : World} {cs : List Value} : FsR Z w [] cs ↔ cs = [] := by rw [FsR]
theorem fs_len {Z : Zn} {w : World} : ∀ {ds : List Dt} {cs : List Value}, FsR Z w ds cs → cs.length = ds.length
  | [], cs, h => by rw [fs_nil.1 h]; rfl
  | d :: ds, cs, h => by
    obtain ⟨c, cs', rfl, _, h2⟩ := fs_cons.1 h
    rw [List.length_cons, List.length_cons, fs_len h2]
theorem dt_one {Z : Zn} {w : World} {d : Dt} {v : Value} (h : DtR Z w d v) : v.oneCell' = true := by
  cases d with
  | leaf u => obtain ⟨rfl, h2⟩ := dt_leaf.1 h; exact h2
  | row sz xs => obtain ⟨A, cap, rfl, _⟩ := dt_row.1 h; rfl
theorem fs_one {Z : Zn} {w : World} : ∀ {ds : List Dt} {cs : List Value}, FsR Z w ds cs → ∀ v ∈ cs, v.oneCell' = true
  | [], cs, h => by rw [fs_nil.1 h]; intro v hv; cases hv
  | d :: ds, cs, h => by
    obtain ⟨c, cs', rfl, h1, h2⟩ := fs_cons.1 h
    intro v hv
    rcases List.mem_cons.1 hv with rfl | hv
    · exact dt_one h1
    · exact fs_one h2 v hv
structure Kp (Z Z' : Zn) (w w' : World) : Prop where
  sub : ∀ g o, Z g o → Z' g o
  cell : ∀ g o, Z g o → w'.cell? ⟨g, o, none⟩ = w.cell? ⟨g, o, none⟩
theorem Kp.refl (Z : Zn) (w : World) : Kp Z Z w w := ⟨fun _ _ h => h, fun _ _ _ => rfl⟩
theorem Kp.trans {Z Z' Z'' : Zn} {w w' w'' : World} (h : Kp Z Z' w w') (h' : Kp Z' Z'' w' w'') : Kp Z Z'' w w'' := ⟨fun g o x => h'.sub g o (h.sub g o x), fun g o x => (h'.cell g o (h.sub g o x)).trans (h.cell g o x)⟩
section
variable {Z Z' : Zn} {w w' : World}
theorem FrR.keep (hk : Kp Z Z' w w') {g o : Nat} {cs : List Value} (h : FrR Z w g o cs) : FrR Z' w' g o cs := fun j v hv => by
  obtain ⟨h1, h2⟩ := h j v hv
  exact ⟨(hk.cell _ _ h2).trans h1, hk.sub _ _ h2⟩
mutual
theorem DtR.keep (hk : Kp Z Z' w w') : ∀ {d : Dt} {v : Value}, DtR Z w d v → DtR Z' w' d v
  | .leaf u, v, h => dt_leaf.2 (dt_leaf.1 h)
  | .row sz xs, v, h => by
    obtain ⟨A, cap, h1, h2, h3⟩ := dt_row.1 h
    exact dt_row.2 ⟨A, cap, h1, h2, RwR.keep hk h3⟩
theorem RwR.keep (hk : Kp Z Z' w w') : ∀ {xs : List (List Dt)} {sz i : Nat} {A : Option Addr}, RwR Z w sz A i xs → RwR Z' w' sz A i xs
  | [], sz, i, A, h => rw_nil
  | x :: xs, sz, i, A, h => by
    obtain ⟨⟨g, o, cs, h1, h2, h3, h4⟩, h5⟩ := rw_cons.1 h
    exact rw_cons.2 ⟨⟨g, o, cs, h1, h2.keep hk, h3, FsR.keep hk h4⟩, RwR.keep hk h5⟩
theorem FsR.keep (hk : Kp Z Z' w w') : ∀ {ds : List Dt} {cs : List Value}, FsR Z w ds cs → FsR Z' w' ds cs
  | [], cs, h => fs_nil.2 (fs_nil.1 h)
  | d :: ds, cs, h => by
    obtain ⟨c, cs', h1, h2, h3⟩ := fs_cons.1 h
    exact fs_cons.2 ⟨c, cs', h1, DtR.keep hk h2, FsR.keep hk h3⟩
end
end
theorem RwR.get {Z : Zn} {w : World} {sz : Nat} {A : Option Addr} : ∀ {xs : List (List Dt)} {i j : Nat} {x : List Dt}, RwR Z w sz A i xs → xs[j]? = some x → ∃ g o cs, A = some ⟨g, o, none⟩ ∧ FrR Z w g (o + (i + j) * sz) cs ∧ cs.length = sz ∧ FsR Z w x cs
  | [], i, j, x, h, hx => by simp at hx
  | y :: xs, i, 0, x, h, hx => by
    obtain rfl : y = x := by simpa using hx
    exact (rw_cons.1 h).1
  | y :: xs, i, j + 1, x, h, hx => by
    have := RwR.get (rw_cons.1 h).2 (by simpa using hx : xs[j]? = some x)
    rwa [show i + 1 + j = i + (j + 1) by omega] at this
theorem rw_of {Z : Zn} {w : World} {sz : Nat} {A : Option Addr} : ∀ {xs : List (List Dt)} {i : Nat}, (∀ (j : Nat) (x : List Dt), xs[j]? = some x → ∃ g o cs, A = some ⟨g, o, none⟩ ∧ FrR Z w g (o + (i + j) * sz) cs ∧ cs.length = sz ∧ FsR Z w x cs) → RwR Z w sz A i xs
  | [], i, h => rw_nil
  | x :: xs, i, h => by
    refine rw_cons.2 ⟨by simpa using h 0 x rfl, rw_of fun j y hy => ?_⟩
    have := h (j + 1) y (by simpa using hy)
    rwa [show i + (j + 1) = i + 1 + j by omega] at this
theorem RwR.take {Z : Zn} {w : World} {sz : Nat} {A : Option Addr} {xs : List (List Dt)} {i : Nat} (h : RwR Z w sz A i xs) (k : Nat) : RwR Z w sz A i (xs.take k) := rw_of fun j x hx => by
  rw [List.getElem?_take] at hx
  split at hx
  · exact h.get hx
  · cases hx
inductive TV
  | bad
  | lf (v : Value)
  | fr (sz : Nat) (xs : List (List Dt)) (full : Bool)
  | vw (id sz off len : Nat) (full : Bool)
  | pt (id off : Nat)
  | ep (cs : List Dt) (off : Nat)
  | ag (cs : List TV)
  | tu (cs : List TV)
  | fn (f : FuncId) (a b : List TV)
  | mp (id : Nat)
  | ic (t : TypeId) (x : TV)
abbrev Gh := Nat → Option Value
def blk : Value → Option Nat
  | .pointer (some a) => some a.block
  | .slice (some a) _ _ => some a.block
  | .map (some r) => some r
  | _ => none
def isSl : Value → Bool
  | .slice .. => true
  | _ => false
def Gle (G G' : Gh) : Prop := ∀ id v, G id = some v → G' id = some v
theorem Gle.refl (G : Gh) : Gle G G := fun _ _ h => h
theorem Gle.trans {G G' G'' : Gh} (h : Gle G G') (h' : Gle G' G'') : Gle G G'' := fun id v hv => h' id v (h id v hv)
def PartOf (v0 : Value) (sz off len : Nat) (full : Bool) (v : Value) : Prop := ∃ A n cap A' cap', v0 = .slice A n cap ∧ v = .slice A' len cap' ∧ off + len ≤ n ∧ len ≤ cap' ∧ cap' ≤ maxLen ∧ (full = true → cap' = len) ∧ (off = 0 → A' = A ∧ (full = false → cap' = cap)) ∧ (0 < len → A' = A.map (·.add (off * sz))) ∧ A'.isSome = A.isSome
mutual
def Rep (G : Gh) (Z : Zn) (w : World) : TV → Value → Prop
  | .bad, _ => True
  | .lf u, v => v = u
  | .fr sz xs full, v => ∃ A cap, v = .slice A xs.length cap ∧ (xs.length ≤ cap ∧ cap ≤ maxLen ∧ 0 < sz) ∧ (full = true → cap = xs.length) ∧ RwR Z w sz A 0 xs
  | .vw id sz off len full, v => 0 < sz ∧ ∃ v0, G id = some v0 ∧ PartOf v0 sz off len full v
  | .pt id off, v => ∃ g, (∃ v0, G id = some v0 ∧ blk v0 = some g) ∧ v = .pointer (some ⟨g, off, none⟩)
  | .ep cs off, v => ∃ g o vs, v = .pointer (some ⟨g, o + off, none⟩) ∧ FrR Z w g o vs ∧ FsR Z w cs vs
  | .ag cs, v => ∃ vs : List Value, v = .agg vs.toArray ∧ RepL G Z w cs vs
  | .tu cs, v => ∃ vs : List Value, v = .tuple vs.toArray ∧ RepL G Z w cs vs
  | .fn f a b, v => ∃ va vb : List Value, v = .func (.func f) va.toArray vb.toArray ∧ RepL G Z w a va ∧ RepL G Z w b vb
  | .mp id, v => ∃ r, G id = some (.map (some r)) ∧ v = .map (some r)
  | .ic t x, v => ∃ u, v = .iface t u ∧ Rep G Z w x u
def RepL (G : Gh) (Z : Zn) (w : World) : List TV → List Value → Prop
  | [], vs => vs = []
  | t :: ts, vs => ∃ v vs', vs = v :: vs' ∧ Rep G Z w t v ∧ RepL G Z w ts vs'
end
section
variable {G G' : Gh} {Z Z' : Zn} {w w' : World}
theorem rep_lf {u v : Value} : Rep G Z w (.lf u) v ↔ v = u := by rw [Rep]
theorem rep_bad {v : Value} : Rep G Z w .bad v := by rw [Rep]; trivial
theorem repl_nil {vs : List Value} : RepL G Z w [] vs ↔ vs = [] := by rw [RepL]
theorem repl_cons {t : TV} {ts : List TV} {vs : List Value} : RepL G Z w (t :: ts) vs ↔ ∃ v vs', vs = v :: vs' ∧ Rep G Z w t v ∧ RepL G Z w ts vs' := by rw [RepL]
theorem repl_len : ∀ {ts : List TV} {vs : List Value}, RepL G Z w ts vs → vs.length = ts.length
  | [], vs, h => by rw [repl_nil.1 h]; rfl
  | t :: ts, vs, h => by
    obtain ⟨v, vs', rfl, _, h2⟩ := repl_cons.1 h
    rw [List.length_cons, List.length_cons, repl_len h2]
theorem repl_get : ∀ {ts : List TV} {vs : List Value}, RepL G Z w ts vs → ∀ {i : Nat} {t : TV}, ts[i]? = some t → ∃ v, vs[i]? = some v ∧ Rep G Z w t v
  | [], vs, h, i, t, hi => by simp at hi
  | t :: ts, vs, h, 0, u, hi => by
    obtain ⟨v, vs', rfl, h1, h2⟩ := repl_cons.1 h
    obtain rfl : t = u := by simpa using hi
    exact ⟨v, rfl, h1⟩
  | t :: ts, vs, h, i + 1, u, hi => by
    obtain ⟨v, vs', rfl, h1, h2⟩ := repl_cons.1 h
    simpa using repl_get h2 (i := i) (t := u) (by simpa using hi)
theorem repl_of : ∀ {ts : List TV} {vs : List Value}, vs.length = ts.length → (∀ (i : Nat) (t : TV) (v : Value), ts[i]? = some t → vs[i]? = some v → Rep G Z w t v) → RepL G Z w ts vs
  | [], [], _, _ => repl_nil.2 rfl
  | [], _ :: _, h, _ => by simp at h
  | _ :: _, [], h, _ => by simp at h
  | t :: ts, v :: vs, h, hi => repl_cons.2 ⟨v, vs, rfl, hi 0 t v rfl rfl, repl_of (by simpa using h) fun i t' v' h1 h2 => hi (i + 1) t' v' (by simpa using h1) (by simpa using h2)⟩
theorem repl_app {a b : List TV} {va vb : List Value} (h : RepL G Z w a va) (h' : RepL G Z w b vb) : RepL G Z w (a ++ b) (va ++ vb) := by
  refine repl_of (by simp [repl_len h, repl_len h']) fun i t v ht hv => ?_
  have hl := repl_len h
  by_cases hi : i < a.length
  · rw [List.getElem?_append_left hi] at ht
    rw [List.getElem?_append_left (by omega)] at hv
    obtain ⟨v', h1, h2⟩ := repl_get h ht
    rw [h1] at hv; cases hv; exact h2
  · rw [List.getElem?_append_right (by omega)] at ht
    rw [List.getElem?_append_right (by omega)] at hv
    rw [hl] at hv
    obtain ⟨v', h1, h2⟩ := repl_get h' ht
    rw [h1] at hv; cases hv; exact h2
theorem repl_take {ts : List TV} {vs : List Value} (h : RepL G Z w ts vs) (k : Nat) : RepL G Z w (ts.take k) (vs.take k) := by
  refine repl_of (by simp [repl_len h]) fun i t v ht hv => ?_
  rw [List.getElem?_take] at ht hv
  split at ht
  · rename_i hlt
    rw [if_pos hlt] at hv
    obtain ⟨v', h1, h2⟩ := repl_get h ht
    rw [h1] at hv; cases hv; exact h2
  · cases ht
theorem repl_drop {ts : List TV} {vs : List Value} (h : RepL G Z w ts vs) (k : Nat) : RepL G Z w (ts.drop k) (vs.drop k) := by
  refine repl_of (by simp [repl_len h]) fun i t v ht hv => ?_
  rw [List.getElem?_drop] at ht hv
  obtain ⟨v', h1, h2⟩ := repl_get h ht
  rw [h1] at hv; cases hv; exact h2
theorem repl_set {ts : List TV} {vs : List Value} {i : Nat} {t : TV} {v : Value} (h : RepL G Z w ts vs) (ht : Rep G Z w t v) : RepL G Z w (ts.set i t) (vs.set i v) := by
  refine repl_of (by simp [repl_len h]) fun k t' v' h1 h2 => ?_
  by_cases e : i = k
  · subst e
    rw [List.getElem?_set_self' ] at h1 h2
    cases ha : ts[i]? with
    | none => rw [ha] at h1; cases h1
    | some x =>
      obtain ⟨y, hy, _⟩ := repl_get h ha
      rw [ha] at h1; rw [hy] at h2
      cases h1; cases h2; exact ht
  · rw [List.getElem?_set_ne e] at h1 h2
    obtain ⟨y, hy, h3⟩ := repl_get h h1
    rw [hy] at h2; cases h2; exact h3
mutual
theorem Rep.keep (hG : Gle G G') (hk : Kp Z Z' w w') : ∀ {t : TV} {v : Value}, Rep G Z w t v → Rep G' Z' w' t v
  | .bad, v, h => rep_bad
  | .lf u, v, h => rep_lf.2 (rep_lf.1 h)
  | .fr sz xs full, v, h => by
    rw [Rep] at h ⊢
    obtain ⟨A, cap, h1, h2, h3, h4⟩ := h
    exact ⟨A, cap, h1, h2, h3, h4.keep hk⟩
  | .vw id sz off len full, v, h => by
    rw [Rep] at h ⊢
    obtain ⟨h0, v0, h1, h2⟩ := h
    exact ⟨h0, v0, hG id v0 h1, h2⟩
  | .pt id off, v, h => by
    rw [Rep] at h ⊢
    obtain ⟨g, ⟨v0, h1, h3⟩, h2⟩ := h
    exact ⟨g, ⟨v0, hG id v0 h1, h3⟩, h2⟩
  | .ep cs off, v, h => by
    rw [Rep] at h ⊢
    obtain ⟨g, o, vs, h1, h2, h3⟩ := h
    exact ⟨g, o, vs, h1, h2.keep hk, h3.keep hk⟩
  | .ag cs, v, h => by
    rw [Rep] at h ⊢
    obtain ⟨vs, h1, h2⟩ := h
    exact ⟨vs, h1, RepL.keep hG hk h2⟩
  | .tu cs, v, h => by
    rw [Rep] at h ⊢
    obtain ⟨vs, h1, h2⟩ := h
    exact ⟨vs, h1, RepL.keep hG hk h2⟩
  | .fn f a b, v, h => by
    rw [Rep] at h ⊢
    obtain ⟨va, vb, h1, h2, h3⟩ := h
    exact ⟨va, vb, h1, RepL.keep hG hk h2, RepL.keep hG hk h3⟩
  | .mp id, v, h => by
    rw [Rep] at h ⊢
    obtain ⟨g, h1, h2⟩ := h
    exact ⟨g, hG id _ h1, h2⟩
  | .ic t x, v, h => by
    rw [Rep] at h ⊢
    obtain ⟨u, h1, h2⟩ := h
    exact ⟨u, h1, Rep.keep hG hk h2⟩
theorem RepL.keep (hG : Gle G G') (hk : Kp Z Z' w w') : ∀ {ts : List TV} {vs : List Value}, RepL G Z w ts vs → RepL G' Z' w' ts vs
  | [], vs, h => repl_nil.2 (repl_nil.1 h)
  | t :: ts, vs, h => by
    obtain ⟨v, vs', h1, h2, h3⟩ := repl_cons.1 h
    exact repl_cons.2 ⟨v, vs', h1, Rep.keep hG hk h2, RepL.keep hG hk h3⟩
end
def frz : TV → Option Dt
  | .lf v => if v.oneCell' = true then some (.leaf v) else none
  | .fr sz xs _ => some (.row sz xs)
  | _ => none
def unf : Dt → TV
  | .leaf v => .lf v
  | .row sz xs => .fr sz xs false
theorem frz_rep {t : TV} {d : Dt} {v : Value} (hf : frz t = some d) (h : Rep G Z w t v) : DtR Z w d v := by
  cases t <;> simp only [frz, reduceCtorEq, Option.some.injEq] at hf
  case lf u =>
    split at hf
    · rename_i h1
      cases hf
      exact dt_leaf.2 ⟨rep_lf.1 h, h1⟩
    · cases hf
  case fr sz xs full =>
    subst hf
    rw [Rep] at h
    obtain ⟨A, cap, h1, h2, h3, h4⟩ := h
    exact dt_row.2 ⟨A, cap, h1, h2, h4⟩
theorem unf_rep {d : Dt} {v : Value} (h : DtR Z w d v) : Rep G Z w (unf d) v := by
  cases d with
  | leaf u => exact rep_lf.2 (dt_leaf.1 h).1
  | row sz xs =>
    obtain ⟨A, cap, h1, h2, h3⟩ := dt_row.1 h
    show Rep G Z w (.fr sz xs false) v
    rw [Rep]
    exact ⟨A, cap, h1, h2, by simp, h3⟩
theorem unfs_rep : ∀ {ds : List Dt} {vs : List Value}, FsR Z w ds vs → RepL G Z w (ds.map unf) vs
  | [], vs, h => repl_nil.2 (fs_nil.1 h)
  | d :: ds, vs, h => by
    obtain ⟨c, cs, h1, h2, h3⟩ := fs_cons.1 h
    exact repl_cons.2 ⟨c, cs, h1, unf_rep h2, unfs_rep h3⟩
def frzs : List TV → Option (List Dt)
  | [] => some []
  | t :: ts => match frz t, frzs ts with
    | some d, some ds => some (d :: ds)
    | _, _ => none
theorem frzs_rep : ∀ {ts : List TV} {ds : List Dt} {vs : List Value}, frzs ts = some ds → RepL G Z w ts vs → FsR Z w ds vs
  | [], ds, vs, hf, h => by cases hf; exact fs_nil.2 (repl_nil.1 h)
  | t :: ts, ds, vs, hf, h => by
    rw [frzs] at hf
    split at hf
    · rename_i d ds' h1 h2
      cases hf
      obtain ⟨v, vs', e, k1, k2⟩ := repl_cons.1 h
      exact fs_cons.2 ⟨v, vs', e, frz_rep h1 k1, frzs_rep h2 k2⟩
    · cases hf
def one1 : TV → Bool
  | .lf v => v.oneCell'
  | .fr .. | .vw .. | .pt .. | .ep .. | .fn .. | .mp .. | .ic .. => true
  | _ => false
theorem one1_rep {t : TV} {v : Value} (h1 : one1 t = true) (h : Rep G Z w t v) : v.oneCell' = true := by
  cases t <;> simp only [one1, Bool.false_eq_true] at h1
  case lf u => rw [rep_lf.1 h]; exact h1
  case fr sz xs full => rw [Rep] at h; obtain ⟨A, cap, rfl, _⟩ := h; rfl
  case vw id sz off len full => rw [Rep] at h; obtain ⟨_, v0, _, A, n, cap, A', cap', _, rfl, _⟩ := h; rfl
  case pt id off => rw [Rep] at h; obtain ⟨g, _, rfl⟩ := h; rfl
  case ep cs off => rw [Rep] at h; obtain ⟨g, o, vs, rfl, _⟩ := h; rfl
  case fn f a b => rw [Rep] at h; obtain ⟨va, vb, rfl, _⟩ := h; rfl
  case mp id => rw [Rep] at h; obtain ⟨g, _, rfl⟩ := h; rfl
  case ic t x => rw [Rep] at h; obtain ⟨u, rfl, _⟩ := h; rfl
def cls : TV → Option (List TV)
  | .ag cs => if cs.all one1 = true then some cs else none
  | t => if one1 t = true then some [t] else none
theorem oneCell_cells {v : Value} (h : v.oneCell' = true) : v.cells = #[v] := by cases v <;> first | rfl | (simp [Value.oneCell'] at h)
theorem repl_one {ts : List TV} {vs : List Value} (h : RepL G Z w ts vs) (ha : ts.all one1 = true) : ∀ v ∈ vs, v.oneCell' = true := by
  intro v hv
  obtain ⟨i, hi, rfl⟩ := List.mem_iff_getElem.1 hv
  have hl := repl_len h
  obtain ⟨v', h1, h2⟩ := repl_get h (List.getElem?_eq_getElem (show i < ts.length by omega))
  rw [List.getElem?_eq_getElem hi] at h1
  cases h1
  exact one1_rep (List.all_eq_true.1 ha _ (List.getElem_mem _)) h2
theorem cls_rep {t : TV} {cs : List TV} {v : Value} (hc : cls t = some cs) (h : Rep G Z w t v) : ∃ vs : List Value, v.cells = vs.toArray ∧ RepL G Z w cs vs ∧ ∀ u ∈ vs, u.oneCell' = true := by
  have base : one1 t = true → cs = [t] → ∃ vs : List Value, v.cells = vs.toArray ∧ RepL G Z w cs vs ∧ ∀ u ∈ vs, u.oneCell' = true := fun h1 h2 => by
    subst h2
    have h3 := one1_rep h1 h
    exact ⟨[v], by rw [oneCell_cells h3], repl_cons.2 ⟨v, [], rfl, h, repl_nil.2 rfl⟩, by simpa using h3⟩
  cases t
  case ag ds =>
    simp only [cls] at hc
    split at hc
    · rename_i ha
      cases hc
      rw [Rep] at h
      obtain ⟨vs, rfl, h2⟩ := h
      exact ⟨vs, rfl, h2, repl_one h2 ha⟩
    · cases hc
  all_goals
    simp only [cls] at hc
    split at hc
    · rename_i h1
      exact base h1 (by simpa using hc.symm)
    · cases hc
end
end Go.Eng
end

section
set_option linter.unusedVariables false
set_option linter.unusedSimpArgs false
namespace Go.Eng
open Go.RowKit
inductive Ob
  | vr (e : TypeId) (cs : List TV)
  | ro (e : TypeId) (sz n : Nat) (cs : List TV) (fz : Nat)
  | ot (m : Option (Array MapEntry × Nat))
def Ob.live : Ob → Bool
  | .ot m => m.isSome
  | _ => true
def Good (G : Gh) (Z : Zn) (w : World) (id : Nat) : Ob → Prop
  | .vr e cs => ∃ (g : Nat) (vs : List Value), G id = some (.pointer (some ⟨g, 0, none⟩)) ∧ w.heap[g]? = some (.cells vs.toArray e (0, 0)) ∧ RepL G Z w cs vs ∧ ∀ v ∈ vs, v.oneCell' = true
  | .ro e sz n cs fz => ∃ v cells, G id = some v ∧ isSl v = true ∧ w.ownsRow 0 e sz v n cells ∧ RepL G Z w cs cells ∧ (∀ v ∈ cells, v.oneCell' = true) ∧ 0 < sz
  | .ot m => ∀ x, m = some x → ∃ r, G id = some (.map (some r)) ∧ w.heap[r]? = some (.map x.1 x.2)
def NoZ (G : Gh) (Z : Zn) (id : Nat) : Ob → Prop
  | .vr _ _ => ∀ i b, G id = some i → blk i = some b → ∀ o, ¬ Z b o
  | .ro _ sz _ _ fz => ∀ i b, G id = some i → blk i = some b → ∀ o, fz * sz ≤ o → ¬ Z b o
  | .ot m => m.isSome = true → ∀ i b, G id = some i → blk i = some b → ∀ o, ¬ Z b o
def Gok (GL : Nat → Option (List Dt)) (Z : Zn) (w : World) : Prop := ∀ g cs, GL g = some cs → ∃ vs, FrR Z w g 0 vs ∧ FsR Z w cs vs
structure Inv (GL : Nat → Option (List Dt)) (G : Gh) (Z : Zn) (w : World) (HP : Nat → Ob → Prop) : Prop where
  good : ∀ id ob, HP id ob → Good G Z w id ob
  free : ∀ id ob, HP id ob → NoZ G Z id ob
  dist : ∀ id id' ob ob' i i' b, HP id ob → ob.live = true → HP id' ob' → ob'.live = true → G id = some i → G id' = some i' → blk i = some b → blk i' = some b → id = id'
  dom : ∀ id i, G id = some i → ∃ ob, HP id ob
  zlt : ∀ g o, Z g o → g < w.heap.size
  glo : Gok GL Z w
structure Stp (G G' : Gh) (Z Z' : Zn) (w w' : World) (T : Nat → Prop) : Prop where
  gle : Gle G G'
  none_ : ∀ id, ¬ T id → G id = none → G' id = none
  kp : Kp Z Z' w w'
  bel : Below 0 w w'
  far : ∀ b, b < w.heap.size → (∀ id i, T id → G id = some i → blk i ≠ some b) → w'.heap[b]? = w.heap[b]?
  nb : ∀ id i' b, G' id = some i' → blk i' = some b → w.heap.size ≤ b ∨ ∃ id0 i, (T id0 ∨ id0 = id) ∧ G id0 = some i ∧ blk i = some b
  zn : ∀ g o, Z' g o → Z g o ∨ w.heap.size ≤ g ∨ ∃ id i, T id ∧ G id = some i ∧ blk i = some g
  zlt : ∀ g o, Z' g o → g < w'.heap.size
theorem Stp.refl {G : Gh} {Z : Zn} {w : World} {T : Nat → Prop} (hz : ∀ g o, Z g o → g < w.heap.size) : Stp G G Z Z w w T :=
  ⟨Gle.refl G, fun _ _ h => h, Kp.refl Z w, Below.refl _ _, fun _ _ _ => rfl, fun id i b h1 h2 => .inr ⟨id, i, .inr rfl, h1, h2⟩, fun _ _ h => .inl h, hz⟩
def TA : Nat → Prop := fun _ => True
def TB (ban : Nat) : Nat → Prop := fun id => ban.testBit id = false
theorem Stp.trans {G G' G'' : Gh} {Z Z' Z'' : Zn} {w w' w'' : World} {T : Nat → Prop} (h : Stp G G' Z Z' w w' T) (h' : Stp G' G'' Z' Z'' w' w'' T) : Stp G G'' Z Z'' w w'' T where
  gle := h.gle.trans h'.gle
  none_ := fun id hT hi => h'.none_ id hT (h.none_ id hT hi)
  kp := h.kp.trans h'.kp
  bel := h.bel.trans h'.bel
  far := fun b hb hn => by
    rw [h'.far b (Nat.lt_of_lt_of_le hb h.bel.size) (fun id i' hT hi' he => ?_), h.far b hb hn]
    rcases h.nb id i' b hi' he with h1 | ⟨id0, i, h0, h1, h2⟩
    · omega
    · rcases h0 with h0 | rfl
      · exact hn id0 i h0 h1 h2
      · exact hn id0 i hT h1 h2
  nb := fun id i'' b hi'' he => by
    rcases h'.nb id i'' b hi'' he with h1 | ⟨id0, i', h0, h1, h2⟩
    · exact .inl (Nat.le_trans h.bel.size h1)
    · rcases h.nb id0 i' b h1 h2 with k | ⟨id1, i, k0, k1, k2⟩
      · exact .inl k
      · refine .inr ⟨id1, i, ?_, k1, k2⟩
        rcases k0 with k0 | rfl
        · exact .inl k0
        · exact h0
  zn := fun g o hz => by
    rcases h'.zn g o hz with h1 | h1 | ⟨id, i', h1, h2, h3⟩
    · exact h.zn g o h1
    · exact .inr (.inl (Nat.le_trans h.bel.size h1))
    · rcases h.nb id i' g h2 h3 with k1 | ⟨id0, i, k0, k1, k2⟩
      · exact .inr (.inl k1)
      · refine .inr (.inr ⟨id0, i, ?_, k1, k2⟩)
        rcases k0 with k0 | rfl
        · exact k0
        · exact h1
  zlt := h'.zlt
theorem Stp.mono {G G' : Gh} {Z Z' : Zn} {w w' : World} {T T' : Nat → Prop} (h : Stp G G' Z Z' w w' T) (hT : ∀ id, T id → T' id) : Stp G G' Z Z' w w' T' :=
  ⟨h.gle, fun id hn hi => h.none_ id (fun e => hn (hT id e)) hi, h.kp, h.bel, fun b hb hn => h.far b hb fun id i hi => hn id i (hT id hi), fun id i' b h1 h2 => (h.nb id i' b h1 h2).imp (fun h => h) (fun ⟨id0, i, h1, h2⟩ => ⟨id0, i, h1.imp (hT id0) (fun h => h), h2⟩), fun g o hz => (h.zn g o hz).imp (fun h => h) (Or.imp (fun h => h) fun ⟨id, i, h1, h2⟩ => ⟨id, i, hT id h1, h2⟩), h.zlt⟩
theorem isSl_blk {v : Value} (h : isSl v = true) : blk v = v.ownBlock := by
  cases v <;> simp only [isSl, Bool.false_eq_true] at h
  case slice a l c => cases a <;> rfl
theorem Good.lt {G : Gh} {Z : Zn} {w : World} {id : Nat} {ob : Ob} {i : Value} {b : Nat} (h : Good G Z w id ob) (hl : ob.live = true) (hi : G id = some i) (hb : blk i = some b) : b < w.heap.size := by
  cases ob with
  | vr e cs =>
    obtain ⟨g, vs, h1, h2, _⟩ := h
    rw [h1] at hi; cases hi
    cases hb
    exact (Array.getElem?_eq_some_iff.1 h2).1
  | ro e sz n cs fz =>
    obtain ⟨v, cells, h1, h2, h3, _⟩ := h
    rw [h1] at hi; cases hi
    rw [isSl_blk h2] at hb
    exact (h3.lt b hb).2
  | ot m =>
    cases m with
    | none => cases hl
    | some x =>
      obtain ⟨r, h1, h2⟩ := h x rfl
      rw [h1] at hi; cases hi
      cases hb
      exact (Array.getElem?_eq_some_iff.1 h2).1
theorem ownsRow_same {w w' : World} {e : TypeId} {sz n : Nat} {v : Value} {xs : List Value} (h : w.ownsRow 0 e sz v n xs) (hb : ∀ b, v.ownBlock = some b → w'.heap[b]? = w.heap[b]?) : w'.ownsRow 0 e sz v n xs := by
  refine ⟨h.1, ?_⟩
  rcases h.2 with h2 | ⟨g, cap, cur, hv, hg, hh, r⟩
  · exact .inl h2
  · refine .inr ⟨g, cap, cur, hv, hg, ?_, r⟩
    rw [hb g (by rw [hv]; rfl)]
    exact hh
def Liv (HP : Nat → Ob → Prop) (G : Gh) (T : Nat → Prop) : Prop := ∀ id i, T id → G id = some i → ∃ ob, HP id ob ∧ ob.live = true
theorem Good.far {GL : Nat → Option (List Dt)} {G G' : Gh} {Z Z' : Zn} {w w' : World} {T : Nat → Prop} {HP : Nat → Ob → Prop} (hI : Inv GL G Z w HP) (hs : Stp G G' Z Z' w w' T) (hl : Liv HP G T) {id : Nat} {ob : Ob} (hp : HP id ob) (hT : ¬ T id) : Good G' Z' w' id ob ∧ NoZ G' Z' id ob := by
  have hg := hI.good id ob hp
  have hfar : ob.live = true → ∀ i b, G id = some i → blk i = some b → w'.heap[b]? = w.heap[b]? := fun hlv i b hi hb => by
    refine hs.far b (hg.lt hlv hi hb) fun id' i' hT' hi' hb' => ?_
    obtain ⟨ob', h1, h2⟩ := hl id' i' hT' hi'
    have := hI.dist id id' ob ob' i i' b hp hlv h1 h2 hi hi' hb hb'
    subst this
    exact hT hT'
  have hnz : ob.live = true → ∀ i b o, G id = some i → blk i = some b → Z' b o → Z b o := fun hlv i b o hi hb hz => by
    rcases hs.zn b o hz with h1 | h1 | ⟨id', i', h1, h2, h3⟩
    · exact h1
    · have := hg.lt hlv hi hb; omega
    · obtain ⟨ob', k1, k2⟩ := hl id' i' h1 h2
      have := hI.dist id id' ob ob' i i' b hp hlv k1 k2 hi h2 hb h3
      subst this
      exact absurd h1 hT
  cases ob with
  | vr e cs =>
    obtain ⟨g, vs, h1, h2, h3, h4⟩ := hg
    have h1' := hs.gle id _ h1
    refine ⟨⟨g, vs, h1', ?_, h3.keep hs.gle hs.kp, h4⟩, ?_⟩
    · rw [hfar rfl _ g h1 rfl]; exact h2
    · intro i b hi hb o hz
      rw [h1'] at hi; cases hi
      exact hI.free id _ hp _ b h1 hb o (hnz rfl _ b o h1 hb hz)
  | ro e sz n cs fz =>
    obtain ⟨v, cells, h1, h2, h3, h4, h5⟩ := hg
    have h1' := hs.gle id _ h1
    refine ⟨⟨v, cells, h1', h2, ownsRow_same h3 fun b hb => hfar rfl _ b h1 (by rw [isSl_blk h2]; exact hb), h4.keep hs.gle hs.kp, h5⟩, ?_⟩
    intro i b hi hb o ho hz
    rw [h1'] at hi; cases hi
    exact hI.free id _ hp _ b h1 hb o ho (hnz rfl _ b o h1 hb hz)
  | ot m =>
    cases m with
    | none => exact ⟨fun x hx => (by cases hx), fun h => (by cases h)⟩
    | some x =>
      obtain ⟨r, h1, h2⟩ := hg x rfl
      have h1' := hs.gle id _ h1
      refine ⟨fun y hy => ⟨r, h1', ?_⟩, ?_⟩
      · cases hy; rw [hfar rfl _ r h1 rfl]; exact h2
      · intro _ i b hi hb o hz
        rw [h1'] at hi; cases hi
        exact hI.free id _ hp rfl _ b h1 hb o (hnz rfl _ b o h1 hb hz)
theorem Gok.keep {GL : Nat → Option (List Dt)} {Z Z' : Zn} {w w' : World} (h : Gok GL Z w) (hk : Kp Z Z' w w') : Gok GL Z' w' := fun g cs hg => by
  obtain ⟨vs, h1, h2⟩ := h g cs hg
  exact ⟨vs, h1.keep hk, h2.keep hk⟩
def TT (W n n' : Nat) (id : Nat) : Prop := W.testBit id = true ∨ (n ≤ id ∧ id < n')
structure Res (G : Gh) (Z : Zn) (w : World) (n : Nat) (hp' : List Ob) (W : Nat) (res : TV) (G' : Gh) (Z' : Zn) (w' : World) (v : Value) : Prop where
  stp : Stp G G' Z Z' w w' (TT W n hp'.length)
  rep : Rep G' Z' w' res v
  good : ∀ id ob, TT W n hp'.length id → hp'[id]? = some ob → Good G' Z' w' id ob
  free : ∀ id ob, TT W n hp'.length id → hp'[id]? = some ob → NoZ G' Z' id ob
  dist : ∀ id id' ob ob' i i' b, TT W n hp'.length id → TT W n hp'.length id' → hp'[id]? = some ob → ob.live = true → hp'[id']? = some ob' → ob'.live = true → G' id = some i → G' id' = some i' → blk i = some b → blk i' = some b → id = id'
  dom : ∀ id i, TT W n hp'.length id → G' id = some i → ∃ ob, hp'[id]? = some ob
def HPn (HP : Nat → Ob → Prop) (W n : Nat) (hp' : List Ob) (id : Nat) (ob : Ob) : Prop := (TT W n hp'.length id ∧ hp'[id]? = some ob) ∨ (¬ TT W n hp'.length id ∧ HP id ob)
theorem Inv.next {GL : Nat → Option (List Dt)} {G G' : Gh} {Z Z' : Zn} {w w' : World} {HP : Nat → Ob → Prop} {n : Nat} {hp' : List Ob} {W : Nat} {res : TV} {v : Value} (hI : Inv GL G Z w HP) (hl : Liv HP G (TT W n hp'.length)) (hr : Res G Z w n hp' W res G' Z' w' v) : Inv GL G' Z' w' (HPn HP W n hp') where
  good := fun id ob h => by
    rcases h with ⟨h1, h2⟩ | ⟨h1, h2⟩
    · exact hr.good id ob h1 h2
    · exact (Good.far hI hr.stp hl h2 h1).1
  free := fun id ob h => by
    rcases h with ⟨h1, h2⟩ | ⟨h1, h2⟩
    · exact hr.free id ob h1 h2
    · exact (Good.far hI hr.stp hl h2 h1).2
  dist := fun id id' ob ob' i i' b p1 l1 p2 l2 h1 h2 h3 h4 => by
    have old : ∀ id i, ¬ TT W n hp'.length id → G' id = some i → G id = some i := fun id i hT hi => by
      cases hg : G id with
      | none => rw [hr.stp.none_ id hT hg] at hi; cases hi
      | some j => rw [hr.stp.gle id j hg] at hi; exact hi
    have mix : ∀ id id' i i' ob', TT W n hp'.length id → ¬ TT W n hp'.length id' → HP id' ob' → ob'.live = true → G' id = some i → G' id' = some i' → blk i = some b → blk i' = some b → id = id' := fun id id' i i' ob' hT hT' hob hlv h1 h2 h3 h4 => by
      have h2' := old id' i' hT' h2
      have hlt := (hI.good id' ob' hob).lt hlv h2' h4
      rcases hr.stp.nb id i b h1 h3 with k | ⟨id0, j, hj, k1, k2⟩
      · omega
      · have hT0 : TT W n hp'.length id0 := hj.elim (fun h => h) (fun h => h ▸ hT)
        obtain ⟨ob0, q1, q2⟩ := hl id0 j hT0 k1
        have := hI.dist id0 id' ob0 ob' j i' b q1 q2 hob hlv k1 h2' k2 h4
        subst this
        exact absurd hT0 hT'
    rcases p1 with ⟨hT, p1⟩ | ⟨hT, p1⟩
    · rcases p2 with ⟨hT', p2⟩ | ⟨hT', p2⟩
      · exact hr.dist id id' ob ob' i i' b hT hT' p1 l1 p2 l2 h1 h2 h3 h4
      · exact mix id id' i i' ob' hT hT' p2 l2 h1 h2 h3 h4
    · rcases p2 with ⟨hT', p2⟩ | ⟨hT', p2⟩
      · exact (mix id' id i' i ob hT' hT p1 l1 h2 h1 h4 h3).symm
      · exact hI.dist id id' ob ob' i i' b p1 l1 p2 l2 (old id i hT h1) (old id' i' hT' h2) h3 h4
  dom := fun id i hi => by
    by_cases hT : TT W n hp'.length id
    · obtain ⟨ob, h1⟩ := hr.dom id i hT hi
      exact ⟨ob, .inl ⟨hT, h1⟩⟩
    · cases hg : G id with
      | none => rw [hr.stp.none_ id hT hg] at hi; cases hi
      | some j =>
        obtain ⟨ob, h1⟩ := hI.dom id j hg
        exact ⟨ob, .inr ⟨hT, h1⟩⟩
  zlt := hr.stp.zlt
  glo := hI.glo.keep hr.stp.kp
end Go.Eng
end

section
set_option linter.unusedVariables false
set_option linter.unusedSimpArgs false
namespace Go.Eng
open Go.RowKit
def prS {α : Type} (P : Program) : Sem α → Option α
  | .pure a => some a
  | .program k => prS P (k P)
  | _ => none
theorem prS_run {α : Type} {P : Program} {s : Sem α} {a : α} (h : prS P s = some a) (w : World) : s.run P w = .ok a w := by
  induction s with
  | pure b => simp only [prS, Option.some.injEq] at h; subst h; rfl
  | program k ih => simp only [prS] at h; exact ih P h
  | _ => simp [prS] at h
def lfs : List TV → Option (List Value)
  | [] => some []
  | .lf v :: ts => match lfs ts with
    | some vs => some (v :: vs)
    | none => none
  | _ :: _ => none
def lfo : TV → Option Value
  | .lf v => some v
  | .ag cs => (lfs cs).map fun vs => .agg vs.toArray
  | _ => none
theorem lfs_rep {G : Gh} {Z : Zn} {w : World} : ∀ {cs : List TV} {vs us : List Value}, lfs cs = some us → RepL G Z w cs vs → vs = us
  | [], vs, us, hu, h => by rw [lfs] at hu; cases hu; exact repl_nil.1 h
  | t :: ts, vs, us, hu, h => by
    obtain ⟨v, vs', rfl, h1, h3⟩ := repl_cons.1 h
    cases t <;> simp only [lfs, reduceCtorEq] at hu
    case lf x =>
      split at hu
      · rename_i us' hr
        cases hu
        rw [rep_lf.1 h1, lfs_rep hr h3]
      · cases hu
theorem lfo_rep {G : Gh} {Z : Zn} {w : World} {t : TV} {u v : Value} (hu : lfo t = some u) (h : Rep G Z w t v) : v = u := by
  cases t <;> simp only [lfo, reduceCtorEq, Option.some.injEq] at hu
  case lf x => rw [rep_lf.1 h, hu]
  case ag cs =>
    rw [Rep] at h
    obtain ⟨vs, rfl, h2⟩ := h
    cases hm : lfs cs with
    | none => rw [hm] at hu; simp at hu
    | some us =>
      rw [hm] at hu
      simp at hu
      rw [← hu, lfs_rep hm h2]
def tvO : Value → TV
  | .agg cs => .ag (cs.toList.map .lf)
  | v => .lf v
def tvOf : Value → TV
  | .tuple cs => .tu (cs.toList.map tvO)
  | v => tvO v
theorem repl_lfs (G : Gh) (Z : Zn) (w : World) : ∀ vs : List Value, RepL G Z w (vs.map .lf) vs
  | [] => repl_nil.2 rfl
  | v :: vs => repl_cons.2 ⟨v, vs, rfl, rep_lf.2 rfl, repl_lfs G Z w vs⟩
theorem tvO_rep (G : Gh) (Z : Zn) (w : World) (v : Value) : Rep G Z w (tvO v) v := by
  cases v <;> first | exact rep_lf.2 rfl | skip
  case agg cs => show Rep G Z w (.ag _) _; rw [Rep]; exact ⟨cs.toList, by simp, repl_lfs G Z w _⟩
theorem repl_tvO (G : Gh) (Z : Zn) (w : World) : ∀ vs : List Value, RepL G Z w (vs.map tvO) vs
  | [] => repl_nil.2 rfl
  | v :: vs => repl_cons.2 ⟨v, vs, rfl, tvO_rep G Z w v, repl_tvO G Z w vs⟩
theorem tvOf_rep (G : Gh) (Z : Zn) (w : World) (v : Value) : Rep G Z w (tvOf v) v := by
  by_cases ht : ∃ cs, v = .tuple cs
  rotate_left
  · have : tvOf v = tvO v := by cases v <;> first | rfl | exact absurd ⟨_, rfl⟩ ht
    rw [this]; exact tvO_rep G Z w v
  · obtain ⟨cs, rfl⟩ := ht
    show Rep G Z w (.tu _) _; rw [Rep]; exact ⟨cs.toList, by simp, repl_tvO G Z w _⟩
def evT (GL : Nat → Option (List Dt)) (tm : List TV) : Operand → TV
  | .tmp t => tm.getD t (.lf undef)
  | .const v => .lf v
  | .global g => match GL g with | some cs => .ep cs 0 | none => .lf (.pointer (some ⟨g, 0, none⟩))
  | .func f => .fn f [] []
def rhoT (GL : Nat → Option (List Dt)) (tm : List TV) (x : Operand) : Value := ((lfo (evT GL tm x)).getD undef)
abbrev AR := Option (TV × List Ob × Nat × Nat)
def absPure (P : Program) (GL : Nat → Option (List Dt)) (tm : List TV) (hp : List Ob) (o : Oper) : AR :=
  if (o.op.operands.toList.all fun x => (lfo (evT GL tm x)).isSome) = true then
    match o.op with
    | .select _ _ => none
    | _ => match prS P (execOp (rhoT GL tm) o) with
      | some (.value v) => some (tvOf v, hp, 0, 0)
      | some .skip => some (.lf undef, hp, 0, 0)
      | _ => none
  else none
def ldT (P : Program) (t : TypeId) (cs : List TV) (off : Nat) : Option TV :=
  match P.underlying t, P.info? t with
  | some d, some i => if d.isRow = true then (if off + i.size ≤ cs.length then some (.ag ((cs.drop off).take i.size)) else none) else cs[off]?
  | _, _ => none
def cellsO : Ob → Option (List TV)
  | .vr _ cs => some cs
  | .ro _ _ _ cs _ => some cs
  | _ => none
def absLoad (P : Program) (hp : List Ob) (t : TypeId) : TV → AR
  | .pt id off => match hp[id]? with
    | some ob => match cellsO ob with
      | some cs => match ldT P t cs off with
        | some r => some (r, hp, 2 ^ id, 0)
        | none => none
      | none => none
    | none => none
  | .ep cs off => (ldT P t (cs.map unf) off).map fun r => (r, hp, 0, 0)
  | _ => none
def putC (cs : List TV) (off : Nat) (ys : List TV) : List TV := cs.take off ++ ys ++ cs.drop (off + ys.length)
def absStore (P : Program) (hp : List Ob) (t : TypeId) (y : TV) : TV → AR
  | .pt id off => match hp[id]?, cls y, P.info? t with
    | some (.vr e cs), some ys, some i => if ys.length = i.size ∧ off + ys.length ≤ cs.length then some (.lf undef, hp.set id (.vr e (putC cs off ys)), 0, 2 ^ id) else none
    | some (.ro e sz n cs fz), some ys, some i => if ys.length = i.size ∧ off + ys.length ≤ cs.length ∧ fz * sz ≤ off then some (.lf undef, hp.set id (.ro e sz n (putC cs off ys) fz), 0, 2 ^ id) else none
    | _, _, _ => none
  | _ => none
def zeroT (P : Program) (t : TypeId) : Option (List TV) :=
  match P.info? t with
  | some i => match i.zero with
    | some z => if z.cells.toList.all (·.oneCell') = true then some (z.cells.toList.map .lf) else none
    | none => none
  | none => none
def absAlloc (P : Program) (hp : List Ob) (t : TypeId) : AR := (zeroT P t).map fun cs => (.pt hp.length 0, hp ++ [.vr t cs], 0, 0)
def absBox (hp : List Ob) (t : TypeId) (x : TV) : AR := (cls x).map fun cs => (.pt hp.length 0, hp ++ [.vr t cs], 0, 0)
def absField (P : Program) (hp : List Ob) (s : TypeId) (x : TV) (f : Nat) : AR :=
  match P.underlying s, x with
  | some (.struct fields), .ag cs => match fields[f]? with
    | some fd => (ldT P fd.type cs fd.offset).map fun r => (r, hp, 0, 0)
    | none => none
  | _, _ => none
def absFieldAddr (P : Program) (hp : List Ob) (s : TypeId) (x : TV) (f : Nat) : AR :=
  match P.underlying s with
  | some (.struct fields) => match fields[f]? with
    | some fd => match P.info? fd.type with
      | some i => if i.size = 0 then none else match x with
        | .pt id off => some (.pt id (off + fd.offset), hp, 0, 0)
        | .ep cs off => some (.ep cs (off + fd.offset), hp, 0, 0)
        | _ => none
      | none => none
    | none => none
  | _ => none
def absIndexAddr (P : Program) (hp : List Ob) (t : TypeId) (x ix : TV) : AR :=
  match P.underlying t, ix with
  | some (.slice e), .lf (.int k i) => match P.info? e with
    | some ie => if 0 ≤ i then match x with
      | .fr sz xs _ => if sz = ie.size then (xs[i.toNat]?).map fun c => (.ep c 0, hp, 0, 0) else none
      | .vw id sz off len _ => match hp[id]? with
        | some (.ro _ _ _ _ _) => if sz = ie.size ∧ i.toNat < len then some (.pt id ((off + i.toNat) * sz), hp, 2 ^ id, 0) else none
        | _ => none
      | _ => none else none
    | none => none
  | some (.array len e), .lf (.int k i) => match P.info? e with
    | some ie => if 0 ≤ i ∧ i < len then match x with
      | .pt id off => some (.pt id (off + i.toNat * ie.size), hp, 0, 0)
      | .ep cs off => some (.ep cs (off + i.toNat * ie.size), hp, 0, 0)
      | _ => none else none
    | none => none
  | _, _ => none
def absIndex (P : Program) (hp : List Ob) (t : TypeId) (x ix : TV) : AR :=
  match P.underlying t, ix, x with
  | some (.array len e), .lf (.int k i), .ag cs => match P.info? e with
    | some ie => if 0 ≤ i ∧ i < len then (ldT P e cs (i.toNat * ie.size)).map fun r => (r, hp, 0, 0) else none
    | none => none
  | _, _, _ => none
def absExtract (hp : List Ob) (x : TV) (i : Nat) : AR :=
  match x with
  | .tu cs => (cs[i]?).map fun r => (r, hp, 0, 0)
  | _ => none
def rowLen : TV → Option Nat
  | .fr _ xs _ => some xs.length
  | .vw _ _ _ len _ => some len
  | _ => none
section
variable {P : Program} {GL : Nat → Option (List Dt)} {G : Gh} {Z : Zn} {w : World} {HP : Nat → Ob → Prop} {tm : List TV} {hp : List Ob} {o : Oper} {a : Act}
def Runs (P : Program) (a : Act) (o : Oper) (w : World) (v : Value) (w' : World) : Prop := (execOp a.eval o).run P w = .ok (.value v) w' ∨ ((execOp a.eval o).run P w = .ok .skip w' ∧ v = undef)
def Does (P : Program) (GL : Nat → Option (List Dt)) (G : Gh) (Z : Zn) (w : World) (a : Act) (o : Oper) (n : Nat) (r : TV × List Ob × Nat × Nat) : Prop :=
  ∃ v G' Z' w', Runs P a o w v w' ∧ Res G Z w n r.2.1 r.2.2.2 r.1 G' Z' w' v
theorem tt_none {n id : Nat} (h : TT 0 n n id) : False := by
  rcases h with h | h
  · simp at h
  · omega
theorem res_pure (hI : Inv GL G Z w HP) {res : TV} {v : Value} (hr : Rep G Z w res v) : Res G Z w hp.length hp 0 res G Z w v :=
  ⟨Stp.refl hI.zlt, hr, fun _ _ h => (tt_none h).elim, fun _ _ h => (tt_none h).elim, fun _ _ _ _ _ _ _ h => (tt_none h).elim, fun _ _ h => (tt_none h).elim⟩
theorem does_pure {r : TV × List Ob × Nat × Nat} (hI : Inv GL G Z w HP) (hop : ∀ x ∈ o.op.operands, Rep G Z w (evT GL tm x) (a.eval x)) (h : absPure P GL tm hp o = some r) : Does P GL G Z w a o hp.length r := by
  unfold absPure at h
  split at h
  · rename_i hall
    have he : (∀ cs b, o.op ≠ .select cs b) → execOp a.eval o = execOp (rhoT GL tm) o := fun hs => execOp_congr o hs fun x hx => by
      have h1 := List.all_eq_true.1 hall x (by simpa using hx)
      obtain ⟨u, hu⟩ := Option.isSome_iff_exists.1 h1
      rw [lfo_rep hu (hop x hx)]
      unfold rhoT
      rw [hu]; rfl
    split at h
    · cases h
    · rename_i hns
      have he := he (fun cs b e => hns cs b e)
      split at h
      · rename_i v hv
        cases h
        exact ⟨v, G, Z, w, .inl (by rw [he]; exact prS_run hv w), res_pure hI (tvOf_rep G Z w v)⟩
      · rename_i hv
        cases h
        exact ⟨undef, G, Z, w, .inr ⟨by rw [he]; exact prS_run hv w, rfl⟩, res_pure hI (rep_lf.2 rfl)⟩
      · cases h
  · cases h
theorem isAgg_plain {t : TypeId} {d : TypeDesc} (h : P.underlying t = some d) (hd : (match d with | .struct _ | .array _ _ => true | _ => false) = false) (w : World) : (isAgg t).run P w = .ok false w := by
  cases d <;> simp_all [isAgg, run_underlying h]
theorem ldT_rep {t : TypeId} {cs : List TV} {off : Nat} {r : TV} {vs : List Value} {g o : Nat} (h : ldT P t cs off = some r) (hr : RepL G Z w cs vs) (hc : ∀ (j : Nat) (v : Value), vs[j]? = some v → w.cell? ⟨g, o + j, none⟩ = some v) :
    ∃ v, (Instr.loadAt t (.pointer (some ⟨g, o + off, none⟩))).run P w = .ok v w ∧ Rep G Z w r v := by
  unfold ldT at h
  split at h
  · rename_i d i hd hi
    split at h
    · rename_i hrow
      split at h
      · rename_i hle
        cases h
        have hl := repl_len hr
        refine ⟨.agg ((vs.drop off).take i.size).toArray, ?_, by rw [Rep]; exact ⟨_, rfl, repl_take (repl_drop hr off) _⟩⟩
        have := run_loadVar_mid (P := P) w g (o + off) t ((vs.drop off).take i.size) d (fun j v hv => ?_) hd hrow (by rw [hi]; simp; omega)
        · simp only [Instr.loadAt, Instr.sureAddr, Sem.run_bind, Sem.run_pure, Result.andThen_ok, this]
        · rw [List.getElem?_take] at hv
          split at hv
          · rw [List.getElem?_drop] at hv
            have := hc _ _ hv
            rwa [← Nat.add_assoc] at this
          · cases hv
      · cases h
    · rename_i hrow
      obtain ⟨v, h1, h2⟩ := repl_get hr h
      refine ⟨v, ?_, h2⟩
      have hagg := isAgg_plain (P := P) hd (by cases d <;> simp_all) w
      have hl : (load ⟨g, o + off, none⟩).run P w = .ok v w := by
        simp [load, Sem.run, hc off v h1]
      simp only [Instr.loadAt, Instr.sureAddr, loadVar, Sem.run_bind, Sem.run_pure, Result.andThen_ok, hagg]
      simpa using hl
  · cases h
theorem cell_of_heap {g j : Nat} {e : TypeId} {fr : Nat × Nat} {vs : List Value} {v : Value} (h : w.heap[g]? = some (.cells vs.toArray e fr)) (hv : vs[j]? = some v) : w.cell? ⟨g, j, none⟩ = some v := by
  simp [World.cell?, h, hv]
theorem obj_at (hI : Inv GL G Z w HP) {id off : Nat} {ob : Ob} {cs : List TV} {v : Value} (hh : HP id ob) (hc : cellsO ob = some cs) (hx : Rep G Z w (.pt id off) v) :
    ∃ g vs v0, v = .pointer (some ⟨g, off, none⟩) ∧ G id = some v0 ∧ blk v0 = some g ∧ (∀ (j : Nat) (u : Value), vs[j]? = some u → w.cell? ⟨g, j, none⟩ = some u) ∧ RepL G Z w cs vs ∧ ∀ u ∈ vs, u.oneCell' = true := by
  rw [Rep] at hx
  obtain ⟨g, ⟨v0, h1, h2⟩, rfl⟩ := hx
  have hg := hI.good id _ hh
  cases ob with
  | vr e cs' =>
    cases hc
    obtain ⟨g', vs, k1, k2, k3, k4⟩ := hg
    rw [h1] at k1
    cases k1
    cases h2
    exact ⟨g', vs, _, rfl, h1, rfl, fun j u hu => cell_of_heap k2 hu, k3, k4⟩
  | ro e sz n cs' fz =>
    cases hc
    obtain ⟨v, cells, k1, k2, k3, k4, k5, _⟩ := hg
    rw [h1] at k1
    cases k1
    refine ⟨g, cells, v0, rfl, h1, h2, fun j u hu => ?_, k4, k5⟩
    rw [isSl_blk k2] at h2
    have := k3.cells h2 j u hu
    rw [Addr.add_mid, Nat.zero_add] at this
    exact this
  | ot m => cases hc
theorem does_load {r : TV × List Ob × Nat × Nat} {t : TypeId} {x : Operand} (hI : Inv GL G Z w HP) (ho : o.op = .load t x) (hx : Rep G Z w (evT GL tm x) (a.eval x)) (hh : ∀ id ob, (r.2.2.1 ||| r.2.2.2).testBit id = true → hp[id]? = some ob → HP id ob) (h : absLoad P hp t (evT GL tm x) = some r) : Does P GL G Z w a o hp.length r := by
  have fin : ∀ {v : Value} {res : TV} {R : Nat}, (Instr.loadAt t (a.eval x)).run P w = .ok v w → Rep G Z w res v → r = (res, hp, R, 0) → Does P GL G Z w a o hp.length r := fun {v res R} h1 h2 h3 => by
    subst h3
    refine ⟨v, G, Z, w, .inl ?_, res_pure hI h2⟩
    unfold execOp
    simp only [ho, Sem.run_bind, h1, Result.andThen_ok, Sem.run_pure]
  generalize evT GL tm x = X at hx h
  generalize hv : a.eval x = v at hx fin
  cases X <;> simp only [absLoad, reduceCtorEq] at h
  case pt id off =>
    split at h
    · rename_i ob hid
      split at h
      · rename_i cs hcs
        split at h
        · rename_i res hl
          cases h
          obtain ⟨g, vs, v0, rfl, _, _, k2, k3, k4⟩ := obj_at hI (hh id _ (by simp [Nat.testBit_two_pow_self]) hid) hcs hx
          obtain ⟨u, h1, h2⟩ := ldT_rep (g := g) (o := 0) hl k3 (fun j v hv => by rw [Nat.zero_add]; exact k2 j v hv)
          rw [Nat.zero_add] at h1
          exact fin h1 h2 rfl
        · cases h
      · cases h
    · cases h
  case ep cs off =>
    cases hl : ldT P t (cs.map unf) off with
    | none => rw [hl] at h; simp at h
    | some res =>
      rw [hl] at h
      simp only [Option.map_some, Option.some.injEq] at h
      subst h
      rw [Rep] at hx
      obtain ⟨g, o', vs, rfl, h2, h3⟩ := hx
      obtain ⟨u, k1, k2⟩ := ldT_rep (g := g) (o := o') hl (unfs_rep h3) (fun j v hv => (h2 j v hv).1)
      exact fin k1 k2 rfl
end
end Go.Eng
end

section
set_option linter.unusedVariables false
set_option linter.unusedSimpArgs false
namespace Go.Eng
open Go.RowKit
section
variable {P : Program} {GL : Nat → Option (List Dt)} {G : Gh} {Z : Zn} {w : World} {HP : Nat → Ob → Prop} {tm : List TV} {hp : List Ob} {o : Oper} {a : Act}
theorem does_value {res : TV} {v : Value} {R : Nat} (hI : Inv GL G Z w HP) (h : (execOp a.eval o).run P w = .ok (.value v) w) (hr : Rep G Z w res v) : Does P GL G Z w a o hp.length (res, hp, R, 0) :=
  ⟨v, G, Z, w, .inl h, res_pure hI hr⟩
theorem does_move {x : Operand} (hI : Inv GL G Z w HP) (ho : o.op = .move x ∨ o.op = .assign x) (hx : Rep G Z w (evT GL tm x) (a.eval x)) : Does P GL G Z w a o hp.length (evT GL tm x, hp, 0, 0) :=
  does_value hI (by unfold execOp; rcases ho with ho | ho <;> (simp only [ho]; rfl)) hx
theorem does_pick {c x y : Operand} {t : Bool} (hI : Inv GL G Z w HP) (ho : o.op = .pick c x y) (hc : a.eval c = .bool t) (hx : Rep G Z w (evT GL tm x) (a.eval x)) (hy : Rep G Z w (evT GL tm y) (a.eval y)) : Does P GL G Z w a o hp.length (if t = true then evT GL tm x else evT GL tm y, hp, 0, 0) := by
  cases t with
  | true => exact does_value hI (v := a.eval x) (by unfold execOp; simp [ho, hc, asBool]) hx
  | false => exact does_value hI (v := a.eval y) (by unfold execOp; simp [ho, hc, asBool]) hy
theorem does_extract {r : TV × List Ob × Nat × Nat} {x : Operand} {i : Nat} (hI : Inv GL G Z w HP) (ho : o.op = .extract x i) (hx : Rep G Z w (evT GL tm x) (a.eval x)) (h : absExtract hp (evT GL tm x) i = some r) : Does P GL G Z w a o hp.length r := by
  generalize evT GL tm x = X at hx h
  cases X <;> simp only [absExtract, reduceCtorEq] at h
  case tu cs =>
    cases hc : cs[i]? with
    | none => rw [hc] at h; simp at h
    | some t =>
      rw [hc] at h
      simp only [Option.map_some, Option.some.injEq] at h
      subst h
      rw [Rep] at hx
      obtain ⟨vs, hv, h2⟩ := hx
      obtain ⟨u, h3, h4⟩ := repl_get h2 hc
      exact does_value hI (v := u) (by unfold execOp; simp [ho, hv, Instr.extract, h3]) h4
theorem part_rep {t : TypeId} {cs : List TV} {off : Nat} {r : TV} {vs : List Value} (h : ldT P t cs off = some r) (hr : RepL G Z w cs vs) : ∃ v, (part t vs.toArray off).run P w = .ok v w ∧ Rep G Z w r v := by
  unfold ldT at h
  split at h
  · rename_i d i hd hi
    split at h
    · rename_i hrow
      split at h
      · rename_i hle
        cases h
        refine ⟨.agg ((vs.drop off).take i.size).toArray, ?_, by rw [Rep]; exact ⟨_, rfl, repl_take (repl_drop hr off) _⟩⟩
        have hagg : (isAgg t).run P w = .ok true w := by cases d <;> simp_all [isAgg, run_underlying hd]
        simp [part, hagg, sizeOf, typeInfo, hi, List.take_drop]
      · cases h
    · rename_i hrow
      obtain ⟨v, h1, h2⟩ := repl_get hr h
      have hagg := isAgg_plain (P := P) hd (by cases d <;> simp_all) w
      exact ⟨v, by simp [part, hagg, h1], h2⟩
  · cases h
theorem does_field {r : TV × List Ob × Nat × Nat} {s : TypeId} {x : Operand} {f : Nat} (hI : Inv GL G Z w HP) (ho : o.op = .field s x f) (hx : Rep G Z w (evT GL tm x) (a.eval x)) (h : absField P hp s (evT GL tm x) f = some r) : Does P GL G Z w a o hp.length r := by
  generalize evT GL tm x = X at hx h
  unfold absField at h
  split at h
  · rename_i fields cs hu
    split at h
    · rename_i fd hf
      cases hl : ldT P fd.type cs fd.offset with
      | none => rw [hl] at h; simp at h
      | some t =>
        rw [hl] at h
        simp only [Option.map_some, Option.some.injEq] at h
        subst h
        rw [Rep] at hx
        obtain ⟨vs, hv, h2⟩ := hx
        obtain ⟨u, h3, h4⟩ := part_rep hl h2
        exact does_value hI (v := u) (by unfold execOp; simp [ho, hv, Instr.field, run_underlying hu, hf, asAgg, h3]) h4
    · cases h
  · cases h
theorem does_index {r : TV × List Ob × Nat × Nat} {t : TypeId} {x y : Operand} (hI : Inv GL G Z w HP) (ho : o.op = .index t x y) (hx : Rep G Z w (evT GL tm x) (a.eval x)) (hy : Rep G Z w (evT GL tm y) (a.eval y)) (h : absIndex P hp t (evT GL tm x) (evT GL tm y) = some r) : Does P GL G Z w a o hp.length r := by
  generalize evT GL tm x = X at hx h
  generalize evT GL tm y = Y at hy h
  unfold absIndex at h
  split at h
  · rename_i len e k i cs hu
    split at h
    · rename_i ie hie
      split at h
      · rename_i hin
        cases hl : ldT P e cs (i.toNat * ie.size) with
        | none => rw [hl] at h; simp at h
        | some t' =>
          rw [hl] at h
          simp only [Option.map_some, Option.some.injEq] at h
          subst h
          rw [Rep] at hx
          obtain ⟨vs, hv, h2⟩ := hx
          have hy := rep_lf.1 hy
          obtain ⟨u, h3, h4⟩ := part_rep hl h2
          exact does_value hI (v := u) (by unfold execOp; simp [ho, hv, hy, Instr.index, asIntOf, run_underlying hu, hin, sizeOf, typeInfo, hie, h3]) h4
      · cases h
    · cases h
  · cases h
theorem does_fieldAddr {r : TV × List Ob × Nat × Nat} {s : TypeId} {x : Operand} {f : Nat} (hI : Inv GL G Z w HP) (ho : o.op = .fieldAddr s x f) (hx : Rep G Z w (evT GL tm x) (a.eval x)) (h : absFieldAddr P hp s (evT GL tm x) f = some r) : Does P GL G Z w a o hp.length r := by
  generalize evT GL tm x = X at hx h
  unfold absFieldAddr at h
  split at h
  · rename_i fields hu
    split at h
    · rename_i fd hf
      split at h
      · rename_i i hi
        split at h
        · cases h
        · rename_i hsz
          split at h
          · rename_i id off
            cases h
            rw [Rep] at hx
            obtain ⟨g, h1, h2⟩ := hx
            refine does_value hI (v := .pointer (some ⟨g, off + fd.offset, none⟩)) ?_ (by rw [Rep]; exact ⟨g, h1, rfl⟩)
            unfold execOp
            simp [ho, h2, Instr.fieldAt, run_underlying hu, hf, Instr.sureAddr, fieldPlace, sizeOf, typeInfo, hi, hsz, Addr.add_mid]
          · rename_i cs off
            cases h
            rw [Rep] at hx
            obtain ⟨g, o', vs, h1, h2, h3⟩ := hx
            refine does_value hI (v := .pointer (some ⟨g, o' + (off + fd.offset), none⟩)) ?_ (by rw [Rep]; exact ⟨g, o', vs, rfl, h2, h3⟩)
            unfold execOp
            simp [ho, h1, Instr.fieldAt, run_underlying hu, hf, Instr.sureAddr, fieldPlace, sizeOf, typeInfo, hi, hsz, Addr.add_mid, Nat.add_assoc]
          · cases h
      · cases h
    · cases h
  · cases h
theorem row_at {xs : List (List Dt)} {sz : Nat} {A : Option Addr} {i : Nat} {c : List Dt} (h : RwR Z w sz A 0 xs) (hc : xs[i]? = some c) : ∃ g o vs, A = some ⟨g, o, none⟩ ∧ FrR Z w g (o + i * sz) vs ∧ FsR Z w c vs := by
  obtain ⟨g, o, vs, h1, h2, _, h4⟩ := h.get hc
  exact ⟨g, o, vs, h1, by simpa using h2, h4⟩
theorem does_indexAddr {r : TV × List Ob × Nat × Nat} {t : TypeId} {x y : Operand} (hI : Inv GL G Z w HP) (ho : o.op = .indexAddr t x y) (hx : Rep G Z w (evT GL tm x) (a.eval x)) (hy : Rep G Z w (evT GL tm y) (a.eval y)) (hh : ∀ id ob, (r.2.2.1 ||| r.2.2.2).testBit id = true → hp[id]? = some ob → HP id ob) (h : absIndexAddr P hp t (evT GL tm x) (evT GL tm y) = some r) : Does P GL G Z w a o hp.length r := by
  generalize evT GL tm x = X at hx h
  generalize evT GL tm y = Y at hy h
  unfold absIndexAddr at h
  split at h
  · rename_i e k i hu
    have hy := rep_lf.1 hy
    split at h
    · rename_i ie hie
      split at h
      · rename_i h0
        have fin : ∀ {xs : List (List Dt)} {A : Option Addr} {cap : Nat}, a.eval x = .slice A xs.length cap → RwR Z w ie.size A 0 xs → (xs[i.toNat]?).map (fun c => ((.ep c 0, hp, 0, 0) : TV × List Ob × Nat × Nat)) = some r → Does P GL G Z w a o hp.length r := by
          intro xs A cap hv hrw hr
          cases hc : xs[i.toNat]? with
          | none => rw [hc] at hr; simp at hr
          | some c =>
            rw [hc] at hr
            simp only [Option.map_some, Option.some.injEq] at hr
            subst hr
            obtain ⟨g, o', vs, rfl, h2, h3⟩ := row_at hrw hc
            have hlt : i < (xs.length : Int) := by have := (List.getElem?_eq_some_iff.1 hc).1; omega
            refine does_value hI (v := .pointer (some ⟨g, o' + i.toNat * ie.size, none⟩)) ?_ (by rw [Rep]; exact ⟨g, o' + i.toNat * ie.size, vs, rfl, h2, h3⟩)
            unfold execOp
            simp [ho, hv, hy, Instr.indexAt, asIntOf, run_underlying hu, h0, hlt, sizeOf, typeInfo, hie, Addr.add_mid]
        split at h
        · rename_i sz xs full
          split at h
          · rename_i hsz
            rw [Rep] at hx
            obtain ⟨A, cap, hv, _, _, hrw⟩ := hx
            exact fin hv (hsz ▸ hrw) h
          · cases h
        · rename_i id sz off len full
          split at h
          · rename_i e' sz' n cs fz hid
            split at h
            · rename_i hc
              obtain ⟨rfl, hlt⟩ := hc
              cases h
              obtain ⟨v, cells, k1, k2, k3, k4, k5, _⟩ := hI.good id _ (hh id _ (by simp [Nat.testBit_two_pow_self]) hid)
              rw [Rep] at hx
              obtain ⟨_, v0, h1, A, n', cap, A', cap', e0, hv, hn, _, _, _, _, hA, _⟩ := hx
              rw [h1] at k1; cases k1
              rcases k3.2 with ⟨rfl, hz⟩ | ⟨g, cap2, cur, e1, _⟩
              · cases e0; omega
              · rw [e0] at e1; cases e1
                have hA := hA (by omega)
                rw [Option.map_some, Addr.add_mid, Nat.zero_add] at hA
                subst hA
                have hi : i < (len : Int) := by omega
                refine does_value hI (v := .pointer (some ⟨g, (off + i.toNat) * ie.size, none⟩)) ?_ (by rw [Rep]; exact ⟨g, ⟨_, h1, by rw [e0]; rfl⟩, rfl⟩)
                unfold execOp
                simp [ho, hv, hy, Instr.indexAt, asIntOf, run_underlying hu, h0, hi, sizeOf, typeInfo, hie, Addr.add_mid, Nat.add_mul]
            · cases h
          · cases h
        · cases h
      · cases h
    · cases h
  · rename_i len e k i hu
    have hy := rep_lf.1 hy
    split at h
    · rename_i ie hie
      split at h
      · rename_i hin
        split at h
        · rename_i id off
          cases h
          rw [Rep] at hx
          obtain ⟨g, h1, h2⟩ := hx
          refine does_value hI (v := .pointer (some ⟨g, off + i.toNat * ie.size, none⟩)) ?_ (by rw [Rep]; exact ⟨g, h1, rfl⟩)
          unfold execOp
          simp [ho, h2, hy, Instr.indexAt, asIntOf, run_underlying hu, Instr.sureAddr, hin, sizeOf, typeInfo, hie, Addr.add_mid]
        · rename_i cs off
          cases h
          rw [Rep] at hx
          obtain ⟨g, o', vs, h1, h2, h3⟩ := hx
          refine does_value hI (v := .pointer (some ⟨g, o' + (off + i.toNat * ie.size), none⟩)) ?_ (by rw [Rep]; exact ⟨g, o', vs, rfl, h2, h3⟩)
          unfold execOp
          simp [ho, h1, hy, Instr.indexAt, asIntOf, run_underlying hu, Instr.sureAddr, hin, sizeOf, typeInfo, hie, Addr.add_mid, Nat.add_assoc]
        · cases h
      · cases h
    · cases h
  · cases h
end
end Go.Eng
end

section
set_option linter.unusedVariables false
set_option linter.unusedSimpArgs false
namespace Go.Eng
open Go.RowKit
def Gup (G : Gh) (n : Nat) (i : Value) : Gh := fun id => if id = n then some i else G id
def Zup (Z : Zn) (g k : Nat) : Zn := fun b o => Z b o ∨ (b = g ∧ o < k)
section
variable {P : Program} {GL : Nat → Option (List Dt)} {G : Gh} {Z : Zn} {w : World} {HP : Nat → Ob → Prop} {tm : List TV} {hp : List Ob} {o : Oper} {a : Act}
theorem gup_self {n : Nat} {i : Value} : Gup G n i n = some i := by simp [Gup]
theorem gup_ne {n id : Nat} {i : Value} (h : id ≠ n) : Gup G n i id = G id := by simp [Gup, h]
theorem cell_alloc (w : World) (ob : Obj) {b x : Nat} (h : b < w.heap.size) : (w.alloc ob).cell? ⟨b, x, none⟩ = w.cell? ⟨b, x, none⟩ := World.cell?_of_block (a := ⟨b, x, none⟩) (heap_alloc_old w ob b h)
theorem stp_new {n k : Nat} {i0 : Value} {w' : World} (hz : ∀ g o, Z g o → g < w.heap.size) (hn : G n = none) (hb : ∀ b, blk i0 = some b → w.heap.size ≤ b) (hs : Below w.heap.size w w') (g : Nat) (hg : k = 0 ∨ (w.heap.size ≤ g ∧ g < w'.heap.size)) : Stp G (Gup G n i0) Z (Zup Z g k) w w' (TT 0 n (n + 1)) where
  gle := fun id i hi => by rw [gup_ne (by rintro rfl; rw [hn] at hi; cases hi)]; exact hi
  none_ := fun id hT hi => by rw [gup_ne (fun e => hT (.inr ⟨by omega, by omega⟩))]; exact hi
  kp := ⟨fun _ _ h => .inl h, fun b x h => World.cell?_of_block (a := ⟨b, x, none⟩) (hs.block b (hz b x h))⟩
  bel := hs.mono (Nat.zero_le _)
  far := fun b hb _ => hs.block b hb
  nb := fun id i' b hi' he => by
    by_cases e : id = n
    · subst e
      rw [gup_self] at hi'; cases hi'
      exact .inl (hb b he)
    · rw [gup_ne e] at hi'
      exact .inr ⟨id, i', .inr rfl, hi', he⟩
  zn := fun b x h => by
    rcases h with h | ⟨rfl, h⟩
    · exact .inl h
    · rcases hg with rfl | hg
      · omega
      · exact .inr (.inl hg.1)
  zlt := fun b x h => by
    rcases h with h | ⟨rfl, h⟩
    · exact Nat.lt_of_lt_of_le (hz b x h) hs.size
    · rcases hg with rfl | hg
      · omega
      · exact hg.2
theorem tt_new {n id : Nat} (h : TT 0 n (n + 1) id) : id = n := by
  rcases h with h | h
  · simp at h
  · omega
theorem get_new (hp : List Ob) (ob : Ob) : (hp ++ [ob])[hp.length]? = some ob := by simp
theorem res_new {k : Nat} {i0 : Value} {w' : World} {ob : Ob} {res : TV} {v : Value} (hI : Inv GL G Z w HP) (hn : G hp.length = none) (hb : ∀ b, blk i0 = some b → w.heap.size ≤ b) (hs : Below w.heap.size w w') (g : Nat) (hg : k = 0 ∨ (w.heap.size ≤ g ∧ g < w'.heap.size))
    (hr : Rep (Gup G hp.length i0) (Zup Z g k) w' res v) (hgo : Good (Gup G hp.length i0) (Zup Z g k) w' hp.length ob) (hno : NoZ (Gup G hp.length i0) (Zup Z g k) hp.length ob) :
    Res G Z w hp.length (hp ++ [ob]) 0 res (Gup G hp.length i0) (Zup Z g k) w' v where
  stp := by rw [List.length_append, List.length_singleton]; exact stp_new hI.zlt hn hb hs g hg
  rep := hr
  good := fun id ob' hT h => by
    rw [List.length_append, List.length_singleton] at hT
    obtain rfl := tt_new hT
    rw [get_new] at h; cases h
    exact hgo
  free := fun id ob' hT h => by
    rw [List.length_append, List.length_singleton] at hT
    obtain rfl := tt_new hT
    rw [get_new] at h; cases h
    exact hno
  dist := fun id id' ob ob' i i' b hT hT' _ _ _ _ _ _ _ _ => by
    rw [List.length_append, List.length_singleton] at hT hT'
    rw [tt_new hT, tt_new hT']
  dom := fun id i hT _ => by
    rw [List.length_append, List.length_singleton] at hT
    obtain rfl := tt_new hT
    exact ⟨ob, get_new hp ob⟩
theorem res_var {t : TypeId} {cs : List TV} {vs : List Value} (hI : Inv GL G Z w HP) (hn : G hp.length = none) (hr : RepL G Z w cs vs) (h1 : ∀ u ∈ vs, u.oneCell' = true) :
    ∃ G' Z', Res G Z w hp.length (hp ++ [.vr t cs]) 0 (.pt hp.length 0) G' Z' (w.alloc (.cells vs.toArray t)) (.pointer (some ⟨w.heap.size, 0, none⟩)) := by
  have hs : Below w.heap.size w (w.alloc (.cells vs.toArray t)) := (Below.refl _ w).alloc (Nat.le_refl _) _
  have st := stp_new (n := hp.length) (k := 0) (i0 := (.pointer (some ⟨w.heap.size, 0, none⟩))) hI.zlt hn (fun b hb => by cases hb; exact Nat.le_refl _) hs w.heap.size (.inl rfl)
  refine ⟨_, _, res_new (i0 := (.pointer (some ⟨w.heap.size, 0, none⟩))) (k := 0) hI hn (fun b hb => by cases hb; exact Nat.le_refl _) hs w.heap.size (.inl rfl) (by rw [Rep]; exact ⟨w.heap.size, ⟨_, gup_self, rfl⟩, rfl⟩) ⟨w.heap.size, vs, gup_self, heap_alloc_new w _, hr.keep st.gle st.kp, h1⟩ ?_⟩
  intro i b hi hb o hz
  rw [gup_self] at hi; cases hi
  cases hb
  rcases hz with hz | ⟨_, hz⟩
  · exact Nat.lt_irrefl _ (hI.zlt _ _ hz)
  · omega
theorem does_alloc {r : TV × List Ob × Nat × Nat} {t : TypeId} (hI : Inv GL G Z w HP) (hn : G hp.length = none) (ho : o.op = .alloc t) (h : absAlloc P hp t = some r) : Does P GL G Z w a o hp.length r := by
  unfold absAlloc at h
  cases hz : zeroT P t with
  | none => rw [hz] at h; simp at h
  | some cs =>
    rw [hz] at h
    simp only [Option.map_some, Option.some.injEq] at h
    subst h
    unfold zeroT at hz
    split at hz
    · rename_i i hi
      split at hz
      · rename_i z hzz
        split at hz
        · rename_i hall
          cases hz
          obtain ⟨G', Z', hres⟩ := res_var (hp := hp) (t := t) hI hn (repl_lfs G Z w z.cells.toList) (fun u hu => List.all_eq_true.1 hall u hu)
          refine ⟨_, G', Z', _, .inl ?_, hres⟩
          unfold execOp
          simp [ho, Instr.alloc, zeroValue, typeInfo, hi, hzz, newVar, newRow]
        · cases hz
      · cases hz
    · cases hz
theorem does_box {r : TV × List Ob × Nat × Nat} {t : TypeId} {x : Operand} (hI : Inv GL G Z w HP) (hn : G hp.length = none) (ho : o.op = .box t x) (hx : Rep G Z w (evT GL tm x) (a.eval x)) (h : absBox hp t (evT GL tm x) = some r) : Does P GL G Z w a o hp.length r := by
  unfold absBox at h
  cases hc : cls (evT GL tm x) with
  | none => rw [hc] at h; simp at h
  | some cs =>
    rw [hc] at h
    simp only [Option.map_some, Option.some.injEq] at h
    subst h
    obtain ⟨vs, h1, h2, h3⟩ := cls_rep hc hx
    obtain ⟨G', Z', hres⟩ := res_var (hp := hp) (t := t) hI hn h2 h3
    refine ⟨_, G', Z', _, .inl ?_, hres⟩
    unfold execOp
    simp [ho, Instr.box, newVar, newRow, h1]
theorem tt_one {n n' m id : Nat} (hn : n' = n) (h : TT (2 ^ m) n n' id) : id = m := by
  rcases h with h | h
  · rw [Nat.testBit_two_pow] at h
    exact (of_decide_eq_true h).symm
  · omega
theorem tt_self {n n' m : Nat} : TT (2 ^ m) n n' m := .inl (Nat.testBit_two_pow_self ..)
theorem mid_get {α : Type} {A us D : List α} {off p : Nat} (h : A.length = off) (h1 : off ≤ p) (h2 : p < off + us.length) : (A ++ us ++ D)[p]? = us[p - off]? := by
  rw [List.append_assoc, List.getElem?_append_right (by omega), h, List.getElem?_append_left (by omega)]
theorem end_get {α : Type} {A us D : List α} {off p : Nat} (h : A.length = off) (h1 : off + us.length ≤ p) : (A ++ us ++ D)[p]? = D[p - (off + us.length)]? := by
  rw [List.getElem?_append_right (by rw [List.length_append]; omega), List.length_append, h]
theorem liv_old {n : Nat} {G : Gh} {HP : Nat → Ob → Prop} (hn : G n = none) : Liv HP G (TT 0 n (n + 1)) := fun id i hT hi => by
  rw [tt_new hT, hn] at hi; cases hi
theorem does_store {r : TV × List Ob × Nat × Nat} {t : TypeId} {x y : Operand} (hI : Inv GL G Z w HP) (ho : o.op = .store t x y) (hx : Rep G Z w (evT GL tm x) (a.eval x)) (hy : Rep G Z w (evT GL tm y) (a.eval y)) (hh : ∀ id ob, (r.2.2.1 ||| r.2.2.2).testBit id = true → hp[id]? = some ob → HP id ob) (h : absStore P hp t (evT GL tm y) (evT GL tm x) = some r) : Does P GL G Z w a o hp.length r := by
  generalize evT GL tm x = X at hx h
  generalize evT GL tm y = Y at hy h
  cases X <;> simp only [absStore, reduceCtorEq] at h
  case pt id off =>
    have main : ∀ {cs ys : List TV} {i : TypeInfo} {ob ob' : Ob}, hp[id]? = some ob → cellsO ob = some cs → cls Y = some ys → P.info? t = some i → ys.length = i.size → off + ys.length ≤ cs.length → r = (.lf undef, hp.set id ob', 0, 2 ^ id) →
        (∀ (us : List Value) v0 g, G id = some v0 → blk v0 = some g → us.length = ys.length → (∀ u ∈ us, u.oneCell' = true) → RepL G Z w ys us → ∃ (cur : Array Value) (e : TypeId), w.heap[g]? = some (.cells cur e (0, 0)) ∧ off + us.length ≤ cur.size ∧ (∀ x, off ≤ x → x < off + us.length → ¬ Z g x) ∧ ∀ w', w' = w.setRow g (cur.toList.take off ++ us ++ cur.toList.drop (off + us.length)).toArray → Kp Z Z w w' → Good G Z w' id ob' ∧ NoZ G Z id ob') →
        Does P GL G Z w a o hp.length r := by
      intro cs ys i ob ob' hid hcs hcl hti hly hle hr hfin
      subst hr
      have hob := hh id _ (by simp [Nat.testBit_two_pow_self]) hid
      obtain ⟨g, vs, v0, hv, hG, hbk, k2, k3, k4⟩ := obj_at hI hob hcs hx
      obtain ⟨us, h1, h2, h3⟩ := cls_rep hcl hy
      have hlu := repl_len h2
      have hlt := (List.getElem?_eq_some_iff.1 hid).1
      obtain ⟨cur, e, hg, hfit, hnz, hgood⟩ := hfin us v0 g hG hbk hlu h3 h2
      have hrun : (execOp a.eval o).run P w = .ok .skip (w.setRow g (cur.toList.take off ++ us ++ cur.toList.drop (off + us.length)).toArray) := by
        have hst := run_storeCells_at (P := P) g off e us 0 cur w hg (by omega) h3
        simp only [Nat.add_zero] at hst
        unfold execOp
        have hsz : (a.eval y).cells.size = i.size := by rw [h1]; simp; omega
        simp [ho, hv, Instr.storeAt, Instr.sureAddr, storeVar, sizeOf, typeInfo, hti, hsz]
        rw [h1]
        simp [hst]
      have hb0 : Below 0 w (w.setRow g (cur.toList.take off ++ us ++ cur.toList.drop (off + us.length)).toArray) := below_setRow (Below.refl 0 w) (Nat.zero_le _) _
      have hoth : ∀ b, b ≠ g → (w.setRow g (cur.toList.take off ++ us ++ cur.toList.drop (off + us.length)).toArray).heap[b]? = w.heap[b]? := fun b hb => setRow_other w g b _ hb
      have hkp : Kp Z Z w (w.setRow g (cur.toList.take off ++ us ++ cur.toList.drop (off + us.length)).toArray) := ⟨fun _ _ h => h, fun b x hz => by
        by_cases e : b = g
        · subst e
          rw [cell_setRow_same w b x cur _ _ _ hg]
          have hx2 : x < off ∨ off + us.length ≤ x := Nat.lt_or_ge x off |>.elim .inl fun hge => .inr (Nat.le_of_not_lt fun hlt => hnz x hge hlt hz)
          have : w.cell? ⟨b, x, none⟩ = cur[x]? := by simp [World.cell?, hg]
          rw [this]
          have hll : (cur.toList.take off ++ us).length = off + us.length := by rw [List.length_append, List.length_take, Array.length_toList]; omega
          rw [List.getElem?_toArray]
          rcases hx2 with hx2 | hx2
          · rw [List.append_assoc, List.getElem?_append_left (by rw [List.length_take, Array.length_toList]; omega), List.getElem?_take, if_pos hx2]; simp
          · rw [List.getElem?_append_right (by omega), hll, List.getElem?_drop, show off + us.length + (x - (off + us.length)) = x by omega]; simp
        · exact World.cell?_of_block (a := ⟨b, x, none⟩) (hoth b e)⟩
      obtain ⟨hgd, hnz'⟩ := hgood _ rfl hkp
      have hlen' : (hp.set id ob').length = hp.length := by simp
      have hget : (hp.set id ob')[id]? = some ob' := by rw [List.getElem?_set_self hlt]
      refine ⟨undef, G, Z, _, .inr ⟨hrun, rfl⟩, ?_⟩
      refine ⟨⟨Gle.refl G, fun _ _ h => h, hkp, hb0, fun b hb hT => hoth b (fun e => hT id _ tt_self hG (by rw [e]; exact hbk)), fun id i b h1 h2 => .inr ⟨id, i, .inr rfl, h1, h2⟩, fun _ _ h => .inl h, fun b x hz => by simpa using hI.zlt b x hz⟩, rep_lf.2 rfl, ?_, ?_, ?_, ?_⟩
      · intro id' ob'' hT hob'
        have hid' := tt_one hlen' hT
        subst hid'
        rw [hget] at hob'; cases hob'
        exact hgd
      · intro id' ob'' hT hob'
        have hid' := tt_one hlen' hT
        subst hid'
        rw [hget] at hob'; cases hob'
        exact hnz'
      · intro id1 id2 _ _ i i' b hT hT' _ _ _ _ _ _ _ _
        rw [tt_one hlen' hT, tt_one hlen' hT']
      · intro id' i' hT _
        have hid' := tt_one hlen' hT
        subst hid'
        exact ⟨_, hget⟩
    split at h
    · rename_i e cs ys i hid hcl hti
      split at h
      · rename_i hlen
        simp only [Option.some.injEq] at h
        refine main hid rfl hcl hti hlen.1 hlen.2 h.symm fun us v0 g hG hbk hlu h3 h2 => ?_
        obtain ⟨g', vs, k1, k2, k3, k4⟩ := hI.good id _ (hh id _ (by rw [← h]; simp [Nat.testBit_two_pow_self]) hid)
        rw [hG] at k1; cases k1
        cases hbk
        have hl := repl_len k3
        have hnz := hI.free id _ (hh id _ (by rw [← h]; simp [Nat.testBit_two_pow_self]) hid)
        refine ⟨vs.toArray, e, k2, by simp; omega, fun x _ _ => hnz _ _ hG rfl x, fun w' hw hkp => ⟨⟨g', vs.take off ++ us ++ vs.drop (off + us.length), hG, ?_, ?_, ?_⟩, hnz⟩⟩
        · subst hw; exact setRow_heap w g' _ _ e _ k2
        · unfold putC
          rw [← hlu]
          exact (repl_app (repl_app (repl_take k3 off) h2) (repl_drop k3 _)).keep (Gle.refl G) hkp
        · intro u hu
          rcases List.mem_append.1 hu with hu | hu
          · rcases List.mem_append.1 hu with hu | hu
            · exact k4 u (List.mem_of_mem_take hu)
            · exact h3 u hu
          · exact k4 u (List.mem_of_mem_drop hu)
      · cases h
    · rename_i e sz n cs fz ys i hid hcl hti
      split at h
      · rename_i hlen
        simp only [Option.some.injEq] at h
        refine main hid rfl hcl hti hlen.1 hlen.2.1 h.symm fun us v0 g hG hbk hlu h3 h2 => ?_
        obtain ⟨v, cells, k1, k2, k3, k4, k5, k6⟩ := hI.good id _ (hh id _ (by rw [← h]; simp [Nat.testBit_two_pow_self]) hid)
        rw [hG] at k1; cases k1
        have hl := repl_len k4
        have hnz := hI.free id _ (hh id _ (by rw [← h]; simp [Nat.testBit_two_pow_self]) hid)
        rcases k3.2 with ⟨rfl, _⟩ | ⟨g', cap, cur, rfl, hg0, hgg, hnc, hcm, hcs, htake⟩
        · cases hbk
        · cases hbk
          have hcl2 : cells.length = n * sz := k3.1
          have hle : n * sz ≤ cur.size := by rw [hcs]; exact Nat.mul_le_mul_right _ hnc
          refine ⟨cur, e, hgg, by omega, fun x hx1 _ hz => hnz _ _ hG rfl x (Nat.le_trans hlen.2.2 hx1) hz, fun w' hw hkp => ⟨⟨_, cells.take off ++ us ++ cells.drop (off + us.length), hG, rfl, ⟨?_, .inr ⟨g', cap, (cur.toList.take off ++ us ++ cur.toList.drop (off + us.length)).toArray, rfl, hg0, ?_, hnc, hcm, ?_, ?_⟩⟩, ?_, ?_, k6⟩, hnz⟩⟩
          · rw [List.length_append, List.length_append, List.length_take, List.length_drop]; omega
          · subst hw; exact setRow_heap w g' _ _ e _ hgg
          · simp only [List.size_toArray, List.length_append, List.length_take, List.length_drop, Array.length_toList]; omega
          · have hoff : off + us.length ≤ n * sz := by omega
            clear hnz hcs hkp hw hgg k3 hti hcl hid h
            generalize n * sz = N at htake hcl2 hle hoff ⊢
            subst htake
            refine List.ext_getElem? fun p => ?_
            rw [List.getElem?_take]
            have e1 : (cur.toList.take off).length = off := by rw [List.length_take, Array.length_toList]; omega
            have e2 : ((cur.toList.take N).take off).length = off := by rw [List.length_take]; omega
            by_cases hp1 : p < N
            · rw [if_pos hp1]
              by_cases hp2 : p < off
              · rw [List.append_assoc, List.append_assoc, List.getElem?_append_left (by omega), List.getElem?_append_left (by omega), List.getElem?_take, List.getElem?_take, List.getElem?_take, if_pos hp2, if_pos hp1, if_pos hp2]
              · by_cases hp3 : p < off + us.length
                · rw [mid_get e1 (by omega) hp3, mid_get e2 (by omega) hp3]
                · rw [end_get e1 (by omega), end_get e2 (by omega), List.getElem?_drop, List.getElem?_drop, List.getElem?_take, if_pos (by omega)]
            · rw [if_neg hp1, List.getElem?_eq_none]
              rw [List.length_append, List.length_append, e2, List.length_drop, hcl2]
              omega
          · unfold putC
            rw [← hlu]
            exact (repl_app (repl_app (repl_take k4 off) h2) (repl_drop k4 _)).keep (Gle.refl G) hkp
          · intro u hu
            rcases List.mem_append.1 hu with hu | hu
            · rcases List.mem_append.1 hu with hu | hu
              · exact k5 u (List.mem_of_mem_take hu)
              · exact h3 u hu
            · exact k5 u (List.mem_of_mem_drop hu)
      · cases h
    · cases h
end
end Go.Eng
end
