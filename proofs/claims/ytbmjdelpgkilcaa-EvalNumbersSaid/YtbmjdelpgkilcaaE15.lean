/-
  A machine on plain data, twenty-five: drawn regions, with what can be checked ahead checked ahead.
-/
import Derived.Test.YtbmjdelpgkilcaaE14
set_option linter.unusedVariables false
section
set_option linter.unusedVariables false
set_option linter.unusedSimpArgs false
namespace Go.Eng
def confT (x y : Option Tmp × List Tmp) : Bool := (match x.1 with | some d => y.2.contains d || y.1 == some d | none => false) || (match y.1 with | some d => x.2.contains d | none => false)
def confM (x y : Nat × Nat) : Bool := decide (x.2 &&& (y.1 ||| y.2) ≠ 0) || decide (x.1 &&& y.2 ≠ 0)
theorem conf_parts (x y : Lg) : conf x y = (confM (x.R, x.W) (y.R, y.W) || confT (x.dst, x.look) (y.dst, y.look)) := by
  unfold conf confM confT
  simp only [Bool.or_assoc]
  rfl
def freeL (dms : List Nat) (n : Nat) : List (List Nat) := (List.range n).map fun j => (List.range j).filter fun k => !(dms.getD j 0).testBit k
def statOk (ops : Array Oper) (free : List (List Nat)) : Bool := (List.range ops.size).all fun j => (free.getD j []).all fun k => match ops[k]?, ops[j]? with
  | some x, some y => !confT (x.dst, lookT ops x) (y.dst, lookT ops y)
  | _, _ => true
def runM (P : Program) (M : Prm) (env : EnvT) (ops : Array Oper) (free : List (List Nat)) : List Oper → List TV → List Ob → List (Nat × Nat) → QR
  | [], tm, hp, _ => some (tm, hp)
  | o :: os, tm, hp, ms => match stepT P M env ops tm hp o with
    | some (t, hp', R, W) => if ((free.getD ms.length []).all fun k => !confM (ms.getD k (0, 0)) (R, W ||| newM hp.length hp'.length)) = true then runM P M env ops free os (putT tm o.dst t) hp' (ms ++ [(R, W ||| newM hp.length hp'.length)]) else none
    | none => none
section
variable {P : Program} {M : Prm} {env : EnvT} {ops : Array Oper}
theorem runM_sound {dms : List Nat} (hst : statOk ops (freeL dms ops.size) = true) {r : List TV × List Ob} : ∀ (l : List Oper) (tm : List TV) (hp : List Ob) (log : List Lg), (∀ i, l[i]? = ops[log.length + i]?) → (∀ (k : Nat) (y : Lg), log[k]? = some y → ∃ o, ops[k]? = some o ∧ y.dst = o.dst ∧ y.look = lookT ops o) → runM P M env ops (freeL dms ops.size) l tm hp (log.map fun y => (y.R, y.W)) = some r → runD P M env ops dms l tm hp log = some r
  | [], tm, hp, log, _, _, h => h
  | o :: os, tm, hp, log, hl, hlog, h => by
    have ho : ops[log.length]? = some o := by have := hl 0; simpa using this.symm
    have hlt : log.length < ops.size := (Array.getElem?_eq_some_iff.1 ho).1
    rw [runM] at h
    rw [runD]
    rcases hs : stepT P M env ops tm hp o with _ | ⟨t, hp', R, W⟩
    · rw [hs] at h; cases h
    · rw [hs] at h
      simp only at h ⊢
      split at h
      · rename_i hc
        have hchk : chk (dms.getD log.length 0) log ⟨o.dst, lookT ops o, R, W ||| newM hp.length hp'.length⟩ = true := by
          unfold chk
          rw [List.all_eq_true]
          intro k hk
          have hk := List.mem_range.1 hk
          cases hb : (dms.getD log.length 0).testBit k with
          | true => rw [Bool.or_true]
          | false =>
            rw [Bool.or_false, conf_parts]
            have hf : k ∈ (freeL dms ops.size).getD log.length [] := by
              unfold freeL
              rw [List.getD_eq_getElem?_getD, List.getElem?_map, List.getElem?_range hlt]
              simp only [Option.map_some, Option.getD_some, List.mem_filter, List.mem_range]
              exact ⟨hk, by rw [hb]; rfl⟩
            have h1 := List.all_eq_true.1 hst log.length (List.mem_range.2 hlt)
            have h1 := List.all_eq_true.1 h1 k hf
            obtain ⟨x, hx, e1, e2⟩ := hlog k (log[k]) (List.getElem?_eq_getElem hk)
            rw [hx, ho] at h1
            have hg : log.getD k ⟨none, [], 0, 0⟩ = log[k] := by rw [List.getD_eq_getElem?_getD, List.getElem?_eq_getElem hk]; rfl
            rw [List.length_map] at hc
            have h2 := List.all_eq_true.1 hc k hf
            rw [List.getD_eq_getElem?_getD, List.getElem?_map, List.getElem?_eq_getElem hk] at h2
            rw [hg, e1, e2]
            simp only [Option.map_some, Option.getD_some, Bool.not_eq_true'] at h1 h2 ⊢
            rw [h1, h2]
            rfl
        rw [if_pos hchk]
        refine runM_sound hst os _ _ _ (fun i => ?_) (fun k y hy => ?_) (by rw [List.map_append]; exact h)
        · have := hl (i + 1)
          rw [List.getElem?_cons_succ] at this
          rw [this, List.length_append, List.length_singleton]
          congr 1; omega
        · by_cases e : k < log.length
          · rw [List.getElem?_append_left e] at hy
            exact hlog k y hy
          · rw [List.getElem?_append_right (by omega)] at hy
            have hk0 : k - log.length = 0 := by
              have := (List.getElem?_eq_some_iff.1 hy).1
              simp at this; omega
            rw [hk0] at hy
            cases hy
            exact ⟨o, by rw [show k = log.length by omega]; exact ho, rfl, rfl⟩
      · cases h
theorem ex_drawn_of {fu n0 : Nat} {hint : Nat → Option Hint} {b id : Nat} {tm : List TV} {hp : List Ob} {free : List (List Nat)} {r : List TV × List Ob} (ha : acyT ops = true) (hf : freeL (depM ops.toList []) ops.size = free) (hst : statOk ops free = true) (h : runM P M env ops free ops.toList tm hp [] = some r) : exec P M env fu n0 hint b (.region id ops true) tm hp = some (.nor, r.1, r.2) := by
  rw [ex_drawn, if_pos ha]
  subst hf
  rw [runM_sound hst ops.toList tm hp [] (fun i => by simp) (fun k y hy => by simp at hy) h]
  rfl
def exZ (P : Program) (M : Prm) (env : EnvT) (fu n0 : Nat) (hint : Nat → Option Hint) (b : Nat) (c : Code) (tm : List TV) (hp : List Ob) : XR := exec P M env fu n0 hint b c tm hp
theorem ex_drawn_m {fu n0 : Nat} {hint : Nat → Option Hint} {b id : Nat} {tm : List TV} {hp : List Ob} {free : List (List Nat)} (ha : acyT ops = true) (hf : freeL (depM ops.toList []) ops.size = free) (hst : statOk ops free = true) : exec P M env fu n0 hint b (.region id ops true) tm hp = (match runM P M env ops free ops.toList tm hp [] with
    | some r => some (.nor, r.1, r.2)
    | none => exZ P M env fu n0 hint b (.region id ops true) tm hp) := by
  cases h : runM P M env ops free ops.toList tm hp [] with
  | some r => exact ex_drawn_of ha hf hst h
  | none => rfl
end
def regOps (k : Nat) : Code → Option (Array Oper)
  | .region id ops _ => if id = k then some ops else none
  | .seq a b => match regOps k a with
    | some c => some c
    | none => regOps k b
  | .block _ c => regOps k c
  | .scope c => regOps k c
  | .loop c => regOps k c
  | .cond _ a b => match regOps k a with
    | some c => some c
    | none => regOps k b
  | _ => none
end Go.Eng
end
