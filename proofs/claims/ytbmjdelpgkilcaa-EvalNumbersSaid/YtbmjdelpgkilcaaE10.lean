/-
  A machine on plain data, twenty: calls, as a proof computes them.
-/
import Derived.Test.YtbmjdelpgkilcaaE9
set_option linter.unusedVariables false
section
set_option linter.unusedVariables false
set_option linter.unusedSimpArgs false
namespace Go.Eng
open Go.RowKit
def idxN : List Nat → Nat → Nat
  | [], _ => 0
  | x :: l, i => if x = i then 0 else idxN l i + 1
theorem idx_eq : ∀ (L : List Nat) (i : Nat), idx L i = idxN L i
  | [], i => rfl
  | x :: l, i => by
    have ih := idx_eq l i
    unfold idx at ih ⊢
    rw [idxN, List.idxOf_cons, ih]
    by_cases h : x = i
    · simp [h]
    · rw [if_neg h, beq_eq_false_iff_ne.2 h]; rfl
def backN : List Nat → Nat → Nat → Nat
  | [], n, i => n + i
  | x :: _, _, 0 => x
  | _ :: l, n, i + 1 => backN l n i
theorem back_eq : ∀ (L : List Nat) (n i : Nat), backO L n i = backN L n i
  | [], n, i => by simp [backO, backN]
  | x :: l, n, 0 => by simp [backO, backN]
  | x :: l, n, i + 1 => by
    have ih := back_eq l n i
    unfold backO at ih ⊢
    rw [backN, ← ih, List.getElem?_cons_succ, List.length_cons]
    cases l[i]? with
    | some y => rfl
    | none => simp
def mergeN (L : List Nat) (b : Nat) (objs : List Ob) (n : Nat) : Nat → List Ob → List Ob
  | _, [] => (objs.drop L.length).map (renO (backN L n))
  | i, ob :: hp => (if L.contains i = true ∧ b.testBit (idxN L i) = false then renO (backN L n) (objs.getD (idxN L i) (.ot none)) else ob) :: mergeN L b objs n (i + 1) hp
theorem merge_go (L : List Nat) (b : Nat) (objs : List Ob) (n : Nat) (all : List Ob) : ∀ (hp : List Ob) (i : Nat), (∀ k, hp[k]? = all[i + k]?) →
    ((List.range' i hp.length).map fun id => if L.contains id = true ∧ b.testBit (idxN L id) = false then renO (backN L n) (objs.getD (idxN L id) (.ot none)) else all.getD id (.ot none)) ++ (objs.drop L.length).map (renO (backN L n)) = mergeN L b objs n i hp
  | [], i, _ => rfl
  | ob :: hp, i, h => by
    rw [List.length_cons, List.range'_succ, List.map_cons, List.cons_append, mergeN, merge_go L b objs n all hp (i + 1) (fun k => by have := h (k + 1); rwa [List.getElem?_cons_succ, show i + (k + 1) = i + 1 + k by omega] at this)]
    congr 1
    have := h 0
    simp only [List.getElem?_cons_zero, Nat.add_zero] at this
    rw [List.getD_eq_getElem?_getD (l := all), ← this]
    rfl
theorem merge_eq (hp objs : List Ob) (L : List Nat) (b : Nat) : mergeH hp objs L b = mergeN L b objs hp.length 0 hp := by
  rw [← merge_go L b objs hp.length hp hp 0 (fun k => by rw [Nat.zero_add])]
  unfold mergeH
  rw [← List.range_eq_range', show backO L hp.length = backN L hp.length from funext fun i => back_eq L hp.length i]
  simp only [idx_eq]
theorem idx_fun (L : List Nat) : idx L = idxN L := funext fun i => idx_eq L i
theorem call_n (env : EnvT) (bn : Nat → Nat) (hp : List Ob) (f : FuncId) (args : List TV) : absCallF env bn hp f args = (match layC (hp.map idsO) (hp.map (·.live)) (idsL args) with
  | some L => (match env f (renL (idxN L) args) (L.map fun id => renO (idxN L) (hp.getD id (.ot none))) with
    | some (r, objs') => if L.length ≤ objs'.length then some (ren (backN L hp.length) r, mergeN L (bn L.length) objs' hp.length 0 hp, mask L, mask (alw L (bn L.length))) else none
    | none => none)
  | none => none) := by
  rw [call_lay]
  simp only [idx_fun, merge_eq, show ∀ L : List Nat, backO L hp.length = backN L hp.length from fun L => funext fun i => back_eq L hp.length i]
  rfl
theorem fin_n (n0 : Nat) (r : TV) (hp : List Ob) : fin n0 r hp = (match lay n0 (hp.map idsO) (ids r) with | some L => some (ren (idxN L) r, L.map fun id => renO (idxN L) (hp.getD id (.ot none))) | none => none) := by
  rw [fin_lay]
  simp only [idx_fun]
  rfl
theorem compact_n (n0 : Nat) (tm : List TV) (hp : List Ob) : compact n0 tm hp = (match lay n0 (hp.map idsO) (idsL tm) with | some L => some (renL (idxN L) tm, L.map fun id => renO (idxN L) (hp.getD id (.ot none))) | none => none) := by
  rw [compact_lay]
  simp only [idx_fun]
  rfl
end Go.Eng
end
