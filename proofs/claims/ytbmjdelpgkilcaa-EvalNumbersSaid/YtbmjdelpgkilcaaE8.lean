/-
  A machine on plain data, eighteen: what a proof says of it.
-/
import Derived.Test.YtbmjdelpgkilcaaE7
set_option linter.unusedVariables false
section
set_option linter.unusedVariables false
set_option linter.unusedSimpArgs false
namespace Go.Eng
open Go.RowKit
def reachG (g : List (List Nat)) : Nat → List Nat → List Nat → List Nat
  | 0, _, acc => acc
  | _, [], acc => acc
  | n + 1, i :: todo, acc => if acc.contains i then reachG g n todo acc else reachG g n (g.getD i [] ++ todo) (acc ++ [i])
theorem getD_ids (hp : List Ob) (i : Nat) : idsO (hp.getD i (.ot none)) = (hp.map idsO).getD i [] := by
  simp only [List.getD_eq_getElem?_getD, List.getElem?_map]
  cases hp[i]? <;> rfl
theorem reach_eq (hp : List Ob) : ∀ (n : Nat) (todo acc : List Nat), reach hp n todo acc = reachG (hp.map idsO) n todo acc
  | 0, _, _ => rfl
  | n + 1, [], _ => rfl
  | n + 1, i :: todo, acc => by rw [reach, reachG, getD_ids, reach_eq hp n, reach_eq hp n]
def closedG (g : List (List Nat)) (l : Option (List Bool)) (L : List Nat) : Bool := decide L.Nodup && L.all fun id => match g[id]? with
  | some is => (match l with | some l => l.getD id false | none => true) && is.all fun i => L.contains i
  | none => false
theorem closed0_eq (hp : List Ob) (L : List Nat) : closed0 hp L = closedG (hp.map idsO) none L := by
  unfold closed0 closedG
  congr 1
  refine List.all_congr rfl fun id => ?_
  rw [List.getElem?_map]
  cases hp[id]? <;> simp
theorem closed_eq (hp : List Ob) (L : List Nat) : closed hp L = closedG (hp.map idsO) (some (hp.map (·.live))) L := by
  unfold closed closedG
  congr 1
  refine List.all_congr rfl fun id => ?_
  simp only [List.getElem?_map, List.getD_eq_getElem?_getD]
  cases hp[id]? <;> simp
def lay (n0 : Nat) (g : List (List Nat)) (r : List Nat) : Option (List Nat) :=
  let L := reachG g (4 * g.length + 4) ((g.take n0).flatten ++ r) (List.range n0)
  if (closedG g none L = true ∧ r.all (fun i => L.contains i) = true) ∧ L.take n0 = List.range n0 then some L else none
theorem fin_lay (n0 : Nat) (r : TV) (hp : List Ob) : fin n0 r hp = (match lay n0 (hp.map idsO) (ids r) with | some L => some (ren (idx L) r, L.map fun id => renO (idx L) (hp.getD id (.ot none))) | none => none) := by
  unfold fin lay
  simp only [reach_eq, closed0_eq, List.length_map, List.map_take]
  split <;> rfl
theorem compact_lay (n0 : Nat) (tm : List TV) (hp : List Ob) : compact n0 tm hp = (match lay n0 (hp.map idsO) (idsL tm) with | some L => some (renL (idx L) tm, L.map fun id => renO (idx L) (hp.getD id (.ot none))) | none => none) := by
  unfold compact lay
  simp only [reach_eq, closed0_eq, List.length_map, List.map_take]
  split <;> rfl
def layC (g : List (List Nat)) (l : List Bool) (r : List Nat) : Option (List Nat) :=
  let L := reachG g (4 * g.length + 4) r []
  if closedG g (some l) L = true ∧ r.all (fun i => L.contains i) = true then some L else none
theorem call_lay (env : EnvT) (bn : Nat → Nat) (hp : List Ob) (f : FuncId) (args : List TV) : absCallF env bn hp f args = (match layC (hp.map idsO) (hp.map (·.live)) (idsL args) with
  | some L => (match env f (renL (idx L) args) (L.map fun id => renO (idx L) (hp.getD id (.ot none))) with
    | some (r, objs') => if L.length ≤ objs'.length then some (ren (backO L hp.length) r, mergeH hp objs' L (bn L.length), mask L, mask (alw L (bn L.length))) else none
    | none => none)
  | none => none) := by
  unfold absCallF layC
  simp only [reach_eq, closed_eq, List.length_map]
  split <;> rfl
def strs (l : List ByteArray) : List TV := l.map fun s => .lf (.string s)
theorem strs_len (l : List ByteArray) : (strs l).length = l.length := by simp [strs]
theorem strs_take (l : List ByteArray) : (strs l).take l.length = strs l := List.take_of_length_le (by simp [strs])
theorem strs_app (l k : List ByteArray) : strs l ++ strs k = strs (l ++ k) := by simp [strs]
theorem strs_nil : strs [] = [] := rfl
theorem strs_cons (a : ByteArray) (l : List ByteArray) : strs (a :: l) = .lf (.string a) :: strs l := rfl
theorem idsL_strs (l : List ByteArray) : idsL (strs l) = [] := by
  induction l with
  | nil => rfl
  | cons a l ih => simp only [strs, List.map_cons, idsL, ids, List.nil_append]; exact ih
theorem renL_strs (f : Nat → Nat) (l : List ByteArray) : renL f (strs l) = strs l := by
  induction l with
  | nil => rfl
  | cons a l ih => simp only [strs, List.map_cons, renL, ren]; congr 1
theorem cls_vw (id sz off len : Nat) (full : Bool) : cls (.vw id sz off len full) = some [.vw id sz off len full] := rfl
theorem le_self (n : Nat) : (n ≤ n) = True := eq_true (Nat.le_refl n)
theorem zero_le_eq (n : Nat) : (0 ≤ n) = True := eq_true (Nat.zero_le n)
theorem newM_self (n : Nat) : newM n n = 0 := by simp [newM]
theorem nilPt (hp : List Ob) (id off : Nat) (r : AR) : orE (absNilCheck hp (.pt id off)) r = some (.pt id off, hp, 0, 0) := rfl
theorem or00 : (0 ||| 0 : Nat) = 0 := rfl
theorem and00 (n : Nat) : (n &&& 0 : Nat) = 0 := Nat.and_zero n
def stT (n : Nat) (hp : List Ob) (id off : Nat) (y : TV) : AR := match hp[id]?, cls y with
    | some (.vr e cs), some ys => if ys.length = n ∧ off + ys.length ≤ cs.length then some (.lf undef, hp.set id (.vr e (putC cs off ys)), 0, 2 ^ id) else none
    | some (.ro e sz m cs fz), some ys => if ys.length = n ∧ off + ys.length ≤ cs.length ∧ fz * sz ≤ off then some (.lf undef, hp.set id (.ro e sz m (putC cs off ys) fz), 0, 2 ^ id) else none
    | _, _ => none
theorem absStore_of {P : Program} {t n : Nat} (h : (P.info? t).map (·.size) = some n) (hp : List Ob) (id off : Nat) (y : TV) : absStore P hp t y (.pt id off) = stT n hp id off y := by
  obtain ⟨i, h1, rfl⟩ := Option.map_eq_some_iff.1 h
  simp only [absStore, stT, h1]
  rcases hp[id]? with _ | ⟨e, cs⟩ | ⟨e, sz, n, cs, fz⟩ | m <;> rcases cls y with _ | ys <;> rfl
end Go.Eng
end
