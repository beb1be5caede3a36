/-
  A machine on plain data, twenty-one: operations by the sizes of their types.
-/
import Derived.Test.YtbmjdelpgkilcaaE10
set_option linter.unusedVariables false
section
set_option linter.unusedVariables false
set_option linter.unusedSimpArgs false
namespace Go.Eng
open Go.RowKit
def plS (l : List (Nat × Nat)) : Nat → Option (Nat × Nat) := (l.toArray[·]?)
theorem plS_eq (l : List (Nat × Nat)) (i : Nat) : plS l i = l[i]? := by simp [plS]
def bsF (e k n : Nat) (z : List TV) (ps : List (Nat × TV)) (hp : List Ob) : AR :=
  match fillT (fun i => some (i * k, k)) (List.replicate n z).flatten ps with
  | some cs => if cs.length = n * k ∧ cs.all one1 = true then some (.vw hp.length k 0 n false, hp ++ [.ro e k n cs 0], 0, 0) else none
  | none => none
def apT (e k b : Nat) (hp : List Ob) (s x : TV) : AR := match srcR hp k x with
  | some (m, ys, R) => absApp hp e k b s m ys R
  | none => none
def lnT (hp : List Ob) (x : TV) : AR := match rowLen x with
  | some n => some (.lf (.int .i64 (n : Int)), hp, 0, 0)
  | none => none
def slT (k : Nat) (hp : List Ob) (x : TV) (lo hi mx : Option TV) : AR := match x with
    | .fr sz xs full =>
      match bnd 0 lo, bnd xs.length hi, mx, bnd 0 mx with
      | some l, some h, none, _ => if sz = k ∧ l ≤ h ∧ h ≤ xs.length then some (.fr sz ((xs.take h).drop l) (full && decide (h = xs.length)), hp, 0, 0) else none
      | some l, some h, some _, some m => if sz = k ∧ l ≤ h ∧ h ≤ m ∧ m ≤ xs.length ∧ hi.isSome = true then some (.fr sz ((xs.take h).drop l) (decide (h = m)), hp, 0, 0) else none
      | _, _, _, _ => none
    | .vw id sz off len full =>
      match bnd 0 lo, bnd len hi, mx, bnd 0 mx with
      | some l, some h, none, _ => if sz = k ∧ l ≤ h ∧ h ≤ len ∧ (full = true → h = len) then some (.vw id sz (off + l) (h - l) full, hp, 0, 0) else none
      | some l, some h, some _, some m => if sz = k ∧ l ≤ h ∧ h = m ∧ m ≤ len ∧ hi.isSome = true then some (.vw id sz (off + l) (h - l) true, hp, 0, 0) else none
      | _, _, _, _ => none
    | _ => none
theorem absSlice_of {P : Program} {t e k : Nat} (hu : P.underlying t = some (.slice e)) (hi' : (P.info? e).map (·.size) = some k) (hp : List Ob) (x : TV) (lo hi mx : Option TV) : absSlice P hp t x lo hi mx = slT k hp x lo hi mx := by
  obtain ⟨i, h1, rfl⟩ := Option.map_eq_some_iff.1 hi'
  unfold absSlice slT
  rw [hu]
  simp only [h1]
  cases x <;> rfl
theorem bin_rem (P : Program) (hp : List Ob) (t : TypeId) (x y : Operand) (k : IntKind) (a b : Int) (hb : b ≠ 0) : bin2 P hp .rem t x y (.lf (.int k a)) (.lf (.int k b)) = some (.lf (.int k (a.tmod b)), hp, 0, 0) := by
  simp [bin2, lfo, out1, eqGuard, binOp, Op.intDiv, hb, prS_bind, prS_pure, tvOf, tvO]
theorem bin_quo (P : Program) (hp : List Ob) (t : TypeId) (x y : Operand) (k : IntKind) (a b : Int) (hb : b ≠ 0) : bin2 P hp .quo t x y (.lf (.int k a)) (.lf (.int k b)) = some (.lf (.int k (k.wrap (a.tdiv b))), hp, 0, 0) := by
  simp [bin2, lfo, out1, eqGuard, binOp, Op.intDiv, hb, prS_bind, prS_pure, tvOf, tvO]
theorem un_not (P : Program) (hp : List Ob) (b : Bool) : un1 P hp .not (.lf (.bool b)) = some (.lf (.bool (!b)), hp, 0, 0) := rfl
theorem un_neg (P : Program) (hp : List Ob) (k : IntKind) (a : Int) : un1 P hp .neg (.lf (.int k a)) = some (.lf (.int k (k.wrap (0 - a))), hp, 0, 0) := rfl
theorem wrap_ok (a : Int) (h : -9223372036854775808 ≤ a ∧ a ≤ 9223372036854775807) : IntKind.i64.wrap a = a := by
  have e : IntKind.i64.wrap a = if a % 18446744073709551616 ≥ 9223372036854775808 then a % 18446744073709551616 - 18446744073709551616 else a % 18446744073709551616 := by
    unfold IntKind.wrap
    simp [IntKind.signed, IntKind.bits]
  rw [e]
  split <;> omega
theorem toL (a : ByteArray) : a.toList = a.data.toList := by
  have : ∀ (n i : Nat) (r : List UInt8), a.size - i = n → ByteArray.toList.loop a i r = r.reverse ++ a.data.toList.drop i := by
    intro n
    induction n with
    | zero =>
      intro i r h
      have h1 : ¬ i < a.size := by omega
      rw [ByteArray.toList.loop, if_neg h1, List.drop_eq_nil_of_le (by show a.data.size ≤ i; exact Nat.le_of_not_lt h1), List.append_nil]
    | succ n ih =>
      intro i r h
      have h1 : i < a.size := by omega
      rw [ByteArray.toList.loop, if_pos h1, ih (i + 1) _ (by omega)]
      have h2 : i < a.data.toList.length := h1
      rw [List.drop_eq_getElem_cons h2, List.reverse_cons, List.append_assoc]
      congr 2
      have : a.get! i = a.data[i]! := rfl
      rw [this, getElem!_pos a.data i h1]
      rfl
  have h := this a.size 0 [] (by omega)
  rw [List.reverse_nil, List.nil_append, List.drop_zero] at h
  exact h
theorem str_eq (a b : ByteArray) : (a.toList == b.toList) = decide (a = b) := by
  rw [toL, toL]
  by_cases h : a = b
  · subst h; simp
  · rw [decide_eq_false h]
    refine beq_eq_false_iff_ne.2 fun e => h ?_
    obtain ⟨⟨l⟩⟩ := a
    obtain ⟨⟨k⟩⟩ := b
    have : l = k := e
    rw [this]
theorem bin_eqs (P : Program) (hp : List Ob) (t : TypeId) (x y : Operand) (a b : ByteArray) : bin2 P hp .eql t x y (.lf (.string a)) (.lf (.string b)) = some (.lf (.bool (decide (a = b))), hp, 0, 0) := by
  rw [← str_eq]
  rfl
theorem bin_nes (P : Program) (hp : List Ob) (t : TypeId) (x y : Operand) (a b : ByteArray) : bin2 P hp .neq t x y (.lf (.string a)) (.lf (.string b)) = some (.lf (.bool (!decide (a = b))), hp, 0, 0) := by
  rw [← str_eq]
  rfl
theorem bin_adds (P : Program) (hp : List Ob) (t : TypeId) (x y : Operand) (a b : ByteArray) (h : a.size + b.size ≤ 1152921504606846976) : bin2 P hp .add t x y (.lf (.string a)) (.lf (.string b)) = some (.lf (.string (a ++ b)), hp, 0, 0) := by
  have h1 : ¬ ((9223372036854775807 : Int) < (a.size : Int) + (b.size : Int)) := by omega
  simp [bin2, lfo, out1, eqGuard, binOp, Op.stringOp, prS_bind, prS_pure, IntKind.max, IntKind.signed, IntKind.bits]
  rw [if_neg h1]
  rfl
theorem nat0 (j : Nat) : (0 ≤ (j : Int)) = True := eq_true (Int.natCast_nonneg j)
end Go.Eng
end
