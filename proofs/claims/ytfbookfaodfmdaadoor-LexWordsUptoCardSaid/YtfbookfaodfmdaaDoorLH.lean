import Derived.Test.YtfbookfaodfmdaaDoorLG7
import Derived.Test.YtfbookfaodfmdaaDoorLG6
import Derived.Test.YtfbookfaodfmdaaDoorLB2
set_option linter.unusedVariables false
set_option linter.unusedSimpArgs false
namespace Go.Proofs.YtfbookfaodfmdaaDoor
open Go.RowKit

/-- A statement's call: it returns true, and what was there before stays. -/
def SRes (w : World) (e : Ending) (w' : World) : Prop := e = .returned (.bool true) ∧ Below w.heap.size w w'
theorem sc_ok {L : List Nat} {T : List (List Nat × List Nat)} {e : List Nat} (h : L.length ≤ 8192) (h2 : S [] L = .ok T e) : SC L = (T, e, -1) := by
  unfold SC; rw [if_neg (by omega), h2]
theorem sc_bad {L : List Nat} {m : Nat} (h : L.length ≤ 8192) (h2 : S [] L = .bad m) : SC L = ([], [], (m : Int)) := by
  unfold SC; rw [if_neg (by omega), h2]
theorem sc_long {L : List Nat} (h : 8192 < L.length) : SC L = ([], [], 8192) := by
  unfold SC; rw [if_pos h]
/-- What a text's reading comes to. -/
theorem sc_cases (L : List Nat) : (8192 < L.length ∧ SC L = ([], [], 8192)) ∨ (L.length ≤ 8192 ∧ ∃ T e, S [] L = .ok T e ∧ SC L = (T, e, -1)) ∨
    (L.length ≤ 8192 ∧ ∃ m : Nat, S [] L = .bad m ∧ SC L = ([], [], (m : Int)) ∧ m < L.length ∧ (SC (L.take m)).2.2 = -1 ∧ (SC (L.drop m)).2.2 = 0) := by
  by_cases h : 8192 < L.length
  · exact .inl ⟨h, sc_long h⟩
  · have h' : L.length ≤ 8192 := by omega
    cases hr : S [] L with
    | ok T e => exact .inr (.inl ⟨h', T, e, rfl, sc_ok h' hr⟩)
    | bad m =>
      obtain ⟨⟨T, e, h1⟩, h2, h3⟩ := S_err _ L m (Nat.le_refl _) hr
      refine .inr (.inr ⟨h', m, rfl, sc_bad h' hr, h3, ?_, ?_⟩)
      · rw [sc_ok (by rw [List.length_take]; omega) h1]
      · rw [sc_bad (by rw [List.length_drop]; omega) h2]; rfl
/-- Scan, its number alone. -/
theorem Scan_num {s : ByteArray} {n : Int} (h2 : s.size ≤ 281474976710656) (h : (SC (sb s)).2.2 = n) (w : World) (hk : Kx w) :
    Calls Tryd.prog 11 #[.string s] w fun e w' => ∃ v E, e = .returned (.tuple #[v, .string E, .int .i64 n]) ∧ Below w.heap.size w w' := by
  subst h
  exact (Scan_any s h2 w hk).mono fun e w' ⟨v, h1, h2, h3⟩ => ⟨v, _, h1, h3⟩
theorem CB_spaces (n : Nat) : CB (List.replicate n 32) := by
  induction n with
  | zero => exact .nil
  | succ n ih => rw [List.replicate_succ]; exact .sp 32 _ (by decide) ih
/-- z bytes of which the first j are spaces. -/
def spj (z j : Nat) : List Nat := List.replicate j 32 ++ List.replicate (z - j) 0
theorem spj_len (z j : Nat) (h : j ≤ z) : (spj z j).length = z := by unfold spj; simp; omega
theorem spj_zero (z : Nat) : spj z 0 = List.replicate z 0 := by simp [spj]
theorem spj_end (z : Nat) : spj z z = List.replicate z 32 := by simp [spj]
theorem spj_set (z j : Nat) (h : j < z) : (bs (spj z j)).set j (.int .u8 32) = bs (spj z (j + 1)) := by
  have e : (spj z j).set j 32 = spj z (j + 1) := by
    unfold spj
    have e2 : z - j = (z - (j + 1)) + 1 := by omega
    rw [e2, List.replicate_succ, List.set_append_right _ _ (by simp), List.length_replicate, Nat.sub_self, List.set_cons_zero, List.replicate_succ']
    simp
  rw [← e]
  simp [bs, List.map_set]
  rfl
end Go.Proofs.YtfbookfaodfmdaaDoor
