import Derived.Test.YtecfhhnmokdkiaaRow
import Derived.Test.YtecfhhnmokdkiaaV
import Derived.SliceStrings
import Derived.ChangeMaps5
set_option linter.unusedVariables false
namespace Go.Proofs.Ytecfhhnmokdkiaa
open Go.ChangeShapes Go.WideShapes Go.ChangeAt Go.RowKit Go.Deep

theorem Try.cellsI : Try.prog.cellsOf 3 = 1 := by kernel_rfl
theorem Try.cellsS : Try.prog.cellsOf 9 = 1 := by kernel_rfl

section
variable {H : Type} {enc : TypeId × Value → H} {w : World} {sp : Nat → Bool} {d : DataW H} {p : List MemPlace} {A : Option Addr} {len cap : Nat}
/-- A '[]int' is opened: its cells, and its datum, as much as its size wants. -/
theorem open_is (hd : DataW.Trod enc Try.prog w 0 sp true 22 (.slice A len cap) d p) :
    ∃ zs : List Int, len = zs.length ∧ Rd w w.heap.size A (is zs) ∧ (∀ x ∈ zs, InR x) ∧ len ≤ cap ∧ cap ≤ maxLen ∧ ((len = 0 ∧ d = .nil) ∨ ∃ es rs, d = .slice es rs ∧ es.length = len) := by
  obtain ⟨fuel, hf⟩ := hd
  rcases open_ints Try.underlying22 Try.underlying3 Try.cellsI hf with ⟨hcs, hx⟩ | ⟨a, l, c, zs, hcs, _, hl, hm, hz, hx, hcell, hwz⟩
  · simp [Value.cells] at hcs
    obtain ⟨rfl, rfl, rfl⟩ := hcs
    exact ⟨[], rfl, Rd.nil _ _ _, by simp, Nat.le_refl _, by simp [maxLen], .inl ⟨rfl, by cases hx; rfl⟩⟩
  · simp [Value.cells] at hcs
    obtain ⟨rfl, rfl, rfl⟩ := hcs
    have hzl : len ≤ zs.length := by rw [hz]; split <;> omega
    refine ⟨zs.take len, by simp; omega, rd_of_cells ?_, ?_, hl, hm, .inr ⟨lits .i64 (zs.take len), lits .i64 (zs.drop len), by cases hx; rfl, by simp [lits]; omega⟩⟩
    · intro j u hu
      have hj : j < len := by have := (List.getElem?_eq_some_iff.1 hu).1; simp [is] at this; omega
      rw [hcell j (by omega)]
      simp only [is, List.getElem?_map, List.getElem?_take, hj, if_true, List.getElem?_eq_getElem (show j < zs.length by omega), Option.map_some, Option.some.injEq] at hu
      rw [← hu]
      simp [List.getD, List.getElem?_eq_getElem (show j < zs.length by omega)]
    · intro x hx
      have := bounds_i64 (hwz x (List.mem_of_mem_take hx))
      exact ⟨by omega, by omega⟩
/-- A '[]string' is opened. -/
theorem open_ss (hd : DataW.Trod enc Try.prog w 0 sp true 23 (.slice A len cap) d p) :
    ∃ zs : List ByteArray, len = zs.length ∧ Rd w w.heap.size A (ss zs) ∧ (∀ x ∈ zs, x.size ≤ maxLen) ∧ len ≤ cap ∧ cap ≤ maxLen ∧ ((len = 0 ∧ d = .nil) ∨ ∃ rs, d = .slice (strs zs) rs) := by
  obtain ⟨fuel, hf⟩ := hd
  rcases open_strings Try.underlying23 Try.underlying9 Try.cellsS hf with ⟨hcs, hx⟩ | ⟨a, l, c, zs, hcs, _, hl, hm, hz, hx, hcell, hwz⟩
  · simp [Value.cells] at hcs
    obtain ⟨rfl, rfl, rfl⟩ := hcs
    exact ⟨[], rfl, Rd.nil _ _ _, by simp, Nat.le_refl _, by simp [maxLen], .inl ⟨rfl, by cases hx; rfl⟩⟩
  · simp [Value.cells] at hcs
    obtain ⟨rfl, rfl, rfl⟩ := hcs
    have hzl : len ≤ zs.length := by rw [hz]; split <;> omega
    refine ⟨zs.take len, by simp; omega, rd_of_cells ?_, fun x hx => hwz x (List.mem_of_mem_take hx), hl, hm, .inr ⟨strs (zs.drop len), by cases hx; rfl⟩⟩
    intro j u hu
    have hj : j < len := by have := (List.getElem?_eq_some_iff.1 hu).1; simp [ss] at this; omega
    rw [hcell j (by omega)]
    simp only [ss, List.getElem?_map, List.getElem?_take, hj, if_true, List.getElem?_eq_getElem (show j < zs.length by omega), Option.map_some, Option.some.injEq] at hu
    rw [← hu]
    simp [List.getD, List.getElem?_eq_getElem (show j < zs.length by omega)]
theorem Try.bytesI : Try.prog.bytesOf 3 = 8 := by kernel_rfl
end
end Go.Proofs.Ytecfhhnmokdkiaa
