import Derived.Test.YtoopilemlgamkaaDoorRow
import Derived.Test.YtoopilemlgamkaaDoorBase
import Derived.SliceStrings
import Derived.ChangeMaps5
set_option linter.unusedVariables false
namespace Go.Proofs.YtoopilemlgamkaaDoor
open Go.ChangeShapes Go.WideShapes Go.RowKit

theorem Tryd.cellsS : Tryd.prog.cellsOf 9 = 1 := by kernel_rfl
section
variable {H : Type} {enc : TypeId × Value → H} {w : World} {sp : Nat → Bool} {d : DataW H} {p : List MemPlace} {A : Option Addr} {len cap : Nat}
/-- A '[]string' is opened. -/
theorem open_ss (hd : DataW.Trod enc Tryd.prog w 0 sp true 27 (.slice A len cap) d p) :
    ∃ zs : List ByteArray, len = zs.length ∧ Rd w w.heap.size A (ss zs) ∧ (∀ x ∈ zs, x.size ≤ maxLen) ∧ len ≤ cap ∧ cap ≤ maxLen ∧ ((len = 0 ∧ d = .nil) ∨ ∃ rs, d = .slice (strs zs) rs) := by
  obtain ⟨fuel, hf⟩ := hd
  rcases open_strings Tryd.underlying27 Tryd.underlying9 Tryd.cellsS hf with ⟨hcs, hx⟩ | ⟨a, l, c, zs, hcs, _, hl, hm, hz, hx, hcell, hwz⟩
  · simp [Value.cells] at hcs
    obtain ⟨rfl, rfl, rfl⟩ := hcs
    exact ⟨[], rfl, Rd.nil _ _ _, by simp, Nat.le_refl _, by simp [maxLen], .inl ⟨rfl, by cases hx; rfl⟩⟩
  · simp [Value.cells] at hcs
    obtain ⟨rfl, rfl, rfl⟩ := hcs
    have hzl : len ≤ zs.length := by rw [hz]; split <;> omega
    refine ⟨zs.take len, by simp; omega, rd_of_cells ?_, fun x hx => hwz x (List.mem_of_mem_take hx), hl, hm, .inr ⟨strs (zs.drop len), by cases hx; rfl⟩⟩
    intro j u hu
    have hj : j < len := by have := (List.getElem?_eq_some_iff.1 hu).1; simp [ss] at this; omega
    rw [hcell j (by omega)]
    simp only [ss, List.getElem?_map, List.getElem?_take, hj, if_true, List.getElem?_eq_getElem (show j < zs.length by omega), Option.map_some, Option.some.injEq] at hu
    rw [← hu]
    simp [List.getD, List.getElem?_eq_getElem (show j < zs.length by omega)]
end
end Go.Proofs.YtoopilemlgamkaaDoor
