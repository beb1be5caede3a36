import Derived.Test.YtoopilemlgamkaaDoorHRow
import Derived.OpenShut
import Derived.WideKeyArr2
set_option linter.unusedVariables false
set_option linter.constructorNameAsVariable false
namespace Go.Proofs.YtoopilemlgamkaaDoor
open Go.ChangeShapes Go.WideShapes Go.RowKit

theorem arrTwo : Go.WideMaps.ArrKey Tryd.prog 48 5 2 := ⟨Tryd.underlying48, by kernel_rfl, by kernel_rfl, by kernel_rfl⟩
section
variable {H : Type} {enc : TypeId × Value → H} {W : World} {base : Nat} {sp : Nat → Bool} {held : Bool} {d : DataW H} {p : List MemPlace} {v : Value}
set_option maxRecDepth 100000 in
/-- Two bytes are opened. -/
theorem open_two {r : Reach} {bb : Nat} (hval : Value.okWide Tryd.prog W r bb 48 v) (hd : DataW.Trod enc Tryd.prog W base sp held 48 v d p) :
    ∃ c0 c1 : Nat, v = .agg #[.int .u8 (c0 : Int), .int .u8 (c1 : Int)] ∧ c0 < 256 ∧ c1 < 256 := by
  obtain ⟨xs, rfl, hn⟩ := Go.WideMaps.okWide_arr arrTwo hval
  obtain ⟨fuel, hf⟩ := hd
  obtain ⟨ys, m, rfl, _, _, hy, he⟩ := DataW.trod_array Tryd.underlying48 hf
  have e0 := he 0 (by decide)
  have e1 := he 1 (by decide)
  rw [Tryd.cellsB] at e0 e1
  obtain ⟨x0, x1, rfl⟩ : ∃ x0 x1, xs = #[x0, x1] := by
    rcases xs with ⟨l⟩
    rcases l with _ | ⟨x0, _ | ⟨x1, _ | ⟨x2, l⟩⟩⟩
    · simp at hn
    · simp at hn
    · exact ⟨x0, x1, rfl⟩
    · simp at hn
  obtain ⟨y0, y1, rfl⟩ : ∃ y0 y1, ys = [y0, y1] := by
    rcases ys with _ | ⟨y0, _ | ⟨y1, _ | ⟨y2, l⟩⟩⟩
    · simp at hy
    · simp at hy
    · exact ⟨y0, y1, rfl⟩
    · simp at hy
  simp only [Value.cells, Nat.zero_mul, Nat.one_mul, List.drop_zero, List.take_succ_cons, List.take_zero, List.drop_succ_cons, List.getElem?_cons_zero, List.getElem?_cons_succ] at e0 e1
  obtain ⟨n0, h0, _, w0⟩ := DataW.trod_int Tryd.underlying5 e0
  obtain ⟨n1, h1, _, w1⟩ := DataW.trod_int Tryd.underlying5 e1
  obtain rfl := (List.cons.inj h0).1
  obtain rfl := (List.cons.inj h1).1
  have b0 := bounds_u8 w0
  have b1 := bounds_u8 w1
  obtain ⟨c0, rfl⟩ := Int.eq_ofNat_of_zero_le b0.1
  obtain ⟨c1, rfl⟩ := Int.eq_ofNat_of_zero_le b1.1
  exact ⟨c0, c1, rfl, by omega, by omega⟩
end
end Go.Proofs.YtoopilemlgamkaaDoor
