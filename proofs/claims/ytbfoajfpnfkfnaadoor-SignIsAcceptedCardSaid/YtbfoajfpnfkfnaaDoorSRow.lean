import Derived.Test.YtbfoajfpnfkfnaaDoorRow
import Derived.OpenShut
import Derived.WideKeyArr2
set_option linter.unusedVariables false
set_option linter.constructorNameAsVariable false
namespace Go.Proofs.YtbfoajfpnfkfnaaDoor
open Go.ChangeShapes Go.WideShapes Go.RowKit

theorem arrDig : Go.WideMaps.ArrKey Tryd.prog 44 5 16 := ⟨Tryd.underlying44, by kernel_rfl, by kernel_rfl, by kernel_rfl⟩
def unU8 : Value → Nat
  | .int _ n => n.toNat
  | _ => 0
section
variable {H : Type} {enc : TypeId × Value → H} {W : World} {base : Nat} {sp : Nat → Bool} {held : Bool} {d : DataW H} {p : List MemPlace} {v : Value}
set_option maxRecDepth 100000 in
/-- A digest is opened. -/
theorem open_dig {r : Reach} {bb : Nat} (hval : Value.okWide Tryd.prog W r bb 44 v) (hd : DataW.Trod enc Tryd.prog W base sp held 44 v d p) :
    ∃ z : List Nat, v = .agg (bs z).toArray ∧ z.length = 16 ∧ ∀ x ∈ z, x < 256 := by
  obtain ⟨xs, rfl, hn⟩ := Go.WideMaps.okWide_arr arrDig hval
  obtain ⟨fuel, hf⟩ := hd
  obtain ⟨ys, m, rfl, _, _, hy, he⟩ := DataW.trod_array Tryd.underlying44 hf
  have hall : ∀ j, j < 16 → ∃ c : Nat, xs.toList[j]? = some (.int .u8 (c : Int)) ∧ c < 256 := by
    intro j hj
    have ej := he j hj
    rw [Tryd.cellsB, Nat.mul_one] at ej
    obtain ⟨y, hyj⟩ : ∃ y, ys[j]? = some y := ⟨_, List.getElem?_eq_getElem (by omega)⟩
    have hxl : j < xs.toList.length := by simp only [Array.length_toList]; omega
    have hc : (Value.cells (.agg xs)).toList = xs.toList := rfl
    rw [hc, List.drop_eq_getElem_cons hxl, List.take_succ_cons, List.take_zero, hyj] at ej
    obtain ⟨n, hnn, _, wn⟩ := DataW.trod_int Tryd.underlying5 ej
    have b0 := bounds_u8 wn
    refine ⟨n.toNat, ?_, by omega⟩
    rw [List.getElem?_eq_getElem hxl, (List.cons.inj hnn).1, show ((n.toNat : Nat) : Int) = n by omega]
  refine ⟨xs.toList.map unU8, ?_, by simpa using hn, ?_⟩
  · congr 1
    apply Array.toList_inj.1
    apply List.ext_getElem?
    intro j
    by_cases hj : j < 16
    · obtain ⟨c, hc, _⟩ := hall j hj
      show _ = (bs (xs.toList.map unU8))[j]?
      unfold bs
      rw [List.map_map, List.getElem?_map, hc]
      rfl
    · rw [List.getElem?_eq_none (by simp only [Array.length_toList]; omega), List.getElem?_eq_none (by simp [bs]; omega)]
  · intro x hx
    obtain ⟨u, hu, rfl⟩ := List.mem_map.1 hx
    obtain ⟨j, hj, rfl⟩ := List.mem_iff_getElem.1 hu
    obtain ⟨c, hc, hlt⟩ := hall j (by simp only [Array.length_toList] at hj; omega)
    rw [List.getElem?_eq_getElem hj] at hc
    rw [Option.some.inj hc]
    show ((c : Int)).toNat < 256
    omega
end
end Go.Proofs.YtbfoajfpnfkfnaaDoor
