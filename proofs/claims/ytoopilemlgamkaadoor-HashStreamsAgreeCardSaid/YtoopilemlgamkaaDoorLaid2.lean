import Derived.Test.YtoopilemlgamkaaDoorLaid
set_option linter.unusedVariables false
namespace Go.Proofs.YtoopilemlgamkaaDoor
open Go.ChangeShapes Go.WideShapes Go.RowKit

theorem glob_consts : Tryd.prog.globalNamed "splicery/spliceryref02.constants" = some 0 := by kernel_rfl
theorem type_consts : (Tryd.prog.globals[(0 : Nat)]?).map (·.type) = some 67 := by kernel_rfl
theorem laid_consts_eq {H : Type} : (Rows.laid_splicery_spliceryref02_constants : DataW H) = .agg (kc.map fun (x : Nat) => .lit (.int .u32 (x : Int))) := rfl
/-- Both tables. -/
theorem Kcr_of_laid {W : World} (h : laidMet Tryd.prog [("splicery/spliceryref02.constants", Rows.laid_splicery_spliceryref02_constants), ("splicery/hash.rounds", Rows.laid_splicery_hash_rounds)] W) : Kc W ∧ Kr W := by
  obtain ⟨ps, ⟨g, t, cs, fuel, p, q, hg, ht, hvar, hd, ⟨g2, t2, cs2, fuel2, p2, q2, hg2, ht2, hvar2, hd2, _, _⟩, _⟩, _⟩ := h
  obtain rfl := Option.some.inj (glob_consts.symm.trans hg)
  obtain rfl := Option.some.inj (type_consts.symm.trans ht)
  obtain rfl := Option.some.inj (glob_rounds.symm.trans hg2)
  obtain rfl := Option.some.inj (type_rounds.symm.trans ht2)
  rw [laid_consts_eq] at hd
  rw [laid_rounds_eq] at hd2
  have hall := ints_of_trod Tryd.underlying67 Tryd.underlying29 cells_64 cells_u32 kc_len hd
  have hall2 := ints_of_trod Tryd.underlying67 Tryd.underlying29 cells_64 cells_u32 kc_len hd2
  have hcell : ∀ (j x : Nat), kc[j]? = some x → W.cell? ⟨0, j, none⟩ = some (.int .u32 (x : Int)) := fun j x hx => by
    have h1 := World.var?_cell glob_consts hvar j
    rw [h1]
    have h2 := hall j x hx
    simpa using h2
  have hcell2 : ∀ (j x : Nat), kc[j]? = some x → W.cell? ⟨1, j, none⟩ = some (.int .u32 (x : Int)) := fun j x hx => by
    have h1 := World.var?_cell glob_rounds hvar2 j
    rw [h1]
    have h2 := hall2 j x hx
    simpa using h2
  have h2 : 2 ≤ W.heap.size := by
    have h0 := World.block_lt_of_cell? W _ (hcell2 0 1116352408 rfl)
    simp at h0
    omega
  exact ⟨⟨h2, hcell2⟩, ⟨h2, hcell⟩⟩
end Go.Proofs.YtoopilemlgamkaaDoor
