import Derived.Test.YtjbleefpafnhhaaDoorY36
import Derived.Test.YtjbleefpafnhhaaDoorY42

set_option linter.unusedVariables false
namespace Go.Proofs.YtjbleefpafnhhaaDoor
open Go.ChangeShapes Go.WideShapes Go.ChangeAt Go.RowKit Go.Deep
theorem glob_rounds : Tryd.prog.globalNamed "splicery/hash.rounds" = some 2 := by kernel_rfl
theorem type_rounds : (Tryd.prog.globals[(2 : Nat)]?).map (·.type) = some 140 := by kernel_rfl
theorem cells_64 : Tryd.prog.cellsOf 140 = 64 := by kernel_rfl
theorem cells_u32 : Tryd.prog.cellsOf 116 = 1 := by kernel_rfl
theorem laid_rounds_eq {H : Type} : (Rows.laid_splicery_hash_rounds : DataW H) = .agg (kc.map fun (x : Nat) => .lit (.int .u32 (x : Int))) := rfl
abbrev LAIDB : List (String × DataW Unit) := [("splicery/hash.rounds", Rows.laid_splicery_hash_rounds), ("splicery/value.plainKinds", Rows.laid_splicery_value_plainKinds), ("splicery/value.dataKinds", Rows.laid_splicery_value_dataKinds)]
set_option maxRecDepth 100000 in
theorem K_of_laidB {W : World} (h : laidMet Tryd.prog LAIDB W) : Kv W ∧ Kc W := by
  obtain ⟨ps, ⟨g3, t3, cs3, fuel3, p3, q3, hg3, ht3, hvar3, hd3, ⟨g, t, cs, fuel, p, q, hg, ht, hvar, hd, ⟨g2, t2, cs2, fuel2, p2, q2, hg2, ht2, hvar2, hd2, _, _⟩, _⟩, _⟩, _⟩ := h
  obtain rfl := Option.some.inj (glob_pk.symm.trans hg)
  obtain rfl := Option.some.inj (type_pk.symm.trans ht)
  obtain rfl := Option.some.inj (glob_dk.symm.trans hg2)
  obtain rfl := Option.some.inj (type_dk.symm.trans ht2)
  obtain rfl := Option.some.inj (glob_rounds.symm.trans hg3)
  obtain rfl := Option.some.inj (type_rounds.symm.trans ht3)
  rw [laid_pk_eq] at hd
  rw [laid_dk_eq] at hd2
  rw [laid_rounds_eq] at hd3
  have hall := ints_of_trod Tryd.underlying110 Tryd.underlying3 cells_a3 Tryd.cellsI rfl hd
  have hall2 := ints_of_trod Tryd.underlying130 Tryd.underlying3 cells_a2 Tryd.cellsI rfl hd2
  have hall3 := ints_of_trod Tryd.underlying140 Tryd.underlying116 cells_64 cells_u32 kc_len hd3
  have hcell : ∀ (j x : Nat), ([0, 1, 4] : List Nat)[j]? = some x → W.cell? ⟨0, j, none⟩ = some (.int .i64 (x : Int)) := fun j x hx => by
    have h1 := World.var?_cell glob_pk hvar j
    rw [h1]
    have h2 := hall j x hx
    simpa using h2
  have hcell2 : ∀ (j x : Nat), ([2, 3] : List Nat)[j]? = some x → W.cell? ⟨1, j, none⟩ = some (.int .i64 (x : Int)) := fun j x hx => by
    have h1 := World.var?_cell glob_dk hvar2 j
    rw [h1]
    have h2 := hall2 j x hx
    simpa using h2
  have hcell3 : ∀ (j x : Nat), kc[j]? = some x → W.cell? ⟨2, j, none⟩ = some (.int .u32 (x : Int)) := fun j x hx => by
    have h1 := World.var?_cell glob_rounds hvar3 j
    rw [h1]
    have h2 := hall3 j x hx
    simpa using h2
  have h1 := World.block_lt_of_cell? W _ (hcell 0 0 rfl)
  have h2 := World.block_lt_of_cell? W _ (hcell2 0 2 rfl)
  have h3 := World.block_lt_of_cell? W _ (hcell3 0 1116352408 rfl)
  simp at h1 h2 h3
  exact ⟨⟨by omega, hcell 0 0 rfl, hcell 1 1 rfl, hcell 2 4 rfl, hcell2 0 2 rfl, hcell2 1 3 rfl⟩, ⟨by omega, hcell3⟩⟩
end Go.Proofs.YtjbleefpafnhhaaDoor

