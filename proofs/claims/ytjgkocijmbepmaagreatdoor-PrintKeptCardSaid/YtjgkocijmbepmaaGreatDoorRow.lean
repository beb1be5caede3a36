import Derived.Test.YtjgkocijmbepmaaGreatDoorWords
import Derived.ProofKit
import Derived.OpenShut
import Derived.ShutString
import Derived.ChangeOld
import Derived.SizedLaws
import Derived.Deep.Slices
set_option linter.unusedVariables false
namespace Go.Proofs.YtjgkocijmbepmaaGreatDoor
open Go.ChangeShapes Go.WideShapes Go.ChangeAt Go.RowKit Go.Deep

theorem Tryz.own : ownKnob Tryz.prog.godebug = none := by kernel_rfl
theorem Tryz.laidOut : laidOutB Tryz.prog = true := by kernel_rfl
theorem Tryz.cellsB : Tryz.prog.cellsOf 5 = 1 := by kernel_rfl

theorem rd_of_cells {w : World} {a : Addr} {xs : List Value} (h : ∀ j u, xs[j]? = some u → w.cell? (a.add j) = some u) : Rd w w.heap.size (some a) xs := by
  cases xs with
  | nil => exact Rd.nil _ _ _
  | cons x xs =>
    have h0 : w.cell? a = some x := by have := h 0 x rfl; simpa [Addr.add] using this
    have hlt := World.block_lt_of_cell? w _ h0
    obtain ⟨b, o, s⟩ := a
    have hs := World.cell?_spot h0
    simp at hs
    subst hs
    exact .inr ⟨b, o, rfl, hlt, fun j u hu => by
      have h2 := h j u hu
      have ha : (⟨b, o, none⟩ : Addr).add j = ⟨b, o + j, none⟩ := by unfold Addr.add; split <;> simp_all
      rwa [ha] at h2⟩

section
variable {H : Type} {enc : TypeId × Value → H} {w : World} {sp : Nat → Bool} {d : DataW H} {p : List MemPlace} {A : Option Addr} {len cap : Nat}
theorem open_bytes (hd : DataW.Trod enc Tryz.prog w 0 sp true 73 (.slice A len cap) d p) :
    ∃ zs : List Nat, len = zs.length ∧ Rd w w.heap.size A (bs zs) ∧ (∀ x ∈ zs, x < 256) ∧ len ≤ cap ∧ cap ≤ maxLen := by
  obtain ⟨fuel, hf⟩ := hd
  rcases open_ints Tryz.underlying73 Tryz.underlying5 Tryz.cellsB hf with ⟨hcs, _⟩ | ⟨a, l, c, zs, hcs, _, hl, hm, hz, _, hcell, hwz⟩
  · simp [Value.cells] at hcs
    obtain ⟨rfl, rfl, rfl⟩ := hcs
    exact ⟨[], rfl, Rd.nil _ _ _, by simp, Nat.le_refl _, by simp [maxLen]⟩
  · simp [Value.cells] at hcs
    obtain ⟨rfl, rfl, rfl⟩ := hcs
    have hzl : len ≤ zs.length := by rw [hz]; split <;> omega
    have hb : ∀ z ∈ zs, 0 ≤ z ∧ z ≤ 255 := fun z hz => bounds_u8 (hwz z hz)
    refine ⟨(zs.take len).map Int.toNat, by simp; omega, rd_of_cells ?_, ?_, hl, hm⟩
    · intro j u hu
      have hj : j < len := by have := (List.getElem?_eq_some_iff.1 hu).1; simp [bs] at this; omega
      rw [hcell j (by omega)]
      simp only [bs, U8, List.getElem?_map, List.getElem?_take, hj, if_true, List.getElem?_eq_getElem (show j < zs.length by omega), Option.map_some, Option.some.injEq] at hu
      rw [← hu]
      have := hb zs[j] (List.getElem_mem _)
      simp [List.getD, List.getElem?_eq_getElem (show j < zs.length by omega)]
      omega
    · intro x hx
      simp only [List.mem_map] at hx
      obtain ⟨z, hz, rfl⟩ := hx
      have := hb z (List.mem_of_mem_take hz)
      omega
end
end Go.Proofs.YtjgkocijmbepmaaGreatDoor
