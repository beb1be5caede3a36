import Derived.Test.YtecfhhnmokdkiaaRow2
set_option linter.unusedVariables false
namespace Go.Proofs.Ytecfhhnmokdkiaa
open Go.ChangeShapes Go.WideShapes Go.ChangeAt Go.RowKit Go.Deep

theorem Try.cellsD : Try.prog.cellsOf 51 = 16 := by kernel_rfl
def numOf : Value → Nat
  | .int _ n => n.toNat
  | _ => 0
section
variable {H : Type} {enc : TypeId × Value → H} {w : World} {sp : Nat → Bool} {base : Nat} {d : DataW H} {p : List MemPlace} {A : Option Addr} {len cap : Nat}
theorem digest_cells {fuel : Nat} {cs : List Value} {x : DataW H × List MemPlace} (h : DataW.trod enc Try.prog w base sp true fuel 51 cs = some x) :
    (cs.map numOf).length = 16 ∧ (∀ b ∈ cs.map numOf, b < 256) ∧ ∀ k, k < 16 → cs[k]? = some (.int .u8 (((cs.map numOf)[k]?.getD 0 : Nat) : Int)) := by
  obtain ⟨xs, m, _, _, hl, hx, he⟩ := DataW.trod_array Try.underlying51 h
  rw [Try.cellsD] at hl
  have each : ∀ k, k < 16 → ∃ n : Int, cs[k]? = some (.int .u8 n) ∧ 0 ≤ n ∧ n ≤ 255 := by
    intro k hk
    have h1 := he k hk
    rw [Try.cellsB, Nat.mul_one, List.getElem?_eq_getElem (by omega)] at h1
    obtain ⟨n, h2, _, h4⟩ := DataW.trod_int Try.underlying5 h1
    refine ⟨n, ?_, bounds_u8 h4⟩
    have h3 : ((cs.drop k).take 1)[0]? = some (.int .u8 n) := by rw [h2]; rfl
    simpa using h3
  refine ⟨by rw [List.length_map]; exact hl, ?_, ?_⟩
  · intro b hb
    rw [List.mem_map] at hb
    obtain ⟨v, hv, rfl⟩ := hb
    obtain ⟨k, hk⟩ := List.getElem?_of_mem hv
    have hk16 : k < 16 := by have := (List.getElem?_eq_some_iff.1 hk).1; omega
    obtain ⟨n, h1, h2, h3⟩ := each k hk16
    rw [hk] at h1
    cases h1
    simp only [numOf]; omega
  · intro k hk
    obtain ⟨n, h1, h2, h3⟩ := each k hk
    rw [h1, List.getElem?_map, h1]
    simp only [Option.map_some, Option.getD_some, numOf, Option.some.injEq, Value.int.injEq, true_and]
    omega
theorem open_ds (hd : DataW.Trod enc Try.prog w 0 sp true 24 (.slice A len cap) d p) :
    ∃ zs : List (List Nat), len = zs.length ∧ Rd w w.heap.size A (ds zs) ∧ (∀ x ∈ zs, x.length = 16 ∧ ∀ b ∈ x, b < 256) ∧ len ≤ cap ∧ cap ≤ maxLen ∧ ((len = 0 ∧ d = .nil) ∨ ∃ es rs, d = .slice es rs ∧ es.length = len) := by
  obtain ⟨fuel, hf⟩ := hd
  rcases open_slice Try.underlying24 hf with ⟨hcs, hx⟩ | ⟨a, l, c, m, n, D, Pl, hcs, _, hl, hm, hmm, hx, hel⟩
  · simp [Value.cells] at hcs
    obtain ⟨rfl, rfl, rfl⟩ := hcs
    exact ⟨[], rfl, Rd.nil _ _ _, by simp, Nat.le_refl _, by simp [maxLen], .inl ⟨rfl, by cases hx; rfl⟩⟩
  · simp [Value.cells] at hcs
    obtain ⟨rfl, rfl, rfl⟩ := hcs
    have hlm : len ≤ m := by rw [hmm]; split <;> omega
    have each : ∀ i, i < len → ∃ z : List Nat, z.length = 16 ∧ (∀ b ∈ z, b < 256) ∧ ∀ k, k < 16 → w.cell? (a.add (i * 16 + k)) = some (.int .u8 ((z[k]?.getD 0 : Nat) : Int)) := by
      intro i hi
      obtain ⟨cs', h1, h2⟩ := hel i (by omega)
      rw [Try.cellsD] at h1
      obtain ⟨_, h3, h4⟩ := World.cells?_some h1
      obtain ⟨h5, h6, h7⟩ := digest_cells h2
      refine ⟨_, h5, h6, fun k hk => ?_⟩
      rw [← h7 k hk, ← h4 k hk, Addr.add_add]
    obtain ⟨f, hf⟩ := choose_lt (α := List Nat) (p := fun i z => z.length = 16 ∧ (∀ b ∈ z, b < 256) ∧ ∀ k, k < 16 → w.cell? (a.add (i * 16 + k)) = some (.int .u8 ((z[k]?.getD 0 : Nat) : Int))) each
    have hz : ∀ x ∈ (List.range len).map f, x.length = 16 ∧ ∀ b ∈ x, b < 256 := by
      intro x hx
      rw [List.mem_map] at hx
      obtain ⟨i, hi, rfl⟩ := hx
      have := hf i (List.mem_range.1 hi)
      exact ⟨this.1, this.2.1⟩
    refine ⟨(List.range len).map f, by simp, rd_of_cells ?_, hz, hl, hm, .inr ⟨_, _, by cases hx; rfl, by simp⟩⟩
    intro j u hu
    have hfl := flat_len ((List.range len).map f) (fun x hx => (hz x hx).1)
    rw [List.length_map, List.length_range] at hfl
    have hj : j < 16 * len := by have := (List.getElem?_eq_some_iff.1 hu).1; simp only [ds, bs_len] at this; omega
    have hk : j / 16 < len := by omega
    have h0 : j / 16 < ((List.range len).map f).length := by simpa using hk
    have h1 := flat_get ((List.range len).map f) (fun x hx => (hz x hx).1) (j / 16) h0 (j % 16) (Nat.mod_lt _ (by decide))
    rw [show j / 16 * 16 + j % 16 = j by omega] at h1
    have h2 := (hf (j / 16) hk).2.2 (j % 16) (Nat.mod_lt _ (by decide))
    rw [show j / 16 * 16 + j % 16 = j by omega] at h2
    rw [h2]
    have h3 := bs_get ((List.range len).map f).flatten j (by rw [hfl]; exact hj)
    unfold ds at hu
    rw [hu, h1] at h3
    simp only [List.getElem_map, List.getElem_range] at h3
    exact h3.symm
/-- A '[]byte' is opened, with its datum. -/
theorem open_bs (hd : DataW.Trod enc Try.prog w 0 sp true 28 (.slice A len cap) d p) :
    ∃ zs : List Nat, len = zs.length ∧ Rd w w.heap.size A (bs zs) ∧ (∀ x ∈ zs, x < 256) ∧ len ≤ cap ∧ cap ≤ maxLen ∧ ((len = 0 ∧ d = .nil) ∨ ∃ es rs, d = .slice es rs ∧ es.length = len) := by
  obtain ⟨z, h1, h2, h3, h4, h5⟩ := open_bytes hd
  refine ⟨z, h1, h2, h3, h4, h5, ?_⟩
  obtain ⟨fuel, hf⟩ := hd
  rcases open_ints Try.underlying28 Try.underlying5 Try.cellsB hf with ⟨hcs, hx⟩ | ⟨a, l, c, zs, hcs, _, hl, hm, hz, hx, _, _⟩
  · simp [Value.cells] at hcs
    exact .inl ⟨hcs.2.1, by cases hx; rfl⟩
  · simp [Value.cells] at hcs
    obtain ⟨rfl, rfl, rfl⟩ := hcs
    have hzl : len ≤ zs.length := by rw [hz]; split <;> omega
    exact .inr ⟨_, _, by cases hx; rfl, by simp [lits]; omega⟩
end
end Go.Proofs.Ytecfhhnmokdkiaa
