/-
  Plain facts, no program: a list of elements decoded one after the other.
-/
import Derived.Test.YtecfhhnmokdkiaaPure
set_option linter.unusedVariables false
namespace Go.Proofs.Ytecfhhnmokdkiaa

section
variable {α : Type}
/-- Elements in front of others: their number of bytes is added, an error takes all. -/
def comb (xs : List α) (d : Nat) (r : List α × Nat × Nat) : List α × Nat × Nat := if r.2.2 ≠ 0 then ([], 0, r.2.2) else (xs ++ r.1, d + r.2.1, 0)
/-- n elements, one after the other. -/
def items (g : List Nat → α × Nat × Nat) : Nat → List Nat → List α × Nat × Nat
  | 0, _ => ([], 0, 0)
  | n + 1, b => if (g b).2.2 ≠ 0 then ([], 0, (g b).2.2) else comb [(g b).1] (g b).2.1 (items g n (b.drop (g b).2.1))
theorem comb_nil (r : List α × Nat × Nat) (h : r.2.2 ≠ 0 → r.1 = [] ∧ r.2.1 = 0) : comb [] 0 r = r := by
  obtain ⟨a, b, c⟩ := r
  unfold comb
  split
  · rename_i h1; have := h h1; simp at this; simp [this]
  · rename_i h1; simp at h1; simp [h1]
theorem comb_comb (xs ys : List α) (d e : Nat) (r : List α × Nat × Nat) : comb xs d (comb ys e r) = comb (xs ++ ys) (d + e) r := by
  unfold comb
  by_cases h : r.2.2 = 0 <;> simp [h, Nat.add_assoc]
theorem comb_err {xs : List α} {d er : Nat} (h : er ≠ 0) : comb xs d ([], 0, er) = ([], 0, er) := by
  unfold comb; rw [if_pos h]
theorem comb_end (xs : List α) (d : Nat) : comb xs d ([], 0, 0) = (xs, d, 0) := by
  unfold comb; simp
theorem items_err (g : List Nat → α × Nat × Nat) : ∀ n b, (items g n b).2.2 ≠ 0 → (items g n b).1 = [] ∧ (items g n b).2.1 = 0
  | 0, _, h => by simp [items] at h
  | n + 1, b, h => by
    unfold items at h ⊢
    split
    · exact ⟨rfl, rfl⟩
    · rename_i h1
      rw [if_neg h1] at h
      unfold comb at h ⊢
      split
      · exact ⟨rfl, rfl⟩
      · rename_i h2; rw [if_neg h2] at h; simp at h
theorem items_bad (g : List Nat → α × Nat × Nat) {n : Nat} {b : List Nat} {x : α} {k er : Nat} (h : g b = (x, k, er)) (he : er ≠ 0) (hn : 0 < n) : items g n b = ([], 0, er) := by
  obtain ⟨m, rfl⟩ : ∃ m, n = m + 1 := ⟨n - 1, by omega⟩
  unfold items; rw [h, if_pos he]
theorem items_good (g : List Nat → α × Nat × Nat) {n : Nat} {b : List Nat} {x : α} {k : Nat} (h : g b = (x, k, 0)) (hn : 0 < n) : items g n b = comb [x] k (items g (n - 1) (b.drop k)) := by
  obtain ⟨m, rfl⟩ : ∃ m, n = m + 1 := ⟨n - 1, by omega⟩
  conv => lhs; unfold items
  rw [h]; simp
theorem comb_start (xs : List α) (u a : Nat) (h : u ≤ a) : comb [] u (xs, a - u, 0) = (xs, a, 0) := by
  unfold comb; simp; omega
/-- What has been read after some rounds. -/
structure Sofar (g : List Nat → α × Nat × Nat) (N u : Nat) (b : List Nat) (xs : List α) (at_ : Nat) : Prop where
  len : xs.length ≤ N
  lo : u ≤ at_
  hi : at_ ≤ b.length
  eq : items g N (b.drop u) = comb xs (at_ - u) (items g (N - xs.length) (b.drop at_))
theorem Sofar.start {g : List Nat → α × Nat × Nat} {N u : Nat} {b : List Nat} (hu : u ≤ b.length) : Sofar g N u b [] u :=
  ⟨Nat.zero_le _, Nat.le_refl _, hu, by rw [Nat.sub_self, comb_nil _ (items_err g _ _)]; rfl⟩
theorem Sofar.bad {g : List Nat → α × Nat × Nat} {N u : Nat} {b : List Nat} {xs : List α} {at_ : Nat} (h : Sofar g N u b xs at_) (hl : xs.length < N) {x : α} {k er : Nat} (hg : g (b.drop at_) = (x, k, er)) (he : er ≠ 0) : items g N (b.drop u) = ([], 0, er) := by
  rw [h.eq, items_bad g hg he (by omega), comb_err he]
theorem Sofar.next {g : List Nat → α × Nat × Nat} {N u : Nat} {b : List Nat} {xs : List α} {at_ : Nat} (h : Sofar g N u b xs at_) (hl : xs.length < N) {x : α} {k : Nat} (hg : g (b.drop at_) = (x, k, 0)) (hk : at_ + k ≤ b.length) : Sofar g N u b (xs ++ [x]) (at_ + k) := by
  refine ⟨by simp; omega, by have := h.lo; omega, hk, ?_⟩
  rw [h.eq, items_good g hg (by omega), comb_comb, List.drop_drop]
  have e1 : at_ - u + k = at_ + k - u := by have := h.lo; omega
  have e2 : N - xs.length - 1 = N - (xs ++ [x]).length := by simp; omega
  rw [e1, e2]
theorem Sofar.done {g : List Nat → α × Nat × Nat} {N u : Nat} {b : List Nat} {xs : List α} {at_ : Nat} (h : Sofar g N u b xs at_) (hl : xs.length = N) : items g N (b.drop u) = (xs, at_ - u, 0) := by
  rw [h.eq, hl, Nat.sub_self]; exact comb_end xs _

/-- P1.4, P1.5, P1.8: a list, the length, the error. -/
def getL (least : Nat) (g : List Nat → α × Nat × Nat) (b : List Nat) : List α × Nat × Nat :=
  match getLen least b with
  | (n, u, er) => if er ≠ 0 then ([], 0, er) else comb [] u (items g n.toNat (b.drop u))
theorem getL_eq {least : Nat} {g : List Nat → α × Nat × Nat} {b : List Nat} {n : Int} {u er : Nat} (h : getLen least b = (n, u, er)) : getL least g b = if er ≠ 0 then ([], 0, er) else comb [] u (items g n.toNat (b.drop u)) := by
  unfold getL; rw [h]
end
theorem dec_le {b : List Nat} {n : Int} {k er : Nat} (h : dec b = (n, k, er)) : k ≤ b.length ∧ -9223372036854775808 ≤ n ∧ n ≤ 9223372036854775807 := by
  by_cases he : er = 0
  · subst he; have := dec_ok h; omega
  · have := dec_bad h he; omega
end Go.Proofs.Ytecfhhnmokdkiaa
