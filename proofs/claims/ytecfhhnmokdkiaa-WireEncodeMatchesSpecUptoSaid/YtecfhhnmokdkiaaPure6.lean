/-
  Plain facts, no program: what is decoded is no longer than what it is decoded from, and what holds of each element.
-/
import Derived.Test.YtecfhhnmokdkiaaPure5
import Derived.Test.YtecfhhnmokdkiaaM
set_option linter.unusedVariables false
namespace Go.Proofs.Ytecfhhnmokdkiaa
section
variable {α : Type} {g : List Nat → α × Nat × Nat} {p : α → Prop} {L : Nat}
theorem items_all (hg : ∀ b, b.length ≤ L → (g b).2.2 = 0 → p (g b).1) : ∀ n b, b.length ≤ L → (∀ x ∈ (items g n b).1, p x) ∧ (items g n b).1.length ≤ n := by
  intro n
  induction n with
  | zero => intro b _; simp [items]
  | succ n ih =>
    intro b hb
    obtain ⟨x, j, er, hx⟩ : ∃ x j er, g b = (x, j, er) := ⟨_, _, _, rfl⟩
    by_cases he : er = 0
    · subst he
      rw [items_good g hx (by omega), Nat.add_sub_cancel]
      have h1 := ih (b.drop j) (by rw [List.length_drop]; omega)
      have h2 := hg b hb (by rw [hx])
      rw [hx] at h2
      unfold comb
      split
      · simp
      · refine ⟨fun y hy => ?_, by simp; omega⟩
        simp only [List.cons_append, List.nil_append, List.mem_cons] at hy
        rcases hy with rfl | hy
        · exact h2
        · exact h1.1 y hy
    · rw [items_bad g hx he (by omega)]
      simp
theorem getL_all {least : Nat} {b : List Nat} {l : List α} {u er : Nat} (hl : 0 < least) (hL : b.length ≤ L) (hg : ∀ b, b.length ≤ L → (g b).2.2 = 0 → p (g b).1) (h : getL least g b = (l, u, er)) : (∀ x ∈ l, p x) ∧ l.length ≤ b.length := by
  obtain ⟨n, k, er', hd⟩ : ∃ n k er, getLen least b = (n, k, er) := ⟨_, _, _, rfl⟩
  rw [getL_eq hd] at h
  split at h
  · cases h; simp
  · rename_i h1
    have h1 : er' = 0 := by omega
    subst h1
    obtain ⟨h1, h2, h3, h4⟩ := getLen_ok hl hd
    have h5 := items_all (p := p) hg n.toNat (b.drop k) (by rw [List.length_drop]; omega)
    have h6 : n.toNat * 1 ≤ n.toNat * least := Nat.mul_le_mul_left _ hl
    unfold comb at h
    split at h
    · cases h; simp
    · cases h
      refine ⟨fun x hx => h5.1 x (by simpa using hx), ?_⟩
      have := h5.2
      simp only [List.nil_append]
      omega
/-- What consumes at least one byte of what is consumed. -/
theorem take_pos {b X : List Nat} {u : Nat} (h : b.take u = X) (hX : 1 ≤ X.length) : 1 ≤ u := by
  subst h; simp at hX; omega
end
theorem dec_all1 (b : List Nat) : InR (dec b).1 := by
  obtain ⟨n, k, er, h⟩ : ∃ n k er, dec b = (n, k, er) := ⟨_, _, _, rfl⟩
  rw [h]; exact (dec_le h).2
theorem getBytes_size (b : List Nat) : (getBytes b).1.length ≤ b.length := by
  obtain ⟨n, k, er, hd⟩ : ∃ n k er, getLen 1 b = (n, k, er) := ⟨_, _, _, rfl⟩
  rw [getBytes_eq hd]
  split
  · simp
  · simp; omega
theorem getBytes_lt {b : List Nat} (hb : ∀ d ∈ b, d < 256) : ∀ d ∈ (getBytes b).1, d < 256 := by
  obtain ⟨n, k, er, hd⟩ : ∃ n k er, getLen 1 b = (n, k, er) := ⟨_, _, _, rfl⟩
  rw [getBytes_eq hd]
  split
  · simp
  · exact fun d h => hb d (List.mem_of_mem_drop (List.mem_of_mem_take h))
theorem comb_bad {α : Type} {d : Nat} {r : List α × Nat × Nat} {l : List α} {u er : Nat} (h : comb [] d r = (l, u, er)) (he : er ≠ 0) : l = [] := by
  unfold comb at h
  split at h
  · cases h; rfl
  · cases h; exact absurd rfl he
theorem getL_bad {α : Type} {g : List Nat → α × Nat × Nat} {least : Nat} {b : List Nat} {l : List α} {u er : Nat} (h : getL least g b = (l, u, er)) (he : er ≠ 0) : l = [] := by
  obtain ⟨n, k, er', hd⟩ : ∃ n k er, getLen least b = (n, k, er) := ⟨_, _, _, rfl⟩
  rw [getL_eq hd] at h
  split at h
  · cases h; rfl
  · exact comb_bad h he
theorem getL_bytes {b : List Nat} {l : List (List Nat)} {u er : Nat} (hb : ∀ d ∈ b, d < 256) (h : getL 1 getBytes b = (l, u, er)) : ∀ x ∈ l, ∀ d ∈ x, d < 256 := by
  by_cases he : er = 0
  · subst he
    have hc := getL_canon (f := encB) (by omega) (fun b x k hb h => getBytes_canon hb h) hb h
    intro x hx d hd
    apply hb
    apply List.mem_of_mem_take (i := u)
    rw [hc]
    unfold encL
    exact List.mem_append_right _ (List.mem_flatMap.2 ⟨x, hx, by unfold encB; exact List.mem_append_right _ hd⟩)
  · rw [getL_bad h he]; simp
theorem digD_items : ∀ (n : Nat) (b : List Nat), n * 16 ≤ b.length → (items digD n b).2.1 = n * 16 ∧ (items digD n b).2.2 = 0 ∧ (items digD n b).1.length = n ∧ ∀ x ∈ (items digD n b).1, x.length = 16
  | 0, b, _ => by simp [items]
  | n + 1, b, h => by
    have h1 := digD_items n (b.drop 16) (by rw [List.length_drop]; omega)
    rw [items_good digD (x := b.take 16) (k := 16) rfl (by omega), Nat.add_sub_cancel]
    unfold comb
    rw [if_neg (by rw [h1.2.1]; simp)]
    refine ⟨by simp [h1.1]; omega, rfl, by simp [h1.2.2.1], fun x hx => ?_⟩
    simp only [List.cons_append, List.nil_append, List.mem_cons] at hx
    rcases hx with rfl | hx
    · simp; omega
    · exact h1.2.2.2 x hx
theorem getL_digD {b : List Nat} {d : List (List Nat)} {u er : Nat} (h : getL 16 digD b = (d, u, er)) : (∀ x ∈ d, x.length = 16) ∧ d.length ≤ b.length ∧ u ≤ b.length := by
  obtain ⟨n, k, er', hd⟩ : ∃ n k er, getLen 16 b = (n, k, er) := ⟨_, _, _, rfl⟩
  rw [getL_eq hd] at h
  split at h
  · cases h; simp
  · rename_i h1
    have h1 : er' = 0 := by omega
    subst h1
    obtain ⟨h1, h2, h3, h4⟩ := getLen_ok (by omega) hd
    have h5 := digD_items n.toNat (b.drop k) (by rw [List.length_drop]; omega)
    unfold comb at h
    rw [if_neg (by rw [h5.2.1]; simp)] at h
    cases h
    refine ⟨fun x hx => h5.2.2.2 x (by simpa using hx), ?_, ?_⟩
    · simp only [List.nil_append]; omega
    · omega
end Go.Proofs.Ytecfhhnmokdkiaa
