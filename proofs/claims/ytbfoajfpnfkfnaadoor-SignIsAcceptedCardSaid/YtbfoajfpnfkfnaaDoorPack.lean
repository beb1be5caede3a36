/-
  Plain facts, no program: the words of a block, byte by byte.
-/
import Derived.Test.YtbfoajfpnfkfnaaDoorSha
set_option linter.unusedVariables false
namespace Go.Proofs.YtbfoajfpnfkfnaaDoor

/-- The first m bytes of word j. -/
def pw (b : List Nat) (j : Nat) : Nat → Nat
  | 0 => 0
  | m + 1 => pw b j m * 256 + b.getD (4 * j + m) 0
/-- The words behind k bytes. -/
def packW (b : List Nat) (k : Nat) : List Nat := (List.range 64).map fun j => pw b j (min 4 (k - 4 * j))
theorem packW_len (b : List Nat) (k : Nat) : (packW b k).length = 64 := by simp [packW]
theorem packW_get (b : List Nat) (k j : Nat) (hj : j < 64) : (packW b k)[j]? = some (pw b j (min 4 (k - 4 * j))) := by
  simp [packW, hj]
theorem packW_zero (b : List Nat) : packW b 0 = List.replicate 64 0 := by
  apply List.ext_getElem?
  intro j
  by_cases hj : j < 64
  · rw [packW_get b 0 j hj, List.getElem?_replicate, if_pos hj]
    simp [pw]
  · rw [List.getElem?_eq_none (by rw [packW_len]; omega), List.getElem?_eq_none (by rw [List.length_replicate]; omega)]
theorem packW_set (b : List Nat) (k : Nat) (hk : k < 64) : (packW b k).set (k / 4) (pw b (k / 4) (k % 4) * 256 + b.getD k 0) = packW b (k + 1) := by
  apply List.ext_getElem?
  intro j
  by_cases hj : j < 64
  · rw [packW_get b (k + 1) j hj]
    by_cases e : k / 4 = j
    · subst e
      rw [List.getElem?_set_self (by rw [packW_len]; exact hj)]
      have h1 : min 4 (k + 1 - 4 * (k / 4)) = k % 4 + 1 := by omega
      have h2 : 4 * (k / 4) + k % 4 = k := by omega
      rw [h1, pw, h2]
    · rw [List.getElem?_set_ne e, packW_get b k j hj]
      have h1 : min 4 (k + 1 - 4 * j) = min 4 (k - 4 * j) := by omega
      rw [h1]
  · rw [List.getElem?_eq_none (by rw [List.length_set, packW_len]; omega), List.getElem?_eq_none (by rw [packW_len]; omega)]
theorem packW_old (b : List Nat) (k : Nat) (hk : k < 64) : (packW b k)[k / 4]? = some (pw b (k / 4) (k % 4)) := by
  rw [packW_get b k _ (by omega)]
  have h1 : min 4 (k - 4 * (k / 4)) = k % 4 := by omega
  rw [h1]
theorem pw_lt {b : List Nat} (h : AllB b) (j : Nat) : ∀ m, pw b j m < 256 ^ m
  | 0 => by simp [pw]
  | m + 1 => by
    have h1 := pw_lt h j m
    have h2 := getD_lt h (by decide) (4 * j + m)
    rw [pw, Nat.pow_succ]
    have : (pw b j m + 1) * 256 ≤ 256 ^ m * 256 := Nat.mul_le_mul_right _ h1
    omega
theorem pw_lt3 {b : List Nat} (h : AllB b) (j m : Nat) (hm : m < 4) : pw b j m < 16777216 := by
  have h1 := pw_lt h j m
  have h2 : 256 ^ m ≤ 256 ^ 3 := Nat.pow_le_pow_right (by decide) (by omega)
  have h3 : 256 ^ 3 = 16777216 := by decide
  omega
theorem packW_all (b : List Nat) : packW b 64 = words16 b ++ List.replicate 48 0 := by
  apply List.ext_getElem?
  intro j
  by_cases hj : j < 64
  · rw [packW_get b 64 j hj]
    by_cases h16 : j < 16
    · rw [List.getElem?_append_left (by rw [words16_len]; exact h16)]
      have h1 : min 4 (64 - 4 * j) = 4 := by omega
      rw [h1]
      simp [words16, h16, word4, pw]
    · rw [List.getElem?_append_right (by rw [words16_len]; omega), words16_len, List.getElem?_replicate, if_pos (by omega)]
      have h1 : min 4 (64 - 4 * j) = 0 := by omega
      rw [h1]; rfl
  · rw [List.getElem?_eq_none (by rw [packW_len]; omega), List.getElem?_eq_none (by simp [words16_len]; omega)]
/-- The words while they grow. -/
def gW (b : List Nat) (n : Nat) : List Nat := grow n (words16 b) ++ List.replicate (48 - n) 0
theorem gW_zero (b : List Nat) : gW b 0 = packW b 64 := by rw [packW_all]; rfl
theorem gW_len (b : List Nat) (n : Nat) (hn : n ≤ 48) : (gW b n).length = 64 := by
  unfold gW; rw [List.length_append, grow_len, words16_len, List.length_replicate]; omega
theorem gW_all (b : List Nat) : gW b 48 = sched b := by unfold gW sched; simp
theorem gW_set (b : List Nat) (n : Nat) (hn : n < 48) : (gW b n).set (16 + n) (nextW (grow n (words16 b)) (16 + n)) = gW b (n + 1) := by
  unfold gW
  have hl : (grow n (words16 b)).length = 16 + n := by rw [grow_len, words16_len]
  have hr : 48 - n = (48 - (n + 1)) + 1 := by omega
  rw [grow_succ, words16_len, List.set_append_right _ _ (by omega), hl, Nat.sub_self, hr, List.replicate_succ, List.set_cons_zero]
  simp
theorem gW_get (b : List Nat) (n j : Nat) (hj : j < 16 + n) : (gW b n)[j]? = some ((grow n (words16 b)).getD j 0) := by
  unfold gW
  have hl : (grow n (words16 b)).length = 16 + n := by rw [grow_len, words16_len]
  rw [List.getElem?_append_left (by omega), List.getD_eq_getElem?_getD, List.getElem?_eq_getElem (by omega)]
  rfl
theorem gW_any (b : List Nat) (n j : Nat) (hj : j < 64) (hn : n ≤ 48) : ∃ x, (gW b n)[j]? = some x := ⟨_, List.getElem?_eq_getElem (by rw [gW_len b n hn]; exact hj)⟩
end Go.Proofs.YtbfoajfpnfkfnaaDoor
