/-
  Plain facts, no program: encodings are decoded again, and what is decoded is an encoding.
-/
import Derived.Test.YtecfhhnmokdkiaaPure2
set_option linter.unusedVariables false
namespace Go.Proofs.Ytecfhhnmokdkiaa

theorem pow_8 (i : Nat) : 2 ^ (8 * i) = 256 ^ i := by rw [Nat.pow_mul]
theorem digs_ge (m : Nat) (h : 0 < (digs m).length) : 256 ^ ((digs m).length - 1) ≤ m := by
  rcases Nat.lt_or_ge m (256 ^ ((digs m).length - 1)) with h1 | h1
  · have := digs_len_le _ m h1; omega
  · exact h1
theorem lead_ne (m : Nat) : ¬ (0 < (digs m).length ∧ m / 2 ^ (8 * ((digs m).length - 1)) = 0) := by
  rintro ⟨h1, h2⟩
  have h3 := digs_ge m h1
  rw [pow_8] at h2
  have h4 : 0 < 256 ^ ((digs m).length - 1) := Nat.pow_pos (by omega)
  have := Nat.div_pos h3 h4
  omega
theorem dec_enc_pos (n : Nat) (hn : n ≤ 9223372036854775807) (t : List Nat) : dec (enc (n : Int) ++ t) = ((n : Int), (enc (n : Int)).length, 0) := by
  have h8 := digs_len8 hn
  rw [enc_pos, List.cons_append]
  have hk : kOf (128 + (digs n).length) = (digs n).length := by unfold kOf; rw [if_neg (by omega)]; omega
  rw [dec_end hk (by omega) (by simp) (show decide (128 + (digs n).length < 128) = false by simp)]
  have ht : (digs n ++ t).take (digs n).length = digs n := by simp
  rw [ht]
  show decEnd false _ (val (digs n)) = _
  rw [val_digs]
  unfold decEnd
  rw [if_neg (by rintro (h | h); omega; exact lead_ne n h)]
  simp; omega
theorem dec_enc_neg (n : Nat) (hn : n ≤ 9223372036854775807) (t : List Nat) : dec (enc (-1 - (n : Int)) ++ t) = (-1 - (n : Int), (enc (-1 - (n : Int))).length, 0) := by
  have h8 := digs_len8 hn
  rw [enc_neg, List.cons_append]
  have hk : kOf (127 - (digs n).length) = (digs n).length := by unfold kOf; rw [if_pos (by omega)]; omega
  rw [dec_end hk (by omega) (by simp) (show decide (127 - (digs n).length < 128) = true by simp; omega)]
  have ht : ((digs n).map (255 - ·) ++ t).take (digs n).length = inv true (digs n) := by simp [inv]
  rw [ht, inv_inv true (digs n) (digs_lt n), val_digs]
  unfold decEnd
  rw [if_neg (by rintro (h | h); omega; exact lead_ne n h)]
  simp; omega
theorem dec_enc (n : Int) (h1 : -9223372036854775808 ≤ n) (h2 : n ≤ 9223372036854775807) (t : List Nat) : dec (enc n ++ t) = (n, (enc n).length, 0) := by
  by_cases h : 0 ≤ n
  · obtain ⟨m, rfl⟩ := Int.eq_ofNat_of_zero_le h
    exact dec_enc_pos m (by omega) t
  · obtain ⟨m, hm⟩ := Int.eq_ofNat_of_zero_le (show 0 ≤ -1 - n by omega)
    have : n = -1 - (m : Int) := by omega
    subst this
    exact dec_enc_neg m (by omega) t

/-- What is decoded is the encoding of what comes out. -/
theorem enc_dec {b : List Nat} {n : Int} {u : Nat} (hb : ∀ d ∈ b, d < 256) (h : dec b = (n, u, 0)) : b.take u = enc n := by
  cases b with
  | nil => cases h
  | cons x t =>
    have hx : x < 256 := hb x (by simp)
    have hok := dec_ok h
    obtain ⟨K, hK⟩ : ∃ K, kOf x = K := ⟨_, rfl⟩
    by_cases h8 : 8 < K
    · rw [dec_big hK h8] at h; cases h
    by_cases hl : t.length < K
    · rw [dec_short hK h8 hl] at h; cases h
    obtain ⟨neg, hneg⟩ : ∃ neg, decide (x < 128) = neg := ⟨_, rfl⟩
    rw [dec_end hK h8 hl hneg] at h
    have htl : (t.take K).length = K := by rw [List.length_take]; omega
    have hbt : ∀ d ∈ t.take K, d < 256 := fun d hd => hb d (by simp [List.mem_of_mem_take hd])
    unfold decEnd at h
    by_cases hbad : 9223372036854775807 < val (inv neg (t.take K)) ∨ (0 < K ∧ val (inv neg (t.take K)) / 2 ^ (8 * (K - 1)) = 0)
    · rw [if_pos hbad] at h; cases h
    rw [if_neg hbad] at h
    simp only [Prod.mk.injEq, and_true] at h
    obtain ⟨hn, hu⟩ := h
    have hlead : (inv neg (t.take K)).head? ≠ some 0 := by
      intro hh
      obtain ⟨r, hr⟩ : ∃ r, inv neg (t.take K) = 0 :: r := by
        cases hc : inv neg (t.take K) with
        | nil => rw [hc] at hh; cases hh
        | cons a r => rw [hc] at hh; simp at hh; subst hh; exact ⟨r, rfl⟩
      have hlen : r.length + 1 = K := by have := congrArg List.length hr; rw [inv_len, htl] at this; simpa using this.symm
      apply hbad
      right
      refine ⟨by omega, ?_⟩
      rw [hr, val_cons]
      have := val_lt r (fun d hd => inv_lt neg _ hbt d (by rw [hr]; simp [hd]))
      rw [pow_8, show K - 1 = r.length by omega]
      simp only [Nat.zero_mul, Nat.zero_add]
      exact Nat.div_eq_of_lt this
    have hdv := digs_val (inv neg (t.take K)) (inv_lt neg _ hbt) hlead
    rw [← hu, show 1 + K = K + 1 by omega, List.take_succ_cons]
    cases neg
    · have hx2 : 128 ≤ x := by simpa using hneg
      have : kOf x = x - 128 := by unfold kOf; rw [if_neg (by omega)]
      simp only [Bool.false_eq_true, if_false] at hn
      rw [← hn, enc_pos, hdv]
      simp only [inv, Bool.false_eq_true, if_false, htl]
      congr 1; omega
    · have hx2 : x < 128 := by simpa using hneg
      have hkx : kOf x = 127 - x := by unfold kOf; rw [if_pos hx2]
      simp only [if_true] at hn
      rw [← hn, enc_neg, hdv, inv_len, htl]
      have := inv_inv true (t.take K) hbt
      simp only [inv, if_true] at this ⊢
      rw [this]
      congr 1; omega
end Go.Proofs.Ytecfhhnmokdkiaa
