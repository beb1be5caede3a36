/-
  Plain facts, no program: the document's own decoder of an integer takes a candidate if its encoding is what was read.
-/
import Derived.Test.YtecfhhnmokdkiaaG
import Derived.Test.YtecfhhnmokdkiaaPure3
set_option linter.unusedVariables false
namespace Go.Proofs.Ytecfhhnmokdkiaa

/-- The integer that digits stand for. -/
def cand (neg : Bool) (M : Nat) : Int := if neg then -1 - (M : Int) else (M : Int)
theorem V_mono (neg : Bool) (t : List Nat) (i : Nat) : ∀ j, i ≤ j → j ≤ t.length → val (inv neg (t.take i)) ≤ val (inv neg (t.take j)) := by
  intro j hij
  induction j with
  | zero =>
    intro _
    obtain rfl : i = 0 := by omega
    exact Nat.le_refl _
  | succ j ih =>
    intro hj
    by_cases h : i = j + 1
    · subst h; exact Nat.le_refl _
    · have h1 := ih (by omega) (by omega)
      have h2 := inv_snoc neg t j (by omega)
      rw [h2]; omega
theorem V_over {neg : Bool} {t : List Nat} {k K : Nat} (hk : k < K) (hK : K ≤ t.length) (h : 36028797018963967 < val (inv neg (t.take k))) : decEnd neg K (val (inv neg (t.take K))) = (0, 0, 2) := by
  have h1 := V_mono neg t (k + 1) K (by omega) hK
  have h2 := inv_snoc neg t k (by omega)
  unfold decEnd
  rw [if_pos (.inl (by omega))]
theorem cand_in (neg : Bool) (M : Nat) (hM : M ≤ 9223372036854775807) : InR (cand neg M) := by
  unfold InR cand
  cases neg <;> simp <;> omega
theorem dec_cand {h K : Nat} {t : List Nat} {neg : Bool} (hK : kOf h = K) (h8 : ¬ 8 < K) (hl : ¬ t.length < K) (hn : decide (h < 128) = neg) (hb : ∀ d ∈ h :: t, d < 256) (hM : val (inv neg (t.take K)) ≤ 9223372036854775807) :
    dec (h :: t) = if enc (cand neg (val (inv neg (t.take K)))) = h :: t.take K then (cand neg (val (inv neg (t.take K))), K + 1, 0) else (0, 0, 2) := by
  have hd := dec_end hK h8 hl hn
  have hin := cand_in neg _ hM
  by_cases e : enc (cand neg (val (inv neg (t.take K)))) = h :: t.take K
  · rw [if_pos e]
    have h1 := dec_enc _ hin.1 hin.2 (t.drop K)
    rw [e] at h1
    have h2 : (h :: t.take K) ++ t.drop K = h :: t := by simp
    rw [h2] at h1
    rw [h1]
    congr 2
    simp; omega
  · rw [if_neg e]
    have h3 : dec (h :: t) = decEnd neg K (val (inv neg (t.take K))) := hd
    unfold decEnd at h3
    split at h3
    · exact h3
    · exfalso
      apply e
      have h4 : dec (h :: t) = (cand neg (val (inv neg (t.take K))), 1 + K, 0) := by rw [h3]; rfl
      have h5 := enc_dec hb h4
      rw [← h5, Nat.add_comm]; rfl
theorem kOf_big {h : Nat} (hh : h < 256) : 8 < kOf h ↔ h < 119 ∨ 136 < h := by
  unfold kOf; split <;> omega
end Go.Proofs.Ytecfhhnmokdkiaa
