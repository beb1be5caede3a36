/-
  Plain facts, no program: numbers in base 256, and what the encodings of layer 1 are, as functions on lists.
-/
set_option linter.unusedVariables false
namespace Go.Proofs.YtjgkocijmbepmaaGreatDoor

/-- The digits of a number in base 256, the greatest first. -/
def digs (m : Nat) : List Nat := if m = 0 then [] else digs (m / 256) ++ [m % 256]
termination_by m
decreasing_by omega

theorem digs_zero : digs 0 = [] := by rw [digs]; simp
theorem digs_pos {m : Nat} (h : m ≠ 0) : digs m = digs (m / 256) ++ [m % 256] := by
  rw [digs, if_neg h]
theorem digs_lt (m : Nat) : ∀ d ∈ digs m, d < 256 := by
  induction m using Nat.strongRecOn with
  | ind m ih =>
    by_cases h : m = 0
    · subst h; rw [digs_zero]; simp
    · rw [digs_pos h]
      intro d hd
      rw [List.mem_append] at hd
      rcases hd with hd | hd
      · exact ih (m / 256) (by omega) d hd
      · simp at hd; omega
theorem digs_len_le (k : Nat) : ∀ m, m < 256 ^ k → (digs m).length ≤ k := by
  induction k with
  | zero => intro m hm; have : m = 0 := by simpa using hm
            subst this; rw [digs_zero]; simp
  | succ k ih =>
    intro m hm
    by_cases h : m = 0
    · subst h; rw [digs_zero]; simp
    · rw [digs_pos h]
      have := ih (m / 256) (by rw [Nat.div_lt_iff_lt_mul (by omega)]; rw [Nat.pow_succ] at hm; exact hm)
      simp; omega
theorem digs_nil {m : Nat} : digs m = [] ↔ m = 0 := by
  constructor
  · intro h
    by_cases e : m = 0
    · exact e
    · rw [digs_pos e] at h; simp at h
  · rintro rfl; exact digs_zero

/-- The number that digits are in base 256. -/
def val (l : List Nat) : Nat := l.foldl (fun a d => 256 * a + d) 0
theorem foldl_val (l : List Nat) : ∀ a, l.foldl (fun a d => 256 * a + d) a = a * 256 ^ l.length + val l := by
  unfold val
  induction l with
  | nil => intro a; simp
  | cons d l ih =>
    intro a
    rw [List.foldl_cons, ih (256 * a + d), List.foldl_cons, ih (256 * 0 + d)]
    simp only [List.length_cons, Nat.pow_succ]
    rw [Nat.add_mul, Nat.add_mul]
    have : 256 * a * 256 ^ l.length = a * (256 ^ l.length * 256) := by
      rw [Nat.mul_comm 256 a, Nat.mul_assoc, Nat.mul_comm 256 (256 ^ l.length)]
    omega
theorem val_nil : val [] = 0 := rfl
theorem val_cons (d : Nat) (l : List Nat) : val (d :: l) = d * 256 ^ l.length + val l := by
  unfold val
  rw [List.foldl_cons, foldl_val]
  simp [val]
theorem val_snoc (l : List Nat) (d : Nat) : val (l ++ [d]) = 256 * val l + d := by
  unfold val; rw [List.foldl_append]; rfl
theorem val_lt (l : List Nat) (h : ∀ d ∈ l, d < 256) : val l < 256 ^ l.length := by
  induction l with
  | nil => simp [val]
  | cons d l ih =>
    have hd := h d (by simp)
    have := ih (fun x hx => h x (by simp [hx]))
    rw [val_cons, List.length_cons, Nat.pow_succ]
    have h2 : (d + 1) * 256 ^ l.length ≤ 256 * 256 ^ l.length := Nat.mul_le_mul_right _ (by omega)
    rw [Nat.add_mul] at h2
    rw [Nat.mul_comm (256 ^ l.length) 256]
    omega
theorem val_digs (m : Nat) : val (digs m) = m := by
  induction m using Nat.strongRecOn with
  | ind m ih =>
    by_cases h : m = 0
    · subst h; rw [digs_zero]; rfl
    · rw [digs_pos h, val_snoc, ih (m / 256) (by omega)]; omega
/-- Digits without a leading zero are the digits of their number. -/
theorem digs_val (l : List Nat) (h : ∀ d ∈ l, d < 256) (h0 : l.head? ≠ some 0) : digs (val l) = l := by
  induction hn : l.length generalizing l with
  | zero => have := List.eq_nil_of_length_eq_zero hn; subst this; exact digs_zero
  | succ n ih =>
    rcases List.eq_nil_or_concat l with rfl | ⟨t, d, rfl⟩
    · simp at hn
    · rw [List.concat_eq_append] at *
      have hd : d < 256 := h d (by simp)
      rw [val_snoc]
      have ht : digs (val t) = t := by
        refine ih t (fun x hx => h x (by simp [hx])) ?_ (by simp at hn; exact hn)
        intro e; apply h0
        cases t with
        | nil => simp at e
        | cons x t => simpa using e
      have hne : 256 * val t + d ≠ 0 := by
        intro e
        have e1 : val t = 0 := by omega
        have e2 : d = 0 := by omega
        subst e2
        rw [e1, digs_zero] at ht
        subst ht
        simp at h0
      rw [digs_pos hne]
      have q1 : (256 * val t + d) / 256 = val t := by omega
      have q2 : (256 * val t + d) % 256 = d := by omega
      rw [q1, q2, ht]
theorem digs_head (m : Nat) : (digs m).head? ≠ some 0 := by
  induction m using Nat.strongRecOn with
  | ind m ih =>
    by_cases h : m = 0
    · subst h; rw [digs_zero]; simp
    · rw [digs_pos h]
      by_cases h2 : m / 256 = 0
      · rw [h2, digs_zero]; simp; omega
      · have h3 := ih (m / 256) (by omega)
        have h4 : digs (m / 256) ≠ [] := fun e => h2 (digs_nil.1 e)
        rw [List.head?_append]
        cases hh : (digs (m / 256)).head? with
        | none => rw [List.head?_eq_none_iff] at hh; exact absurd hh h4
        | some x => rw [hh] at h3; simpa using h3

/-- P1.1. -/
def enc (n : Int) : List Nat :=
  if 0 ≤ n then (128 + (digs n.toNat).length) :: digs n.toNat
  else (127 - (digs (-1 - n).toNat).length) :: (digs (-1 - n).toNat).map (255 - ·)

theorem enc_pos (n : Nat) : enc (n : Int) = (128 + (digs n).length) :: digs n := by
  unfold enc; rw [if_pos (by omega)]; simp
theorem enc_neg (n : Nat) : enc (-1 - (n : Int)) = (127 - (digs n).length) :: (digs n).map (255 - ·) := by
  unfold enc; rw [if_neg (by omega)]
  have e : (-1 - (-1 - (n : Int))).toNat = n := by omega
  rw [e]
theorem enc_lt (n : Int) (h : -9223372036854775808 ≤ n ∧ n ≤ 9223372036854775807) : ∀ d ∈ enc n, d < 256 := by
  intro d hd
  unfold enc at hd
  split at hd
  · have hk := digs_len_le 8 n.toNat (by omega)
    rw [List.mem_cons] at hd
    rcases hd with rfl | hd
    · omega
    · exact digs_lt _ d hd
  · rw [List.mem_cons] at hd
    rcases hd with rfl | hd
    · omega
    · rw [List.mem_map] at hd
      obtain ⟨x, _, rfl⟩ := hd
      omega
theorem enc_len (n : Int) (h : -9223372036854775808 ≤ n ∧ n ≤ 9223372036854775807) : 1 ≤ (enc n).length ∧ (enc n).length ≤ 9 := by
  unfold enc
  split
  · have hk := digs_len_le 8 n.toNat (by omega)
    simp; omega
  · have hk := digs_len_le 8 (-1 - n).toNat (by omega)
    simp; omega
/-- One more digit from the top. -/
theorem digs_next (n i : Nat) : digs (n / 2 ^ (8 * i)) = if n / 2 ^ (8 * i) = 0 then [] else digs (n / 2 ^ (8 * (i + 1))) ++ [n / 2 ^ (8 * i) % 256] := by
  have e : n / 2 ^ (8 * (i + 1)) = n / 2 ^ (8 * i) / 256 := by
    rw [Nat.div_div_eq_div_mul]; congr 1
    rw [Nat.mul_add, Nat.pow_add]
  split
  · rename_i h; rw [h, digs_zero]
  · rename_i h; rw [digs_pos h, e]
theorem digs_skip {n i : Nat} (h : n / 2 ^ (8 * i) = 0) : digs (n / 2 ^ (8 * (i + 1))) = [] ∧ digs (n / 2 ^ (8 * i)) = [] := by
  have h1 := digs_next n i
  rw [if_pos h] at h1
  refine ⟨?_, h1⟩
  have e : n / 2 ^ (8 * (i + 1)) = n / 2 ^ (8 * i) / 256 := by
    rw [Nat.div_div_eq_div_mul]; congr 1
    rw [Nat.mul_add, Nat.pow_add]
  rw [e, h, digs_nil]
theorem digs_more {n i : Nat} (h : n / 2 ^ (8 * i) ≠ 0) : digs (n / 2 ^ (8 * i)) = digs (n / 2 ^ (8 * (i + 1))) ++ [n / 2 ^ (8 * i) % 256] := by
  rw [digs_next, if_neg h]
theorem digs_more0 {n i : Nat} (h : n / 2 ^ (8 * i) ≠ 0) (h0 : n / 2 ^ (8 * i) % 256 = 0) : digs (n / 2 ^ (8 * (i + 1))) ≠ [] := by
  have e : n / 2 ^ (8 * (i + 1)) = n / 2 ^ (8 * i) / 256 := by
    rw [Nat.div_div_eq_div_mul]; congr 1
    rw [Nat.mul_add, Nat.pow_add]
  rw [e, Ne, digs_nil]
  omega
theorem digs_top {n : Nat} (h : n ≤ 9223372036854775807) : digs (n / 2 ^ (8 * 8)) = [] := by
  rw [digs_nil]; exact Nat.div_eq_of_lt (by omega)
theorem digs_len8 {n : Nat} (h : n ≤ 9223372036854775807) : (digs n).length ≤ 8 := digs_len_le 8 n (by omega)
theorem digs_len8' {n : Nat} (h : n ≤ 9223372036854775807) (i : Nat) : (digs (n / 2 ^ (8 * i))).length ≤ 8 := digs_len8 (Nat.le_trans (Nat.div_le_self _ _) h)
theorem dig_cast (n i : Nat) : (n : Int) / 2 ^ (8 * i) % 256 = ((n / 2 ^ (8 * i) % 256 : Nat) : Int) := by
  simp

/-- The digits of a negative number are subtracted from 255. -/
def inv (neg : Bool) (l : List Nat) : List Nat := if neg then l.map (255 - ·) else l
theorem inv_len (neg : Bool) (l : List Nat) : (inv neg l).length = l.length := by cases neg <;> simp [inv]
theorem inv_lt (neg : Bool) (l : List Nat) (h : ∀ d ∈ l, d < 256) : ∀ d ∈ inv neg l, d < 256 := by
  cases neg
  · exact h
  · intro d hd
    simp only [inv, if_true, List.mem_map] at hd
    obtain ⟨x, _, rfl⟩ := hd
    omega
theorem inv_val_lt (neg : Bool) (l : List Nat) (h : ∀ d ∈ l, d < 256) : val (inv neg l) < 256 ^ l.length := by
  have := val_lt (inv neg l) (inv_lt neg l h)
  rwa [inv_len] at this
theorem inv_snoc (neg : Bool) (zs : List Nat) (k : Nat) (hk : k < zs.length) : val (inv neg (zs.take (k + 1))) = 256 * val (inv neg (zs.take k)) + (if neg then 255 - zs[k] else zs[k]) := by
  rw [List.take_succ_eq_append_getElem hk]
  cases neg
  · show val (zs.take k ++ [zs[k]]) = _
    rw [val_snoc]; rfl
  · show val ((zs.take k ++ [zs[k]]).map (255 - ·)) = _
    rw [List.map_append]
    show val (_ ++ [255 - zs[k]]) = _
    rw [val_snoc]; rfl
theorem inv_inv (neg : Bool) (l : List Nat) (h : ∀ d ∈ l, d < 256) : inv neg (inv neg l) = l := by
  cases neg
  · rfl
  · simp only [inv, if_true, List.map_map]
    conv => rhs; rw [← List.map_id l]
    refine List.map_congr_left fun d hd => ?_
    have := h d hd
    simp; omega
end Go.Proofs.YtjgkocijmbepmaaGreatDoor
