/-
  Plain facts, no program: the decoders of layer 1 as functions on lists of bytes.
-/
import Derived.Test.YtjgkocijmbepmaaGreatDoorPlain
set_option linter.unusedVariables false
namespace Go.Proofs.YtjgkocijmbepmaaGreatDoor

/-- How many digits a first byte announces. -/
def kOf (h : Nat) : Nat := if h < 128 then 127 - h else h - 128
/-- P1.2: the number, the length, the error. -/
def dec : List Nat → Int × Nat × Nat
  | [] => (0, 0, 3)
  | h :: t =>
    if 8 < kOf h then (0, 0, 2)
    else if t.length < kOf h then (0, 0, 3)
    else if 9223372036854775807 < val (inv (decide (h < 128)) (t.take (kOf h))) ∨ (0 < kOf h ∧ val (inv (decide (h < 128)) (t.take (kOf h))) / 2 ^ (8 * (kOf h - 1)) = 0) then (0, 0, 2)
    else (if h < 128 then -1 - (val (inv (decide (h < 128)) (t.take (kOf h))) : Int) else (val (inv (decide (h < 128)) (t.take (kOf h))) : Int), 1 + kOf h, 0)
theorem dec_cons (h : Nat) (t : List Nat) : dec (h :: t) =
    if 8 < kOf h then (0, 0, 2)
    else if t.length < kOf h then (0, 0, 3)
    else if 9223372036854775807 < val (inv (decide (h < 128)) (t.take (kOf h))) ∨ (0 < kOf h ∧ val (inv (decide (h < 128)) (t.take (kOf h))) / 2 ^ (8 * (kOf h - 1)) = 0) then (0, 0, 2)
    else (if h < 128 then -1 - (val (inv (decide (h < 128)) (t.take (kOf h))) : Int) else (val (inv (decide (h < 128)) (t.take (kOf h))) : Int), 1 + kOf h, 0) := rfl
theorem dec_big {h K : Nat} {t : List Nat} (hK : kOf h = K) (h8 : 8 < K) : dec (h :: t) = (0, 0, 2) := by
  rw [dec_cons, hK, if_pos h8]
theorem dec_short {h K : Nat} {t : List Nat} (hK : kOf h = K) (h8 : ¬ 8 < K) (hl : t.length < K) : dec (h :: t) = (0, 0, 3) := by
  rw [dec_cons, hK, if_neg h8, if_pos hl]
/-- What is returned where enough bytes follow. -/
def decEnd (neg : Bool) (K M : Nat) : Int × Nat × Nat :=
  if 9223372036854775807 < M ∨ (0 < K ∧ M / 2 ^ (8 * (K - 1)) = 0) then (0, 0, 2) else (if neg then -1 - (M : Int) else (M : Int), 1 + K, 0)
theorem dec_end {h K : Nat} {t : List Nat} {neg : Bool} (hK : kOf h = K) (h8 : ¬ 8 < K) (hl : ¬ t.length < K) (hn : decide (h < 128) = neg) : dec (h :: t) = decEnd neg K (val (inv neg (t.take K))) := by
  rw [dec_cons, hK, if_neg h8, if_neg hl]
  unfold decEnd
  subst hn
  by_cases h : h < 128 <;> simp [h]
theorem dec_ok {b : List Nat} {n : Int} {u : Nat} (h : dec b = (n, u, 0)) : 1 ≤ u ∧ u ≤ 9 ∧ u ≤ b.length ∧ -9223372036854775808 ≤ n ∧ n ≤ 9223372036854775807 := by
  cases b with
  | nil => cases h
  | cons x t =>
    rw [dec_cons] at h
    by_cases h1 : 8 < kOf x
    · rw [if_pos h1] at h; cases h
    rw [if_neg h1] at h
    by_cases h2 : t.length < kOf x
    · rw [if_pos h2] at h; cases h
    rw [if_neg h2] at h
    split at h
    · cases h
    · rename_i h3
      simp only [Prod.mk.injEq, and_true] at h
      obtain ⟨hn, hu⟩ := h
      have h4 : ¬ 9223372036854775807 < val (inv (decide (x < 128)) (t.take (kOf x))) := fun e => h3 (.inl e)
      generalize val (inv (decide (x < 128)) (t.take (kOf x))) = M at *
      rw [List.length_cons]
      refine ⟨by omega, by omega, by omega, ?_, ?_⟩ <;> (split at hn <;> omega)
theorem dec_bad {b : List Nat} {n : Int} {u er : Nat} (h : dec b = (n, u, er)) (he : er ≠ 0) : n = 0 ∧ u = 0 := by
  cases b with
  | nil => cases h; exact ⟨rfl, rfl⟩
  | cons x t =>
    rw [dec_cons] at h
    split at h
    · cases h; exact ⟨rfl, rfl⟩
    split at h
    · cases h; exact ⟨rfl, rfl⟩
    split at h
    · cases h; exact ⟨rfl, rfl⟩
    · simp only [Prod.mk.injEq] at h; exact absurd h.2.2.symm he
theorem dec_er {b : List Nat} {n : Int} {u er : Nat} (h : dec b = (n, u, er)) : er ≤ 3 := by
  cases b with
  | nil => cases h; omega
  | cons x t =>
    rw [dec_cons] at h
    split at h
    · cases h; omega
    split at h
    · cases h; omega
    split at h <;> (cases h; omega)

/-- The number of elements that follow. -/
def getLen (least : Nat) (b : List Nat) : Int × Nat × Nat :=
  match dec b with
  | (n, u, er) => if er ≠ 0 then (0, 0, er) else if n < 0 then (0, 0, 2) else if (b.length - u) / least < n.toNat then (0, 0, 3) else (n, u, 0)
theorem getLen_eq {least : Nat} {b : List Nat} {n : Int} {u er : Nat} (h : dec b = (n, u, er)) :
    getLen least b = if er ≠ 0 then (0, 0, er) else if n < 0 then (0, 0, 2) else if (b.length - u) / least < n.toNat then (0, 0, 3) else (n, u, 0) := by
  unfold getLen; rw [h]
theorem getLen_ok {least : Nat} {b : List Nat} {n : Int} {u : Nat} (hl : 0 < least) (h : getLen least b = (n, u, 0)) : 0 ≤ n ∧ 1 ≤ u ∧ u + n.toNat * least ≤ b.length ∧ dec b = (n, u, 0) := by
  obtain ⟨n', u', er', hd⟩ : ∃ n' u' er', dec b = (n', u', er') := ⟨_, _, _, rfl⟩
  rw [getLen_eq hd] at h
  split at h
  · rename_i h1; simp only [Prod.mk.injEq] at h; exact absurd h.2.2 h1
  rename_i h1
  have h1 : er' = 0 := by omega
  subst h1
  split at h
  · cases h
  split at h
  · cases h
  · rename_i h2 h3
    cases h
    have h4 := dec_ok hd
    refine ⟨by omega, h4.1, ?_, hd⟩
    have h5 : n.toNat ≤ (b.length - u) / least := by omega
    have h6 := Nat.mul_le_mul_right least h5
    have h7 := Nat.div_mul_le_self (b.length - u) least
    omega
theorem getLen_bad {least : Nat} {b : List Nat} {n : Int} {u er : Nat} (h : getLen least b = (n, u, er)) (he : er ≠ 0) : n = 0 ∧ u = 0 := by
  obtain ⟨n', u', er', hd⟩ : ∃ n' u' er', dec b = (n', u', er') := ⟨_, _, _, rfl⟩
  rw [getLen_eq hd] at h
  split at h
  · cases h; exact ⟨rfl, rfl⟩
  split at h
  · cases h; exact ⟨rfl, rfl⟩
  split at h
  · cases h; exact ⟨rfl, rfl⟩
  · simp only [Prod.mk.injEq] at h; exact absurd h.2.2.symm he
theorem getLen_er {least : Nat} {b : List Nat} {n : Int} {u er : Nat} (h : getLen least b = (n, u, er)) : er ≤ 3 := by
  obtain ⟨n', u', er', hd⟩ : ∃ n' u' er', dec b = (n', u', er') := ⟨_, _, _, rfl⟩
  have := dec_er hd
  rw [getLen_eq hd] at h
  split at h
  · cases h; omega
  split at h
  · cases h; omega
  split at h <;> (cases h; omega)

/-- P1.3: the bytes of the string, the length, the error. -/
def getBytes (b : List Nat) : List Nat × Nat × Nat :=
  match getLen 1 b with
  | (n, u, er) => if er ≠ 0 then ([], 0, er) else ((b.drop u).take n.toNat, u + n.toNat, 0)
theorem getBytes_eq {b : List Nat} {n : Int} {u er : Nat} (h : getLen 1 b = (n, u, er)) : getBytes b = if er ≠ 0 then ([], 0, er) else ((b.drop u).take n.toNat, u + n.toNat, 0) := by
  unfold getBytes; rw [h]

/-- An encoded list: its length, then its elements. -/
def encL {α : Type} (f : α → List Nat) (l : List α) : List Nat := enc l.length ++ l.flatMap f
def part {α : Type} (f : α → List Nat) (l : List α) (k : Nat) : List Nat := enc l.length ++ (l.take k).flatMap f
theorem part_zero {α : Type} (f : α → List Nat) (l : List α) : part f l 0 = enc l.length := by simp [part]
theorem part_all {α : Type} (f : α → List Nat) (l : List α) : part f l l.length = encL f l := by simp [part, encL]
theorem part_succ {α : Type} (f : α → List Nat) (l : List α) (k : Nat) (hk : k < l.length) : part f l (k + 1) = part f l k ++ f l[k] := by
  unfold part
  rw [List.take_succ_eq_append_getElem hk, List.flatMap_append]
  simp
theorem flatMap_len_le {α : Type} (f : α → List Nat) (c : Nat) (l : List α) (h : ∀ x ∈ l, (f x).length ≤ c) : (l.flatMap f).length ≤ c * l.length := by
  induction l with
  | nil => simp
  | cons x l ih =>
    have h1 := h x (by simp)
    have h2 := ih (fun y hy => h y (by simp [hy]))
    simp only [List.flatMap_cons, List.length_append, List.length_cons, Nat.mul_add, Nat.mul_one]
    omega
theorem part_len_le {α : Type} (f : α → List Nat) (c : Nat) (l : List α) (k : Nat) (h : ∀ x ∈ l, (f x).length ≤ c) (hl : l.length ≤ 9223372036854775807) : (part f l k).length ≤ 9 + c * l.length := by
  unfold part
  have h1 := (enc_len l.length (by omega)).2
  have h2 := flatMap_len_le f c (l.take k) (fun x hx => h x (List.mem_of_mem_take hx))
  have h3 : c * (l.take k).length ≤ c * l.length := Nat.mul_le_mul_left c (by rw [List.length_take]; omega)
  rw [List.length_append]; omega
end Go.Proofs.YtjgkocijmbepmaaGreatDoor
