/-
  Plain facts, no program: encodings are in the order of the integers, and two of them differ within both.
-/
import Derived.Test.YtecfhhnmokdkiaaPure4
import Derived.Test.YtecfhhnmokdkiaaK
set_option linter.unusedVariables false
namespace Go.Proofs.Ytecfhhnmokdkiaa

/-- At the first place where they differ, the first one is less. -/
def Less (a b : List Nat) : Prop := ∃ p x y r s, x < y ∧ a = p ++ x :: r ∧ b = p ++ y :: s
theorem Less.cons {a b : List Nat} (h : Less a b) (z : Nat) : Less (z :: a) (z :: b) := by
  obtain ⟨p, x, y, r, s, h, rfl, rfl⟩ := h
  exact ⟨z :: p, x, y, r, s, h, rfl, rfl⟩
theorem less_of_val : ∀ (a b : List Nat), a.length = b.length → (∀ d ∈ a, d < 256) → (∀ d ∈ b, d < 256) → val a < val b → Less a b
  | [], [], _, _, _, h => by simp at h
  | [], _ :: _, h, _, _, _ => by simp at h
  | _ :: _, [], h, _, _, _ => by simp at h
  | x :: a, y :: b, hl, ha, hb, h => by
    have hl' : a.length = b.length := by simpa using hl
    rw [val_cons, val_cons, hl'] at h
    have h1 := val_lt a (fun d hd => ha d (by simp [hd]))
    have h2 := val_lt b (fun d hd => hb d (by simp [hd]))
    rw [hl'] at h1
    rcases Nat.lt_trichotomy x y with hxy | rfl | hxy
    · exact ⟨[], x, y, a, b, hxy, rfl, rfl⟩
    · exact (less_of_val a b hl' (fun d hd => ha d (by simp [hd])) (fun d hd => hb d (by simp [hd])) (by omega)).cons x
    · exfalso
      have : (y + 1) * 256 ^ b.length ≤ x * 256 ^ b.length := Nat.mul_le_mul_right _ hxy
      rw [Nat.add_mul, Nat.one_mul] at this
      omega
theorem Less.inv {a b : List Nat} (h : Less a b) (hb : ∀ d ∈ b, d < 256) : Less (b.map (255 - ·)) (a.map (255 - ·)) := by
  obtain ⟨p, x, y, r, s, h, rfl, rfl⟩ := h
  have := hb y (by simp)
  exact ⟨p.map (255 - ·), 255 - y, 255 - x, s.map (255 - ·), r.map (255 - ·), by omega, by simp, by simp⟩
theorem digs_len_mono {m n : Nat} (h : m ≤ n) : (digs m).length ≤ (digs n).length := by
  apply digs_len_le
  have := val_lt (digs n) (digs_lt n)
  rw [val_digs] at this
  omega
theorem less_pos {m n : Nat} (h : m < n) : Less (enc (m : Int)) (enc (n : Int)) := by
  rw [enc_pos, enc_pos]
  rcases Nat.lt_or_eq_of_le (digs_len_mono (Nat.le_of_lt h)) with hl | hl
  · exact ⟨[], _, _, _, _, by omega, rfl, rfl⟩
  · rw [hl]
    exact (less_of_val _ _ hl (digs_lt m) (digs_lt n) (by rw [val_digs, val_digs]; exact h)).cons _
theorem less_neg {m n : Nat} (h : m < n) (hn : n ≤ 9223372036854775807) : Less (enc (-1 - (n : Int))) (enc (-1 - (m : Int))) := by
  rw [enc_neg, enc_neg]
  have h8 := digs_len8 hn
  rcases Nat.lt_or_eq_of_le (digs_len_mono (Nat.le_of_lt h)) with hl | hl
  · exact ⟨[], _, _, _, _, by omega, rfl, rfl⟩
  · rw [hl]
    exact ((less_of_val _ _ hl (digs_lt m) (digs_lt n) (by rw [val_digs, val_digs]; exact h)).inv (digs_lt n)).cons _
theorem less_enc {m n : Int} (hm : InR m) (hn : InR n) (h : m < n) : Less (enc m) (enc n) := by
  unfold InR at hm hn
  rcases Int.lt_or_le m 0 with h1 | h1
  · obtain ⟨M, rfl⟩ : ∃ M : Nat, m = -1 - (M : Int) := ⟨(-1 - m).toNat, by omega⟩
    rcases Int.lt_or_le n 0 with h2 | h2
    · obtain ⟨N, rfl⟩ : ∃ N : Nat, n = -1 - (N : Int) := ⟨(-1 - n).toNat, by omega⟩
      exact less_neg (by omega) (by omega)
    · obtain ⟨N, rfl⟩ := Int.eq_ofNat_of_zero_le h2
      rw [enc_neg, enc_pos]
      exact ⟨[], _, _, _, _, by omega, rfl, rfl⟩
  · obtain ⟨M, rfl⟩ := Int.eq_ofNat_of_zero_le h1
    obtain ⟨N, rfl⟩ := Int.eq_ofNat_of_zero_le (show 0 ≤ n by omega)
    exact less_pos (by omega)

/-! ### As strings. -/
theorem bytesLess_of : ∀ (p : List UInt8) (x y : UInt8) (r s : List UInt8), x < y → Op.bytesLess (p ++ x :: r) (p ++ y :: s) = true ∧ Op.bytesLess (p ++ y :: s) (p ++ x :: r) = false
  | [], x, y, r, s, h => by
    have h1 : ¬ y < x := fun h' => by rw [UInt8.lt_iff_toNat_lt] at h h'; omega
    have h2 : ¬ y = x := fun h' => by subst h'; rw [UInt8.lt_iff_toNat_lt] at h; omega
    simp [Op.bytesLess, h, h1, h2]
  | z :: p, x, y, r, s, h => by
    have := bytesLess_of p x y r s h
    simp [Op.bytesLess, this]
theorem bytesLess_self : ∀ l : List UInt8, Op.bytesLess l l = false
  | [] => rfl
  | x :: l => by simp [Op.bytesLess, bytesLess_self l]
theorem mkS_toList (l : List Nat) : (mkS l).toList = l.map UInt8.ofNat := by rw [ByteArray.toList_eq]; rfl
theorem u8_lt {x y : Nat} (h : x < y) (hy : y < 256) : UInt8.ofNat x < UInt8.ofNat y := by
  rw [UInt8.lt_iff_toNat_lt]; simp; omega
theorem extract_mkS (l : List Nat) (k : Nat) : ((mkS l).extract 0 k) = mkS (l.take k) := by
  apply sb_inj
  simp [sb, mkS, ByteArray.data_extract, List.map_take]
section
variable {a b : List Nat}
theorem Less.facts (h : Less a b) (hb : ∀ d ∈ b, d < 256) : Op.bytesLess (mkS a).toList (mkS b).toList = true ∧ Op.bytesLess (mkS b).toList (mkS a).toList = false ∧ ((mkS a).toList == (mkS b).toList) = false ∧
    ∀ k, min a.length b.length ≤ k → ((mkS (a.take k)).toList == (mkS (b.take k)).toList) = false := by
  obtain ⟨p, x, y, r, s, h, rfl, rfl⟩ := h
  have hy := hb y (by simp)
  have hxy := u8_lt h hy
  have hne : UInt8.ofNat x ≠ UInt8.ofNat y := fun e => by rw [e] at hxy; rw [UInt8.lt_iff_toNat_lt] at hxy; omega
  simp only [mkS_toList, List.map_append, List.map_cons]
  refine ⟨(bytesLess_of _ _ _ _ _ hxy).1, (bytesLess_of _ _ _ _ _ hxy).2, by simp [hne], fun k hk => ?_⟩
  have hpk : p.length + 1 ≤ k := by simp only [List.length_append, List.length_cons] at hk; omega
  obtain ⟨q, rfl⟩ := Nat.exists_eq_add_of_le hpk
  have e1 : (p ++ x :: r).take (p.length + 1 + q) = p ++ x :: r.take q := by
    rw [show p.length + 1 + q = p.length + (q + 1) by omega, List.take_append, List.take_of_length_le (by omega : p.length ≤ p.length + (q + 1))]; simp
  have e2 : (p ++ y :: s).take (p.length + 1 + q) = p ++ y :: s.take q := by
    rw [show p.length + 1 + q = p.length + (q + 1) by omega, List.take_append, List.take_of_length_le (by omega : p.length ≤ p.length + (q + 1))]; simp
  rw [e1, e2]
  simp [hne]
end
/-- What the order's statement compares. -/
theorem order_facts {m n : Int} (hm : InR m) (hn : InR n) :
    Op.bytesLess (mkS (enc m)).toList (mkS (enc n)).toList = decide (m < n) ∧ ((mkS (enc m)).toList == (mkS (enc n)).toList) = decide (m = n) ∧
    ((mkS ((enc m).take (min (enc m).length (enc n).length))).toList == (mkS ((enc n).take (min (enc m).length (enc n).length))).toList) = decide (m = n) := by
  rcases Int.lt_trichotomy m n with h | rfl | h
  · obtain ⟨h1, _, h3, h4⟩ := (less_enc hm hn h).facts (enc_lt n hn)
    rw [h1, h3, h4 _ (Nat.le_refl _)]
    simp [h]; omega
  · simp [bytesLess_self]
  · obtain ⟨_, h2, h3, h4⟩ := (less_enc hn hm h).facts (enc_lt m hm)
    have h3' : ((mkS (enc m)).toList == (mkS (enc n)).toList) = false := by rw [beq_eq_false_iff_ne] at h3 ⊢; exact fun e => h3 e.symm
    have h4' := h4 (min (enc m).length (enc n).length) (by rw [Nat.min_comm]; exact Nat.le_refl _)
    have h4'' : ((mkS ((enc m).take (min (enc m).length (enc n).length))).toList == (mkS ((enc n).take (min (enc m).length (enc n).length))).toList) = false := by rw [beq_eq_false_iff_ne] at h4' ⊢; exact fun e => h4' e.symm
    rw [h2, h3', h4'']
    simp; omega
end Go.Proofs.Ytecfhhnmokdkiaa
