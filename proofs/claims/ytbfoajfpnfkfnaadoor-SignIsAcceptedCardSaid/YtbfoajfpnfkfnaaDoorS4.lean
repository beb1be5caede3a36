/-
  Plain facts, no program: the digits of different digests cross.
-/
import Derived.Test.YtbfoajfpnfkfnaaDoorS2
set_option linter.unusedVariables false
namespace Go.Proofs.YtbfoajfpnfkfnaaDoor

theorem dig4_inj {a b : Nat} (ha : a < 256) (hb : b < 256) (h : dig4 a = dig4 b) : a = b := by
  simp only [dig4, List.cons.injEq, and_true] at h
  omega
theorem dg64_inj : ∀ {a b : List Nat}, a.length = b.length → AllB a → AllB b → dg64 a = dg64 b → a = b
  | [], [], _, _, _, _ => rfl
  | [], _ :: _, h, _, _, _ => by simp at h
  | _ :: _, [], h, _, _, _ => by simp at h
  | x :: a, y :: b, h, ha, hb, e => by
    unfold dg64 at e
    rw [List.flatMap_cons, List.flatMap_cons] at e
    have h1 := List.append_inj e (by rw [dig4_len, dig4_len])
    have h2 : x = y := dig4_inj (ha x (List.mem_cons_self ..)) (hb y (List.mem_cons_self ..)) h1.1
    have h3 : a = b := dg64_inj (by simpa using h) (fun z hz => ha z (List.mem_cons_of_mem _ hz)) (fun z hz => hb z (List.mem_cons_of_mem _ hz)) h1.2
    rw [h2, h3]
/-- Nowhere greater, and not the same: somewhere less, and the checksum is greater. -/
theorem below_chk : ∀ {x y : List Nat}, x.length = y.length → (∀ v ∈ x, v < 4) → (∀ v ∈ y, v < 4) → (∀ i, x.getD i 0 ≤ y.getD i 0) → chk y ≤ chk x ∧ (x ≠ y → chk y < chk x ∧ ∃ i, i < x.length ∧ x.getD i 0 < y.getD i 0)
  | [], [], _, _, _, _ => ⟨Nat.le_refl _, fun h => absurd rfl h⟩
  | [], _ :: _, h, _, _, _ => by simp at h
  | _ :: _, [], h, _, _, _ => by simp at h
  | a :: x, b :: y, h, hx, hy, hle => by
    have ih := below_chk (x := x) (y := y) (by simpa using h) (fun v hv => hx v (List.mem_cons_of_mem _ hv)) (fun v hv => hy v (List.mem_cons_of_mem _ hv)) (fun i => by have := hle (i + 1); simpa using this)
    have h0 : a ≤ b := by have := hle 0; simpa using this
    have ha := hx a (List.mem_cons_self ..)
    have hb := hy b (List.mem_cons_self ..)
    have e1 : chk (a :: x) = (3 - a) + chk x := by unfold chk; rw [List.map_cons, List.sum_cons]
    have e2 : chk (b :: y) = (3 - b) + chk y := by unfold chk; rw [List.map_cons, List.sum_cons]
    rw [e1, e2]
    refine ⟨by omega, fun hne => ?_⟩
    by_cases hab : a = b
    · subst hab
      have hxy : x ≠ y := fun e => hne (by rw [e])
      obtain ⟨h1, i, h2, h3⟩ := ih.2 hxy
      exact ⟨by omega, i + 1, by simpa using h2, by simpa using h3⟩
    · exact ⟨by omega, 0, by simp, by simp; omega⟩
theorem dig4_cross {n m : Nat} (hn : n < 256) (hm : m < 256) (h : m < n) : ∃ i, i < 4 ∧ (dig4 m).getD i 0 < (dig4 n).getD i 0 := by
  have a1 : m / 4 / 4 = m / 16 := by rw [Nat.div_div_eq_div_mul]
  have a2 : m / 16 / 4 = m / 64 := by rw [Nat.div_div_eq_div_mul]
  have b1 : n / 4 / 4 = n / 16 := by rw [Nat.div_div_eq_div_mul]
  have b2 : n / 16 / 4 = n / 64 := by rw [Nat.div_div_eq_div_mul]
  by_cases h0 : m / 64 % 4 < n / 64 % 4
  · exact ⟨0, by decide, by simpa [dig4] using h0⟩
  · by_cases h1 : m / 16 % 4 < n / 16 % 4
    · exact ⟨1, by decide, by simpa [dig4] using h1⟩
    · by_cases h2 : m / 4 % 4 < n / 4 % 4
      · exact ⟨2, by decide, by simpa [dig4] using h2⟩
      · have l3 : m / 64 ≤ n / 64 := Nat.div_le_div_right (by omega)
        have l2 : m / 16 ≤ n / 16 := Nat.div_le_div_right (by omega)
        have l1 : m / 4 ≤ n / 4 := Nat.div_le_div_right (by omega)
        have s1 : m / 64 < 4 := by omega
        have s2 : n / 64 < 4 := by omega
        have e3 : m / 64 = n / 64 := by omega
        have e2 : m / 16 = n / 16 := by omega
        have e1 : m / 4 = n / 4 := by omega
        have e0 : m % 4 < n % 4 := by omega
        exact ⟨3, by decide, by simpa [dig4] using e0⟩
theorem getD_left (a b : List Nat) (i : Nat) (h : i < a.length) : (a ++ b).getD i 0 = a.getD i 0 := by
  rw [List.getD_eq_getElem?_getD, List.getD_eq_getElem?_getD, List.getElem?_append_left h]
theorem getD_right (a b : List Nat) (i : Nat) : (a ++ b).getD (a.length + i) 0 = b.getD i 0 := by
  rw [List.getD_eq_getElem?_getD, List.getD_eq_getElem?_getD, List.getElem?_append_right (by omega), Nat.add_sub_cancel_left]
/-- P3.6, one half: somewhere less, somewhere more. -/
theorem cross {a b : List Nat} (hla : a.length = 16) (hlb : b.length = 16) (ha : AllB a) (hb : AllB b) (hne : a ≠ b) :
    (∃ i, i < 68 ∧ (digL a).getD i 0 < (digL b).getD i 0) ∧ (∃ i, i < 68 ∧ (digL b).getD i 0 < (digL a).getD i 0) := by
  have la : (dg64 a).length = 64 := by rw [dg64_len, hla]
  have lb : (dg64 b).length = 64 := by rw [dg64_len, hlb]
  have hx : dg64 a ≠ dg64 b := fun e => hne (dg64_inj (by rw [hla, hlb]) ha hb e)
  have ca : chk (dg64 a) < 256 := by have := chk_le (dg64 a); omega
  have cb : chk (dg64 b) < 256 := by have := chk_le (dg64 b); omega
  have lift : ∀ {x y : List Nat}, (dg64 x).length = 64 → (dg64 y).length = 64 → (∃ i, i < 64 ∧ (dg64 x).getD i 0 < (dg64 y).getD i 0) → ∃ i, i < 68 ∧ (digL x).getD i 0 < (digL y).getD i 0 := by
    rintro x y h1 h2 ⟨i, hi, h⟩
    refine ⟨i, by omega, ?_⟩
    unfold digL
    rwa [getD_left _ _ _ (by omega), getD_left _ _ _ (by omega)]
  have last : ∀ {x y : List Nat}, (dg64 x).length = 64 → (dg64 y).length = 64 → chk (dg64 x) < 256 → chk (dg64 y) < 256 → chk (dg64 x) < chk (dg64 y) → ∃ i, i < 68 ∧ (digL x).getD i 0 < (digL y).getD i 0 := by
    intro x y h1 h2 h3 h4 h5
    obtain ⟨i, hi, h⟩ := dig4_cross h4 h3 h5
    refine ⟨64 + i, by omega, ?_⟩
    have e1 := getD_right (dg64 x) (dig4 (chk (dg64 x))) i
    have e2 := getD_right (dg64 y) (dig4 (chk (dg64 y))) i
    rw [h1] at e1
    rw [h2] at e2
    unfold digL
    rwa [e1, e2]
  by_cases hm : ∃ i, i < 64 ∧ (dg64 b).getD i 0 < (dg64 a).getD i 0
  · by_cases hl : ∃ i, i < 64 ∧ (dg64 a).getD i 0 < (dg64 b).getD i 0
    · exact ⟨lift la lb hl, lift lb la hm⟩
    · have hle : ∀ i, (dg64 b).getD i 0 ≤ (dg64 a).getD i 0 := fun i => by
        by_cases hi : i < 64
        · exact Nat.not_lt.1 fun h => hl ⟨i, hi, h⟩
        · rw [List.getD_eq_getElem?_getD, List.getElem?_eq_none (by omega)]; exact Nat.zero_le _
      have h := (below_chk (by rw [la, lb]) (dg64_lt b) (dg64_lt a) hle).2 (Ne.symm hx)
      exact ⟨last la lb ca cb h.1, lift lb la hm⟩
  · have hle : ∀ i, (dg64 a).getD i 0 ≤ (dg64 b).getD i 0 := fun i => by
      by_cases hi : i < 64
      · exact Nat.not_lt.1 fun h => hm ⟨i, hi, h⟩
      · rw [List.getD_eq_getElem?_getD, List.getElem?_eq_none (by omega)]; exact Nat.zero_le _
    have h := (below_chk (by rw [la, lb]) (dg64_lt a) (dg64_lt b) hle).2 hx
    obtain ⟨h1, i, h2, h3⟩ := h
    exact ⟨lift la lb ⟨i, by omega, h3⟩, last lb la cb ca h1⟩
end Go.Proofs.YtbfoajfpnfkfnaaDoor
