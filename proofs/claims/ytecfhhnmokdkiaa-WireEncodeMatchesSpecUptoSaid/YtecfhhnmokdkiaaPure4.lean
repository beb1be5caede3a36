/-
  Plain facts, no program: lists are decoded as they were encoded, what is decoded is an encoding, and a proper beginning asks for more.
-/
import Derived.Test.YtecfhhnmokdkiaaPure3
set_option linter.unusedVariables false
namespace Go.Proofs.Ytecfhhnmokdkiaa

/-- A byte string, encoded. -/
def encB (l : List Nat) : List Nat := enc l.length ++ l

theorem getLen_enc (least n : Nat) (t : List Nat) (hl : 0 < least) (hn : n ≤ 9223372036854775807) (ht : n * least ≤ t.length) : getLen least (enc (n : Int) ++ t) = ((n : Int), (enc (n : Int)).length, 0) := by
  rw [getLen_eq (dec_enc n (by omega) (by omega) t)]
  rw [if_neg (by simp), if_neg (by omega), if_neg]
  simp only [List.length_append, Int.toNat_natCast]
  rw [Nat.add_sub_cancel_left]
  have := (Nat.le_div_iff_mul_le hl).2 ht
  omega
theorem getBytes_enc (l t : List Nat) (hl : l.length ≤ 9223372036854775807) : getBytes (encB l ++ t) = (l, (encB l).length, 0) := by
  have h := getLen_enc 1 l.length (l ++ t) (by omega) hl (by simp)
  unfold encB
  rw [List.append_assoc, getBytes_eq h, if_neg (by simp)]
  simp
section
variable {α : Type} {g : List Nat → α × Nat × Nat} {f : α → List Nat}
theorem items_enc' {l : List α} (hg : ∀ x ∈ l, ∀ t : List Nat, g (f x ++ t) = (x, (f x).length, 0)) (t : List Nat) : items g l.length (l.flatMap f ++ t) = (l, (l.flatMap f).length, 0) := by
  induction l with
  | nil => rfl
  | cons x l ih =>
    have h := hg x (by simp) (l.flatMap f ++ t)
    have h2 := items_good g (n := (x :: l).length) (b := (x :: l).flatMap f ++ t) (by simpa using h) (by simp)
    rw [h2]
    have e : ((x :: l).flatMap f ++ t).drop (f x).length = l.flatMap f ++ t := by simp
    rw [e, List.length_cons, Nat.add_sub_cancel, ih (fun y hy => hg y (by simp [hy]))]
    unfold comb; simp
theorem flatMap_len_ge {c : Nat} {l : List α} (h : ∀ x ∈ l, c ≤ (f x).length) : l.length * c ≤ (l.flatMap f).length := by
  induction l with
  | nil => simp
  | cons x l ih =>
    have h1 := h x (by simp)
    have h2 := ih (fun y hy => h y (by simp [hy]))
    simp only [List.flatMap_cons, List.length_append, List.length_cons, Nat.add_mul, Nat.one_mul]
    omega
theorem getL_enc {least : Nat} {l : List α} (hl : 0 < least) (hn : l.length ≤ 9223372036854775807) (hf : ∀ x ∈ l, least ≤ (f x).length) (hg : ∀ x ∈ l, ∀ t : List Nat, g (f x ++ t) = (x, (f x).length, 0)) (t : List Nat) :
    getL least g (encL f l ++ t) = (l, (encL f l).length, 0) := by
  have hge := flatMap_len_ge hf
  have h := getLen_enc least l.length (l.flatMap f ++ t) hl hn (by rw [List.length_append]; omega)
  unfold encL
  rw [List.append_assoc, getL_eq h, if_neg (by simp)]
  have e : (enc (l.length : Int) ++ (l.flatMap f ++ t)).drop (enc (l.length : Int)).length = l.flatMap f ++ t := by simp
  rw [e, Int.toNat_natCast, items_enc' hg]
  unfold comb; simp

/-! ### What is decoded is an encoding. -/
theorem items_canon (hg : ∀ (b : List Nat) (x : α) (k : Nat), (∀ d ∈ b, d < 256) → g b = (x, k, 0) → b.take k = f x) : ∀ (n : Nat) (b : List Nat) (l : List α) (k : Nat), (∀ d ∈ b, d < 256) → items g n b = (l, k, 0) → b.take k = l.flatMap f ∧ l.length = n
  | 0, b, l, k, _, h => by
    simp only [items, Prod.mk.injEq] at h
    obtain ⟨rfl, rfl, _⟩ := h
    simp
  | n + 1, b, l, k, hb, h => by
    obtain ⟨x, j, er, hx⟩ : ∃ x j er, g b = (x, j, er) := ⟨_, _, _, rfl⟩
    by_cases he : er = 0
    · subst he
      rw [items_good g hx (by omega), Nat.add_sub_cancel] at h
      obtain ⟨l', k', er', hi⟩ : ∃ l' k' er', items g n (b.drop j) = (l', k', er') := ⟨_, _, _, rfl⟩
      rw [hi] at h
      unfold comb at h
      by_cases he' : er' = 0
      · subst he'
        simp only [ne_eq, not_true, if_false, Prod.mk.injEq, and_true] at h
        obtain ⟨rfl, rfl⟩ := h
        have ih := items_canon hg n (b.drop j) l' k' (fun d hd => hb d (List.mem_of_mem_drop hd)) hi
        refine ⟨?_, by simp [ih.2]⟩
        rw [List.take_add, hg b x j hb hx, ih.1]
        simp
      · simp [he'] at h
    · rw [items_bad g hx he (by omega)] at h
      simp only [Prod.mk.injEq] at h
      exact absurd h.2.2 he
theorem getL_canon {least : Nat} (hl : 0 < least) (hg : ∀ (b : List Nat) (x : α) (k : Nat), (∀ d ∈ b, d < 256) → g b = (x, k, 0) → b.take k = f x) {b : List Nat} {l : List α} {u : Nat} (hb : ∀ d ∈ b, d < 256) (h : getL least g b = (l, u, 0)) :
    b.take u = encL f l := by
  obtain ⟨n, k, er, hd⟩ : ∃ n k er, getLen least b = (n, k, er) := ⟨_, _, _, rfl⟩
  rw [getL_eq hd] at h
  by_cases he : er = 0
  · subst he
    rw [if_neg (by simp)] at h
    obtain ⟨h1, h2, h3, h4⟩ := getLen_ok hl hd
    obtain ⟨l', k', er', hi⟩ : ∃ l' k' er', items g n.toNat (b.drop k) = (l', k', er') := ⟨_, _, _, rfl⟩
    rw [hi] at h
    unfold comb at h
    by_cases he' : er' = 0
    · subst he'
      simp only [ne_eq, not_true, if_false, List.nil_append, Prod.mk.injEq, and_true] at h
      obtain ⟨rfl, rfl⟩ := h
      have hc := items_canon hg _ _ _ _ (fun d hd => hb d (List.mem_of_mem_drop hd)) hi
      have hn := enc_dec hb h4
      unfold encL
      rw [List.take_add, hn, hc.1, hc.2]
      congr 2; omega
    · simp [he'] at h
  · rw [if_pos he] at h
    simp only [Prod.mk.injEq] at h
    exact absurd h.2.2 he
theorem getL_len {least : Nat} {b : List Nat} {l : List α} {u er : Nat} (hg : ∀ (b : List Nat), (g b).2.2 = 0 → (g b).2.1 ≤ b.length) (hl : 0 < least) (h : getL least g b = (l, u, er)) : u ≤ b.length := by
  have hi : ∀ n b, (items g n b).2.1 ≤ b.length := by
    intro n
    induction n with
    | zero => intro b; simp [items]
    | succ n ih =>
      intro b
      unfold items
      split
      · simp
      · rename_i h0
        unfold comb
        split
        · simp
        · have h1 := hg b (by simpa using h0)
          have h2 := ih (b.drop (g b).2.1)
          rw [List.length_drop] at h2
          simp; omega
  obtain ⟨n, k, er', hd⟩ : ∃ n k er, getLen least b = (n, k, er) := ⟨_, _, _, rfl⟩
  rw [getL_eq hd] at h
  split at h
  · cases h; omega
  · rename_i h1
    have h1 : er' = 0 := by omega
    subst h1
    obtain ⟨h1, h2, h3, h4⟩ := getLen_ok hl hd
    have h5 := hi n.toNat (b.drop k)
    rw [List.length_drop] at h5
    unfold comb at h
    have h6 : n.toNat * 1 ≤ n.toNat * least := Nat.mul_le_mul_left _ hl
    split at h <;> (cases h; omega)
end
theorem getBytes_canon {b l : List Nat} {u : Nat} (hb : ∀ d ∈ b, d < 256) (h : getBytes b = (l, u, 0)) : b.take u = encB l := by
  obtain ⟨n, k, er, hd⟩ : ∃ n k er, getLen 1 b = (n, k, er) := ⟨_, _, _, rfl⟩
  rw [getBytes_eq hd] at h
  by_cases he : er = 0
  · subst he
    rw [if_neg (by simp)] at h
    obtain ⟨h1, h2, h3, h4⟩ := getLen_ok (by omega) hd
    simp only [Prod.mk.injEq, and_true] at h
    obtain ⟨rfl, rfl⟩ := h
    have hn := enc_dec hb h4
    unfold encB
    rw [List.take_add, hn]
    congr 2
    rw [List.length_take, List.length_drop]; omega
  · rw [if_pos he] at h
    simp only [Prod.mk.injEq] at h
    exact absurd h.2.2 he

/-! ### A proper beginning asks for more. -/
theorem dec_short_enc (n : Int) (h1 : -9223372036854775808 ≤ n) (h2 : n ≤ 9223372036854775807) (i : Nat) (hi : i < (enc n).length) : dec ((enc n).take i) = (0, 0, 3) := by
  cases i with
  | zero => rfl
  | succ i =>
    obtain ⟨x, t, hx⟩ : ∃ x t, enc n = x :: t := by
      cases he : enc n with
      | nil => rw [he] at hi; simp at hi
      | cons x t => exact ⟨x, t, rfl⟩
    have hk : kOf x = t.length ∧ t.length ≤ 8 := by
      by_cases h : 0 ≤ n
      · obtain ⟨m, rfl⟩ := Int.eq_ofNat_of_zero_le h
        have h8 := digs_len8 (n := m) (by omega)
        rw [enc_pos] at hx
        cases hx
        exact ⟨by unfold kOf; rw [if_neg (by omega)]; omega, h8⟩
      · obtain ⟨m, hm⟩ := Int.eq_ofNat_of_zero_le (show 0 ≤ -1 - n by omega)
        have hn : n = -1 - (m : Int) := by omega
        subst hn
        have h8 := digs_len8 (n := m) (by omega)
        rw [enc_neg] at hx
        cases hx
        simp only [List.length_map]
        exact ⟨by unfold kOf; rw [if_pos (by omega)]; omega, h8⟩
    rw [hx] at hi ⊢
    rw [List.take_succ_cons, dec_short hk.1 (by omega) (by rw [List.length_take]; simp at hi; omega)]
theorem getLen_short {least n : Nat} (t : List Nat) (hl : 0 < least) (hn : n ≤ 9223372036854775807) (i : Nat) (hi : i < (enc (n : Int) ++ t).length) (ht : t.length < n * least + 1) (ht2 : i < (enc (n : Int)).length ∨ i - (enc (n : Int)).length < n * least) : getLen least ((enc (n : Int) ++ t).take i) = (0, 0, 3) := by
  by_cases h : i < (enc (n : Int)).length
  · rw [List.take_append_of_le_length (by omega), getLen_eq (dec_short_enc n (by omega) (by omega) i h)]
    simp
  · have e : (enc (n : Int) ++ t).take i = enc (n : Int) ++ t.take (i - (enc (n : Int)).length) := by
      rw [List.take_append]; congr 1; exact List.take_of_length_le (by omega)
    rw [e, getLen_eq (dec_enc n (by omega) (by omega) _), if_neg (by simp), if_neg (by omega), if_pos]
    simp only [List.length_append, Int.toNat_natCast, Nat.add_sub_cancel_left]
    rw [Nat.div_lt_iff_lt_mul hl, List.length_take]
    omega
theorem getBytes_short (l : List Nat) (hl : l.length ≤ 9223372036854775807) (i : Nat) (hi : i < (encB l).length) : getBytes ((encB l).take i) = ([], 0, 3) := by
  have h := getLen_short (least := 1) (n := l.length) l (by omega) hl i hi (by omega) (by unfold encB at hi; rw [List.length_append] at hi; omega)
  unfold encB
  rw [getBytes_eq h]; simp
section
variable {α : Type} {g : List Nat → α × Nat × Nat} {f : α → List Nat}
theorem items_short {l : List α} (hg : ∀ x ∈ l, ∀ t : List Nat, g (f x ++ t) = (x, (f x).length, 0)) (hs : ∀ x ∈ l, ∀ i, i < (f x).length → (g ((f x).take i)).2.2 = 3) : ∀ i, i < (l.flatMap f).length → (items g l.length ((l.flatMap f).take i)).2.2 = 3 := by
  induction l with
  | nil => intro i hi; simp at hi
  | cons x l ih =>
    intro i hi
    simp only [List.flatMap_cons, List.length_append] at hi
    by_cases h : i < (f x).length
    · have e : ((x :: l).flatMap f).take i = (f x).take i := by
        simp only [List.flatMap_cons]; rw [List.take_append_of_le_length (by omega)]
      rw [e]
      obtain ⟨y, k, er, hy⟩ : ∃ y k er, g ((f x).take i) = (y, k, er) := ⟨_, _, _, rfl⟩
      have h3 := hs x (by simp) i h
      rw [hy] at h3
      simp at h3
      subst h3
      rw [items_bad g hy (by omega) (by simp)]
    · have e : ((x :: l).flatMap f).take i = f x ++ (l.flatMap f).take (i - (f x).length) := by
        simp only [List.flatMap_cons]
        rw [List.take_append]; congr 1; exact List.take_of_length_le (by omega)
      rw [e, items_good g (hg x (by simp) _) (by simp)]
      have e2 : (f x ++ (l.flatMap f).take (i - (f x).length)).drop (f x).length = (l.flatMap f).take (i - (f x).length) := by simp
      rw [e2, List.length_cons, Nat.add_sub_cancel]
      have := ih (fun y hy => hg y (by simp [hy])) (fun y hy => hs y (by simp [hy])) (i - (f x).length) (by omega)
      unfold comb
      rw [this]; simp
theorem getL_short {least : Nat} {l : List α} (hl : 0 < least) (hn : l.length ≤ 9223372036854775807) (hf : ∀ x ∈ l, least ≤ (f x).length) (hg : ∀ x ∈ l, ∀ t : List Nat, g (f x ++ t) = (x, (f x).length, 0)) (hs : ∀ x ∈ l, ∀ i, i < (f x).length → (g ((f x).take i)).2.2 = 3)
    (i : Nat) (hi : i < (encL f l).length) : (getL least g ((encL f l).take i)).2.2 = 3 := by
  by_cases h : i < (enc (l.length : Int)).length
  · have hd : getLen least ((encL f l).take i) = (0, 0, 3) := by
      unfold encL
      rw [List.take_append_of_le_length (by omega), getLen_eq (dec_short_enc l.length (by omega) (by omega) i h)]
      simp
    rw [getL_eq hd]; simp
  · have e : (encL f l).take i = enc (l.length : Int) ++ (l.flatMap f).take (i - (enc (l.length : Int)).length) := by
      unfold encL
      rw [List.take_append]; congr 1; exact List.take_of_length_le (by omega)
    have hi2 : i - (enc (l.length : Int)).length < (l.flatMap f).length := by unfold encL at hi; rw [List.length_append] at hi; omega
    rw [e]
    have hd := dec_enc l.length (by omega) (by omega) ((l.flatMap f).take (i - (enc (l.length : Int)).length))
    have hgl := getLen_eq (least := least) hd
    rw [if_neg (by simp), if_neg (by omega)] at hgl
    split at hgl
    · rw [getL_eq hgl]; simp
    · rw [getL_eq hgl, if_neg (by simp)]
      have e2 : (enc (l.length : Int) ++ (l.flatMap f).take (i - (enc (l.length : Int)).length)).drop (enc (l.length : Int)).length = (l.flatMap f).take (i - (enc (l.length : Int)).length) := by simp
      rw [e2, Int.toNat_natCast]
      have := items_short hg hs _ hi2
      unfold comb
      rw [this]; simp
end
end Go.Proofs.Ytecfhhnmokdkiaa
