/-
  Plain facts, no program: how a text is divided into tokens and blanks (layer 5), as functions on lists of bytes, and what follows of it.
-/
set_option linter.unusedVariables false
namespace Go.Proofs.YtfbookfaodfmdaaDoor

/-- The kinds of the bytes: 1 a space, 2 what begins a comment, 3 a digit, 4 a letter, 5 what begins a sign. -/
def kt : List Nat := [0, 0, 0, 0, 0, 0, 0, 0, 0, 0, 1, 0, 0, 0, 0, 0, 0, 0, 0, 0, 0, 0, 0, 0, 0, 0, 0, 0, 0, 0, 0, 0, 1, 0, 0, 2, 0, 5, 0, 0, 5, 5, 5, 5, 5, 5, 5, 5, 3, 3, 3, 3, 3, 3, 3, 3, 3, 3, 5, 0, 5, 5, 0, 0, 0, 4, 4, 4, 4, 4, 4, 4, 4, 4, 4, 4, 4, 4, 4, 4, 4, 4, 4, 4, 4, 4, 4, 4, 4, 4, 4, 5, 0, 5, 0, 0, 0, 4, 4, 4, 4, 4, 4, 4, 4, 4, 4, 4, 4, 4, 4, 4, 4, 4, 4, 4, 4, 4, 4, 4, 4, 4, 4, 5, 0, 5]
theorem kt_len : kt.length = 126 := rfl
def kd (c : Nat) : Nat := kt.getD c 0
theorem kd_big {c : Nat} (h : 126 ≤ c) : kd c = 0 := by
  unfold kd; rw [List.getD_eq_getElem?_getD, List.getElem?_eq_none (by rw [kt_len]; exact h)]; rfl
theorem kd_all {p : Nat → Nat → Bool} (hs : (List.range 126).all (fun c => p c (kd c)) = true) (hb : ∀ c, 126 ≤ c → p c 0 = true) (c : Nat) : p c (kd c) = true := by
  by_cases h : c < 126
  · exact List.all_eq_true.1 hs c (List.mem_range.2 h)
  · rw [kd_big (by omega)]; exact hb c (by omega)
theorem kd_le (c : Nat) : kd c ≤ 5 := by
  have := kd_all (p := fun _ k => decide (k ≤ 5)) (by decide +kernel) (by simp) c
  simpa using this
theorem kd_one {c : Nat} (h : kd c = 1) : c = 10 ∨ c = 32 := by
  have := kd_all (p := fun c k => decide (k = 1 → c = 10 ∨ c = 32)) (by decide +kernel) (by simp) c
  simp at this; omega
theorem kd_two {c : Nat} (h : kd c = 2) : c = 35 := by
  have := kd_all (p := fun c k => decide (k = 2 → c = 35)) (by decide +kernel) (by simp) c
  simp at this; omega
/-- The length of the comment at the beginning of a text. -/
def cmt : List Nat → Nat
  | [] => 0
  | c :: t => if c = 10 then 0 else cmt t + 1
/-- How many bytes at the beginning are digits or of the kind k. -/
def run (k : Nat) : List Nat → Nat
  | [] => 0
  | c :: t => if kd c = 3 ∨ kd c = k then run k t + 1 else 0
def wsz : List Nat → Nat
  | [] => 0
  | c :: t => run (kd c) t + 1
theorem cmt_cons (c : Nat) (t : List Nat) : cmt (c :: t) = if c = 10 then 0 else cmt t + 1 := rfl
theorem run_cons (k c : Nat) (t : List Nat) : run k (c :: t) = if kd c = 3 ∨ kd c = k then run k t + 1 else 0 := rfl
theorem wsz_cons (c : Nat) (t : List Nat) : wsz (c :: t) = run (kd c) t + 1 := rfl

/-- The signs, each behind the longer ones that begin with it. -/
def sg : List (List Nat) := [[61, 61], [45, 62], [40], [41], [123], [125], [91], [93], [44], [58], [46], [61], [43], [45], [42], [47], [37], [60]]
def sgnIn : List (List Nat) → List Nat → Nat
  | [], _ => 0
  | s :: r, l => if s.isPrefixOf l then s.length else sgnIn r l
def sgn (l : List Nat) : Nat := sgnIn sg l
/-- The size of the token at the beginning of a text; 0: there is none. -/
def tk : List Nat → Nat
  | [] => 0
  | c :: t => if kd c = 3 ∨ kd c = 4 then wsz (c :: t) else if kd c = 5 then sgn (c :: t) else 0

theorem tk_cons (c : Nat) (t : List Nat) : tk (c :: t) = if kd c = 3 ∨ kd c = 4 then wsz (c :: t) else if kd c = 5 then sgn (c :: t) else 0 := rfl
theorem sgnIn_take : ∀ (L : List (List Nat)) (l : List Nat), (∀ s ∈ L, s.length ≤ 2) → sgnIn L (l.take 2) = sgnIn L l
  | [], _, _ => rfl
  | s :: r, l, h => by
    have ih := sgnIn_take r l fun x hx => h x (List.mem_cons_of_mem _ hx)
    have hs := h s (List.mem_cons_self ..)
    have e : s.isPrefixOf (l.take 2) = s.isPrefixOf l := by
      match s, hs with
      | [], _ => simp
      | [a], _ => cases l with
        | nil => rfl
        | cons x l => cases l <;> rfl
      | [a, b], _ => match l with
        | [] => rfl
        | [x] => rfl
        | x :: y :: l => simp [List.isPrefixOf]
    unfold sgnIn
    rw [e, ih]
theorem sgn_take (l : List Nat) : sgn (l.take 2) = sgn l := sgnIn_take _ _ (by decide)
theorem sgnIn_mem : ∀ (L : List (List Nat)) (l : List Nat), 0 < sgnIn L l → l.take (sgnIn L l) ∈ L
  | [], _, h => by simp [sgnIn] at h
  | s :: r, l, h => by
    unfold sgnIn at h ⊢
    by_cases e : s.isPrefixOf l = true
    · rw [if_pos e]
      have h2 := List.isPrefixOf_iff_prefix.1 e
      rw [← List.prefix_iff_eq_take.1 h2]
      exact List.mem_cons_self ..
    · rw [if_neg e] at h ⊢
      exact List.mem_cons_of_mem _ (sgnIn_mem r l h)
theorem sgn_le (l : List Nat) : sgn l ≤ l.length := by
  by_cases h : 0 < sgn l
  · have h2 := sgnIn_mem sg l h
    have h3 : ∀ s ∈ sg, s.length ≤ 2 ∧ 0 < s.length ∧ sgn s = s.length := by decide
    have h4 := (h3 _ h2)
    have h5 : sgn (l.take (sgnIn sg l)) = sgn l := by
      show sgn (l.take (sgn l)) = sgn l
      by_cases hk : sgn l ≤ l.length
      · exact h4.2.2.trans (by rw [List.length_take]; show min (sgn l) _ = _; omega)
      · rw [List.take_of_length_le (by omega)]
    have h6 := h4.2.2
    rw [h5] at h6
    rw [List.length_take] at h6
    show sgn l ≤ _
    omega
  · omega
theorem run_le (k : Nat) : ∀ l : List Nat, run k l ≤ l.length
  | [] => Nat.le_refl _
  | c :: t => by
    rw [run_cons]
    have := run_le k t
    split <;> simp <;> omega
theorem tk_le : ∀ l : List Nat, tk l ≤ l.length
  | [] => Nat.le_refl _
  | c :: t => by
    rw [tk_cons]
    have := run_le (kd c) t
    have := sgn_le (c :: t)
    split
    · rw [wsz_cons, List.length_cons]; omega
    · split
      · assumption
      · omega
theorem cmt_le : ∀ l : List Nat, cmt l ≤ l.length
  | [] => Nat.le_refl _
  | c :: t => by
    have := cmt_le t
    rw [cmt_cons]
    split <;> simp <;> omega

/-! ### A token and what stands behind it. -/
theorem run_app (k : Nat) : ∀ (t r : List Nat), run k (t ++ r) = if run k t = t.length then t.length + run k r else run k t
  | [], r => by simp [run]
  | c :: t, r => by
    have ih := run_app k t r
    rw [List.cons_append, run_cons, run_cons]
    by_cases h : kd c = 3 ∨ kd c = k
    · rw [if_pos h, if_pos h, ih]
      by_cases e : run k t = t.length
      · rw [if_pos e, if_pos (by rw [e, List.length_cons]), List.length_cons]; omega
      · rw [if_neg e, if_neg (by rw [List.length_cons]; omega)]
    · rw [if_neg h, if_neg h, if_neg (by rw [List.length_cons]; omega)]
theorem run_one (k : Nat) (r : List Nat) : run k r = 0 ↔ run k (r.take 1) = 0 := by
  cases r with
  | nil => simp
  | cons c r =>
    rw [List.take_succ_cons, List.take_zero, run_cons, run_cons]
    by_cases h : kd c = 3 ∨ kd c = k
    · rw [if_pos h, if_pos h]; simp
    · rw [if_neg h, if_neg h]
/-- Whether a token ends where it does depends on the next byte alone. -/
theorem tk_head {t : List Nat} (r : List Nat) (h0 : t ≠ []) : tk (t ++ r) = t.length ↔ tk (t ++ r.take 1) = t.length := by
  cases t with
  | nil => exact absurd rfl h0
  | cons c t =>
    rw [List.cons_append, List.cons_append, tk_cons, tk_cons]
    by_cases h : kd c = 3 ∨ kd c = 4
    · rw [if_pos h, if_pos h]
      simp only [wsz, run_app, List.length_cons]
      have := run_one (kd c) r
      have h2 := run_le (kd c) t
      by_cases e : run (kd c) t = t.length
      · rw [if_pos e, if_pos e]; omega
      · rw [if_neg e, if_neg e]
    · rw [if_neg h, if_neg h]
      by_cases h5 : kd c = 5
      · rw [if_pos h5, if_pos h5, ← sgn_take (c :: (t ++ r)), ← sgn_take (c :: (t ++ r.take 1))]
        have e : (c :: (t ++ r)).take 2 = (c :: (t ++ r.take 1)).take 2 := by
          cases t with
          | nil => cases r <;> rfl
          | cons d t => rfl
        rw [e]
      · rw [if_neg h5, if_neg h5]
theorem tk_same {t r r' : List Nat} (h0 : t ≠ []) (h : tk (t ++ r) = t.length) (he : r'.take 1 = r.take 1) : tk (t ++ r') = t.length := by
  rw [tk_head r' h0, he, ← tk_head r h0]; exact h
theorem sg_self : ∀ s ∈ sg, sgn s = s.length := by decide
theorem tk_alone {t r : List Nat} (h0 : t ≠ []) (h : tk (t ++ r) = t.length) : tk t = t.length := by
  cases t with
  | nil => exact absurd rfl h0
  | cons c t =>
    rw [List.cons_append, tk_cons] at h
    rw [tk_cons]
    by_cases h3 : kd c = 3 ∨ kd c = 4
    · rw [if_pos h3] at h ⊢
      simp only [wsz, run_app, List.length_cons] at h ⊢
      have h2 := run_le (kd c) t
      split at h <;> omega
    · rw [if_neg h3] at h ⊢
      by_cases h5 : kd c = 5
      · rw [if_pos h5] at h ⊢
        have h6 := sgnIn_mem sg (c :: (t ++ r)) (by show 0 < sgn _; rw [h]; simp)
        have h7 : (c :: (t ++ r)).take (sgnIn sg (c :: (t ++ r))) = c :: t := by
          show (c :: (t ++ r)).take (sgn (c :: (t ++ r))) = _
          rw [h]; simp
        rw [h7] at h6
        exact sg_self _ h6
      · rw [if_neg h5] at h ⊢
        exact h
theorem sg_then : ∀ s ∈ sg, sgn (s ++ [10]) = s.length ∧ sgn (s ++ [32]) = s.length ∧ sgn (s ++ [35]) = s.length := by decide
/-- A token ends ahead of a blank. -/
theorem tk_blank {t r : List Nat} (h0 : t ≠ []) (h : tk t = t.length) (c : Nat) (hc : kd c = 1 ∨ kd c = 2) : tk (t ++ c :: r) = t.length := by
  rw [tk_head _ h0, List.take_succ_cons, List.take_zero]
  cases t with
  | nil => exact absurd rfl h0
  | cons d t =>
    rw [List.cons_append, tk_cons]
    rw [tk_cons] at h
    by_cases h3 : kd d = 3 ∨ kd d = 4
    · rw [if_pos h3] at h ⊢
      simp only [wsz, run_app, List.length_cons] at h ⊢
      have h2 := run_le (kd d) t
      have h4 : run (kd d) [c] = 0 := by
        rw [run_cons, if_neg (by omega)]
      rw [if_pos (by omega), h4]
    · rw [if_neg h3] at h ⊢
      by_cases h5 : kd d = 5
      · rw [if_pos h5] at h ⊢
        have h6 := sgnIn_mem sg (d :: t) (by show 0 < sgn _; rw [h]; simp)
        have h7 : (d :: t).take (sgnIn sg (d :: t)) = d :: t := by
          show (d :: t).take (sgn (d :: t)) = _
          rw [h]; simp
        rw [h7] at h6
        have h8 := sg_then _ h6
        rcases hc with hc | hc
        · rcases kd_one hc with rfl | rfl
          · exact h8.1
          · exact h8.2.1
        · rw [kd_two hc]; exact h8.2.2
      · rw [if_neg h5] at h
        simp at h

/-! ### The text is read. -/
inductive Res
  | ok (T : List (List Nat × List Nat)) (e : List Nat)
  | bad (n : Nat)
def Res.app (T : List (List Nat × List Nat)) (k : Nat) : Res → Res
  | .ok T' e => .ok (T ++ T') e
  | .bad n => .bad (k + n)
def scn : Nat → List Nat → List Nat → Res
  | 0, p, l => .ok [] p
  | n + 1, p, [] => .ok [] p
  | n + 1, p, c :: t =>
    if kd c = 1 then (scn n (p ++ [c]) t).app [] 1
    else if kd c = 2 then (scn n (p ++ (c :: t).take (cmt (c :: t))) ((c :: t).drop (cmt (c :: t)))).app [] (cmt (c :: t))
    else if tk (c :: t) = 0 ∨ 16 < tk (c :: t) then .bad 0
    else (scn n [] ((c :: t).drop (tk (c :: t)))).app [((c :: t).take (tk (c :: t)), p)] (tk (c :: t))
theorem cmt_pos {c : Nat} {t : List Nat} (h : kd c = 2) : 0 < cmt (c :: t) := by
  rw [kd_two h, cmt_cons]; simp
theorem scn_more : ∀ (n m : Nat) (p l : List Nat), l.length ≤ n → l.length ≤ m → scn n p l = scn m p l := by
  intro n
  induction n with
  | zero =>
    intro m p l h _
    have : l = [] := List.eq_nil_of_length_eq_zero (by omega)
    subst this
    cases m <;> rfl
  | succ n ih =>
    intro m p l h h'
    cases l with
    | nil => cases m <;> rfl
    | cons c t =>
      cases m with
      | zero => simp at h'
      | succ m =>
        simp only [List.length_cons] at h h'
        unfold scn
        by_cases h1 : kd c = 1
        · rw [if_pos h1, if_pos h1, ih m _ _ (by omega) (by omega)]
        · rw [if_neg h1, if_neg h1]
          by_cases h2 : kd c = 2
          · have hp := cmt_pos (t := t) h2
            rw [if_pos h2, if_pos h2, ih m _ _ (by rw [List.length_drop, List.length_cons]; omega) (by rw [List.length_drop, List.length_cons]; omega)]
          · rw [if_neg h2, if_neg h2]
            by_cases h3 : tk (c :: t) = 0 ∨ 16 < tk (c :: t)
            · rw [if_pos h3, if_pos h3]
            · rw [if_neg h3, if_neg h3, ih m _ _ (by rw [List.length_drop, List.length_cons]; omega) (by rw [List.length_drop, List.length_cons]; omega)]
/-- What is read of a text, of which p has been read as blanks. -/
def S (p l : List Nat) : Res := scn l.length p l
theorem S_nil (p : List Nat) : S p [] = .ok [] p := rfl
theorem S_space {p t : List Nat} {c : Nat} (h : kd c = 1) : S p (c :: t) = (S (p ++ [c]) t).app [] 1 := by
  unfold S; rw [List.length_cons, scn, if_pos h]
theorem S_cmt {p t : List Nat} {c : Nat} (h : kd c = 2) : S p (c :: t) = (S (p ++ (c :: t).take (cmt (c :: t))) ((c :: t).drop (cmt (c :: t)))).app [] (cmt (c :: t)) := by
  have hp := cmt_pos (t := t) h
  unfold S
  rw [List.length_cons, scn, if_neg (by omega), if_pos h, scn_more t.length _ _ _ (by rw [List.length_drop, List.length_cons]; omega) (Nat.le_refl _)]
theorem S_bad {p t : List Nat} {c : Nat} (h1 : kd c ≠ 1) (h2 : kd c ≠ 2) (h : tk (c :: t) = 0 ∨ 16 < tk (c :: t)) : S p (c :: t) = .bad 0 := by
  unfold S
  rw [List.length_cons, scn, if_neg h1, if_neg h2, if_pos h]
theorem S_tok {p t : List Nat} {c : Nat} (h1 : kd c ≠ 1) (h2 : kd c ≠ 2) (h : ¬ (tk (c :: t) = 0 ∨ 16 < tk (c :: t))) : S p (c :: t) = (S [] ((c :: t).drop (tk (c :: t)))).app [((c :: t).take (tk (c :: t)), p)] (tk (c :: t)) := by
  unfold S
  rw [List.length_cons, scn, if_neg h1, if_neg h2, if_neg h, scn_more t.length _ _ _ (by rw [List.length_drop, List.length_cons]; omega) (Nat.le_refl _)]
theorem app_app (T T' : List (List Nat × List Nat)) (k k' : Nat) (r : Res) : (r.app T' k').app T k = r.app (T ++ T') (k + k') := by
  cases r <;> simp [Res.app, Nat.add_assoc]
theorem app_nil (r : Res) : r.app [] 0 = r := by cases r <;> simp [Res.app]
theorem app_ok {T : List (List Nat × List Nat)} {k : Nat} {r : Res} {T' : List (List Nat × List Nat)} {e : List Nat} (h : r.app T k = .ok T' e) : ∃ T2, r = .ok T2 e ∧ T' = T ++ T2 := by
  cases r <;> simp [Res.app] at h
  obtain ⟨rfl, rfl⟩ := h
  exact ⟨_, rfl, rfl⟩
theorem app_bad {T : List (List Nat × List Nat)} {k n : Nat} {r : Res} (h : r.app T k = .bad n) : ∃ m, r = .bad m ∧ n = k + m := by
  cases r <;> simp [Res.app] at h
  exact ⟨_, rfl, h.symm⟩
end Go.Proofs.YtfbookfaodfmdaaDoor
