/-
  Plain facts, no program: what follows of how a text is read: nothing is lost, tokens are read alone as they are, texts can be joined, errors stand where they are said to.
-/
import Derived.Test.YtfbookfaodfmdaaDoorLA
set_option linter.unusedVariables false
namespace Go.Proofs.YtfbookfaodfmdaaDoor

/-- The text of tokens. -/
def cat (T : List (List Nat × List Nat)) : List Nat := T.flatMap fun x => x.2 ++ x.1
theorem cat_nil : cat [] = [] := rfl
theorem cat_cons (x : List Nat × List Nat) (T : List (List Nat × List Nat)) : cat (x :: T) = x.2 ++ x.1 ++ cat T := rfl
theorem cat_app (T T' : List (List Nat × List Nat)) : cat (T ++ T') = cat T ++ cat T' := by simp [cat]

/-- One step of the reading, each kind of byte. -/
theorem S_cases (p l : List Nat) :
    (l = [] ∧ S p l = .ok [] p) ∨
    (∃ c t, l = c :: t ∧ kd c = 1 ∧ S p l = (S (p ++ [c]) t).app [] 1) ∨
    (∃ c t k, l = c :: t ∧ kd c = 2 ∧ k = cmt l ∧ 0 < k ∧ k ≤ l.length ∧ S p l = (S (p ++ l.take k) (l.drop k)).app [] k) ∨
    (∃ c t, l = c :: t ∧ kd c ≠ 1 ∧ kd c ≠ 2 ∧ (tk l = 0 ∨ 16 < tk l) ∧ S p l = .bad 0) ∨
    (∃ c t k, l = c :: t ∧ kd c ≠ 1 ∧ kd c ≠ 2 ∧ k = tk l ∧ 0 < k ∧ k ≤ 16 ∧ k ≤ l.length ∧ S p l = (S [] (l.drop k)).app [(l.take k, p)] k) := by
  cases l with
  | nil => exact .inl ⟨rfl, rfl⟩
  | cons c t =>
    by_cases h1 : kd c = 1
    · exact .inr (.inl ⟨c, t, rfl, h1, S_space h1⟩)
    · by_cases h2 : kd c = 2
      · exact .inr (.inr (.inl ⟨c, t, _, rfl, h2, rfl, cmt_pos h2, cmt_le _, S_cmt h2⟩))
      · by_cases h3 : tk (c :: t) = 0 ∨ 16 < tk (c :: t)
        · exact .inr (.inr (.inr (.inl ⟨c, t, rfl, h1, h2, h3, S_bad h1 h2 h3⟩)))
        · exact .inr (.inr (.inr (.inr ⟨c, t, _, rfl, h1, h2, rfl, by omega, by omega, tk_le _, S_tok h1 h2 h3⟩)))

/-- What has been read as blanks stands before the first token, or at the end. -/
def pre (q : List Nat) : Res → Res
  | .ok [] e => .ok [] (q ++ e)
  | .ok ((x, b) :: T) e => .ok ((x, q ++ b) :: T) e
  | .bad n => .bad n
theorem pre_app (q : List Nat) (k : Nat) (r : Res) : pre q (r.app [] k) = (pre q r).app [] k := by
  cases r with
  | ok T e => cases T with
    | nil => rfl
    | cons x T => obtain ⟨x, b⟩ := x; rfl
  | bad n => rfl
theorem pre_tok (q x b : List Nat) (k : Nat) (r : Res) : pre q (r.app [(x, b)] k) = r.app [(x, q ++ b)] k := by
  cases r <;> rfl
theorem S_pre (q : List Nat) : ∀ (n : Nat) (p l : List Nat), l.length ≤ n → S (q ++ p) l = pre q (S p l) := by
  intro n
  induction n with
  | zero =>
    intro p l h
    obtain rfl := List.eq_nil_of_length_eq_zero (Nat.le_zero.1 h)
    rfl
  | succ n ih =>
    intro p l h
    rcases S_cases p l with ⟨rfl, _⟩ | ⟨c, t, rfl, h1, h2⟩ | ⟨c, t, k, rfl, h1, rfl, h0, hk, h2⟩ | ⟨c, t, rfl, h1, h2, h3, h4⟩ | ⟨c, t, k, rfl, h1, h2, rfl, h3, h4, h5, h6⟩
    · rfl
    · rw [h2, S_space h1, pre_app, ← ih _ _ (by simpa using h), List.append_assoc]
    · rw [h2, S_cmt h1, pre_app, ← ih _ _ (by rw [List.length_drop]; omega), List.append_assoc]
    · rw [h4, S_bad h1 h2 h3]; rfl
    · rw [h6, S_tok h1 h2 (by omega), pre_tok]
theorem S_from (p l : List Nat) : S p l = pre p (S [] l) := by
  have := S_pre p l.length [] l (Nat.le_refl _)
  rwa [List.append_nil] at this

/-- Blanks that can stand before a token. -/
inductive CB : List Nat → Prop
  | nil : CB []
  | sp (c : Nat) (t : List Nat) : kd c = 1 → CB t → CB (c :: t)
  | cm (c : Nat) (m t : List Nat) : kd c = 2 → (∀ x ∈ m, x ≠ 10) → CB (10 :: t) → CB (c :: (m ++ 10 :: t))
theorem cmt_app : ∀ (m r : List Nat), (∀ x ∈ m, x ≠ 10) → (r.head? = none ∨ r.head? = some 10) → cmt (m ++ r) = m.length
  | [], r, _, h => by
    cases r with
    | nil => rfl
    | cons c r =>
      obtain rfl : c = 10 := by simpa using h
      rfl
  | x :: m, r, hm, h => by
    rw [List.cons_append, cmt_cons, if_neg (hm x (by simp)), cmt_app m r (fun y hy => hm y (by simp [hy])) h]; rfl
/-- A comment is what stands up to the next line end. -/
theorem cmt_parts : ∀ l : List Nat, (∀ x ∈ l.take (cmt l), x ≠ 10) ∧ ((l.drop (cmt l)).head? = none ∨ (l.drop (cmt l)).head? = some 10)
  | [] => by simp [cmt]
  | c :: t => by
    have ih := cmt_parts t
    rw [cmt_cons]
    by_cases h : c = 10
    · rw [if_pos h]; subst h; simp
    · rw [if_neg h]
      refine ⟨?_, by simpa using ih.2⟩
      intro x hx
      simp at hx
      rcases hx with rfl | hx
      · exact h
      · exact ih.1 x hx
theorem cmt_same {c : Nat} {l r : List Nat} (h2 : kd c = 2) (hm : ∀ x ∈ l, x ≠ 10) (hr : r.head? = none ∨ r.head? = some 10) : cmt (c :: (l ++ r)) = l.length + 1 := by
  have := cmt_app (c :: l) r (by
    intro x hx
    simp at hx
    rcases hx with rfl | hx
    · rw [kd_two h2]; decide
    · exact hm x hx) hr
  simpa using this
theorem S_CB {b : List Nat} (h : CB b) : ∀ (p l : List Nat), S p (b ++ l) = (S (p ++ b) l).app [] b.length := by
  induction h with
  | nil => intro p l; simp [app_nil]
  | sp c t hc ht ih =>
    intro p l
    rw [List.cons_append, S_space hc, ih, app_app, List.append_assoc]
    congr 1
    simp; omega
  | cm c m t hc hm ht ih =>
    intro p l
    have e : c :: (m ++ 10 :: t) ++ l = c :: (m ++ (10 :: t ++ l)) := by simp
    have hk : cmt (c :: (m ++ (10 :: t ++ l))) = m.length + 1 := cmt_same hc hm (by simp)
    have e2 : c :: (m ++ (10 :: t ++ l)) = (c :: m) ++ (10 :: t ++ l) := by simp
    have e3 : (c :: m).length = m.length + 1 := rfl
    rw [e, S_cmt hc, hk]
    conv => lhs; rw [e2, ← e3, List.take_left, List.drop_left]
    rw [ih, app_app]
    simp
    congr 1
    omega
theorem CB_alone {b : List Nat} (h : CB b) : S [] b = .ok [] b := by
  have := S_CB h [] []
  rw [List.append_nil] at this
  rw [this, S_nil]; simp [Res.app]
theorem CB_app {a b : List Nat} (ha : CB a) (hb : CB b) : CB (a ++ b) := by
  induction ha with
  | nil => exact hb
  | sp c t hc ht ih => exact .sp c _ hc ih
  | cm c m t hc hm ht ih =>
    have e : c :: (m ++ 10 :: t) ++ b = c :: (m ++ 10 :: (t ++ b)) := by simp
    rw [e]
    exact .cm c m _ hc hm (by simpa using ih)

/-- What has been read, from the beginning. -/
theorem S_inv : ∀ (n : Nat) (l : List Nat) (T : List (List Nat × List Nat)) (e : List Nat), l.length ≤ n → S [] l = .ok T e →
    (T = [] ∧ e = l) ∨ ∃ t b r T', T = (t, b) :: T' ∧ l = b ++ (t ++ r) ∧ CB b ∧ tk (t ++ r) = t.length ∧ t ≠ [] ∧ t.length ≤ 16 ∧ S [] r = .ok T' e ∧ (∃ c t', t = c :: t' ∧ kd c ≠ 1 ∧ kd c ≠ 2) := by
  intro n
  induction n with
  | zero =>
    intro l T e h hs
    obtain rfl := List.eq_nil_of_length_eq_zero (Nat.le_zero.1 h)
    simp [S_nil] at hs
    exact .inl ⟨by simp [hs], by simp [hs]⟩
  | succ n ih =>
    intro l T e h hs
    rcases S_cases [] l with ⟨rfl, _⟩ | ⟨c, t, rfl, h1, h2⟩ | ⟨c, t, k, rfl, h1, hke, h0, hk, h2⟩ | ⟨c, t, rfl, h1, h2, h3, h4⟩ | ⟨c, t, k, rfl, h1, h2, hke, h3, h4, h5, h6⟩
    · simp [S_nil] at hs
      exact .inl ⟨by simp [hs], by simp [hs]⟩
    · rw [h2, S_from] at hs
      obtain ⟨T2, hs2, rfl⟩ := app_ok hs
      cases hr : S [] t with
      | bad m => rw [hr] at hs2; simp [pre] at hs2
      | ok T1 e1 =>
        rw [hr] at hs2
        rcases ih t T1 e1 (by simpa using h) hr with ⟨rfl, rfl⟩ | ⟨t1, b, r, T', rfl, rfl, hb, h3, h4, h5, h6, h7⟩
        · simp [pre] at hs2
          exact .inl ⟨by simp [hs2], by simp [hs2]⟩
        · simp [pre] at hs2
          obtain ⟨rfl, rfl⟩ := hs2
          exact .inr ⟨t1, c :: b, r, T', rfl, by simp, .sp c b h1 hb, h3, h4, h5, h6, h7⟩
    · rw [h2, S_from] at hs
      obtain ⟨T2, hs2, rfl⟩ := app_ok hs
      rw [List.nil_append] at hs2
      have hp := cmt_parts (c :: t)
      rw [← hke] at hp
      have hl : (c :: t).take k ++ (c :: t).drop k = c :: t := List.take_append_drop _ _
      generalize hm0 : (c :: t).take k = m at hp hs2 hl
      generalize hr0 : (c :: t).drop k = r0 at hp hs2 hl
      have hlen : r0.length ≤ n := by rw [← hr0, List.length_drop]; omega
      cases hr : S [] r0 with
      | bad m => rw [hr] at hs2; simp [pre] at hs2
      | ok T1 e1 =>
        rw [hr] at hs2
        rcases ih r0 T1 e1 hlen hr with ⟨rfl, rfl⟩ | ⟨t1, b, r, T', rfl, rfl, hb, h3, h4, h5, h6, h7⟩
        · simp [pre] at hs2
          exact .inl ⟨by simp [hs2], by rw [← hs2.2, hl]⟩
        · simp [pre] at hs2
          obtain ⟨rfl, rfl⟩ := hs2
          refine .inr ⟨t1, m ++ b, r, T', rfl, by rw [← hl]; simp, ?_, h3, h4, h5, h6, h7⟩
          cases b with
          | nil =>
            exfalso
            obtain ⟨c1, t2, rfl, h8, h9⟩ := h7
            rcases hp.2 with h10 | h10
            · simp at h10
            · simp at h10
              subst h10
              exact h8 (by decide)
          | cons d b =>
            obtain rfl : d = 10 := by
              rcases hp.2 with h10 | h10 <;> simp at h10
              exact h10
            cases m with
            | nil => simp at hm0; omega
            | cons c1 m =>
              obtain rfl : c1 = c := by simp at hl; exact hl.1
              exact .cm c1 m b h1 (fun x hx => hp.1 x (by simp [hx])) hb
    · rw [h4] at hs; cases hs
    · rw [h6] at hs
      obtain ⟨T2, hs2, rfl⟩ := app_ok hs
      refine .inr ⟨(c :: t).take k, [], (c :: t).drop k, T2, rfl, by simp, .nil, ?_, ?_, ?_, hs2, c, t.take (k - 1), ?_, h1, h2⟩
      · rw [List.take_append_drop, ← hke, List.length_take]; omega
      · intro h7
        have := congrArg List.length h7
        rw [List.length_take] at this
        simp at this h5; omega
      · rw [List.length_take]; omega
      · obtain ⟨j, rfl⟩ : ∃ j, k = j + 1 := ⟨k - 1, by omega⟩
        rfl
theorem S_ok {l : List Nat} {T : List (List Nat × List Nat)} {e : List Nat} (h : S [] l = .ok T e) :
    (T = [] ∧ e = l) ∨ ∃ t b r T', T = (t, b) :: T' ∧ l = b ++ (t ++ r) ∧ CB b ∧ tk (t ++ r) = t.length ∧ t ≠ [] ∧ t.length ≤ 16 ∧ S [] r = .ok T' e ∧ (∃ c t', t = c :: t' ∧ kd c ≠ 1 ∧ kd c ≠ 2) := S_inv _ l T e (Nat.le_refl _) h
end Go.Proofs.YtfbookfaodfmdaaDoor
