/-
  Plain facts, no program: when a list of tokens is what is read of a text; joining, layouts, errors.
-/
import Derived.Test.YtfbookfaodfmdaaDoorLB
set_option linter.unusedVariables false
namespace Go.Proofs.YtfbookfaodfmdaaDoor

/-- A token, and blanks before it. -/
def Good (x : List Nat × List Nat) : Prop := CB x.2 ∧ x.1 ≠ [] ∧ x.1.length ≤ 16 ∧ tk x.1 = x.1.length ∧ ∃ c t, x.1 = c :: t ∧ kd c ≠ 1 ∧ kd c ≠ 2
/-- Tokens that end where they should, in the text of all of them with an end. -/
inductive Chain (e : List Nat) : List (List Nat × List Nat) → Prop
  | nil : Chain e []
  | cons (x : List Nat × List Nat) (T : List (List Nat × List Nat)) : Good x → tk (x.1 ++ (cat T ++ e)) = x.1.length → Chain e T → Chain e (x :: T)
theorem S_head {t r b : List Nat} (h : Good (t, b)) (hk : tk (t ++ r) = t.length) : S [] (b ++ (t ++ r)) = (S [] r).app [(t, b)] (b.length + t.length) := by
  obtain ⟨h1, h2, h3, h4, c, t', h5, h6, h7⟩ := h
  simp only at h1 h2 h3 h4 h5
  rw [S_CB h1, List.nil_append]
  subst h5
  have h0 : 0 < (c :: t').length := by simp
  rw [List.cons_append] at hk ⊢
  rw [S_tok h6 h7 (by omega), app_app, List.nil_append, hk]
  have e2 : c :: (t' ++ r) = (c :: t') ++ r := rfl
  rw [e2, List.take_left, List.drop_left]
theorem S_iff (l : List Nat) (T : List (List Nat × List Nat)) (e : List Nat) : S [] l = .ok T e ↔ l = cat T ++ e ∧ Chain e T ∧ S [] e = .ok [] e := by
  constructor
  · induction T generalizing l with
    | nil =>
      intro h
      rcases S_ok h with ⟨_, rfl⟩ | ⟨t, b, r, T', h1, _⟩
      · exact ⟨rfl, .nil, h⟩
      · cases h1
    | cons x T ih =>
      intro h
      rcases S_ok h with ⟨h1, _⟩ | ⟨t, b, r, T', h1, rfl, h3, h4, h5, h6, h7, h8⟩
      · cases h1
      · simp only [List.cons.injEq] at h1
        obtain ⟨rfl, rfl⟩ := h1
        obtain ⟨rfl, h10, h11⟩ := ih _ h7
        exact ⟨by rw [cat_cons]; simp, .cons _ _ ⟨h3, h5, h6, tk_alone h5 h4, h8⟩ h4 h10, h11⟩
  · rintro ⟨rfl, hc, he⟩
    induction hc with
    | nil => exact he
    | cons x T hg hk hT ih =>
      obtain ⟨t, b⟩ := x
      have := S_head hg hk
      rw [cat_cons]
      simp only [List.append_assoc]
      rw [this, ih]; rfl
theorem S_one {t b : List Nat} (h : Good (t, b)) : S [] (b ++ t) = .ok [(t, b)] [] := by
  rw [S_iff]
  exact ⟨by simp [cat], .cons _ _ h (by simpa [cat] using h.2.2.2.1) .nil, rfl⟩
theorem Chain.good {e : List Nat} {T : List (List Nat × List Nat)} (h : Chain e T) : ∀ x ∈ T, Good x := by
  induction h with
  | nil => simp
  | cons x T hg _ _ ih =>
    intro y hy
    simp at hy
    rcases hy with rfl | hy
    · exact hg
    · exact ih y hy

/-! ### Two texts with a line end between them. -/
theorem OB_CB : ∀ (n : Nat) (e t : List Nat), e.length ≤ n → S [] e = .ok [] e → CB (10 :: t) → CB (e ++ 10 :: t) := by
  intro n
  induction n with
  | zero =>
    intro e t h _ ht
    obtain rfl := List.eq_nil_of_length_eq_zero (Nat.le_zero.1 h)
    exact ht
  | succ n ih =>
    intro e t h hs ht
    rcases S_cases [] e with ⟨rfl, _⟩ | ⟨c, u, rfl, h1, h2⟩ | ⟨c, u, k, rfl, h1, hke, h0, hk, h2⟩ | ⟨c, u, rfl, h1, h2, h3, h4⟩ | ⟨c, u, k, rfl, h1, h2, hke, h3, h4, h5, h6⟩
    · exact ht
    · rw [h2, S_from] at hs
      cases hr : S [] u with
      | bad m => rw [hr] at hs; simp [pre, Res.app] at hs
      | ok T1 e1 =>
        rw [hr] at hs
        cases T1 with
        | cons x T1 => simp [pre, Res.app] at hs
        | nil =>
          simp [pre, Res.app] at hs
          subst hs
          exact .sp c _ h1 (ih _ t (by simpa using h) hr ht)
    · rw [h2, S_from] at hs
      rw [List.nil_append] at hs
      have hp := cmt_parts (c :: u)
      rw [← hke] at hp
      have hl : (c :: u).take k ++ (c :: u).drop k = c :: u := List.take_append_drop _ _
      generalize hm0 : (c :: u).take k = m at hp hs hl
      generalize hr0 : (c :: u).drop k = r0 at hp hs hl
      have hlen : r0.length ≤ n := by rw [← hr0, List.length_drop]; omega
      have hr : S [] r0 = .ok [] r0 := by
        cases hr : S [] r0 with
        | bad m => rw [hr] at hs; simp [pre, Res.app] at hs
        | ok T1 e1 =>
          rw [hr] at hs
          cases T1 with
          | cons x T1 => simp [pre, Res.app] at hs
          | nil =>
            simp [pre, Res.app] at hs
            rw [← hl] at hs
            rw [List.append_cancel_left hs]
      cases m with
      | nil => simp at hm0; omega
      | cons c1 m =>
        obtain rfl : c1 = c := by simp at hl; exact hl.1
        have hm : ∀ x ∈ m, x ≠ 10 := fun x hx => hp.1 x (by simp [hx])
        rw [← hl]
        cases r0 with
        | nil =>
          have e : c1 :: m ++ [] ++ 10 :: t = c1 :: (m ++ 10 :: t) := by simp
          rw [e]
          exact .cm c1 m t h1 hm ht
        | cons d r0 =>
          obtain rfl : d = 10 := by
            rcases hp.2 with h10 | h10 <;> simp at h10
            exact h10
          have e : c1 :: m ++ 10 :: r0 ++ 10 :: t = c1 :: (m ++ 10 :: (r0 ++ 10 :: t)) := by simp
          rw [e]
          exact .cm c1 m _ h1 hm (ih _ t hlen hr ht)
    · rw [h4] at hs; cases hs
    · rw [h6] at hs
      obtain ⟨T2, _, h7⟩ := app_ok hs
      simp at h7
theorem OB_app {e r : List Nat} (he : S [] e = .ok [] e) (hr : S [] r = .ok [] r) : S [] (e ++ 10 :: r) = .ok [] (e ++ 10 :: r) := by
  have h := OB_CB _ e [] (Nat.le_refl _) he (.sp 10 [] (by decide) .nil)
  have h2 := S_CB h [] r
  rw [List.nil_append, S_from (e ++ [10]) r, hr] at h2
  simpa [pre, Res.app] using h2
theorem Chain.more {e : List Nat} {T : List (List Nat × List Nat)} (h : Chain e T) (e' : List Nat) (he : e' = e ∨ (∃ r, e' = e ++ 10 :: r)) : Chain e' T := by
  induction h with
  | nil => exact .nil
  | cons x T hg hk hT ih =>
    refine .cons x T hg ?_ ih
    rcases he with rfl | ⟨r, rfl⟩
    · exact hk
    · cases hq : cat T ++ e with
      | nil =>
        have e2 : cat T ++ (e ++ 10 :: r) = 10 :: r := by rw [← List.append_assoc, hq]; rfl
        rw [e2]
        exact tk_blank hg.2.1 hg.2.2.2.1 10 (.inl (by decide))
      | cons d q =>
        have e2 : cat T ++ (e ++ 10 :: r) = d :: (q ++ 10 :: r) := by rw [← List.append_assoc, hq]; rfl
        rw [e2]
        rw [hq] at hk
        exact tk_same hg.2.1 hk rfl
theorem Chain.app {e : List Nat} {T T' : List (List Nat × List Nat)} (h : Chain (cat T' ++ e) T) (h' : Chain e T') : Chain e (T ++ T') := by
  induction h with
  | nil => exact h'
  | cons x T hg hk hT ih =>
    refine .cons x _ hg ?_ ih
    show tk (x.1 ++ (cat (T ++ T') ++ e)) = _
    rw [cat_app, List.append_assoc]
    exact hk
theorem S_join_nil {s t a : List Nat} {T : List (List Nat × List Nat)} {e r : List Nat} (hs : S [] s = .ok T e) (ht : S [] t = .ok [] r) : S [] (s ++ 10 :: t) = .ok T (e ++ 10 :: r) := by
  rw [S_iff] at hs
  obtain ⟨rfl, h1, h2⟩ := hs
  have h3 := (S_iff _ _ _).1 ht
  obtain ⟨rfl, _, h5⟩ := h3
  rw [S_iff]
  exact ⟨by simp [cat], h1.more _ (.inr ⟨_, rfl⟩), OB_app h2 h5⟩
theorem S_join_cons {s t : List Nat} {T T' : List (List Nat × List Nat)} {e r x b : List Nat} (hs : S [] s = .ok T e) (ht : S [] t = .ok ((x, b) :: T') r) : S [] (s ++ 10 :: t) = .ok (T ++ (x, e ++ 10 :: b) :: T') r := by
  rw [S_iff] at hs ht
  obtain ⟨rfl, h1, h2⟩ := hs
  obtain ⟨rfl, h3, h4⟩ := ht
  rw [S_iff]
  refine ⟨by simp [cat], ?_, h4⟩
  cases h3 with
  | cons _ _ hg hk hT =>
    refine Chain.app (h1.more _ (.inr ⟨b ++ x ++ cat T' ++ r, by simp [cat]⟩)) (.cons _ _ ⟨OB_CB _ e b (Nat.le_refl _) h2 (.sp 10 b (by decide) hg.1), hg.2⟩ hk hT)

/-! ### Where a text cannot be read. -/
theorem S_err : ∀ (n : Nat) (l : List Nat) (m : Nat), l.length ≤ n → S [] l = .bad m → (∃ T e, S [] (l.take m) = .ok T e) ∧ S [] (l.drop m) = .bad 0 ∧ m < l.length := by
  intro n
  induction n with
  | zero =>
    intro l m h hs
    obtain rfl := List.eq_nil_of_length_eq_zero (Nat.le_zero.1 h)
    simp [S_nil] at hs
  | succ n ih =>
    intro l m h hs
    rcases S_cases [] l with ⟨rfl, _⟩ | ⟨c, t, rfl, h1, h2⟩ | ⟨c, t, k, rfl, h1, hke, h0, hk, h2⟩ | ⟨c, t, rfl, h1, h2, h3, h4⟩ | ⟨c, t, k, rfl, h1, h2, hke, h3, h4, h5, h6⟩
    · simp [S_nil] at hs
    · rw [h2] at hs
      obtain ⟨m', hs2, rfl⟩ := app_bad hs
      rw [S_from] at hs2
      have hr : S [] t = .bad m' := by
        cases hr : S [] t with
        | ok T e => rw [hr] at hs2; cases T <;> simp [pre] at hs2
        | bad q => rw [hr] at hs2; simp [pre] at hs2; rw [hs2]
      obtain ⟨⟨T, e, h5⟩, h6, h7⟩ := ih t m' (by simpa using h) hr
      rw [Nat.add_comm 1 m', List.take_succ_cons, List.drop_succ_cons, S_space h1, S_from, h5]
      refine ⟨?_, h6, by simp; omega⟩
      cases T <;> exact ⟨_, _, rfl⟩
    · rw [h2] at hs
      obtain ⟨m', hs2, rfl⟩ := app_bad hs
      rw [S_from] at hs2
      rw [List.nil_append] at hs2
      have hp := cmt_parts (c :: t)
      rw [← hke] at hp
      have hl : (c :: t).take k ++ (c :: t).drop k = c :: t := List.take_append_drop _ _
      have hml : ((c :: t).take k).length = k := by rw [List.length_take]; omega
      have hrl : ((c :: t).drop k).length = (c :: t).length - k := by rw [List.length_drop]
      generalize hm0 : (c :: t).take k = q at hp hs2 hl hml
      generalize hr0 : (c :: t).drop k = r0 at hp hs2 hl hrl
      have hr : S [] r0 = .bad m' := by
        cases hr : S [] r0 with
        | ok T e => rw [hr] at hs2; cases T <;> simp [pre] at hs2
        | bad q => rw [hr] at hs2; simp [pre] at hs2; rw [hs2]
      obtain ⟨⟨T, e, h5⟩, h6, h7⟩ := ih r0 m' (by omega) hr
      cases q with
      | nil => simp at hml; omega
      | cons c1 q =>
        obtain rfl : c1 = c := by simp at hl; exact hl.1
        have e1 : (c1 :: t).take (k + m') = c1 :: (q ++ r0.take m') := by
          rw [← hl, ← hml, List.take_length_add_append]; rfl
        have e2 : (c1 :: t).drop (k + m') = r0.drop m' := by
          rw [← hr0, List.drop_drop]
        have hq : cmt (c1 :: (q ++ r0.take m')) = q.length + 1 := cmt_same h1 (fun x hx => hp.1 x (by simp [hx])) (by
          cases m' with
          | zero => left; rfl
          | succ m' => rw [List.head?_take, if_neg (by simp)]; exact hp.2)
        rw [e1, e2, S_cmt h1, hq]
        have e3 : c1 :: (q ++ r0.take m') = (c1 :: q) ++ r0.take m' := rfl
        have e4 : (c1 :: q).length = q.length + 1 := rfl
        rw [e3, ← e4, List.take_left, List.drop_left, S_from, h5]
        refine ⟨?_, h6, by omega⟩
        cases T <;> exact ⟨_, _, rfl⟩
    · rw [h4] at hs
      simp at hs
      subst hs
      exact ⟨⟨[], [], rfl⟩, h4, by simp⟩
    · rw [h6] at hs
      obtain ⟨m', hs2, rfl⟩ := app_bad hs
      have hml : ((c :: t).take k).length = k := by rw [List.length_take]; omega
      have hl : (c :: t).take k ++ (c :: t).drop k = c :: t := List.take_append_drop _ _
      have hrl : ((c :: t).drop k).length = (c :: t).length - k := by rw [List.length_drop]
      obtain ⟨⟨T, e, h7⟩, h8, h9⟩ := ih _ m' (by omega) hs2
      generalize hm0 : (c :: t).take k = q at hl hml
      generalize hr0 : (c :: t).drop k = r0 at h7 h8 h9 hl hrl
      have hq0 : q ≠ [] := by rintro rfl; simp at hml; omega
      have hkq : tk (q ++ r0) = q.length := by rw [hl, hml, ← hke]
      have hkq2 : tk (q ++ r0.take m') = q.length := by
        cases m' with
        | zero => simpa using tk_alone hq0 hkq
        | succ m' =>
          refine tk_same hq0 hkq ?_
          rw [List.take_take]; congr 1
      cases q with
      | nil => exact absurd rfl hq0
      | cons c1 q =>
        obtain rfl : c1 = c := by simp at hl; exact hl.1
        have e1 : (c1 :: t).take (k + m') = c1 :: (q ++ r0.take m') := by
          rw [← hl, ← hml, List.take_length_add_append]; rfl
        have e2 : (c1 :: t).drop (k + m') = r0.drop m' := by
          rw [← hr0, List.drop_drop]
        rw [List.cons_append] at hkq2
        rw [e1, e2, S_tok h1 h2 (by rw [hkq2, hml]; omega), hkq2]
        have e3 : c1 :: (q ++ r0.take m') = (c1 :: q) ++ r0.take m' := rfl
        rw [e3, List.take_left, List.drop_left, h7]
        exact ⟨⟨_, _, rfl⟩, h8, by omega⟩
end Go.Proofs.YtfbookfaodfmdaaDoor
