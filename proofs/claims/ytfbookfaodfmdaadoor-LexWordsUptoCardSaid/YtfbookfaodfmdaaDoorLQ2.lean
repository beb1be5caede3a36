import Derived.Test.YtfbookfaodfmdaaDoorLQ1
set_option linter.unusedVariables false
set_option linter.unusedSimpArgs false
namespace Go.Proofs.YtfbookfaodfmdaaDoor
open Go.RowKit

/-- Neighbours that end where they should: by the next byte alone. -/
def Adj (e : List Nat) : List (List Nat × List Nat) → Prop
  | [] => True
  | [x] => tk (x.1 ++ e.take 1) = x.1.length
  | x :: y :: T => tk (x.1 ++ (y.2 ++ y.1).take 1) = x.1.length ∧ Adj e (y :: T)
theorem take1_app {a b : List Nat} (h : a ≠ []) : (a ++ b).take 1 = a.take 1 := by
  cases a with
  | nil => exact absurd rfl h
  | cons x a => rfl
theorem chain_of_adj {e : List Nat} : ∀ {T : List (List Nat × List Nat)}, (∀ x ∈ T, Good x) → Adj e T → Chain e T
  | [], _, _ => .nil
  | [x], hg, h => by
    have h1 := hg x (by simp)
    refine .cons x [] h1 ?_ .nil
    rw [cat_nil, List.nil_append]
    exact (tk_head e h1.2.1).2 h
  | x :: y :: T, hg, h => by
    have h1 := hg x (by simp)
    have h2 := hg y (by simp)
    refine .cons x _ h1 ?_ (chain_of_adj (fun z hz => hg z (List.mem_cons_of_mem _ hz)) h.2)
    refine (tk_head _ h1.2.1).2 ?_
    rw [cat_cons, List.append_assoc, take1_app (by intro h3; exact h2.2.1 (List.append_eq_nil_iff.1 h3).2)]
    exact h.1
theorem adj_of {e : List Nat} : ∀ {T : List (List Nat × List Nat)}, (∀ i (h : i + 1 < T.length), tk ((T[i]'(by omega)).1 ++ ((T[i + 1]'h).2 ++ (T[i + 1]'h).1).take 1) = (T[i]'(by omega)).1.length) → (∀ x ∈ T, tk (x.1 ++ e.take 1) = x.1.length) → Adj e T
  | [], _, _ => trivial
  | [x], _, h => h x (by simp)
  | x :: y :: T, h, he => ⟨h 0 (by simp), adj_of (fun i hi => by
      have := h (i + 1) (by simp at hi ⊢; omega)
      simpa using this) fun z hz => he z (List.mem_cons_of_mem _ hz)⟩
theorem cb_head {b : List Nat} (h : CB b) : b = [] ∨ ∃ c t, b = c :: t ∧ (kd c = 1 ∨ kd c = 2) := by
  cases h with
  | nil => exact .inl rfl
  | sp c t h1 h2 => exact .inr ⟨c, t, rfl, .inl h1⟩
  | cm c m t h1 h2 h3 => exact .inr ⟨c, _, rfl, .inr h1⟩
theorem tk_cb {t b r : List Nat} (h0 : t ≠ []) (h : tk t = t.length) (hb : CB b) (hr : b ≠ [] ∨ r = []) : tk (t ++ (b ++ r).take 1) = t.length := by
  rcases cb_head hb with rfl | ⟨c, b', rfl, hc⟩
  · rcases hr with hr | rfl
    · exact absurd rfl hr
    · simpa using h
  · exact tk_blank h0 h c hc
theorem cat_len_le {T : List (List Nat × List Nat)} (h : ∀ x ∈ T, x.1.length ≤ 16 ∧ x.2.length ≤ 14) : (cat T).length ≤ 30 * T.length := by
  induction T with
  | nil => simp [cat]
  | cons y T ih =>
    have h1 := ih fun x hx => h x (List.mem_cons_of_mem _ hx)
    have h2 := h y (List.mem_cons_self ..)
    rw [cat_cons, List.length_append, List.length_append, List.length_cons]
    omega

/-! ### The generator's pieces and gaps. -/
def allP : List (List Nat) := pwords ++ pnums ++ psigns
theorem pieces_good : ∀ p ∈ allP, p ≠ [] ∧ p.length ≤ 16 ∧ tk p = p.length ∧ (∃ c t, p = c :: t ∧ kd c ≠ 1 ∧ kd c ≠ 2) ∧ ∀ d ∈ p, d < 256 := by
  have h : allP.all (fun p => match p with | [] => false | c :: t => decide ((c :: t).length ≤ 16) && decide (tk (c :: t) = (c :: t).length) && decide (kd c ≠ 1) && decide (kd c ≠ 2) && (c :: t).all (fun d => decide (d < 256))) = true := by decide +kernel
  intro p hp
  have h1 := List.all_eq_true.1 h p hp
  cases p with
  | nil => simp at h1
  | cons c t =>
    simp only [Bool.and_eq_true, decide_eq_true_eq] at h1
    obtain ⟨⟨⟨⟨h2, h3⟩, h4⟩, h5⟩, h6⟩ := h1
    refine ⟨by simp, h2, h3, ⟨c, t, rfl, h4, h5⟩, fun d hd => ?_⟩
    have := List.all_eq_true.1 h6 d hd
    simpa using this
theorem pieces_join : ∀ p ∈ allP, ∀ q ∈ allP, (jBeh (mkS p) = true ∨ jBef (mkS q) = true) → tk (p ++ q.take 1) = p.length := by
  have h : allP.all (fun p => allP.all fun q => !(jBeh (mkS p) || jBef (mkS q)) || decide (tk (p ++ q.take 1) = p.length)) = true := by decide +kernel
  intro p hp q hq hj
  have h1 := List.all_eq_true.1 (List.all_eq_true.1 h p hp) q hq
  rcases hj with hj | hj <;> rw [hj] at h1 <;> simpa using h1
theorem gaps_cb : ∀ p ∈ gaps, CB p ∧ ∀ d ∈ p, d < 256 := by
  have hsp : kd 32 = 1 := by decide
  have hnl : kd 10 = 1 := by decide
  have hcm : kd 35 = 2 := by decide
  have e1 : CB [10] := .sp 10 [] hnl .nil
  have e2 : CB [10, 32] := .sp 10 _ hnl (.sp 32 [] hsp .nil)
  have hb : ∀ p ∈ gaps, ∀ d ∈ p, d < 256 := by decide
  intro p hp
  refine ⟨?_, hb p hp⟩
  simp only [gaps, List.mem_cons, List.not_mem_nil, or_false] at hp
  rcases hp with rfl | rfl | rfl | rfl | rfl | rfl | rfl | rfl
  · exact .nil
  · exact .sp 32 [] hsp .nil
  · exact e1
  · exact .sp 32 _ hsp (.sp 32 [] hsp .nil)
  · exact .cm 35 [32, 97, 32, 40, 98] [] hcm (by decide) e1
  · exact .sp 32 _ hsp (.cm 35 [] [32] hcm (by simp) e2)
  · exact .sp 10 _ hnl e1
  · exact .cm 35 [255, 35, 32, 49] [] hcm (by decide) e1
theorem gap_get (j : Nat) (h : j < 8) : CB (gaps.getD j []) ∧ ∀ d ∈ gaps.getD j [], d < 256 := by
  have h3 : j < gaps.length := h
  rw [List.getD_eq_getElem?_getD, List.getElem?_eq_getElem h3]
  exact gaps_cb _ (List.getElem_mem h3)
theorem gapK_cb (k : Nat) : CB (gapK k) ∧ ∀ d ∈ gapK k, d < 256 := by
  have h1 := gap_get (k % 8) (Nat.mod_lt _ (by decide))
  have h2 := gap_get (k / 8 % 8) (Nat.mod_lt _ (by decide))
  unfold gapK
  split
  · exact ⟨CB_app h1.1 h2.1, fun d hd => (List.mem_append.1 hd).elim (h1.2 d) (h2.2 d)⟩
  · exact h1
theorem gapL_cb (n : Int) (b : Bool) : CB (gapL n b) ∧ ∀ d ∈ gapL n b, d < 256 := by
  unfold gapL
  split
  · exact ⟨.sp 32 [] (by decide) .nil, by simp⟩
  · exact gapK_cb _
theorem gapL_ne (n : Int) : gapL n true ≠ [] := by
  unfold gapL
  split
  · simp
  · rename_i h
    intro h2
    exact h ⟨h2, rfl⟩

/-! ### The two lists of tokens. -/
def gpL (m : List Int) (i : Nat) : List Nat := gapL ((at_ m i 4000 : Nat) : Int) (decide ((i : Int) ≠ 0))
def usb (P : List (List Nat)) (i : Nat) : List Nat := if 1 ≤ i ∧ i < P.length ∧ jBeh (mkS (P.getD (i - 1) [])) = false ∧ jBef (mkS (P.getD i [])) = false then [32] else []
def tkG (P : List (List Nat)) (m : List Int) : List (List Nat × List Nat) := (List.range P.length).map fun i => (P.getD i [], gpL m i)
def tkU (P : List (List Nat)) : List (List Nat × List Nat) := (List.range P.length).map fun i => (P.getD i [], usb P i)
theorem tkG_len (P : List (List Nat)) (m : List Int) : (tkG P m).length = P.length := by simp [tkG]
theorem tkU_len (P : List (List Nat)) : (tkU P).length = P.length := by simp [tkU]
theorem tkG_get (P : List (List Nat)) (m : List Int) (i : Nat) (h : i < P.length) : (tkG P m)[i]'(by rw [tkG_len]; exact h) = (P[i], gpL m i) := by simp [tkG, List.getElem?_eq_getElem h]
theorem tkU_get (P : List (List Nat)) (i : Nat) (h : i < P.length) : (tkU P)[i]'(by rw [tkU_len]; exact h) = (P[i], usb P i) := by simp [tkU, List.getElem?_eq_getElem h]
theorem tkG_mem {P : List (List Nat)} {m : List Int} {x : List Nat × List Nat} (h : x ∈ tkG P m) : x.1 ∈ P ∧ ∃ i, x.2 = gpL m i := by
  obtain ⟨i, hi, rfl⟩ := List.mem_map.1 h
  have hi := List.mem_range.1 hi
  simp [List.getElem?_eq_getElem hi]
  exact ⟨i, rfl⟩
theorem tkU_mem {P : List (List Nat)} {x : List Nat × List Nat} (h : x ∈ tkU P) : x.1 ∈ P ∧ (x.2 = [32] ∨ x.2 = []) := by
  obtain ⟨i, hi, rfl⟩ := List.mem_map.1 h
  have hi := List.mem_range.1 hi
  simp [List.getElem?_eq_getElem hi]
  unfold usb
  split
  · exact .inl rfl
  · exact .inr rfl
theorem S_chain {e : List Nat} {T : List (List Nat × List Nat)} (hg : ∀ x ∈ T, Good x) (ha : Adj e T) (he : CB e) (hn : T.length ≤ 30) (hl : ∀ x ∈ T, x.1.length ≤ 16 ∧ x.2.length ≤ 14) (hel : e.length ≤ 14) :
    SC (cat T ++ e) = (T, e, -1) ∧ (cat T).length + e.length ≤ 1000 := by
  have h1 := cat_len_le hl
  have h2 : (cat T).length + e.length ≤ 1000 := by omega
  exact ⟨sc_ok (by rw [List.length_append]; omega) ((S_iff _ _ _).2 ⟨rfl, chain_of_adj hg ha, CB_alone he⟩), h2⟩
theorem good_of {p b : List Nat} (hp : p ∈ allP) (hb : CB b) : Good (p, b) := by
  obtain ⟨h1, h2, h3, h4, h5⟩ := pieces_good p hp
  exact ⟨hb, h1, h2, h3, h4⟩
theorem tkG_read {P : List (List Nat)} {m : List Int} {e : List Nat} (hP : ∀ p ∈ P, p ∈ allP) (hn : P.length ≤ 30) (he : CB e) (hel : e.length ≤ 14) :
    SC (cat (tkG P m) ++ e) = (tkG P m, e, -1) ∧ (cat (tkG P m)).length + e.length ≤ 1000 := by
  have hg : ∀ x ∈ tkG P m, Good x := fun x hx => by
    obtain ⟨h1, i, h2⟩ := tkG_mem hx
    obtain ⟨p, b⟩ := x
    simp only at h1 h2
    subst h2
    exact good_of (hP _ h1) (gapL_cb _ _).1
  refine S_chain hg (adj_of ?_ ?_) he (by rw [tkG_len]; exact hn) ?_ hel
  · intro i hi
    rw [tkG_len] at hi
    rw [tkG_get P m i (by omega), tkG_get P m (i + 1) hi]
    have h1 := pieces_good _ (hP _ (List.getElem_mem (show i < P.length by omega)))
    refine tk_cb h1.1 h1.2.2.1 (gapL_cb _ _).1 (.inl ?_)
    unfold gpL
    rw [decide_eq_true (by omega)]
    exact gapL_ne _
  · intro x hx
    have h1 := hg x hx
    have := tk_cb (r := []) h1.2.1 h1.2.2.2.1 he (.inr rfl)
    simpa using this
  · intro x hx
    obtain ⟨h1, i, h2⟩ := tkG_mem hx
    exact ⟨(pieces_good _ (hP _ h1)).2.1, by rw [h2]; exact gapL_len _ _⟩
theorem tkU_read {P : List (List Nat)} (hP : ∀ p ∈ P, p ∈ allP) (hn : P.length ≤ 30) :
    SC (cat (tkU P) ++ []) = (tkU P, [], -1) ∧ (cat (tkU P)).length + 0 ≤ 1000 := by
  have hsp : CB [32] := .sp 32 [] (by decide) .nil
  have hg : ∀ x ∈ tkU P, Good x := fun x hx => by
    obtain ⟨h1, h2⟩ := tkU_mem hx
    obtain ⟨p, b⟩ := x
    simp only at h1 h2
    rcases h2 with rfl | rfl
    · exact good_of (hP _ h1) hsp
    · exact good_of (hP _ h1) .nil
  refine S_chain hg (adj_of ?_ ?_) .nil (by rw [tkU_len]; exact hn) ?_ (by simp)
  · intro i hi
    rw [tkU_len] at hi
    rw [tkU_get P i (by omega), tkU_get P (i + 1) hi]
    have h1 := pieces_good _ (hP _ (List.getElem_mem (show i < P.length by omega)))
    have h2 := pieces_join _ (hP _ (List.getElem_mem (show i < P.length by omega))) _ (hP _ (List.getElem_mem hi))
    show tk (P[i] ++ (usb P (i + 1) ++ P[i + 1]).take 1) = P[i].length
    unfold usb
    by_cases hj : jBeh (mkS P[i]) = false ∧ jBef (mkS P[i + 1]) = false
    · rw [if_pos]
      · exact tk_cb h1.1 h1.2.2.1 hsp (.inl (by simp))
      · refine ⟨by omega, hi, ?_, ?_⟩
        · rw [Nat.add_sub_cancel]; simp only [List.getD_eq_getElem?_getD, List.getElem?_eq_getElem (show i < P.length by omega), Option.getD_some]; exact hj.1
        · simp only [List.getD_eq_getElem?_getD, List.getElem?_eq_getElem hi, Option.getD_some]; exact hj.2
    · rw [if_neg]
      · refine h2 ?_
        rcases Bool.eq_false_or_eq_true (jBeh (mkS P[i])) with h | h
        · exact .inl h
        · rcases Bool.eq_false_or_eq_true (jBef (mkS P[i + 1])) with h3 | h3
          · exact .inr h3
          · exact absurd ⟨h, h3⟩ hj
      · rintro ⟨_, _, h3, h4⟩
        rw [Nat.add_sub_cancel] at h3
        simp only [List.getD_eq_getElem?_getD, List.getElem?_eq_getElem (show i < P.length by omega), List.getElem?_eq_getElem hi, Option.getD_some] at h3 h4
        exact hj ⟨h3, h4⟩
  · intro x hx
    have h1 := hg x hx
    simpa using h1.2.2.2.1
  · intro x hx
    obtain ⟨h1, h2⟩ := tkU_mem hx
    exact ⟨(pieces_good _ (hP _ h1)).2.1, by rcases h2 with h2 | h2 <;> rw [h2] <;> simp⟩
theorem tkG_TB {P : List (List Nat)} {m : List Int} (hP : ∀ p ∈ P, p ∈ allP) : TB (tkG P m) := fun x hx => by
  obtain ⟨h1, i, h2⟩ := tkG_mem hx
  exact ⟨(pieces_good _ (hP _ h1)).2.2.2.2, by rw [h2]; exact (gapL_cb _ _).2⟩
theorem tkU_TB {P : List (List Nat)} (hP : ∀ p ∈ P, p ∈ allP) : TB (tkU P) := fun x hx => by
  obtain ⟨h1, h2⟩ := tkU_mem hx
  exact ⟨(pieces_good _ (hP _ h1)).2.2.2.2, by rcases h2 with h2 | h2 <;> rw [h2] <;> simp⟩
theorem usl_mk (P : List (List Nat)) : usl (P.map mkS) = (List.range (P.length + 1)).map fun i => mkS (usb P i) := by
  unfold usl
  rw [List.length_map]
  refine List.map_congr_left fun i hi => ?_
  have hi := List.mem_range.1 hi
  have g : ∀ k, k < P.length → (P.map mkS).getD k ⟨#[]⟩ = mkS (P.getD k []) := fun k hk => by simp [List.getElem?_eq_getElem hk]
  unfold usb
  by_cases h1 : 1 ≤ i ∧ i < P.length
  · rw [g (i - 1) (by omega), g i h1.2]
    by_cases h2 : jBeh (mkS (P.getD (i - 1) [])) = false ∧ jBef (mkS (P.getD i [])) = false
    · rw [if_pos ⟨h1.1, h1.2, h2⟩, if_pos ⟨h1.1, h1.2, h2⟩]; rfl
    · rw [if_neg (fun h => h2 h.2.2), if_neg (fun h => h2 h.2.2)]; rfl
  · rw [if_neg (fun h => h1 ⟨h.1, h.2.1⟩), if_neg (fun h => h1 ⟨h.1, h.2.1⟩)]; rfl
theorem pcL_all (l : List Int) : ∀ p ∈ pcL l, p ∈ allP := by
  intro p hp
  obtain ⟨a, _, rfl⟩ := List.mem_map.1 hp
  exact piece_mem _
theorem pcL_len (l : List Int) : (pcL l).length ≤ 30 := by simp [pcL]; omega
end Go.Proofs.YtfbookfaodfmdaaDoor
