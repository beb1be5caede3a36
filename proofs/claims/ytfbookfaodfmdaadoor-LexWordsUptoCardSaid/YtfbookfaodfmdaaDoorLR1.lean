import Derived.Test.YtfbookfaodfmdaaDoorLH
set_option linter.unusedVariables false
set_option linter.unusedSimpArgs false
namespace Go.Proofs.YtfbookfaodfmdaaDoor
open Go.RowKit

/-- The document's kinds of bytes: 1 a letter, 2 a digit. -/
def kn (c : Nat) : Nat := if kd c = 4 then 1 else if kd c = 3 then 2 else 0
theorem kd_letter (c : Nat) : kd c = 4 ↔ (97 ≤ c ∧ c ≤ 122) ∨ (65 ≤ c ∧ c ≤ 90) := by
  have := kd_all (p := fun c k => decide (k = 4 ↔ (97 ≤ c ∧ c ≤ 122) ∨ (65 ≤ c ∧ c ≤ 90))) (by decide +kernel) (by intro c h; simp; omega) c
  exact of_decide_eq_true this
theorem kd_digit (c : Nat) : kd c = 3 ↔ 48 ≤ c ∧ c ≤ 57 := by
  have := kd_all (p := fun c k => decide (k = 3 ↔ 48 ≤ c ∧ c ≤ 57)) (by decide +kernel) (by intro c h; simp; omega) c
  exact of_decide_eq_true this
theorem kd_sp (c : Nat) : kd c = 1 ↔ c = 10 ∨ c = 32 := by
  have := kd_all (p := fun c k => decide (k = 1 ↔ c = 10 ∨ c = 32)) (by decide +kernel) (by intro c h; simp; omega) c
  exact of_decide_eq_true this
theorem kd_cm (c : Nat) : kd c = 2 ↔ c = 35 := by
  have := kd_all (p := fun c k => decide (k = 2 ↔ c = 35)) (by decide +kernel) (by intro c h; simp; omega) c
  exact of_decide_eq_true this

set_option maxHeartbeats 1000000 in
set_option maxRecDepth 100000 in
theorem Kind_any (c : Nat) (hc : c < 256) (w : World) :
    Calls Tryd.prog 38 #[.int .u8 (c : Int)] w fun e w' => e = .returned (.int .i64 ((kn c : Nat) : Int)) ∧ w' = w := by
  have h0 : (0 : Int) ≤ (c : Int) := by omega
  have hl := kd_letter c
  have hd := kd_digit c
  by_cases h1 : 97 ≤ c ∧ c ≤ 122
  · have e : kn c = 1 := by unfold kn; rw [if_pos (hl.2 (.inl h1))]
    rw [e]
    have i1 : (97 : Int) ≤ (c : Int) := by omega
    have i2 : (c : Int) ≤ 122 := by omega
    clear hl hd e h1
    go_enter Tryd.func38, Tryd.ntmps38
    go_wp2_with fail
    go_ret
    exact ⟨rfl, rfl⟩
  by_cases h2 : 65 ≤ c ∧ c ≤ 90
  · have e : kn c = 1 := by unfold kn; rw [if_pos (hl.2 (.inr h2))]
    rw [e]
    have i1 : ¬ (97 : Int) ≤ (c : Int) := by omega
    have i2 : (65 : Int) ≤ (c : Int) := by omega
    have i3 : (c : Int) ≤ 90 := by omega
    clear hl hd e h1 h2
    go_enter Tryd.func38, Tryd.ntmps38
    go_wp2_with fail
    go_ret
    exact ⟨rfl, rfl⟩
  have h4 : ¬ kd c = 4 := fun h => (hl.1 h).elim h1 h2
  by_cases h3 : 48 ≤ c ∧ c ≤ 57
  · have e : kn c = 2 := by unfold kn; rw [if_neg h4, if_pos (hd.2 h3)]
    rw [e]
    have i1 : ¬ (97 : Int) ≤ (c : Int) := by omega
    have i2 : ¬ (65 : Int) ≤ (c : Int) := by omega
    have i3 : (48 : Int) ≤ (c : Int) := by omega
    have i4 : (c : Int) ≤ 57 := by omega
    clear hl hd e h1 h2 h3 h4
    go_enter Tryd.func38, Tryd.ntmps38
    go_wp2_with fail
    go_ret
    exact ⟨rfl, rfl⟩
  have e : kn c = 0 := by unfold kn; rw [if_neg h4, if_neg (fun h => h3 (hd.1 h))]
  rw [e]
  clear hl hd e h4
  rcases (by omega : c < 48 ∨ (57 < c ∧ c < 65) ∨ (90 < c ∧ c < 97) ∨ 122 < c) with h | ⟨h, h'⟩ | ⟨h, h'⟩ | h
  · have i1 : ¬ (97 : Int) ≤ (c : Int) := by omega
    have i2 : ¬ (65 : Int) ≤ (c : Int) := by omega
    have i3 : ¬ (48 : Int) ≤ (c : Int) := by omega
    clear h1 h2 h3 h
    go_enter Tryd.func38, Tryd.ntmps38
    go_wp2_with fail
    go_ret
    exact ⟨rfl, rfl⟩
  · have i1 : ¬ (97 : Int) ≤ (c : Int) := by omega
    have i2 : ¬ (65 : Int) ≤ (c : Int) := by omega
    have i3 : (48 : Int) ≤ (c : Int) := by omega
    have i4 : ¬ (c : Int) ≤ 57 := by omega
    clear h1 h2 h3 h h'
    go_enter Tryd.func38, Tryd.ntmps38
    go_wp2_with fail
    go_ret
    exact ⟨rfl, rfl⟩
  · have i1 : ¬ (97 : Int) ≤ (c : Int) := by omega
    have i2 : (65 : Int) ≤ (c : Int) := by omega
    have i3 : ¬ (c : Int) ≤ 90 := by omega
    have i4 : (48 : Int) ≤ (c : Int) := by omega
    have i5 : ¬ (c : Int) ≤ 57 := by omega
    clear h1 h2 h3 h h'
    go_enter Tryd.func38, Tryd.ntmps38
    go_wp2_with fail
    go_ret
    exact ⟨rfl, rfl⟩
  · have i1 : (97 : Int) ≤ (c : Int) := by omega
    have i2 : ¬ (c : Int) ≤ 122 := by omega
    have i3 : (65 : Int) ≤ (c : Int) := by omega
    have i4 : ¬ (c : Int) ≤ 90 := by omega
    have i5 : (48 : Int) ≤ (c : Int) := by omega
    have i6 : ¬ (c : Int) ≤ 57 := by omega
    clear h1 h2 h3 h
    go_enter Tryd.func38, Tryd.ntmps38
    go_wp2_with fail
    go_ret
    exact ⟨rfl, rfl⟩

/-- How many bytes at the beginning are blanks, within a comment or not. -/
def skl : Bool → List Nat → Nat
  | _, [] => 0
  | b, c :: t => if c = 10 then skl false t + 1 else if c = 35 then skl true t + 1 else if c ≠ 32 ∧ b = false then 0 else skl b t + 1
theorem skl_le : ∀ (b : Bool) (l : List Nat), skl b l ≤ l.length
  | _, [] => Nat.le_refl _
  | b, c :: t => by
    have h1 := skl_le false t
    have h2 := skl_le true t
    have h3 := skl_le b t
    unfold skl
    rw [List.length_cons]
    split
    · omega
    · split
      · omega
      · split <;> omega
theorem skl_true : ∀ (l : List Nat), skl true l = cmt l + skl false (l.drop (cmt l))
  | [] => rfl
  | c :: t => by
    have ih := skl_true t
    by_cases h : c = 10
    · subst h; simp [skl, cmt]
    · rw [cmt_cons, if_neg h, List.drop_succ_cons]
      have : skl true (c :: t) = skl true t + 1 := by
        by_cases h2 : c = 35
        · subst h2; simp [skl]
        · simp [skl, h, h2]
      rw [this, ih]; omega
theorem S_skl : ∀ (n : Nat) (p l : List Nat), l.length ≤ n → S p l = (S (p ++ l.take (skl false l)) (l.drop (skl false l))).app [] (skl false l) ∧
    (l.drop (skl false l) = [] ∨ ∃ c t, l.drop (skl false l) = c :: t ∧ kd c ≠ 1 ∧ kd c ≠ 2) := by
  intro n
  induction n with
  | zero =>
    intro p l h
    have : l = [] := List.eq_nil_of_length_eq_zero (by omega)
    subst this
    exact ⟨by simp [skl, app_nil], .inl rfl⟩
  | succ n ih =>
    intro p l h
    cases l with
    | nil => exact ⟨by simp [skl, app_nil], .inl rfl⟩
    | cons c t =>
      rw [List.length_cons] at h
      by_cases h1 : kd c = 1
      · have hk : skl false (c :: t) = skl false t + 1 := by
          rcases (kd_sp c).1 h1 with rfl | rfl <;> simp [skl]
        obtain ⟨e1, e2⟩ := ih (p ++ [c]) t (by omega)
        rw [hk, List.take_succ_cons, List.drop_succ_cons, S_space h1, e1, app_app]
        refine ⟨?_, e2⟩
        rw [List.append_assoc]
        congr 1
        omega
      · by_cases h2 : kd c = 2
        · have h35 := (kd_cm c).1 h2
          subst h35
          have hcm : cmt (35 :: t) = cmt t + 1 := by simp [cmt]
          have hk : skl false (35 :: t) = (cmt t + 1) + skl false (t.drop (cmt t)) := by
            have : skl false (35 :: t) = skl true t + 1 := by simp [skl]
            rw [this, skl_true]; omega
          obtain ⟨e1, e2⟩ := ih (p ++ (35 :: t).take (cmt t + 1)) (t.drop (cmt t)) (by rw [List.length_drop]; omega)
          have hd : (35 :: t).drop (cmt t + 1 + skl false (t.drop (cmt t))) = (t.drop (cmt t)).drop (skl false (t.drop (cmt t))) := by
            rw [← List.drop_drop, List.drop_succ_cons]
          rw [hk, hd, S_cmt h2, hcm, List.drop_succ_cons, e1, app_app]
          refine ⟨?_, e2⟩
          rw [show (35 :: t).take (cmt t + 1 + skl false (t.drop (cmt t))) = (35 :: t).take (cmt t + 1) ++ ((35 :: t).drop (cmt t + 1)).take (skl false (t.drop (cmt t))) from List.take_add, List.drop_succ_cons, List.append_assoc]
          rfl
        · have hk : skl false (c :: t) = 0 := by
            have n1 : c ≠ 10 := fun e => h1 ((kd_sp c).2 (.inl e))
            have n2 : c ≠ 32 := fun e => h1 ((kd_sp c).2 (.inr e))
            have n3 : c ≠ 35 := fun e => h2 ((kd_cm c).2 e)
            simp [skl, n1, n2, n3]
          rw [hk]
          exact ⟨by simp [app_nil], .inr ⟨c, t, rfl, h1, h2⟩⟩

set_option maxHeartbeats 2000000 in
set_option maxRecDepth 100000 in
theorem skip_any (s : ByteArray) (at0 : Nat) (h1 : at0 ≤ s.size) (h2 : s.size ≤ 281474976710656) (w : World) :
    Calls Tryd.prog 34 #[.string s, .int .i64 (at0 : Int)] w fun e w' => e = .returned (.int .i64 ((at0 + skl false ((sb s).drop at0) : Nat) : Int)) ∧ w' = w := by
  have HX := Lib.hid fun (n : Nat) (h : n < s.size) => str_step s n h
  have HL := Lib.hid (sb_len s)
  generalize sb s = L at HX HL ⊢
  obtain ⟨Z, hZ⟩ : ∃ Z, at0 + skl false (L.drop at0) = Z := ⟨_, rfl⟩
  rw [hZ]
  have hsz : (s.size : Int) ≤ 281474976710656 := by omega
  go_enter Tryd.func34, Tryd.ntmps34
  go_wp2_with fail
  go_loopw [1, 5, 6] (fun i b _ W => ∃ (n : Nat) (cm : Bool), n ≤ s.size ∧ i = .int .i64 (n : Int) ∧ b = .bool cm ∧ W = w ∧ Hid (n + skl cm (L.drop n) = Z)) (fun i _ _ _ => s.size - (intOf i).toNat)
  case atStart => exact ⟨at0, false, h1, rfl, rfl, rfl, Lib.hid hZ⟩
  case round =>
    obtain ⟨n, cm, hn, rfl, rfl, rfl, hrel⟩ := hrel
    clear hZ h1
    have hn0 : (0 : Int) ≤ (n : Int) := by omega
    by_cases hlt : n < s.size
    · have hki : (n : Int) < (s.size : Int) := by omega
      obtain ⟨c, hc, hd, hx⟩ := HX.out n hlt
      have hr := hrel.out
      rw [hd] at hr
      unfold skl at hr
      have hc0 : (0 : Int) ≤ (c : Int) := by omega
      have hc1 : (c : Int) < 256 := by omega
      clear hd hc
      by_cases c10 : c = 10
      · subst c10
        rw [if_pos rfl] at hr
        have HR := Lib.hid hr
        clear hr hrel
        go_wp2_with fail
        refine ⟨⟨n + 1, false, by omega, by go_num, rfl, trivial, Lib.hid (by have := HR.out; omega)⟩, by simp [intOf]; omega⟩
      · have c10i : ((c : Int) == 10) = false := by rw [beq_eq_false_iff_ne]; omega
        rw [if_neg c10] at hr
        by_cases c35 : c = 35
        · subst c35
          rw [if_pos rfl] at hr
          have HR := Lib.hid hr
          clear hr hrel c10
          go_wp2_with fail
          refine ⟨⟨n + 1, true, by omega, by go_num, rfl, trivial, Lib.hid (by have := HR.out; omega)⟩, by simp [intOf]; omega⟩
        · have c35i : ((c : Int) == 35) = false := by rw [beq_eq_false_iff_ne]; omega
          rw [if_neg c35] at hr
          by_cases c32 : c = 32
          · subst c32
            rw [if_neg (by simp)] at hr
            have HR := Lib.hid hr
            clear hr hrel c10 c35
            go_wp2_with fail
            refine ⟨⟨n + 1, cm, by omega, by go_num, rfl, trivial, Lib.hid (by have := HR.out; omega)⟩, by simp [intOf]; omega⟩
          · have c32i : ((c : Int) != 32) = true := by rw [bne_iff_ne]; omega
            cases cm with
            | true =>
              rw [if_neg (by simp)] at hr
              have HR := Lib.hid hr
              clear hr hrel c10 c35 c32
              go_wp2_with fail
              refine ⟨⟨n + 1, true, by omega, by go_num, rfl, trivial, Lib.hid (by have := HR.out; omega)⟩, by simp [intOf]; omega⟩
            | false =>
              rw [if_pos ⟨c32, rfl⟩] at hr
              have HR := Lib.hid hr
              clear hr hrel c10 c35 c32
              go_wp2_with fail
              go_ret
              exact ⟨by have := HR.out; rw [show n = Z by omega]; rfl, rfl⟩
    · obtain rfl : n = s.size := by omega
      have hr := hrel.out
      rw [List.drop_of_length_le (by rw [HL.out]; exact Nat.le_refl _)] at hr
      unfold skl at hr
      have HR := Lib.hid hr
      clear hr hrel
      go_wp2_with fail
      go_ret
      exact ⟨by have := HR.out; rw [show s.size = Z by omega]; rfl, rfl⟩
end Go.Proofs.YtfbookfaodfmdaaDoor
