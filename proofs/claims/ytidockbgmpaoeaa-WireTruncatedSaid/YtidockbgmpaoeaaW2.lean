import Derived.Test.YtidockbgmpaoeaaW1
import Derived.Test.YtidockbgmpaoeaaPure4
set_option linter.unusedVariables false
namespace Go.Proofs.Ytidockbgmpaoeaa
open Go.RowKit

theorem encS_sb (s : ByteArray) : encS s = encB (sb s) := by unfold encS encB; rw [sb_len]
theorem encS_ge (s : ByteArray) (h : s.size ≤ 9223372036854775807) : 1 ≤ (encS s).length := by
  have := (enc_len s.size (by omega)).1
  unfold encS; rw [List.length_append]; omega
theorem encL_ge {α : Type} (f : α → List Nat) (l : List α) (h : l.length ≤ 9223372036854775807) : 1 ≤ (encL f l).length := by
  have := (enc_len l.length (by omega)).1
  unfold encL; rw [List.length_append]; omega
theorem encL_le {α : Type} (f : α → List Nat) (l : List α) (c : Nat) (hc : ∀ x ∈ l, (f x).length ≤ c) (h : l.length ≤ 9223372036854775807) : (encL f l).length ≤ 9 + c * l.length := by
  rw [← part_all]; exact part_len_le f c l _ hc h
theorem encL_lt {α : Type} (f : α → List Nat) (l : List α) (hc : ∀ x ∈ l, ∀ d ∈ f x, d < 256) (h : l.length ≤ 9223372036854775807) : ∀ d ∈ encL f l, d < 256 := by
  intro d hd
  unfold encL at hd
  rw [List.mem_append, List.mem_flatMap] at hd
  rcases hd with hd | ⟨x, hx, hd⟩
  · exact enc_lt l.length (by omega) d hd
  · exact hc x hx d hd
theorem encS_lt (s : ByteArray) (h : s.size ≤ 9223372036854775807) : ∀ d ∈ encS s, d < 256 := by
  intro d hd
  unfold encS at hd
  rw [List.mem_append] at hd
  rcases hd with hd | hd
  · exact enc_lt s.size (by omega) d hd
  · exact sb_lt s d hd
theorem own_empty (w : World) : OwnB (w.alloc (.cells #[] 5)) w.heap.size (.slice (some ⟨w.heap.size, 0, none⟩) 0 0) [] :=
  ⟨by simp [bs], .inr ⟨w.heap.size, 0, #[], rfl, Nat.le_refl _, heap_alloc_new w _, Nat.le_refl _, by simp [maxLen], rfl, rfl⟩⟩
theorem GetInts_call {l : List Int} {u er : Nat} (m cap : Nat) (A : Option Addr) (zs : List Nat) (w : World) (hd : getL 1 dec zs = (l, u, er)) (hm : m = zs.length) (hr : Rd w w.heap.size A (bs zs)) (hb : ∀ d ∈ zs, d < 256) (hcap : m ≤ cap) (hcap2 : cap ≤ maxLen) (hm2 : m ≤ 100000) :
    Calls Try.prog 28 #[.slice A m cap] w fun e w' => ∃ A' c', e = .returned (.tuple #[.slice A' l.length c', .int .i64 (u : Int), .int .i64 (er : Int)]) ∧ Rd w' w'.heap.size A' (is l) ∧ Below w.heap.size w w' := by
  have h := GetInts_any m cap A zs w hm hr hb hcap hcap2 hm2
  rw [hd] at h
  refine h.mono fun e w' ⟨v', h1, h2, h3⟩ => ?_
  obtain ⟨A', c', rfl, _⟩ := own_shape h2
  exact ⟨A', c', by rw [h1]; simp [is], Rd.own h2, h3⟩
theorem dec_all (l : List Int) (h : ∀ n ∈ l, InR n) : ∀ n ∈ l, ∀ t : List Nat, dec (enc n ++ t) = (n, (enc n).length, 0) := fun n hn t => dec_enc n (h n hn).1 (h n hn).2 t

set_option maxHeartbeats 1000000 in
set_option maxRecDepth 100000 in
theorem WireConcat_any (s : ByteArray) (A : Option Addr) (m c : Nat) (l : List Int) (w : World) (hs : s.size ≤ 140737488351232) (hm : m = l.length) (hmr : m * 8 ≤ 140737488351232) (hr : Rd w w.heap.size A (is l)) (hin : ∀ n ∈ l, InR n) :
    Calls Try.prog 10 #[.string s, .slice A m c] w (LawRes w) := by
  by_cases h2000 : 2000 < s.size + m
  · have hc : (2000 : Int) < (s.size : Int) + (m : Int) := by omega
    clear hm hr hin
    go_enter Try.func10, Try.ntmps10
    go_wp2_with (go_at_call 12; refine (sanity_any _).mono ?_; rintro e w1 ⟨rfl, hb1⟩)
    go_ret
    exact ⟨rfl, hb1⟩
  · have hc : ¬ (2000 : Int) < (s.size : Int) + (m : Int) := by omega
    have hB : ∀ W, Calls Try.prog 16 #[.string s] W fun e w' => ∃ v', e = .returned v' ∧ OwnB w' W.heap.size v' (encS s) ∧ Below W.heap.size W w' := fun W => Bytes_any s W (by omega)
    have hI : ∀ W, Below w.heap.size w W → Calls Try.prog 18 #[.slice A m c] W fun e w' => ∃ v', e = .returned v' ∧ OwnB w' W.heap.size v' (encL enc l) ∧ Below W.heap.size W w' := fun W hW => Ints_any A m c l W hm (hr.later hW) hin (by omega)
    have hgb : getBytes (encS s ++ encL enc l) = (sb s, (encS s).length, 0) := by rw [encS_sb]; exact getBytes_enc _ _ (by rw [sb_len]; omega)
    have hgl : getL 1 dec (encL enc l) = (l, (encL enc l).length, 0) := by
      have := getL_enc (least := 1) (g := dec) (f := enc) (l := l) (by omega) (by omega) (fun x hx => (enc_len x (hin x hx)).1) (dec_all l hin) []
      simpa using this
    have hX1 := encS_ge s (by omega)
    have hX2 := encS_len s (by omega)
    have hY1 := encL_ge enc l (by omega)
    have hY2 := encL_le enc l 9 (fun x hx => (enc_len x (hin x hx)).2) (by omega)
    have hX3 := encS_lt s (by omega)
    have hY3 := encL_lt enc l (fun x hx => enc_lt x (hin x hx)) (by omega)
    rw [← hm] at hY2
    generalize encS s = X at hB hgb hX1 hX2 hX3
    generalize encL enc l = Y at hI hgb hgl hY1 hY2 hY3
    have HB := Lib.hid hB
    have HI := Lib.hid hI
    have HGB := Lib.hid hgb
    have HGL := Lib.hid hgl
    have HX := Lib.hid hX3
    have HY := Lib.hid hY3
    have HXY : Hid (∀ d ∈ X ++ Y, d < 256) := fun d hd => by rw [List.mem_append] at hd; rcases hd with h | h; exact hX3 d h; exact hY3 d h
    have HM := Lib.hid hm
    have hss : (s.toList == s.toList) = true := by simp
    have hmk := Lib.hid (mkS_sb s)
    clear hB hI hgb hgl hX3 hY3 hm hin
    go_enter Try.func10, Try.ntmps10
    go_wp2_with (first
      | (go_at_call 16; refine (HB.out _).mono ?_; rintro e w1 ⟨v1, rfl, hown1, hb1⟩; obtain ⟨g1, c1, rfl, _, _, hc1, hc2⟩ := hown1.some_ (by omega); have hown0 := (own_empty w).below hb1; have hbw1 := later (new_later w _) hb1; clear hb1)
      | (at_builtin; refine wpList_putL hown0 hown1.rd rfl hbw1.size (by simp; omega) rfl (.tmp 19) (.tmp 21) rfl rfl rfl ?_; intro v2 w2 hown2 hb2; have hbw2 : Below w.heap.size w w2 := hbw1.trans hb2; clear hown0 hown1 hbw1 hb2)
      | (go_at_call 18; refine (HI.out _ hbw2).mono ?_; rintro e w3 ⟨v3, rfl, hown3, hb3⟩; obtain ⟨g3, c3, rfl, _, _, hc3, hc4⟩ := hown3.some_ (by omega); have hown2' := hown2.below hb3; have hbw3 := later hbw2 hb3; clear hown2 hb3 hbw2)
      | (at_builtin; refine wpList_putL hown2' hown3.rd rfl hbw3.size (by simp; omega) rfl (.tmp 22) (.tmp 24) rfl rfl rfl ?_; intro v4 w4 hown4 hb4; rw [List.nil_append] at hown4; obtain ⟨g4, c4, rfl, _, _, hc5, hc6⟩ := hown4.some_ (by simp; omega); have hbw4 : Below w.heap.size w w4 := hbw3.trans hb4; clear hown2' hown3 hbw3 hb4)
      | (go_at_call 26; refine (getBytes_call (X.length + Y.length) w4.heap.size c4 _ (X ++ Y) w4 HGB.out (by simp) hown4.rd HXY.out (by simpa using hc5) hc6).mono ?_; rw [hmk.out]; rintro e w5 ⟨rfl, k5, rfl⟩)
      | (go_at_call 28; rw [if_neg (by simp at hc5; omega : ¬ c4 = X.length)]; have hdrop : (bs (X ++ Y)).drop X.length = bs Y := by rw [bs_app]; simp [bs]
         have hrd4 := hown4.rd.drop X.length; rw [hdrop, Nat.zero_add] at hrd4; have hrd5 := hrd4.later (below_drewN (Below.refl _ w4) k5); clear hrd4 hdrop
         refine (GetInts_call Y.length (c4 - X.length) _ Y (w4.drewN k5) HGL.out rfl hrd5 HY.out (by simp at hc5; omega) (by omega) (by omega)).mono ?_; rintro e w6 ⟨A6, c6, rfl, hr6, hb6⟩; have hbw6 := later (below_drewN hbw4 k5) hb6; clear hb6 hrd5 hown4 hbw4)
      | (go_at_call 12; refine (sanity_any _).mono ?_; rintro e w7 ⟨rfl, hb7⟩; have hr7 := hr6.later hb7; have hbw7 := later hbw6 hb7; have hr7' := (hr.later hbw7); clear hr6 hb7 hbw6)
      | (go_at_call 30; have hS := SameInts_any l.length m _ c6 c _ _ l l w7 rfl HM.out hr7 hr7' (by have := HM.out; omega); rw [decide_eq_true (rfl : l = l)] at hS; refine hS.mono ?_; rintro e w8 ⟨rfl, k8, rfl⟩))
    go_goals
    go_ret
    exact ⟨rfl, below_drewN hbw7 k8⟩
end Go.Proofs.Ytidockbgmpaoeaa
