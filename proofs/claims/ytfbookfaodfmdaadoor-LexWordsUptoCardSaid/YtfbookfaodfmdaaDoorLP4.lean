import Derived.Test.YtfbookfaodfmdaaDoorLP2
set_option linter.unusedVariables false
set_option linter.unusedSimpArgs false
namespace Go.Proofs.YtfbookfaodfmdaaDoor
open Go.RowKit

/-- The two texts lie in a row, a tighter bound. -/
def Row2'' (g : Nat) (W : World) : Prop := ∀ j, j < 2 → ∃ x : ByteArray, x.size ≤ 140737488355328 ∧ W.cell? ⟨g, j, none⟩ = some (.string x)
theorem Row2''.new (W : World) (x y : ByteArray) (hx : x.size ≤ 140737488355328) (hy : y.size ≤ 140737488355328) (t : TypeId) : Row2'' W.heap.size (W.alloc (.cells #[.string x, .string y] t)) := by
  intro j hj
  rcases (by omega : j = 0 ∨ j = 1) with rfl | rfl
  · exact ⟨x, hx, by rw [cell_of_row _ _ _ _ _ _ (heap_alloc_new W _)]; rfl⟩
  · exact ⟨y, hy, by rw [cell_of_row _ _ _ _ _ _ (heap_alloc_new W _)]; rfl⟩
theorem append_q (x y : ByteArray) (n m : Nat) (hx : x.size ≤ n) (hy : y.size ≤ m) (h : n + m ≤ 281474976710656) : (x ++ y).size ≤ 281474976710656 ∧ ¬ x.size + y.size > 9223372036854775807 := by
  rw [ByteArray.size_append]; omega
theorem sb_cat (a b : ByteArray) : sb (a ++ b) = sb a ++ sb b := by simp [sb, ByteArray.data_append]
theorem size_tok : (sizeOf (Tryd.prog.elem 27)) = (sizeOf 40) := by rfl
theorem slice_toT (A : Option Addr) (n cap k : Nat) (h : k ≤ cap) (W : World) : (Instr.slice 27 (.slice A n cap) none (some (.int .i64 (k : Int))) none).run Tryd.prog W = .ok (.slice A k cap) W := by
  rw [run_slice_h W 27 A n cap Tryd.underlying27 .i64 (k : Int) (by omega) (by omega), size_tok, Tryd.sizeOf40]
  cases A <;> simp [Result.andThen, sliced, Addr.add]
theorem tv_take (T : List (List Nat × List Nat)) (k : Nat) : (tv T).take (2 * k) = tv (T.take k) := by
  induction T generalizing k with
  | nil => simp [tv]
  | cons x T ih =>
    cases k with
    | zero => simp [tv]
    | succ k =>
      have := ih k
      rw [show 2 * (k + 1) = (2 * k) + 1 + 1 by omega]
      simp [tv] at this ⊢
      exact this
theorem tv_drop (T : List (List Nat × List Nat)) (k : Nat) : (tv T).drop (2 * k) = tv (T.drop k) := by
  induction T generalizing k with
  | nil => simp [tv]
  | cons x T ih =>
    cases k with
    | zero => simp [tv]
    | succ k =>
      have := ih k
      rw [show 2 * (k + 1) = (2 * k) + 1 + 1 by omega]
      simp [tv] at this ⊢
      exact this

theorem slice_fromT (b o n cap k : Nat) (T : List (List Nat × List Nat)) (hn : n = T.length) (h : k ≤ n) (hcap : n ≤ cap) : ∃ A', (∀ W, (Instr.slice 27 (.slice (some ⟨b, o, none⟩) n cap) (some (.int .i64 (k : Int))) none none).run Tryd.prog W = .ok (.slice A' (n - k) (cap - k)) W) ∧
    ∀ W B, Rd W B (some ⟨b, o, none⟩) (tv T) → Rd W B A' (tv (T.drop k)) := by
  have hrun : ∀ W, (Instr.slice 27 (.slice (some ⟨b, o, none⟩) n cap) (some (.int .i64 (k : Int))) none none).run Tryd.prog W = .ok (.slice (if cap = k then some ⟨b, o, none⟩ else some ⟨b, o + k * 2, none⟩) (n - k) (cap - k)) W := by
    intro W
    rw [run_slice_l W 27 (some ⟨b, o, none⟩) n cap Tryd.underlying27 .i64 (k : Int) (by omega) (by omega), size_tok, Tryd.sizeOf40]
    simp [Result.andThen, sliced, Addr.add]
    by_cases h1 : cap = k
    · rw [if_pos h1, if_pos h1]
    · rw [if_neg h1, if_neg h1]
      by_cases h2 : k = 0
      · subst h2; simp
      · rw [if_neg (by omega : ¬ k * 2 = 0)]
  refine ⟨_, hrun, ?_⟩
  intro W B hr
  by_cases h1 : cap = k
  · rw [if_pos h1, List.drop_of_length_le (by omega)]
    exact Rd.nil _ _ _
  · rw [if_neg h1]
    have h2 := hr.drop (2 * k)
    rw [tv_drop, show o + 2 * k = o + k * 2 by omega] at h2
    exact h2
/-- Scan of what is read, its capacity. -/
theorem Scan_readc {s : ByteArray} {T : List (List Nat × List Nat)} {E : List Nat} (h2 : s.size ≤ 281474976710656) (h : SC (sb s) = (T, E, -1)) (k : Nat) (hk' : T.length = k) (w : World) (hk : Kx w) :
    Calls Tryd.prog 11 #[.string s] w fun e w' => ∃ A c, e = .returned (.tuple #[.slice A k c, .string (mkS E), .int .i64 (-1)]) ∧ k ≤ c ∧ c ≤ maxLen ∧ Rd w' w'.heap.size A (tv T) ∧ Below w.heap.size w w' := by
  refine (Scan_any s h2 w hk).mono ?_
  rw [h]
  rintro e w' ⟨v, rfl, ho, hb⟩
  obtain ⟨A, c, rfl, h3, h4, hr⟩ := ho.shape
  exact ⟨A, c, by rw [hk'], by have h3' : T.length ≤ c := h3; omega, h4, hr, hb⟩
theorem plain_rd (n cap : Nat) (A : Option Addr) (T : List (List Nat × List Nat)) (W : World) (hn : n = T.length) (hn2 : n ≤ 100000) (hr : Rd W W.heap.size A (tv T)) :
    Calls Tryd.prog 14 #[.slice A n cap] W fun e w' => ∃ A' c', e = .returned (.slice A' n c') ∧ Rd w' w'.heap.size A' (tv T) ∧ Below W.heap.size W w' := by
  refine (plain_any n cap A T W hn hn2 hr).mono ?_
  rintro e w' ⟨v, rfl, ho, hb⟩
  obtain ⟨A', c', hv, _, _, _⟩ := own_shape ho
  subst hv
  exact ⟨A', c', by rw [hn], Rd.own ho, hb⟩
theorem same_rd (n c d : Nat) (A A' : Option Addr) (T : List (List Nat × List Nat)) (W : World) (hn : n = T.length) (hn2 : n ≤ 100000) (hr : Rd W W.heap.size A (tv T)) (hr' : Rd W W.heap.size A' (tv T)) :
    Calls Tryd.prog 13 #[.slice A n c, .slice A' n d] W fun e w' => e = .returned (.bool true) ∧ Below W.heap.size W w' := by
  refine (RSame_any n n W.heap.size c d A A' T T W hn hn hr hr' (by omega)).mono ?_
  rintro e w' ⟨rfl, k, rfl⟩
  exact ⟨by simp, below_drewN (Below.refl _ _) k⟩
theorem sc_read {L : List Nat} (h : (SC L).2.2 = -1) : ∃ T e, S [] L = .ok T e ∧ SC L = (T, e, -1) ∧ (cat T).length + e.length = L.length ∧ T.length ≤ L.length := by
  rcases sc_cases L with ⟨_, hc⟩ | ⟨_, T, e, h1, hc⟩ | ⟨_, n, _, hc, _⟩
  · rw [hc] at h; cases h
  · obtain ⟨hcat, hch, _⟩ := (S_iff _ _ _).1 h1
    have h2 : (cat T).length + e.length = L.length := by rw [hcat, List.length_append]
    refine ⟨T, e, h1, hc, h2, ?_⟩
    have := tok_len_le (T := T) (fun y hy => (hch.good y hy).2.1)
    omega
  · rw [hc] at h; simp only at h; omega
theorem tok_zero {W : World} {A : Option Addr} {x : List Nat × List Nat} {T : List (List Nat × List Nat)} (hr : Rd W W.heap.size A (tv (x :: T))) : ∃ b o, A = some ⟨b, o, none⟩ ∧ ∀ W', Below W.heap.size W W' → W'.cell? ⟨b, o, none⟩ = some (.string (mkS x.1)) ∧ W'.cell? ⟨b, o + 1, none⟩ = some (.string (mkS x.2)) := by
  obtain ⟨b, o, h1, h2, h3, h4⟩ := tok_at hr 0 (Nat.succ_pos _)
  exact ⟨b, o, h1, fun W' hW => ⟨(hW.cell (p := ⟨b, o, none⟩) h2).trans h3, (hW.cell (p := ⟨b, o + 1, none⟩) h2).trans h4⟩⟩
theorem tok_mid {W : World} {A : Option Addr} {x : List Nat × List Nat} {T T' : List (List Nat × List Nat)} {n : Nat} (hn : T.length = n) (hr : Rd W W.heap.size A (tv (T ++ x :: T'))) : ∃ b o, A = some ⟨b, o, none⟩ ∧ ∀ W', Below W.heap.size W W' → W'.cell? ⟨b, o + n * 2, none⟩ = some (.string (mkS x.1)) ∧ W'.cell? ⟨b, o + n * 2 + 1, none⟩ = some (.string (mkS x.2)) := by
  subst hn
  obtain ⟨b, o, h1, h2, h3, h4⟩ := tok_at hr T.length (by simp)
  rw [show o + 2 * T.length = o + T.length * 2 by omega] at h3 h4
  simp at h3 h4
  exact ⟨b, o, h1, fun W' hW => ⟨(hW.cell (p := ⟨b, o + T.length * 2, none⟩) h2).trans h3, (hW.cell (p := ⟨b, o + T.length * 2 + 1, none⟩) h2).trans h4⟩⟩
set_option maxHeartbeats 8000000 in
set_option maxRecDepth 100000 in
theorem LexJoins_any (m cap m' cap' : Nat) (A A' : Option Addr) (l l' : List Int) (raw : ByteArray) (w : World) (hm : m = l.length) (hm' : m' = l'.length) (hm2 : m ≤ maxLen) (hm2' : m' ≤ maxLen) (hl : ∀ x ∈ l, InR x) (hl' : ∀ x ∈ l', InR x) (hr : Rd w w.heap.size A (iv l)) (hr' : Rd w w.heap.size A' (iv l')) (hraw : raw.size ≤ 140737488355328) (hk : Kx w) :
    Calls Tryd.prog 7 #[.slice A m cap, .slice A' m' cap', .string raw] w (SRes w) := by
  have HSam : Hid (∀ W, Below w.heap.size w W → Calls Tryd.prog 9 #[.slice A m cap] W fun e w' => ∃ s : ByteArray, e = .returned (.string s) ∧ s.size ≤ 5000 ∧ Below W.heap.size W w') := Lib.hid fun W hW =>
    (Sample_any m cap A l W hm hm2 hl (hr.later hW)).mono fun e w' ⟨X, h1, h2, h3⟩ => ⟨mkS X, h1, by rw [mkS_size]; exact h2, h3⟩
  have HSam2 : Hid (∀ W, Below w.heap.size w W → Calls Tryd.prog 9 #[.slice A' m' cap'] W fun e w' => ∃ s : ByteArray, e = .returned (.string s) ∧ s.size ≤ 5000 ∧ Below W.heap.size W w') := Lib.hid fun W hW =>
    (Sample_any m' cap' A' l' W hm' hm2' hl' (hr'.later hW)).mono fun e w' ⟨X, h1, h2, h3⟩ => ⟨mkS X, h1, by rw [mkS_size]; exact h2, h3⟩
  have HRw := Lib.hid hraw
  have HK := Lib.hid hk
  have HLV := Lib.hid fun (W : World) (hW : Kx W) => lives_any W hW
  have HSN := Lib.hid fun (s : ByteArray) (n : Int) (h2 : s.size ≤ 281474976710656) (h : (SC (sb s)).2.2 = n) (W : World) (hW : Kx W) => Scan_num h2 h W hW
  clear hm hm' hl hl' hr hr' hraw hk
  go_enter Tryd.func7, Tryd.ntmps7
  go_upto_region 2 with (go_at_call 9; (with_reducible refine (HSam.out _ (Below.refl _ _)).mono ?_); rintro e w1 ⟨s, rfl, hs1, hb1⟩; have HB1 := Lib.hid hb1; have HQ1 : Hid (s.size ≤ 5000) := Lib.hid hs1; clear hs1 hb1)
  go_upto_region 3 with (go_at_call 9; (with_reducible refine (HSam2.out _ HB1.out).mono ?_); rintro e w2 ⟨s2, rfl, hs2, hb2⟩; have HB2 := Lib.hid (later HB1.out hb2); have HQ2 : Hid (s2.size ≤ 5000) := Lib.hid hs2; clear hs2 hb2)
  have hrow := Row2''.new w2 s2 raw (by have := HQ2.out; omega) HRw.out 9
  have hV0 := later HB2.out (new_later w2 (.cells #[.string s2, .string raw] 9))
  have hg := alloc_size1 w2 (.cells #[.string s2, .string raw] 9)
  generalize w2.alloc (.cells #[.string s2, .string raw] 9) = w0 at hrow hV0 hg ⊢
  have hgl : w2.heap.size < w0.heap.size := by omega
  generalize w2.heap.size = g at hrow hg hgl ⊢
  have HROW := Lib.hid hrow
  have HV0 := Lib.hid hV0
  have HK0 := Lib.hid (HK.out.later hV0)
  have HGL := Lib.hid hgl
  have hss := HQ1.out
  have hssi : (s.size : Int) ≤ 5000 := by omega
  clear hrow hV0 hg hgl HQ2
  go_wp2_with fail
  go_loopw [9, 10, 11, 12, 13, 14, 15, 16, 17, 18, 19] (fun i _ _ _ _ _ _ _ _ _ _ W => ∃ j : Nat, j ≤ 2 ∧ i = .int .i64 (j : Int) ∧ Below w0.heap.size w0 W) (fun i _ _ _ _ _ _ _ _ _ _ _ => 2 - (intOf i).toNat)
  case atStart => exact ⟨0, by omega, rfl, Below.refl _ _⟩
  case round =>
    obtain ⟨j, hj, rfl, hb⟩ := hrel
    by_cases hlt : j < 2
    · have hji : (j : Int) < 2 := by omega
      have hj0 : (0 : Int) ≤ (j : Int) := by omega
      obtain ⟨x, hxs, hx0⟩ := HROW.out j hlt
      have hx := (hb.cell (p := ⟨g, j, none⟩) HGL.out).trans hx0
      have HKr := Lib.hid (HK0.out.later hb)
      have HBr := Lib.hid hb
      have hxsi : (x.size : Int) ≤ 140737488355328 := by omega
      obtain ⟨q1, hq1⟩ := append_q s ⟨#[10]⟩ 5000 1 hss (Nat.le_refl _) (by decide)
      have hq0 : (s ++ (ByteArray.mk #[10])).size ≤ 5001 := by rw [ByteArray.size_append]; show s.size + 1 ≤ _; omega
      obtain ⟨q2, hq2⟩ := append_q (s ++ ⟨#[10]⟩) x 5001 140737488355328 hq0 hxs (by decide)
      have hsb : sb (s ++ ⟨#[10]⟩ ++ x) = sb s ++ 10 :: sb x := by rw [sb_cat, sb_cat]; show (sb s ++ [10]) ++ sb x = _; simp
      clear hx0 hb
      by_cases hcont : (SC (sb s)).2.2 = -1 ∧ (SC (sb x)).2.2 = -1 ∧ s.size + 1 + x.size ≤ 8192
      · obtain ⟨hc1, hc2, hc3⟩ := hcont
        have hc3i : (s.size : Int) + 1 + (x.size : Int) ≤ 8192 := by omega
        obtain ⟨T, e, hok, hsc, hle, hTl⟩ := sc_read hc1
        obtain ⟨T', r, hok', hsc', hle', hTl'⟩ := sc_read hc2
        rw [sb_len] at hle hTl hle' hTl'
        have hlen3 : (sb (s ++ ⟨#[10]⟩ ++ x)).length ≤ 8192 := by rw [hsb, List.length_append, List.length_cons, sb_len, sb_len]; omega
        have HS1 := Lib.hid (Scan_readc (by omega) hsc T.length rfl)
        obtain ⟨nT, hnT⟩ : ∃ nT, T.length = nT := ⟨_, rfl⟩
        rw [hnT] at HS1 hTl
        have hTi : (nT : Int) ≤ 5000 := by omega
        have HNT := Lib.hid hnT
        clear hc1 hc2 hsc
        have hap1 := mkS_app e [10]
        have hap1' : mkS e ++ (ByteArray.mk #[10]) = mkS (e ++ [10]) := hap1
        have hsz1 : ¬ (mkS e).size + (ByteArray.mk #[10]).size > 9223372036854775807 := by rw [mkS_size]; show ¬ e.length + 1 > _; omega
        clear hap1
        cases T' with
        | nil =>
          have hS3 : SC (sb (s ++ ⟨#[10]⟩ ++ x)) = (T, (e ++ [10]) ++ r, -1) := by
            have h := S_join_nil (a := []) hok hok'
            rw [show e ++ 10 :: r = (e ++ [10]) ++ r by simp] at h
            exact sc_ok hlen3 (by rw [hsb]; exact h)
          have HS2 := Lib.hid (Scan_readc (by omega) hsc' 0 rfl)
          have HS3 := Lib.hid (Scan_readc q2 hS3 nT hnT)
          have hap2 := mkS_app (e ++ [10]) r
          have hsz2 : ¬ (mkS (e ++ [10])).size + (mkS r).size > 9223372036854775807 := by rw [mkS_size, mkS_size, List.length_append]; show ¬ e.length + 1 + _ > _; omega
          generalize mkS (e ++ [10] ++ r) = y3 at hap2 HS3
          generalize mkS (e ++ [10]) = y2 at hap1' hap2 hsz2
          generalize mkS e = y1 at hap1' hsz1 HS1
          generalize mkS r = y4 at hap2 hsz2 HS2
          clear hok hok' hsc' hle hle' hTl hTl' hlen3 hsb q1 q2 hq0 hxs hss hS3 hc3 hnT
          go_upto_region 10 with (first
            | (go_at_call 11; (with_reducible refine (HS1.out _ HKr.out).mono ?_); rintro e w3 ⟨A3, c3, rfl, hc3a, hc3b, hr3, hb3⟩; have HB3 := Lib.hid hb3; have HK3 := Lib.hid (HKr.out.later hb3); have HR3 := Lib.hid hr3; have hx3 := (hb3.cell (p := ⟨g, j, none⟩) (Nat.lt_of_lt_of_le HGL.out HBr.out.size)).trans hx; clear hb3 hr3)
            | (go_at_call 11; (with_reducible refine (HS2.out _ HK3.out).mono ?_); rintro e w4 ⟨A4, c4, rfl, hc4a, hc4b, hr4, hb4⟩; have HB4 := Lib.hid hb4; have HK4 := Lib.hid (HK3.out.later hb4); clear hb4 hr4)
            | (go_at_call 11; (with_reducible refine (HS3.out _ HK4.out).mono ?_); rintro e w5 ⟨A5, c5, rfl, hc5a, hc5b, hr5, hb5⟩; have HB5 := Lib.hid hb5; have HR5 := Lib.hid hr5; clear hb5 hr5))
          have hsl := slice_toT A5 nT c5 nT hc5a
          have HP1 := Lib.hid (plain_rd nT c5 A5 T w5 HNT.out.symm (by omega) HR5.out)
          have HP2 := Lib.hid fun (W : World) (hW : Below w5.heap.size w5 W) => plain_rd nT c3 A3 T W HNT.out.symm (by omega) (HR3.out.later (later (later HB4.out HB5.out) hW))
          have HSM := Lib.hid fun (c d : Nat) (A A' : Option Addr) (W : World) (hr : Rd W W.heap.size A (tv T)) (hr' : Rd W W.heap.size A' (tv T)) => same_rd nT c d A A' T W HNT.out.symm (by omega) hr hr'
          clear hc3a hc3b hc4a hc4b hc5a hc5b
          go_wp2_with (first
            | (go_at_call 14; (with_reducible refine HP1.out.mono ?_); rintro e w6 ⟨A6, c6, rfl, hr6, hb6⟩; have HB6 := Lib.hid hb6; have HR6 := Lib.hid hr6; clear hb6 hr6)
            | (go_at_call 14; (with_reducible refine (HP2.out _ HB6.out).mono ?_); rintro e w7 ⟨A7, c7, rfl, hr7, hb7⟩; have HB7 := Lib.hid hb7; have HR7 := Lib.hid hr7; clear hb7 hr7)
            | (go_at_call 13; (with_reducible refine (HSM.out _ _ _ _ _ (HR6.out.later HB7.out) HR7.out).mono ?_); rintro e w8 ⟨rfl, hb8⟩; have HB8 := Lib.hid (later (later (later (later (later HB3.out HB4.out) HB5.out) HB6.out) HB7.out) hb8); clear hb8))
          exact ⟨⟨j + 1, by omega, by go_num, later HBr.out HB8.out⟩, by simp [intOf]; omega⟩
        | cons x1 T2 =>
          obtain ⟨t1, b1⟩ := x1
          have hS3 : SC (sb (s ++ ⟨#[10]⟩ ++ x)) = (T ++ (t1, (e ++ [10]) ++ b1) :: T2, r, -1) := by
            have h := S_join_cons hok hok'
            rw [show e ++ 10 :: b1 = (e ++ [10]) ++ b1 by simp] at h
            exact sc_ok hlen3 (by rw [hsb]; exact h)
          obtain ⟨q, hq⟩ : ∃ q, T2.length = q := ⟨_, rfl⟩
          have hk2 : ((t1, b1) :: T2).length = q + 1 := by rw [List.length_cons, hq]
          have hk3 : (T ++ (t1, (e ++ [10]) ++ b1) :: T2).length = nT + (q + 1) := by rw [List.length_append, List.length_cons, hq, hnT]
          rw [hk2] at hTl'
          have HS2 := Lib.hid (Scan_readc (by omega) hsc' (q + 1) hk2)
          have HS3 := Lib.hid (Scan_readc q2 hS3 (nT + (q + 1)) hk3)
          have hb1l : b1.length ≤ 8192 := by
            have := cat_mem_len (T := (t1, b1) :: T2) (x := (t1, b1)) (List.mem_cons_self ..)
            simp only at this; omega
          have hap2 := mkS_app (e ++ [10]) b1
          have hsz2 : ¬ (mkS (e ++ [10])).size + (mkS b1).size > 9223372036854775807 := by rw [mkS_size, mkS_size, List.length_append]; show ¬ e.length + 1 + _ > _; omega
          have hTA : (tv (T ++ (t1, (e ++ [10]) ++ b1) :: T2)).take (2 * nT) = tv T := by rw [tv_take, ← hnT]; simp
          have hTD : (T ++ (t1, (e ++ [10]) ++ b1) :: T2).drop (nT + 1) = T2 := by rw [← hnT]; simp
          have HTA := Lib.hid hTA
          have HTD := Lib.hid hTD
          have HQ := Lib.hid hq
          have HK3' := Lib.hid hk3
          have HK2' := Lib.hid hk2
          have HTM : Hid (∀ (W : World) (A : Option Addr), Rd W W.heap.size A (tv (T ++ (t1, (e ++ [10]) ++ b1) :: T2)) → ∃ b o, A = some ⟨b, o, none⟩ ∧ ∀ W', Below W.heap.size W W' → W'.cell? ⟨b, o + nT * 2, none⟩ = some (.string (mkS t1)) ∧ W'.cell? ⟨b, o + nT * 2 + 1, none⟩ = some (.string (mkS ((e ++ [10]) ++ b1)))) := Lib.hid fun W A hr => tok_mid hnT hr
          have HTZ : Hid (∀ (W : World) (A : Option Addr), Rd W W.heap.size A (tv ((t1, b1) :: T2)) → ∃ b o, A = some ⟨b, o, none⟩ ∧ ∀ W', Below W.heap.size W W' → W'.cell? ⟨b, o, none⟩ = some (.string (mkS t1)) ∧ W'.cell? ⟨b, o + 1, none⟩ = some (.string (mkS b1))) := Lib.hid fun W A hr => tok_zero hr
          generalize (T ++ (t1, (e ++ [10]) ++ b1) :: T2) = C at hS3 HS3 HTA HTD HTM HK3'
          generalize hC2 : ((t1, b1) :: T2) = C2 at hsc' hok' HS2 HTZ HK2'
          have HD2 : Hid (C2.drop 1 = T2) := Lib.hid (by rw [← hC2]; rfl)
          generalize mkS (e ++ [10] ++ b1) = y3 at hap2 HTM
          generalize mkS (e ++ [10]) = y2 at hap1' hap2 hsz2
          generalize mkS e = y1 at hap1' hsz1 HS1
          generalize mkS b1 = y4 at hap2 hsz2 HTZ
          generalize mkS r = y5 at HS2 HS3
          generalize mkS t1 = z1 at HTM HTZ
          obtain ⟨k3, hk3e⟩ : ∃ k3, nT + (q + 1) = k3 := ⟨_, rfl⟩
          obtain ⟨k2, hk2e⟩ : ∃ k2, q + 1 = k2 := ⟨_, rfl⟩
          obtain ⟨p, hpe⟩ : ∃ p, nT + 1 = p := ⟨_, rfl⟩
          rw [hk3e] at HS3 HK3'
          rw [hk2e] at HS2 HK2' hTl'
          rw [hpe] at HTD
          have hwn : IntKind.i64.wrap ((nT : Int) + (k2 : Int)) = (k3 : Int) := (IntWalk.i64_in _ (by omega)).trans (by omega)
          have hwp : IntKind.i64.wrap ((nT : Int) + 1) = (p : Int) := (IntWalk.i64_in _ (by omega)).trans (by omega)
          have hk2z : ((k2 : Int) == 0) = false := by rw [beq_eq_false_iff_ne]; omega
          have hk2p : (0 : Int) < (k2 : Int) := by omega
          have hk2n : 0 < k2 := by omega
          have hsz1b : ¬ 9223372036854775807 < y1.size + 1 := hsz1
          have hsz1c : y1.size + 1 ≤ 9223372036854775807 := Nat.le_of_not_lt hsz1
          have hn3 : (nT : Int) < (k3 : Int) := by omega
          have hn0 : (0 : Int) ≤ (nT : Int) := by omega
          have HN3 : Hid (nT ≤ k3 ∧ p ≤ k3 ∧ 1 ≤ k2 ∧ k3 - p = q ∧ k2 - 1 = q ∧ q ≤ 8192) := Lib.hid (by omega)
          clear hok hok' hsc' hle hle' hTl hTl' hlen3 hsb q1 q2 hq0 hxs hss hS3 hc3 hnT hTA hTD hk2 hk3 hb1l hC2 hk3e hk2e hpe hq
          go_upto_region 10 with (first
            | (go_at_call 11; (with_reducible refine (HS1.out _ HKr.out).mono ?_); rintro e w3 ⟨A3, c3, rfl, hc3a, hc3b, hr3, hb3⟩; have HB3 := Lib.hid hb3; have HK3 := Lib.hid (HKr.out.later hb3); have HR3 := Lib.hid hr3; have hx3 := (hb3.cell (p := ⟨g, j, none⟩) (Nat.lt_of_lt_of_le HGL.out HBr.out.size)).trans hx; clear hb3 hr3)
            | (go_at_call 11; (with_reducible refine (HS2.out _ HK3.out).mono ?_); rintro e w4 ⟨A4, c4, rfl, hc4a, hc4b, hr4, hb4⟩; have HB4 := Lib.hid hb4; have HK4 := Lib.hid (HK3.out.later hb4); have HR4 := Lib.hid hr4; clear hb4 hr4)
            | (go_at_call 11; (with_reducible refine (HS3.out _ HK4.out).mono ?_); rintro e w5 ⟨A5, c5, rfl, hc5a, hc5b, hr5, hb5⟩; have HB5 := Lib.hid hb5; have HR5 := Lib.hid hr5; clear hb5 hr5))
          obtain ⟨b5, o5, rfl, htm⟩ := HTM.out _ _ HR5.out
          obtain ⟨b4, o4, rfl, htz⟩ := HTZ.out _ _ HR4.out
          have HCL : Hid (∀ W, Below w5.heap.size w5 W → (W.cell? ⟨b5, o5 + nT * 2, none⟩ = some (.string z1) ∧ W.cell? ⟨b5, o5 + nT * 2 + 1, none⟩ = some (.string y3)) ∧ W.cell? ⟨b4, o4, none⟩ = some (.string z1) ∧ W.cell? ⟨b4, o4 + 1, none⟩ = some (.string y4)) := Lib.hid fun W hW => ⟨htm W hW, htz W (later HB5.out hW)⟩
          have hsl := slice_toT (some ⟨b5, o5, none⟩) k3 c5 nT (by have := HN3.out; omega)
          obtain ⟨A6, hsl2, hrd2⟩ := slice_fromT b5 o5 k3 c5 p C HK3'.out.symm HN3.out.2.1 hc5a
          obtain ⟨A7, hsl3, hrd3⟩ := slice_fromT b4 o4 k2 c4 1 C2 HK2'.out.symm HN3.out.2.2.1 hc4a
          rw [HN3.out.2.2.2.1] at hsl2
          rw [HN3.out.2.2.2.2.1] at hsl3
          rw [show ((1 : Nat) : Int) = 1 from rfl] at hsl3
          have HP1 := Lib.hid (plain_rd nT c5 (some ⟨b5, o5, none⟩) T w5 HNT.out.symm (by omega) (by rw [← HTA.out]; exact HR5.out.take _))
          have HP2 := Lib.hid fun (W : World) (hW : Below w5.heap.size w5 W) => plain_rd nT c3 A3 T W HNT.out.symm (by omega) (HR3.out.later (later (later HB4.out HB5.out) hW))
          have HP3 := Lib.hid fun (W : World) (hW : Below w5.heap.size w5 W) => plain_rd q (c5 - p) A6 T2 W HQ.out.symm (by have := HN3.out; omega) (by rw [← HTD.out]; exact hrd2 _ _ (HR5.out.later hW))
          have HP4 := Lib.hid fun (W : World) (hW : Below w5.heap.size w5 W) => plain_rd q (c4 - 1) A7 T2 W HQ.out.symm (by have := HN3.out; omega) (by rw [← HD2.out]; exact hrd3 _ _ (HR4.out.later (later HB5.out hW)))
          have HSM := Lib.hid fun (c d : Nat) (A A' : Option Addr) (W : World) (hr : Rd W W.heap.size A (tv T)) (hr' : Rd W W.heap.size A' (tv T)) => same_rd nT c d A A' T W HNT.out.symm (by omega) hr hr'
          have HSM2 := Lib.hid fun (c d : Nat) (A A' : Option Addr) (W : World) (hr : Rd W W.heap.size A (tv T2)) (hr' : Rd W W.heap.size A' (tv T2)) => same_rd q c d A A' T2 W HQ.out.symm (by have := HN3.out; omega) hr hr'
          clear hc3a hc3b hc4a hc4b hc5a hc5b htm htz hrd2 hrd3
          go_upto_region 16 with (first
            | (go_at_call 14; (with_reducible refine HP1.out.mono ?_); rintro e w6 ⟨A8, c8, rfl, hr6, hb6⟩; have HB6 := Lib.hid hb6; have HR6 := Lib.hid hr6; clear hb6 hr6)
            | (go_at_call 14; (with_reducible refine (HP2.out _ HB6.out).mono ?_); rintro e w7 ⟨A9, c9, rfl, hr7, hb7⟩; have HB7 := Lib.hid hb7; have HR7 := Lib.hid hr7; clear hb7 hr7)
            | (go_at_call 13; (with_reducible refine (HSM.out _ _ _ _ _ (HR6.out.later HB7.out) HR7.out).mono ?_); rintro e w8 ⟨rfl, hb8⟩; have HB8 := Lib.hid (later (later HB6.out HB7.out) hb8); clear hb8))
          have hbd : Below w5.heap.size w5 w8.drew := below_drewN HB8.out 1
          clear HP1 HP2 HSM hsl
          go_region_held3 (fun W => (W.cell? ⟨b5, o5 + nT * 2, none⟩ = some (.string z1) ∧ W.cell? ⟨b5, o5 + nT * 2 + 1, none⟩ = some (.string y3)) ∧ W.cell? ⟨b4, o4, none⟩ = some (.string z1) ∧ W.cell? ⟨b4, o4 + 1, none⟩ = some (.string y4))
            (first | exact HCL.out _ hbd | exact HCL.out _ hb9 | exact HCL.out _ hb10 | exact HCL.out _ hb11)
            (first
              | (go_at_call 14; (with_reducible refine (HP3.out _ hbd).mono ?_); rintro e w9 ⟨A10, c10, rfl, hr9, hb90⟩; have hb9 := later hbd hb90; have HR9 := Lib.hid hr9)
              | (go_at_call 14; (with_reducible refine (HP4.out _ hb9).mono ?_); rintro e w10 ⟨A11, c11, rfl, hr10, hb100⟩; have hb10 := later hb9 hb100; have HR10 := Lib.hid hr10; have HR9' := Lib.hid (HR9.out.later hb100))
              | (go_at_call 13; (with_reducible refine (HSM2.out _ _ _ _ _ HR9'.out HR10.out).mono ?_); rintro e w11 ⟨rfl, hb110⟩; have hb11 := later hb10 hb110))
          have HBE := Lib.hid (later (later HB3.out (later HB4.out HB5.out)) hb11)
          clear hb9 hb90 hb10 hb100 hb11 hb110 hr9 hr10 hbd HCL
          go_wp2_with fail
          exact ⟨⟨j + 1, by omega, by go_num, later HBr.out HBE.out⟩, by simp [intOf]; omega⟩
      · have HS1 := Lib.hid (HSN.out s _ (by omega) rfl)
        have HS2 := Lib.hid (HSN.out x _ (by omega) rfl)
        have HS3 := Lib.hid (HSN.out (s ++ ⟨#[10]⟩ ++ x) _ q2 rfl)
        generalize (SC (sb (s ++ ⟨#[10]⟩ ++ x))).2.2 = n3 at HS3
        generalize (SC (sb s)).2.2 = n1 at HS1 hcont
        generalize (SC (sb x)).2.2 = n2 at HS2 hcont
        have hcc : (n1 != -1) = true ∨ ((n1 != -1) = false ∧ (n2 != -1) = true) ∨ ((n1 != -1) = false ∧ (n2 != -1) = false ∧ (8192 : Int) < (s.size : Int) + 1 + (x.size : Int)) := by
          by_cases h1 : n1 = -1
          · by_cases h2 : n2 = -1
            · exact .inr (.inr ⟨by simp [h1], by simp [h2], by omega⟩)
            · exact .inr (.inl ⟨by simp [h1], by simpa using h2⟩)
          · exact .inl (by simpa using h1)
        clear hcont hsb q1 q2 hq0 hss hxs
        rcases hcc with hc1 | ⟨hc1, hc2⟩ | ⟨hc1, hc2, hc3⟩
        all_goals
          go_wp2_with (first
            | (go_at_call 11; (with_reducible refine (HS1.out _ HKr.out).mono ?_); rintro e w3 ⟨v3, E3, rfl, hb3⟩; have HB3 := Lib.hid hb3; have HK3 := Lib.hid (HKr.out.later hb3); have hx3 := (hb3.cell (p := ⟨g, j, none⟩) (Nat.lt_of_lt_of_le HGL.out HBr.out.size)).trans hx; clear hb3)
            | (go_at_call 11; (with_reducible refine (HS2.out _ HK3.out).mono ?_); rintro e w4 ⟨v4, E4, rfl, hb4⟩; have HB4 := Lib.hid (later HB3.out hb4); have HK4 := Lib.hid (HK3.out.later hb4); clear hb4)
            | (go_at_call 11; (with_reducible refine (HS3.out _ HK4.out).mono ?_); rintro e w5 ⟨v5, E5, rfl, hb5⟩; have HB5 := Lib.hid (later HB4.out hb5); clear hb5))
          exact ⟨⟨j + 1, by omega, by go_num, later HBr.out HB5.out⟩, by simp [intOf]; omega⟩
    · obtain rfl : j = 2 := by omega
      have HKr := Lib.hid (HK0.out.later hb)
      have HBr := Lib.hid (later HV0.out hb)
      clear hb hlt
      go_wp2_with (go_at_call 15; (with_reducible refine (HLV.out _ HKr.out).mono ?_); rintro e w5 ⟨rfl, hb5⟩; have HB5 := Lib.hid hb5; clear hb5)
      go_ret
      exact ⟨rfl, later HBr.out HB5.out⟩
end Go.Proofs.YtfbookfaodfmdaaDoor
