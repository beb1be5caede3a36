import Derived.Test.YtfbookfaodfmdaaDoorLR4
import Derived.Test.YtfbookfaodfmdaaDoorLG5
set_option linter.unusedVariables false
set_option linter.unusedSimpArgs false
namespace Go.Proofs.YtfbookfaodfmdaaDoor
open Go.RowKit

set_option maxRecDepth 100000 in
theorem kws_len : kws.length = 27 := rfl
set_option maxHeartbeats 1000000 in
set_option maxRecDepth 100000 in
theorem Keywords_any (w : World) :
    Calls Tryd.prog 17 #[] w fun e w' => e = .returned (.slice (some ⟨w.heap.size, 0, none⟩) 27 27) ∧ w'.heap[w.heap.size]? = some (.cells (ss kws).toArray 9 (0, 0)) ∧ Below w.heap.size w w' := by
  have hn := heap_alloc_new w (.cells #[.string ⟨#[109, 111, 100, 117, 108, 101]⟩, .string ⟨#[117, 115, 101]⟩, .string ⟨#[114, 101, 99]⟩, .string ⟨#[99, 97, 115, 101]⟩, .string ⟨#[102, 117, 110]⟩, .string ⟨#[111, 110]⟩, .string ⟨#[116, 101, 115, 116]⟩, .string ⟨#[99, 111, 110, 118]⟩, .string ⟨#[116, 114, 117, 101]⟩, .string ⟨#[102, 97, 108, 115, 101]⟩, .string ⟨#[110, 111, 116]⟩, .string ⟨#[97, 110, 100]⟩, .string ⟨#[111, 114]⟩, .string ⟨#[105, 102]⟩, .string ⟨#[116, 104, 101, 110]⟩, .string ⟨#[101, 108, 115, 101]⟩, .string ⟨#[108, 101, 116]⟩, .string ⟨#[105, 110]⟩, .string ⟨#[109, 97, 116, 99, 104]⟩, .string ⟨#[102, 111, 108, 100]⟩, .string ⟨#[111, 118, 101, 114]⟩, .string ⟨#[100, 111]⟩, .string ⟨#[108, 101, 110]⟩, .string ⟨#[106, 111, 105, 110]⟩, .string ⟨#[76, 105, 115, 116]⟩, .string ⟨#[73, 110, 116]⟩, .string ⟨#[66, 111, 111, 108]⟩] 9)
  have V := new_later w (.cells #[.string ⟨#[109, 111, 100, 117, 108, 101]⟩, .string ⟨#[117, 115, 101]⟩, .string ⟨#[114, 101, 99]⟩, .string ⟨#[99, 97, 115, 101]⟩, .string ⟨#[102, 117, 110]⟩, .string ⟨#[111, 110]⟩, .string ⟨#[116, 101, 115, 116]⟩, .string ⟨#[99, 111, 110, 118]⟩, .string ⟨#[116, 114, 117, 101]⟩, .string ⟨#[102, 97, 108, 115, 101]⟩, .string ⟨#[110, 111, 116]⟩, .string ⟨#[97, 110, 100]⟩, .string ⟨#[111, 114]⟩, .string ⟨#[105, 102]⟩, .string ⟨#[116, 104, 101, 110]⟩, .string ⟨#[101, 108, 115, 101]⟩, .string ⟨#[108, 101, 116]⟩, .string ⟨#[105, 110]⟩, .string ⟨#[109, 97, 116, 99, 104]⟩, .string ⟨#[102, 111, 108, 100]⟩, .string ⟨#[111, 118, 101, 114]⟩, .string ⟨#[100, 111]⟩, .string ⟨#[108, 101, 110]⟩, .string ⟨#[106, 111, 105, 110]⟩, .string ⟨#[76, 105, 115, 116]⟩, .string ⟨#[73, 110, 116]⟩, .string ⟨#[66, 111, 111, 108]⟩] 9)
  have HN : Hid ((w.alloc (.cells #[.string ⟨#[109, 111, 100, 117, 108, 101]⟩, .string ⟨#[117, 115, 101]⟩, .string ⟨#[114, 101, 99]⟩, .string ⟨#[99, 97, 115, 101]⟩, .string ⟨#[102, 117, 110]⟩, .string ⟨#[111, 110]⟩, .string ⟨#[116, 101, 115, 116]⟩, .string ⟨#[99, 111, 110, 118]⟩, .string ⟨#[116, 114, 117, 101]⟩, .string ⟨#[102, 97, 108, 115, 101]⟩, .string ⟨#[110, 111, 116]⟩, .string ⟨#[97, 110, 100]⟩, .string ⟨#[111, 114]⟩, .string ⟨#[105, 102]⟩, .string ⟨#[116, 104, 101, 110]⟩, .string ⟨#[101, 108, 115, 101]⟩, .string ⟨#[108, 101, 116]⟩, .string ⟨#[105, 110]⟩, .string ⟨#[109, 97, 116, 99, 104]⟩, .string ⟨#[102, 111, 108, 100]⟩, .string ⟨#[111, 118, 101, 114]⟩, .string ⟨#[100, 111]⟩, .string ⟨#[108, 101, 110]⟩, .string ⟨#[106, 111, 105, 110]⟩, .string ⟨#[76, 105, 115, 116]⟩, .string ⟨#[73, 110, 116]⟩, .string ⟨#[66, 111, 111, 108]⟩] 9)).heap[w.heap.size]? = some (.cells (ss kws).toArray 9 (0, 0))) := Lib.hid hn
  have HV := Lib.hid V
  clear hn V
  go_enter Tryd.func17, Tryd.ntmps17
  go_wp2_with fail
  go_ret
  exact ⟨rfl, HN.out, HV.out⟩

theorem isKw_yes {s : ByteArray} (h : s ∈ kws) : isKw s = true := List.any_eq_true.2 ⟨s, h, by simp⟩
theorem isKw_no {s : ByteArray} (h : s ∉ kws) : isKw s = false := by
  rw [Bool.eq_false_iff]
  intro e
  obtain ⟨k, hk, he⟩ := List.any_eq_true.1 e
  rw [beq_str] at he
  exact h (by rw [of_decide_eq_true he]; exact hk)
theorem wsz_le (c : Nat) (t : List Nat) : wsz (c :: t) ≤ t.length + 1 := by
  rw [wsz_cons]; have := run_le (kd c) t; omega

set_option maxHeartbeats 4000000 in
set_option maxRecDepth 100000 in
theorem RWord_any (s : ByteArray) (h2 : s.size ≤ 281474976710656) (w : World) :
    Calls Tryd.prog 20 #[.string s] w fun e w' => e = .returned (.bool (wrd s)) ∧ Below w.heap.size w w' := by
  have HL := Lib.hid (sb_len s)
  obtain ⟨Z, hZ⟩ : ∃ Z, wrd s = Z := ⟨_, rfl⟩
  rw [hZ]
  unfold wrd at hZ
  by_cases h0 : s.size = 0
  · rw [decide_eq_false (by omega)] at hZ
    simp only [Bool.false_and] at hZ
    have h0i : (s.size : Int) = 0 := by omega
    subst hZ
    clear HL h2 h0
    go_enter Tryd.func20, Tryd.ntmps20
    go_wp2_with fail
    go_ret
    exact ⟨rfl, Below.refl _ _⟩
  obtain ⟨c0, hb0, hd0, hx0⟩ := str_step s 0 (by omega)
  have hx0' : ∀ W, (Instr.index 9 (.string s) (.int .i64 0)).run Tryd.prog W = .ok (.int .u8 (c0 : Int)) W := fun W => hx0 W
  rw [List.drop_zero, Nat.zero_add] at hd0
  have h0i : ((s.size : Int) == 0) = false := by rw [beq_eq_false_iff_ne]; omega
  have hsp : (0 : Int) < (s.size : Int) := by omega
  have HK0 := Lib.hid fun W => Kind_any c0 hb0 W
  by_cases h4 : kd c0 = 4
  · rw [show kn c0 = 1 by unfold kn; rw [if_pos h4]] at HK0
    have HEN := Lib.hid fun (W : World) => end_any s 0 (by omega) h2 W
    rw [List.drop_zero] at HEN
    have HKW := Lib.hid fun (W : World) => Keywords_any W
    have htk : tk (sb s) = wsz (sb s) := by rw [hd0, tk_cons, if_pos (.inr h4)]
    have hwl : wsz (sb s) ≤ s.size := by have := wsz_le c0 ((sb s).drop 1); rw [← hd0, List.length_drop, HL.out] at this; omega
    have hw0 : 0 < wsz (sb s) := by rw [hd0, wsz_cons]; omega
    rw [show (sb s).headD 0 = c0 by rw [hd0]; rfl] at hZ
    have HZ1 : Hid (s ∈ kws → Z = false) := Lib.hid fun h => by rw [← hZ, isKw_yes h]; simp
    have HZ2 : Hid (s ∉ kws → ((if tk (sb s) = 0 ∨ 16 < tk (sb s) then (-1 : Int) else ((0 + tk (sb s) : Nat) : Int)) == (s.size : Int)) = Z) := Lib.hid fun h => by
      rw [← hZ, isKw_no h, htk, Bool.not_false, Bool.and_true]
      by_cases h5 : 16 < wsz (sb s)
      · rw [if_pos (.inr h5), decide_eq_false (by omega), beq_eq_false_iff_ne]; omega
      · rw [if_neg (by omega)]
        by_cases h6 : wsz (sb s) = s.size
        · rw [decide_eq_true ⟨by omega, by omega, h4, h6⟩, beq_iff_eq]; omega
        · rw [decide_eq_false (by omega), beq_eq_false_iff_ne]; omega
    unfold enI at HEN
    generalize (if tk (sb s) = 0 ∨ 16 < tk (sb s) then (-1 : Int) else ((0 + tk (sb s) : Nat) : Int)) = R at HEN HZ2
    have HEN2 : Hid (∀ W, Calls Tryd.prog 35 #[.string s, .int .i64 0] W (DrawRes (.int .i64 R) W)) := Lib.hid fun W => HEN.out W
    clear hZ htk hwl hw0 hb0 hd0 hx0 h4 h0 h2 HEN HL
    go_enter Tryd.func20, Tryd.ntmps20
    go_wp2_with (first
      | (go_at_call 38; (with_reducible refine (HK0.out _).mono ?_); rintro e w' ⟨rfl, hw⟩; rw [hw]; clear hw)
      | (go_at_call 17; (with_reducible refine (HKW.out _).mono ?_); rintro e w1 ⟨rfl, hrow, hb1⟩; have HROW := Lib.hid hrow; have HB1 := Lib.hid hb1; clear hrow hb1))
    clear hx0'
    have HG : Hid (w.heap.size < w1.heap.size) := Lib.hid (Array.getElem?_eq_some_iff.1 HROW.out).1
    generalize w.heap.size = g at HROW HG ⊢
    go_loopw [4] (fun i W => ∃ j : Nat, j ≤ 27 ∧ i = .int .i64 (j : Int) ∧ W = w1 ∧ Hid (s ∉ kws.take j)) (fun i _ => 27 - (intOf i).toNat)
    case atStart => exact ⟨0, by omega, rfl, rfl, Lib.hid (by simp)⟩
    case round =>
      obtain ⟨j, hj, rfl, rfl, hrel⟩ := hrel
      have hj0 : (0 : Int) ≤ (j : Int) := by omega
      by_cases hlt : j < 27
      · have hji : (j : Int) < 27 := by omega
        have hjl : j < kws.length := by rw [kws_len]; exact hlt
        have hc : wr.cell? ⟨g, j, none⟩ = some (.string kws[j]) := by
          rw [cell_of_row _ _ _ _ _ _ HROW.out]
          simp [ss, List.getElem?_eq_getElem hjl]
        have hmem := List.getElem_mem hjl
        have htk : kws.take (j + 1) = kws.take j ++ [kws[j]] := by rw [List.take_succ_eq_append_getElem hjl]
        generalize kws[j] = k at hc hmem htk
        by_cases hks : k = s
        · subst hks
          have HZ := Lib.hid (HZ1.out hmem)
          clear hmem htk hrel hjl hlt
          go_wp2_with fail
          go_ret
          exact ⟨by rw [HZ.out]; rfl, HB1.out⟩
        · have hne : (k.toList == s.toList) = false := by rw [beq_str]; exact decide_eq_false hks
          have HN : Hid (s ∉ kws.take (j + 1)) := Lib.hid (by rw [htk]; simp; exact ⟨hrel.out, fun e => hks e.symm⟩)
          clear hmem htk hrel hjl hlt hks
          go_wp2_with fail
          go_roundw
          case rel => exact ⟨j + 1, by omega, by go_num, trivial, HN⟩
          case measure => simp [intOf]; omega
      · obtain rfl : j = 27 := by omega
        have HZ := Lib.hid (HZ2.out (by have := hrel.out; rwa [List.take_of_length_le (by rw [kws_len]; exact Nat.le_refl _)] at this))
        clear hrel hlt hj
        go_wp2_with (go_at_call 35; (with_reducible refine (HEN2.out _).mono ?_); rintro e w' ⟨rfl, q, hw⟩; rw [hw]; clear hw)
        go_ret
        exact ⟨by rw [← HZ.out]; rfl, below_drewN HB1.out _⟩
  · rw [decide_eq_false (by rw [hd0]; simp only [List.headD_cons]; omega)] at hZ
    simp only [Bool.false_and] at hZ
    subst hZ
    have hkn : kn c0 ≠ 1 := by unfold kn; rw [if_neg h4]; split <;> omega
    generalize kn c0 = k at HK0 hkn
    have hki : ((k : Int) != 1) = true := by rw [bne_iff_ne]; omega
    clear HL h2 h0 h4 hb0 hd0 hx0 hkn
    go_enter Tryd.func20, Tryd.ntmps20
    go_wp2_with (go_at_call 38; (with_reducible refine (HK0.out _).mono ?_); rintro e w' ⟨rfl, hw⟩; rw [hw]; clear hw)
    go_ret
    exact ⟨rfl, Below.refl _ _⟩

theorem blk_skl (L : List Nat) : blk L = (decide (L.length ≤ 8192) && decide (skl false L = L.length)) := by
  unfold blk
  obtain ⟨h1, h2⟩ := S_skl _ [] L (Nat.le_refl _)
  have hle := skl_le false L
  rcases sc_cases L with ⟨hl, hc⟩ | ⟨hl, T, e, hok, hc⟩ | ⟨hl, n, hbad, hc, _⟩
  · rw [hc, decide_eq_false (by omega : ¬ L.length ≤ 8192)]; simp
  · rw [hc, decide_eq_true hl, Bool.true_and]
    simp only [decide_true, Bool.and_true]
    refine decide_eq_decide.2 ⟨fun h => ?_, fun h => ?_⟩
    · have hT : T = [] := List.eq_nil_of_length_eq_zero h
      subst hT
      rcases h2 with h2 | ⟨c, t, h2, hc1, hc2⟩
      · have := congrArg List.length h2
        rw [List.length_drop] at this; simp at this; omega
      · rw [h1, h2] at hok
        by_cases htk : tk (c :: t) = 0 ∨ 16 < tk (c :: t)
        · rw [S_bad hc1 hc2 htk] at hok; cases hok
        · rw [S_tok hc1 hc2 htk, app_app] at hok
          obtain ⟨T2, _, h5⟩ := app_ok hok
          simp at h5
    · rw [h1, h, List.drop_of_length_le (Nat.le_refl _), S_nil] at hok
      simp [Res.app] at hok
      rw [hok.1]; rfl
  · rw [hc, decide_eq_true hl]
    have : skl false L ≠ L.length := by
      intro h
      rw [h1, h, List.drop_of_length_le (Nat.le_refl _), S_nil] at hbad
      cases hbad
    rw [decide_eq_false this]
    simp
set_option maxHeartbeats 1000000 in
set_option maxRecDepth 100000 in
theorem RBlank_any (s : ByteArray) (h2 : s.size ≤ 281474976710656) (w : World) :
    Calls Tryd.prog 22 #[.string s] w fun e w' => e = .returned (.bool (blk (sb s))) ∧ w' = w := by
  rw [blk_skl, sb_len]
  have HSK : Hid (∀ W, Calls Tryd.prog 34 #[.string s, .int .i64 0] W fun e w' => e = .returned (.int .i64 ((0 + skl false (sb s) : Nat) : Int)) ∧ w' = W) := Lib.hid fun W => by
    have h := skip_any s 0 (Nat.zero_le _) h2 W
    rwa [List.drop_zero] at h
  generalize skl false (sb s) = k at HSK
  rw [Nat.zero_add] at HSK
  by_cases h8 : s.size ≤ 8192
  · have h8i : (s.size : Int) ≤ 8192 := by omega
    rw [decide_eq_true h8]
    clear h2
    have hk : ((k : Int) == (s.size : Int)) = decide (k = s.size) := by
      by_cases h : k = s.size
      · subst h; simp
      · rw [decide_eq_false h, beq_eq_false_iff_ne]; omega
    generalize decide (k = s.size) = B at hk
    clear h8
    go_enter Tryd.func22, Tryd.ntmps22
    go_wp2_with (go_at_call 34; (with_reducible refine (HSK.out _).mono ?_); rintro e w' ⟨rfl, hw⟩; rw [hw]; clear hw)
    go_ret
    exact ⟨rfl, rfl⟩
  · have h8i : ¬ (s.size : Int) ≤ 8192 := by omega
    rw [decide_eq_false h8]
    clear h2 h8 HSK
    go_enter Tryd.func22, Tryd.ntmps22
    go_wp2_with fail
    go_ret
    exact ⟨rfl, rfl⟩
end Go.Proofs.YtfbookfaodfmdaaDoor
