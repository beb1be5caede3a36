import Derived.Test.YtfbookfaodfmdaaDoorLR1
import Derived.Test.YtfbookfaodfmdaaDoorLF3
set_option linter.unusedVariables false
set_option linter.unusedSimpArgs false
namespace Go.Proofs.YtfbookfaodfmdaaDoor
open Go.RowKit

def sgs : List Nat := [40, 41, 123, 125, 91, 93, 44, 58, 46, 61, 43, 45, 42, 47, 37, 60]
def sgB (L : List Nat) : Bool := decide (L = [61, 61]) || decide (L = [45, 62]) || (match L with | [c] => decide (c ∈ sgs) | _ => false)
theorem kd_sign (c : Nat) : kd c = 5 ↔ c ∈ sgs := by
  have := kd_all (p := fun c k => decide (k = 5 ↔ c ∈ sgs)) (by decide +kernel) (by intro c h; simp [sgs]; omega) c
  exact of_decide_eq_true this
theorem sgn_none {c : Nat} (t : List Nat) (h : c ∉ sgs) : sgn (c :: t) = 0 := by
  by_cases h0 : 0 < sgn (c :: t)
  · have h1 := sgnIn_mem sg (c :: t) h0
    have h2 : ∀ s ∈ sg, s.headD 0 ∈ sgs := by decide
    have h3 := h2 _ h1
    obtain ⟨k, hk⟩ : ∃ k, sgnIn sg (c :: t) = k + 1 := ⟨sgnIn sg (c :: t) - 1, by have : 0 < sgnIn sg (c :: t) := h0; omega⟩
    rw [hk, List.take_succ_cons] at h3
    exact absurd h3 h
  · omega
theorem sgn_one (c : Nat) : sgn [c] = if c ∈ sgs then 1 else 0 := by
  by_cases h : c ∈ sgs
  · rw [if_pos h]
    have : ∀ c ∈ sgs, sgn [c] = 1 := by decide
    exact this c h
  · rw [if_neg h, sgn_none _ h]
theorem sgn_two (c d : Nat) : sgn [c, d] = if (c = 61 ∧ d = 61) ∨ (c = 45 ∧ d = 62) then 2 else if c ∈ sgs then 1 else 0 := by
  by_cases h : (c = 61 ∧ d = 61) ∨ (c = 45 ∧ d = 62)
  · rw [if_pos h]
    rcases h with ⟨rfl, rfl⟩ | ⟨rfl, rfl⟩ <;> rfl
  · rw [if_neg h]
    by_cases h2 : c ∈ sgs
    · rw [if_pos h2]
      have h1 : ¬ (c = 61 ∧ d = 61) := fun e => h (.inl e)
      have h3 : ¬ (c = 45 ∧ d = 62) := fun e => h (.inr e)
      have h5 : ∀ c ∈ sgs, c ≠ 61 → c ≠ 45 → sgn [c, d] = 1 := by
        intro c hc n1 n2
        simp only [sgs, List.mem_cons, List.not_mem_nil, or_false] at hc
        rcases hc with rfl | rfl | rfl | rfl | rfl | rfl | rfl | rfl | rfl | rfl | rfl | rfl | rfl | rfl | rfl | rfl
        all_goals first | rfl | exact absurd rfl n1 | exact absurd rfl n2
      by_cases e1 : c = 61
      · subst e1
        have h6 : (61 == d) = false := by rw [beq_eq_false_iff_ne]; omega
        simp [sgn, sgnIn, sg, List.isPrefixOf, h6]
      · by_cases e2 : c = 45
        · subst e2
          have h6 : (62 == d) = false := by rw [beq_eq_false_iff_ne]; omega
          simp [sgn, sgnIn, sg, List.isPrefixOf, h6]
        · exact h5 c h2 e1 e2
    · rw [if_neg h2, sgn_none _ h2]
theorem sgB_one (c : Nat) : sgB [c] = decide (c ∈ sgs) := by simp [sgB]
theorem sgB_two (c d : Nat) : sgB [c, d] = decide ((c = 61 ∧ d = 61) ∨ (c = 45 ∧ d = 62)) := by simp [sgB]
/-- The token where no word and no number begins. -/
theorem tk_sign {c : Nat} {t : List Nat} (h3 : kd c ≠ 3) (h4 : kd c ≠ 4) : tk (c :: t) = if (c :: t).length ≥ 2 ∧ sgB ((c :: t).take 2) = true then 2 else if sgB [c] = true then 1 else 0 := by
  rw [tk_cons, if_neg (by omega), sgB_one]
  cases t with
  | nil =>
    rw [sgn_one]
    by_cases h : c ∈ sgs
    · rw [if_pos ((kd_sign c).2 h)]; simp [h]
    · rw [if_neg (fun e => h ((kd_sign c).1 e))]; simp [h]
  | cons d t =>
    have e : sgn (c :: d :: t) = sgn [c, d] := by rw [← sgn_take (c :: d :: t)]; rfl
    rw [e, sgn_two]
    have e2 : (c :: d :: t).take 2 = [c, d] := rfl
    rw [e2, sgB_two]
    by_cases h : (c = 61 ∧ d = 61) ∨ (c = 45 ∧ d = 62)
    · have h5 : kd c = 5 := by rcases h with ⟨rfl, _⟩ | ⟨rfl, _⟩ <;> decide
      rw [if_pos h5, if_pos h, if_pos ⟨by simp, decide_eq_true h⟩]
    · rw [if_neg h]
      by_cases h2 : c ∈ sgs
      · rw [if_pos ((kd_sign c).2 h2), if_pos h2, if_neg (fun e => h (of_decide_eq_true e.2)), if_pos (decide_eq_true h2)]
      · rw [if_neg (fun e => h2 ((kd_sign c).1 e)), if_neg (fun e => h (of_decide_eq_true e.2)), if_neg (fun e => h2 (of_decide_eq_true e))]

theorem toL_eq : (ByteArray.mk #[61, 61]).toList = [61, 61] := by decide +kernel
theorem toL_ar : (ByteArray.mk #[45, 62]).toList = [45, 62] := by decide +kernel
theorem sb_inj' {a b : ByteArray} (h : sb a = sb b) : a = b := by rw [← mkS_sb a, ← mkS_sb b, h]
theorem str_eq_lit (s : ByteArray) (L : List Nat) (hL : ∀ d ∈ L, d < 256) : (s.toList == (mkS L).toList) = decide (sb s = L) := by
  rw [beq_str]
  have : (s = mkS L) ↔ (sb s = L) := ⟨fun e => by rw [e, sb_mkS L hL], fun e => by rw [← e, mkS_sb]⟩
  exact decide_eq_decide.2 this

set_option maxHeartbeats 1000000 in
set_option maxRecDepth 100000 in
theorem Sign_two (s : ByteArray) (c d : Nat) (hs : sb s = [c, d]) (w : World) :
    Calls Tryd.prog 45 #[.string s] w fun e w' => e = .returned (.bool (sgB [c, d])) ∧ w' = w := by
  have h1 : (s.toList == (ByteArray.mk #[61, 61]).toList) = decide (c = 61 ∧ d = 61) := by
    rw [show (ByteArray.mk #[61, 61]) = mkS [61, 61] from rfl, str_eq_lit s _ (by decide), hs]
    exact decide_eq_decide.2 (by simp)
  have h2 : (s.toList == (ByteArray.mk #[45, 62]).toList) = decide (c = 45 ∧ d = 62) := by
    rw [show (ByteArray.mk #[45, 62]) = mkS [45, 62] from rfl, str_eq_lit s _ (by decide), hs]
    exact decide_eq_decide.2 (by simp)
  rw [toL_eq] at h1
  rw [toL_ar] at h2
  have hsz : s.size = 2 := by rw [← sb_len, hs]; rfl
  have hszi : (s.size : Int) = 2 := by omega
  rw [sgB_two]
  by_cases e1 : c = 61 ∧ d = 61
  · rw [decide_eq_true e1] at h1
    rw [decide_eq_true (.inl e1)]
    clear h2 hs hsz e1
    go_enter Tryd.func45, Tryd.ntmps45
    go_wp2_with fail
    go_ret
    exact ⟨rfl, rfl⟩
  · rw [decide_eq_false e1] at h1
    by_cases e2 : c = 45 ∧ d = 62
    · rw [decide_eq_true e2] at h2
      rw [decide_eq_true (.inr e2)]
      clear hs hsz e1 e2
      go_enter Tryd.func45, Tryd.ntmps45
      go_wp2_with fail
      go_ret
      exact ⟨rfl, rfl⟩
    · rw [decide_eq_false e2] at h2
      rw [decide_eq_false (fun e => e.elim e1 e2)]
      clear hs hsz e1 e2
      go_enter Tryd.func45, Tryd.ntmps45
      go_wp2_with fail
      go_ret
      exact ⟨rfl, rfl⟩
set_option maxHeartbeats 1000000 in
set_option maxRecDepth 100000 in
theorem Sign_one (s : ByteArray) (c : Nat) (hs : sb s = [c]) (w : World) :
    Calls Tryd.prog 45 #[.string s] w (BoolRes w (sgB [c])) := by
  have h1 : (s.toList == (ByteArray.mk #[61, 61]).toList) = false := by
    rw [show (ByteArray.mk #[61, 61]) = mkS [61, 61] from rfl, str_eq_lit s _ (by decide), hs]
    exact decide_eq_false (by simp)
  have h2 : (s.toList == (ByteArray.mk #[45, 62]).toList) = false := by
    rw [show (ByteArray.mk #[45, 62]) = mkS [45, 62] from rfl, str_eq_lit s _ (by decide), hs]
    exact decide_eq_false (by simp)
  rw [toL_eq] at h1
  rw [toL_ar] at h2
  have hsz : s.size = 1 := by rw [← sb_len, hs]; rfl
  have hszi : (s.size : Int) = 1 := by omega
  obtain ⟨c', hc', hd', hx'⟩ := str_step s 0 (by omega)
  rw [hs] at hd'
  obtain rfl : c' = c := by simp at hd'; exact hd'.symm
  have hx0 : ∀ W, (Instr.index 9 (.string s) (.int .i64 0)).run Tryd.prog W = .ok (.int .u8 (c' : Int)) W := fun W => hx' W
  have hall : sb (ByteArray.mk #[40, 41, 123, 125, 91, 93, 44, 58, 46, 61, 43, 45, 42, 47, 37, 60]) = sgs := rfl
  have hals : (ByteArray.mk #[40, 41, 123, 125, 91, 93, 44, 58, 46, 61, 43, 45, 42, 47, 37, 60]).size = 16 := rfl
  have HIX : Hid (∀ n : Nat, n < 16 → ∃ d : Nat, d < 256 ∧ sgs[n]? = some d ∧ ∀ W, (Instr.index 9 (.string (ByteArray.mk #[40, 41, 123, 125, 91, 93, 44, 58, 46, 61, 43, 45, 42, 47, 37, 60])) (.int .i64 (n : Int))).run Tryd.prog W = .ok (.int .u8 (d : Int)) W) := Lib.hid fun n hn => by
    obtain ⟨d, h3, h4, h5⟩ := str_step (ByteArray.mk #[40, 41, 123, 125, 91, 93, 44, 58, 46, 61, 43, 45, 42, 47, 37, 60]) n hn
    rw [hall] at h4
    refine ⟨d, h3, ?_, h5⟩
    have := congrArg List.head? h4
    rw [List.head?_drop] at this
    exact this
  have halsi : ((ByteArray.mk #[40, 41, 123, 125, 91, 93, 44, 58, 46, 61, 43, 45, 42, 47, 37, 60]).size : Int) = 16 := rfl
  rw [sgB_one]
  clear hs hsz hd' hx' hall hals
  go_enter Tryd.func45, Tryd.ntmps45
  go_upto_region 6 with fail
  generalize (ByteArray.mk #[40, 41, 123, 125, 91, 93, 44, 58, 46, 61, 43, 45, 42, 47, 37, 60]) = ALL at HIX halsi ⊢
  clear h1 h2
  go_wp2_with fail
  go_loopw [4] (fun i W => ∃ n : Nat, n ≤ 16 ∧ i = .int .i64 (n : Int) ∧ (∃ q, W = w.drewN q) ∧ Hid (c' ∉ sgs.take n)) (fun i _ => 16 - (intOf i).toNat)
  case atStart => exact ⟨0, by omega, rfl, ⟨0, rfl⟩, Lib.hid (by simp)⟩
  case round =>
    obtain ⟨n, hn, rfl, ⟨q, rfl⟩, hrel⟩ := hrel
    have hn0 : (0 : Int) ≤ (n : Int) := by omega
    by_cases hlt : n < 16
    · have hni : (n : Int) < 16 := by omega
      obtain ⟨d, hd, hg, hx⟩ := HIX.out n hlt
      have hnl : n < sgs.length := hlt
      have hd2 : sgs[n] = d := by rw [List.getElem?_eq_getElem hnl] at hg; exact Option.some.inj hg
      have hd0 : (0 : Int) ≤ (d : Int) := by omega
      by_cases hdc : d = c'
      · subst hdc
        have HM : Hid (d ∈ sgs) := Lib.hid (by rw [← hd2]; exact List.getElem_mem hnl)
        clear hg hd2 hrel hd hnl hlt
        go_wp2_with fail
        go_quiet (fail)
        go_wp2_with fail
        go_ret
        exact ⟨by rw [decide_eq_true HM.out]; rfl, _, World.drewN_drewN _ _ _⟩
      · have hdi : ((d : Int) == (c' : Int)) = false := by rw [beq_eq_false_iff_ne]; omega
        have HM : Hid (c' ∉ sgs.take (n + 1)) := Lib.hid (by rw [List.take_succ_eq_append_getElem hnl, hd2]; simp; exact ⟨hrel.out, fun e => hdc e.symm⟩)
        clear hg hd2 hrel hd hnl hdc
        go_wp2_with fail
        go_quiet (fail)
        go_wp2_with fail
        go_roundw
        case rel => exact ⟨n + 1, by omega, by go_num, ⟨_, rfl⟩, HM⟩
        case measure => simp [intOf]; omega
    · obtain rfl : n = 16 := by omega
      have HM : Hid (c' ∉ sgs) := Lib.hid (by have := hrel.out; rwa [List.take_of_length_le (by decide)] at this)
      clear hrel
      go_wp2_with fail
      go_ret
      exact ⟨by rw [decide_eq_false HM.out]; rfl, _, rfl⟩
end Go.Proofs.YtfbookfaodfmdaaDoor
