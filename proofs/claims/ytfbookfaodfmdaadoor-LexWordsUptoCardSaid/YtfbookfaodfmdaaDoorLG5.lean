import Derived.Test.YtfbookfaodfmdaaDoorLG1
set_option linter.unusedVariables false
set_option linter.unusedSimpArgs false
namespace Go.Proofs.YtfbookfaodfmdaaDoor
open Go.RowKit

theorem empty_str (s : ByteArray) : s.toList.isEmpty = decide (s.size = 0) := by
  rw [ByteArray.toList_eq, Lib.size_eq]
  cases s.data.toList <;> simp
set_option maxHeartbeats 1000000 in
set_option maxRecDepth 100000 in
theorem Word_any (s : ByteArray) (w : World) (hk : Kx w) :
    Calls Tryd.prog 19 #[.string s] w fun e w' => e = .returned (.bool (wrd s)) ∧ w' = w := by
  have hE := empty_str s
  unfold wrd
  by_cases h0 : s.size = 0
  · rw [decide_eq_true h0] at hE
    have e : (decide (0 < s.size ∧ s.size ≤ 16 ∧ kd ((sb s).headD 0) = 4 ∧ wsz (sb s) = s.size) && !isKw s) = false := by
      rw [decide_eq_false (by omega)]; rfl
    rw [e]
    clear e h0 hk
    go_enter Tryd.func19, Tryd.ntmps19
    go_wp2_with fail
    go_ret
    exact ⟨rfl, rfl⟩
  rw [decide_eq_false h0] at hE
  by_cases h16 : 16 < s.size
  · have h16i : (16 : Int) < (s.size : Int) := by omega
    have e : (decide (0 < s.size ∧ s.size ≤ 16 ∧ kd ((sb s).headD 0) = 4 ∧ wsz (sb s) = s.size) && !isKw s) = false := by
      rw [decide_eq_false (by omega)]; rfl
    rw [e]
    clear e h0 hk
    go_enter Tryd.func19, Tryd.ntmps19
    go_wp2_with fail
    go_ret
    exact ⟨rfl, rfl⟩
  have h16i : (s.size : Int) ≤ 16 := by omega
  obtain ⟨c, hc, hd, hx0⟩ := str_step s 0 (by omega)
  have hx : ∀ W, (Instr.index 9 (.string s) (.int .i64 0)).run Tryd.prog W = .ok (.int .u8 (c : Int)) W := fun W => hx0 W
  rw [List.drop_zero] at hd
  have hh : (sb s).headD 0 = c := by rw [hd]; rfl
  rw [hh]
  have HK := Lib.hid (kindOf_any c hc w hk)
  have HW := Lib.hid (wordSize_any s (by omega) (by omega) w hk)
  have HI := Lib.hid (isKeyword_any s w)
  generalize kd c = K at HK ⊢
  generalize wsz (sb s) = Z at HW ⊢
  generalize isKw s = B at HI ⊢
  clear hd hh hx0
  by_cases hK : K = 4
  · subst hK
    by_cases hz : Z = s.size
    · subst hz
      have e : (decide (0 < s.size ∧ s.size ≤ 16 ∧ (4 : Nat) = 4 ∧ s.size = s.size) && !B) = !B := by
        rw [decide_eq_true ⟨by omega, by omega, rfl, rfl⟩]; rfl
      rw [e]
      clear e h0 hk h16
      go_enter Tryd.func19, Tryd.ntmps19
      go_wp2_with (first
        | (go_at_call 30; (with_reducible refine HK.out.mono ?_); rintro e w' ⟨rfl, hw⟩; rw [hw]; clear hw)
        | (go_at_call 32; (with_reducible refine HW.out.mono ?_); rintro e w'' ⟨rfl, hw⟩; rw [hw]; clear hw)
        | (go_at_call 37; (with_reducible refine HI.out.mono ?_); rintro e w'' ⟨rfl, hw⟩; rw [hw]; clear hw))
      go_ret
      exact ⟨rfl, rfl⟩
    · have e : (decide (0 < s.size ∧ s.size ≤ 16 ∧ (4 : Nat) = 4 ∧ Z = s.size) && !B) = false := by
        rw [decide_eq_false (fun h => hz h.2.2.2)]; rfl
      rw [e]
      have hzb : (((Z : Nat) : Int) == (s.size : Int)) = false := by rw [beq_eq_false_iff_ne]; omega
      clear e h0 hk h16
      go_enter Tryd.func19, Tryd.ntmps19
      go_wp2_with (first
        | (go_at_call 30; (with_reducible refine HK.out.mono ?_); rintro e w' ⟨rfl, hw⟩; rw [hw]; clear hw)
        | (go_at_call 32; (with_reducible refine HW.out.mono ?_); rintro e w'' ⟨rfl, hw⟩; rw [hw]; clear hw)
        | (go_at_call 37; (with_reducible refine HI.out.mono ?_); rintro e w'' ⟨rfl, hw⟩; rw [hw]; clear hw))
      go_ret
      exact ⟨rfl, rfl⟩
  · have e : (decide (0 < s.size ∧ s.size ≤ 16 ∧ K = 4 ∧ Z = s.size) && !B) = false := by
      rw [decide_eq_false (fun h => hK h.2.2.1)]; rfl
    rw [e]
    have hKb : (((K : Nat) : Int) != 4) = true := by simp; omega
    clear e h0 hk h16
    go_enter Tryd.func19, Tryd.ntmps19
    go_wp2_with (go_at_call 30; (with_reducible refine HK.out.mono ?_); rintro e w' ⟨rfl, hw⟩; rw [hw]; clear hw)
    go_ret
    exact ⟨rfl, rfl⟩
end Go.Proofs.YtfbookfaodfmdaaDoor
