import Derived.Test.YtfbookfaodfmdaaDoorLR2
set_option linter.unusedVariables false
set_option linter.unusedSimpArgs false
namespace Go.Proofs.YtfbookfaodfmdaaDoor
open Go.RowKit

/-- What 'end' says of the text from its offset on. -/
def enI (at0 : Nat) (L : List Nat) : Int := if tk L = 0 ∨ 16 < tk L then -1 else ((at0 + tk L : Nat) : Int)
def DrawRes (v : Value) (w : World) (e : Ending) (w' : World) : Prop := e = .returned v ∧ ∃ k, w' = w.drewN k

set_option maxHeartbeats 4000000 in
set_option maxRecDepth 100000 in
theorem end_any (s : ByteArray) (at0 : Nat) (h1 : at0 < s.size) (h2 : s.size ≤ 281474976710656) (w : World) :
    Calls Tryd.prog 35 #[.string s, .int .i64 (at0 : Int)] w (DrawRes (.int .i64 (enI at0 ((sb s).drop at0))) w) := by
  have HX := Lib.hid fun (n : Nat) (h : n < s.size) => str_step s n h
  have HL := Lib.hid (sb_len s)
  have HEX := Lib.hid fun (a b : Nat) => sb_ext s a b
  have HSL := Lib.hid fun (a b : Nat) (h1 : a ≤ b) (h2 : b ≤ s.size) => slice_str s a b h1 h2
  obtain ⟨c0, hb0, hd0, hx0⟩ := HX.out at0 h1
  generalize sb s = L at HX HL HEX hd0 ⊢
  have hsz : (s.size : Int) ≤ 281474976710656 := by omega
  have ha0 : (0 : Int) ≤ (at0 : Int) := by omega
  have ha1 : (at0 : Int) < (s.size : Int) := by omega
  have HK := Lib.hid fun (c : Nat) (hc : c < 256) (W : World) => Kind_any c hc W
  have HK0 := Lib.hid (HK.out c0 hb0)
  obtain ⟨Z, hZ⟩ : ∃ Z, enI at0 (L.drop at0) = Z := ⟨_, rfl⟩
  rw [hZ]
  by_cases hw : kd c0 = 3 ∨ kd c0 = 4
  · obtain ⟨k, hk, hk3, hk4⟩ : ∃ k, kn c0 = k ∧ (kd c0 = 3 → k = 2) ∧ (kd c0 = 4 → k = 1) := ⟨_, rfl, fun h => by unfold kn; rw [if_neg (by omega), if_pos h], fun h => by unfold kn; rw [if_pos h]⟩
    rw [hk] at HK0
    have hkp : (0 : Int) < (k : Int) := by omega
    have hkn : 0 < k := by omega
    have hZ' : Hid ((if at0 + (1 + run (kd c0) (L.drop (at0 + 1))) - at0 > 16 then (-1 : Int) else ((at0 + (1 + run (kd c0) (L.drop (at0 + 1))) : Nat) : Int)) = Z) := Lib.hid (by
      rw [← hZ, hd0]
      unfold enI
      rw [tk_cons, if_pos hw, wsz_cons]
      by_cases h : 16 < run (kd c0) (L.drop (at0 + 1)) + 1
      · rw [if_pos (by omega), if_pos (.inr h)]
      · rw [if_neg (by omega), if_neg (by omega), Nat.add_comm 1])
    obtain ⟨Y, hY⟩ : ∃ Y, at0 + (1 + run (kd c0) (L.drop (at0 + 1))) = Y := ⟨_, rfl⟩
    rw [hY] at hZ'
    generalize kd c0 = k0 at hw hk3 hk4 hY
    have HKK := Lib.hid (⟨hw, hk3, hk4⟩ : (k0 = 3 ∨ k0 = 4) ∧ (k0 = 3 → k = 2) ∧ (k0 = 4 → k = 1))
    have HY := Lib.hid hY
    clear hZ hk hw hk3 hk4 hY hd0 hb0
    go_enter Tryd.func35, Tryd.ntmps35
    go_wp2_with (go_at_call 38; (with_reducible refine (HK0.out _).mono ?_); rintro e w' ⟨rfl, hw⟩; rw [hw]; clear hw)
    go_loopw [6] (fun i W => ∃ n : Nat, at0 + 1 ≤ n ∧ n ≤ s.size ∧ i = .int .i64 (n : Int) ∧ W = w ∧ Hid (n + run k0 (L.drop n) = Y)) (fun i _ => s.size - (intOf i).toNat)
    case atStart => exact ⟨at0 + 1, by omega, by omega, by go_num, rfl, Lib.hid (by rw [← HY.out]; omega)⟩
    case round =>
      obtain ⟨n, hn1, hn, rfl, rfl, hrel⟩ := hrel
      clear hx0
      have hn0 : (0 : Int) ≤ (n : Int) := by omega
      have hna : (at0 : Int) + 1 ≤ (n : Int) := by omega
      have hnz : (n : Int) ≤ 281474976710656 := by omega
      have hend : ∀ (hYn : n = Y), (16 < n - at0 ∧ Z = -1 ∨ ¬ 16 < n - at0 ∧ Z = (n : Int)) := by
        intro hYn
        have h3 := hZ'.out
        subst hYn
        by_cases h : 16 < n - at0
        · rw [if_pos h] at h3; exact .inl ⟨h, h3.symm⟩
        · rw [if_neg h] at h3; exact .inr ⟨h, h3.symm⟩
      by_cases hlt : n < s.size
      · have hki : (n : Int) < (s.size : Int) := by omega
        obtain ⟨c, hc, hd, hx⟩ := HX.out n hlt
        have hr := hrel.out
        rw [hd, run_cons] at hr
        have HKc := Lib.hid (HK.out c hc)
        by_cases h3 : kd c = 3
        · rw [if_pos (.inl h3)] at hr
          rw [show kn c = 2 by unfold kn; rw [if_neg (by omega), if_pos h3]] at HKc
          have HR := Lib.hid hr
          clear hr hrel hd hc h3 hend
          go_wp2_with (go_at_call 38; (with_reducible refine (HKc.out _).mono ?_); rintro e w' ⟨rfl, hw⟩; rw [hw]; clear hw)
          go_roundw
          case rel => exact ⟨n + 1, by omega, by omega, by go_num, trivial, Lib.hid (by have := HR.out; omega)⟩
          case measure => simp [intOf]; omega
        · by_cases h4 : kd c = 4
          · rw [show kn c = 1 by unfold kn; rw [if_pos h4]] at HKc
            by_cases hk4 : k0 = 4
            · rw [if_pos (.inr (by omega))] at hr
              have hk1 : k = 1 := HKK.out.2.2 hk4
              have HR := Lib.hid hr
              have hk1b : ((k : Int) == 1) = true := by rw [hk1]; rfl
              clear hr hrel hd hc h3 h4 hend hk1
              go_wp2_with (go_at_call 38; (with_reducible refine (HKc.out _).mono ?_); rintro e w' ⟨rfl, hw⟩; rw [hw]; clear hw)
              go_roundw
              case rel => exact ⟨n + 1, by omega, by omega, by go_num, trivial, Lib.hid (by have := HR.out; omega)⟩
              case measure => simp [intOf]; omega
            · have hk1 : k = 2 := HKK.out.2.1 (by have := HKK.out.1; omega)
              rw [if_neg (by omega)] at hr
              have HKZ := HKK
              subst hk1
              have he := hend (by omega)
              clear hr hrel hd hc h3 h4 hend
              rcases he with ⟨h5, h6⟩ | ⟨h5, h6⟩
              · have h5i : (16 : Int) < (n : Int) - (at0 : Int) := by omega
                subst h6
                clear h5
                go_wp2_with (go_at_call 38; (with_reducible refine (HKc.out _).mono ?_); rintro e w' ⟨rfl, hw⟩; rw [hw]; clear hw)
                go_ret
                exact ⟨rfl, 0, rfl⟩
              · have h5i : ¬ (16 : Int) < (n : Int) - (at0 : Int) := by omega
                subst h6
                clear h5
                go_wp2_with (go_at_call 38; (with_reducible refine (HKc.out _).mono ?_); rintro e w' ⟨rfl, hw⟩; rw [hw]; clear hw)
                go_ret
                exact ⟨rfl, 0, rfl⟩
          · rw [show kn c = 0 by unfold kn; rw [if_neg h4, if_neg h3]] at HKc
            rw [if_neg (by have := HKK.out.1; omega)] at hr
            have he := hend (by omega)
            clear hr hrel hd hc h3 h4 hend
            rcases he with ⟨h5, h6⟩ | ⟨h5, h6⟩
            · have h5i : (16 : Int) < (n : Int) - (at0 : Int) := by omega
              subst h6
              clear h5
              go_wp2_with (go_at_call 38; (with_reducible refine (HKc.out _).mono ?_); rintro e w' ⟨rfl, hw⟩; rw [hw]; clear hw)
              go_ret
              exact ⟨rfl, 0, rfl⟩
            · have h5i : ¬ (16 : Int) < (n : Int) - (at0 : Int) := by omega
              subst h6
              clear h5
              go_wp2_with (go_at_call 38; (with_reducible refine (HKc.out _).mono ?_); rintro e w' ⟨rfl, hw⟩; rw [hw]; clear hw)
              go_ret
              exact ⟨rfl, 0, rfl⟩
      · obtain rfl : n = s.size := by omega
        have hr := hrel.out
        rw [List.drop_of_length_le (by rw [HL.out]; exact Nat.le_refl _)] at hr
        unfold run at hr
        have he := hend (by omega)
        clear hr hrel hend
        rcases he with ⟨h5, h6⟩ | ⟨h5, h6⟩
        · have h5i : (16 : Int) < (s.size : Int) - (at0 : Int) := by omega
          subst h6
          clear h5
          go_wp2_with fail
          go_ret
          exact ⟨rfl, 0, rfl⟩
        · have h5i : ¬ (16 : Int) < (s.size : Int) - (at0 : Int) := by omega
          subst h6
          clear h5
          go_wp2_with fail
          go_ret
          exact ⟨rfl, 0, rfl⟩
  · have hkz : kn c0 = 0 := by unfold kn; rw [if_neg (fun h => hw (.inr h)), if_neg (fun h => hw (.inl h))]
    rw [hkz] at HK0
    have hL1 := HL.out
    have htk : tk (L.drop at0) = if (L.drop at0).length ≥ 2 ∧ sgB ((L.drop at0).take 2) = true then 2 else if sgB [c0] = true then 1 else 0 := by
      rw [hd0]; exact tk_sign (fun h => hw (.inl h)) (fun h => hw (.inr h))
    have hlen : (L.drop at0).length = s.size - at0 := by rw [List.length_drop, hL1]
    obtain ⟨p1, hp1⟩ : ∃ p1, at0 + 1 = p1 := ⟨_, rfl⟩
    have hwp1 : IntKind.i64.wrap ((at0 : Int) + 1) = (p1 : Int) := (IntWalk.i64_in _ (by omega)).trans (by omega)
    have hsl1 := HSL.out at0 p1 (by omega) (by omega)
    have hx1 : sb (s.extract at0 p1) = [c0] := by
      rw [HEX.out, show p1 - at0 = 1 by omega, hd0]; rfl
    have HS1 := Lib.hid (Sign_one _ c0 hx1)
    generalize s.extract at0 p1 = x1 at hsl1 HS1
    clear hx1
    by_cases hlt : p1 < s.size
    · have hlti : (p1 : Int) < (s.size : Int) := by omega
      obtain ⟨p2, hp2⟩ : ∃ p2, at0 + 2 = p2 := ⟨_, rfl⟩
      have hwp2 : IntKind.i64.wrap ((at0 : Int) + 2) = (p2 : Int) := (IntWalk.i64_in _ (by omega)).trans (by omega)
      have hsl2 := HSL.out at0 p2 (by omega) (by omega)
      obtain ⟨d, hdb, hd1, _⟩ := HX.out (at0 + 1) (by omega)
      have ht2 : (L.drop at0).take 2 = [c0, d] := by rw [hd0, hd1]; rfl
      have hx2 : sb (s.extract at0 p2) = [c0, d] := by rw [HEX.out, show p2 - at0 = 2 by omega, ht2]
      have HS2 := Lib.hid (Sign_two _ c0 d hx2)
      generalize s.extract at0 p2 = x2 at hsl2 HS2
      rw [ht2] at htk
      clear hx2
      cases h5 : sgB [c0, d] with
      | true =>
        rw [h5] at HS2 htk
        rw [if_pos ⟨by omega, rfl⟩] at htk
        have hZ2 : Hid ((p2 : Int) = Z) := Lib.hid (by rw [← hZ]; unfold enI; rw [htk, if_neg (by omega), hp2])
        clear hZ htk hd0 hd1 ht2 hlen hL1 hb0 hdb hp1 hp2 hw hkz h5 hlt
        go_enter Tryd.func35, Tryd.ntmps35
        go_wp2_with (first
          | (go_at_call 38; (with_reducible refine (HK0.out _).mono ?_); rintro e w' ⟨rfl, hw⟩; rw [hw]; clear hw)
          | (go_at_call 45; (with_reducible refine (HS2.out _).mono ?_); rintro e w' ⟨rfl, hw⟩; rw [hw]; clear hw))
        go_ret
        exact ⟨by rw [← hZ2.out]; rfl, 0, rfl⟩
      | false =>
        rw [h5] at HS2 htk
        rw [if_neg (by simp)] at htk
        cases h6 : sgB [c0] with
        | true =>
          rw [h6] at HS1 htk
          rw [if_pos rfl] at htk
          have hZ2 : Hid ((p1 : Int) = Z) := Lib.hid (by rw [← hZ]; unfold enI; rw [htk, if_neg (by omega), hp1])
          clear hZ htk hd0 hd1 ht2 hlen hL1 hb0 hdb hp1 hp2 hw hkz h5 h6 hlt
          go_enter Tryd.func35, Tryd.ntmps35
          go_wp2_with (first
            | (go_at_call 38; (with_reducible refine (HK0.out _).mono ?_); rintro e w' ⟨rfl, hw⟩; rw [hw]; clear hw)
            | (go_at_call 45; (with_reducible refine (HS2.out _).mono ?_); rintro e w' ⟨rfl, hw⟩; rw [hw]; clear hw)
            | (go_at_call 45; (with_reducible refine (HS1.out _).mono ?_); rintro e w' ⟨rfl, q, hw⟩; rw [hw]; clear hw))
          go_ret
          exact ⟨by rw [← hZ2.out]; rfl, _, rfl⟩
        | false =>
          rw [h6] at HS1 htk
          rw [if_neg (by simp)] at htk
          have hZ2 : Hid (-1 = Z) := Lib.hid (by rw [← hZ]; unfold enI; rw [htk, if_pos (.inl rfl)])
          clear hZ htk hd0 hd1 ht2 hlen hL1 hb0 hdb hp1 hp2 hw hkz h5 h6 hlt
          go_enter Tryd.func35, Tryd.ntmps35
          go_wp2_with (first
            | (go_at_call 38; (with_reducible refine (HK0.out _).mono ?_); rintro e w' ⟨rfl, hw⟩; rw [hw]; clear hw)
            | (go_at_call 45; (with_reducible refine (HS2.out _).mono ?_); rintro e w' ⟨rfl, hw⟩; rw [hw]; clear hw)
            | (go_at_call 45; (with_reducible refine (HS1.out _).mono ?_); rintro e w' ⟨rfl, q, hw⟩; rw [hw]; clear hw))
          go_ret
          exact ⟨by rw [← hZ2.out]; rfl, _, rfl⟩
    · have hlti : ¬ (p1 : Int) < (s.size : Int) := by omega
      rw [if_neg (by omega)] at htk
      cases h6 : sgB [c0] with
      | true =>
        rw [h6] at HS1 htk
        rw [if_pos rfl] at htk
        have hZ2 : Hid ((p1 : Int) = Z) := Lib.hid (by rw [← hZ]; unfold enI; rw [htk, if_neg (by omega), hp1])
        clear hZ htk hd0 hlen hL1 hb0 hp1 hw hkz h6 hlt
        go_enter Tryd.func35, Tryd.ntmps35
        go_wp2_with (first
          | (go_at_call 38; (with_reducible refine (HK0.out _).mono ?_); rintro e w' ⟨rfl, hw⟩; rw [hw]; clear hw)
          | (go_at_call 45; (with_reducible refine (HS1.out _).mono ?_); rintro e w' ⟨rfl, q, hw⟩; rw [hw]; clear hw))
        go_ret
        exact ⟨by rw [← hZ2.out]; rfl, _, rfl⟩
      | false =>
        rw [h6] at HS1 htk
        rw [if_neg (by simp)] at htk
        have hZ2 : Hid (-1 = Z) := Lib.hid (by rw [← hZ]; unfold enI; rw [htk, if_pos (.inl rfl)])
        clear hZ htk hd0 hlen hL1 hb0 hp1 hw hkz h6 hlt
        go_enter Tryd.func35, Tryd.ntmps35
        go_wp2_with (first
          | (go_at_call 38; (with_reducible refine (HK0.out _).mono ?_); rintro e w' ⟨rfl, hw⟩; rw [hw]; clear hw)
          | (go_at_call 45; (with_reducible refine (HS1.out _).mono ?_); rintro e w' ⟨rfl, q, hw⟩; rw [hw]; clear hw))
        go_ret
        exact ⟨by rw [← hZ2.out]; rfl, _, rfl⟩
end Go.Proofs.YtfbookfaodfmdaaDoor
