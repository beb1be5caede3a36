import Derived.Test.YtfbookfaodfmdaaDoorLG4
set_option linter.unusedVariables false
set_option linter.unusedSimpArgs false
namespace Go.Proofs.YtfbookfaodfmdaaDoor
open Go.RowKit

def odds : List (List Nat) := [[63], [62], [9], [195, 169], [95], [33], [97, 97, 97, 97, 97, 97, 97, 97, 97, 97, 97, 97, 97, 97, 97, 97, 97], [49, 50, 51, 52, 53, 54, 55, 56, 57, 48, 49, 50, 51, 52, 53, 54, 55]]
theorem odds_cells : #[Value.string ⟨#[63]⟩, .string ⟨#[62]⟩, .string ⟨#[9]⟩, .string ⟨#[195, 169]⟩, .string ⟨#[95]⟩, .string ⟨#[33]⟩, .string ⟨#[97, 97, 97, 97, 97, 97, 97, 97, 97, 97, 97, 97, 97, 97, 97, 97, 97]⟩, .string ⟨#[49, 50, 51, 52, 53, 54, 55, 56, 57, 48, 49, 50, 51, 52, 53, 54, 55]⟩] = (odds.map fun x => Value.string (mkS x)).toArray := rfl
theorem odds_len (j : Nat) (h : j < 8) : (odds.getD j []).length ≤ 17 := by
  have h2 : ∀ x ∈ odds, x.length ≤ 17 := by decide
  have h3 : j < odds.length := h
  rw [List.getD_eq_getElem?_getD, List.getElem?_eq_getElem h3]
  exact h2 _ (List.getElem_mem h3)
theorem gapL_len (n : Int) (b : Bool) : (gapL n b).length ≤ 14 := by
  have h : ∀ k, (gapK k).length ≤ 14 := by
    intro k
    unfold gapK
    have h1 := gaps_len (k % 8) (Nat.mod_lt _ (by decide))
    have h2 := gaps_len (k / 8 % 8) (Nat.mod_lt _ (by decide))
    split
    · rw [List.length_append]; omega
    · omega
  unfold gapL
  split
  · decide
  · exact h _
theorem pieceL_len (n : Int) : (pieceL n).length ≤ 16 := by
  have h2 : ∀ x ∈ pwords ++ pnums ++ psigns, x.length ≤ 16 := by decide
  exact h2 _ (piece_mem _)

set_option maxHeartbeats 4000000 in
set_option maxRecDepth 100000 in
theorem Sample_any (m cap : Nat) (A : Option Addr) (l : List Int) (w : World) (hm : m = l.length) (hm2 : m ≤ maxLen) (hl : ∀ x ∈ l, InR x) (hr : Rd w w.heap.size A (iv l)) :
    Calls Tryd.prog 9 #[.slice A m cap] w fun e w' => ∃ X : List Nat, e = .returned (.string (mkS X)) ∧ X.length ≤ 5000 ∧ Below w.heap.size w w' := by
  have HM := Lib.hid hm
  have HR := Lib.hid hr
  have HLI := Lib.hid hl
  have hm3 : (m : Int) ≤ 9223372036854775807 := by simp only [maxLen] at hm2; omega
  have HAT : Hid (∀ W, Below w.heap.size w W → Calls Tryd.prog 28 #[.slice A m cap, .int .i64 0, .int .i64 4] W fun e w' => e = .returned (.int .i64 ((at_ l 0 4 : Nat) : Int)) ∧ w' = W) := Lib.hid fun W hW => At_any l 0 4 m w.heap.size cap A hm hm2 (by decide) (by decide) hl W (hr.below hW)
  have HA4 : Hid (at_ l 0 4 < 4) := Lib.hid (by unfold at_; split; exact ar_lt _ _ (by decide); decide)
  generalize at_ l 0 4 = a4 at HAT HA4
  clear hm hr hl
  go_enter Tryd.func9, Tryd.ntmps9
  go_wp2_with fail
  go_loopw [3, 4, 5] (fun s i _ W => ∃ (n : Nat) (X : List Nat), n ≤ 61 ∧ n ≤ m ∧ i = .int .i64 (n : Int) ∧ s = .string (mkS X) ∧ X.length ≤ 60 * n ∧ Below w.heap.size w W) (fun _ i _ _ => m + 61 - (intOf i).toNat)
  case atStart => exact ⟨0, [], by omega, by omega, rfl, rfl, by simp, Below.refl _ _⟩
  case round =>
    obtain ⟨n, X, hn, hnm, rfl, rfl, hXl, V1⟩ := hrel
    have hn0 : (0 : Int) ≤ (n : Int) := by omega
    have hn6 : (n : Int) ≤ 61 := by omega
    by_cases hlt : n + 1 < m ∧ n < 60
    · have hi1 : (n : Int) + 1 < (m : Int) := by omega
      have hi1' : (n : Int) < (m : Int) := by omega
      have hi2 : (n : Int) < 60 := by omega
      have hln : n < l.length := by have := HM.out; omega
      have hln1 : n + 1 < l.length := by have := HM.out; omega
      obtain ⟨b, o, rfl, hbB, hc⟩ := HR.out.at_ (by intro e; have h9 := congrArg List.length e; simp [iv] at h9; subst h9; simp at hln)
      have hx := (V1.cell (p := ⟨b, o + n, none⟩) hbB).trans (hc n _ (iv_get l n hln))
      have hy := (V1.cell (p := ⟨b, o + (n + 1), none⟩) hbB).trans (hc (n + 1) _ (iv_get l (n + 1) hln1))
      have hxr := HLI.out _ (List.getElem_mem hln)
      have hyr := HLI.out _ (List.getElem_mem hln1)
      generalize l[n] = a at hx hxr
      generalize l[n + 1] = c at hy hyr
      have HG : Hid (∀ W, Calls Tryd.prog 18 #[.int .i64 c, .int .i64 0] W fun e w' => e = .returned (.string (mkS (gapL c false))) ∧ Below W.heap.size W w') := Lib.hid fun W => by have h := Gap_any c 0 hyr W; simpa using h
      have HP : Hid (∀ W, Calls Tryd.prog 29 #[.int .i64 a] W fun e w' => e = .returned (.string (mkS (pieceL a))) ∧ Below W.heap.size W w') := Lib.hid fun W => Piece_any a hxr W
      have HA97 : Hid (∀ W, Calls Tryd.prog 10 #[.int .i64 a, .int .i64 97] W fun e w' => e = .returned (.int .i64 ((ar a 97 : Nat) : Int)) ∧ w' = W) := Lib.hid fun W => Around_any a 97 (by decide) (by decide) hxr W
      have HA8 : Hid (∀ W, Calls Tryd.prog 10 #[.int .i64 c, .int .i64 8] W fun e w' => e = .returned (.int .i64 ((ar c 8 : Nat) : Int)) ∧ w' = W) := Lib.hid fun W => Around_any c 8 (by decide) (by decide) hyr W
      have h8 := ar_lt c 8 (by decide)
      have hgl := gapL_len c false
      have hpl := pieceL_len a
      generalize gapL c false = G at HG hgl
      generalize pieceL a = P at HP hpl
      generalize ar a 97 = k at HA97
      generalize ar c 8 = q at HA8 h8
      have hs1 : ¬ (mkS X).size + (mkS G).size > 9223372036854775807 := by rw [mkS_size, mkS_size]; omega
      have hs2 : ¬ (mkS (X ++ G)).size + (mkS P).size > 9223372036854775807 := by rw [mkS_size, mkS_size, List.length_append]; omega
      have ha1 := mkS_app X G
      have ha2 := mkS_app (X ++ G) P
      have hL2 : (X ++ G ++ P).length ≤ 60 * n + 30 := by rw [List.length_append, List.length_append]; omega
      have HX2 := Lib.hid hL2
      have HV1 := Lib.hid V1
      have hbd : Below wr.heap.size wr wr.drew := below_drewN (Below.refl _ _) 1
      have hbW : b < wr.heap.size := by have := V1.size; omega
      have HS : Hid (∀ W, Below wr.heap.size wr W → (W.cell? ⟨b, o + n, none⟩ = some (.int .i64 a) ∧ W.cell? ⟨b, o + (n + 1), none⟩ = some (.int .i64 c))) := Lib.hid fun W hW => ⟨(hW.cell hbW).trans hx, (hW.cell hbW).trans hy⟩
      have hwp : ∃ p : Nat, IntKind.i64.wrap ((n : Int) + 1) = (p : Int) ∧ p = n + 1 := ⟨n + 1, (IntWalk.i64_in _ (by omega)).trans (by omega), rfl⟩
      obtain ⟨p, hwp, hpn⟩ := hwp
      have hp0 : (0 : Int) ≤ (p : Int) := by omega
      have hp1 : (p : Int) < (m : Int) := by omega
      rw [← hpn] at HS
      have HPM : Hid (n + 1 < m) := Lib.hid hlt.1
      clear hc hx hy hxr hyr hln hln1 V1 hgl hpl hL2 hpn hlt hi1
      go_upto_region 5 with fail
      go_region_held3 (fun W => W.cell? ⟨b, o + n, none⟩ = some (.int .i64 a) ∧ W.cell? ⟨b, o + p, none⟩ = some (.int .i64 c))
        (first | exact HS.out _ hbd | exact HS.out _ hbg | exact HS.out _ hbp)
        (first
          | (go_at_call 18; (with_reducible refine (HG.out _).mono ?_); rintro e wg ⟨rfl, hbg0⟩; have hbg := later (by first | exact hbd | exact hbp) hbg0)
          | (go_at_call 29; (with_reducible refine (HP.out _).mono ?_); rintro e wp ⟨rfl, hbp0⟩; have hbp := later (by first | exact hbd | exact hbg) hbp0))
      have HV2 := Lib.hid (later HV1.out hbp)
      rw [List.append_assoc] at HX2
      generalize X ++ (G ++ P) = Y at HX2 ⊢
      by_cases hk3 : k = 3
      · subst hk3
        have hct := tab_cell wp odds 9 q h8
        have hol := odds_len q h8
        rw [← odds_cells] at hct
        generalize odds.getD q [] = O at hct hol
        have V0 := new_later wp (.cells #[Value.string ⟨#[63]⟩, .string ⟨#[62]⟩, .string ⟨#[9]⟩, .string ⟨#[195, 169]⟩, .string ⟨#[95]⟩, .string ⟨#[33]⟩, .string ⟨#[97, 97, 97, 97, 97, 97, 97, 97, 97, 97, 97, 97, 97, 97, 97, 97, 97]⟩, .string ⟨#[49, 50, 51, 52, 53, 54, 55, 56, 57, 48, 49, 50, 51, 52, 53, 54, 55]⟩] 9)
        have hcb := (HS.out _ (later hbp V0)).2
        have hca := (HS.out _ hbp).1
        have hq0 : (0 : Int) ≤ (q : Int) := by omega
        have hq8 : (q : Int) < 8 := by omega
        have ha3 := mkS_app Y O
        have hs3 : ¬ (mkS Y).size + (mkS O).size > 9223372036854775807 := by rw [mkS_size, mkS_size]; have := HX2.out; omega
        have HO := Lib.hid hol
        have HV0 := Lib.hid V0
        clear h8 hol V0
        go_upto_region 8 with (go_at_call 10; (with_reducible refine (HA97.out _).mono ?_); rintro e w' ⟨rfl, hw⟩; rw [hw])
        go_wp2_with (go_at_call 10; (with_reducible refine (HA8.out _).mono ?_); rintro e w' ⟨rfl, hw⟩; rw [hw])
        refine ⟨⟨n + 2, Y ++ O, by omega, by have := HPM.out; omega, by go_num, rfl, ?_, later HV2.out HV0.out⟩, by simp [intOf]; omega⟩
        have h1 := HX2.out; have h2 := HO.out; rw [List.length_append]; omega
      · have hk3i : ((k : Int) == 3) = false := by rw [beq_eq_false_iff_ne]; omega
        have hca := (HS.out _ hbp).1
        clear hk3
        go_wp2_with (go_at_call 10; (with_reducible refine (HA97.out _).mono ?_); rintro e w' ⟨rfl, hw⟩; rw [hw])
        refine ⟨⟨n + 2, Y, by omega, by have := HPM.out; omega, by go_num, rfl, ?_, HV2.out⟩, by simp [intOf]; omega⟩
        have h1 := HX2.out; omega
    · have hXl2 : X.length ≤ 3660 := by omega
      have HXL := Lib.hid hXl2
      have ha4 := HA4.out
      have HV1 := Lib.hid V1
      have hwn : IntKind.i64.wrap ((n : Int) + 1) = (n : Int) + 1 := IntWalk.i64_in _ (by omega)
      have hsz : ¬ (mkS X).size + (ByteArray.mk #[32, 35, 32, 101, 110, 100]).size > 9223372036854775807 := by
        rw [mkS_size]; show ¬ X.length + 6 > _; omega
      have hap : mkS X ++ (ByteArray.mk #[32, 35, 32, 101, 110, 100]) = mkS (X ++ [32, 35, 32, 101, 110, 100]) := mkS_app X [32, 35, 32, 101, 110, 100]
      have HATW := Lib.hid (HAT.out _ V1)
      by_cases hlt1 : n + 1 < m
      · have hi1 : (n : Int) + 1 < (m : Int) := by omega
        have hi2 : ¬ (n : Int) < 60 := by omega
        clear hlt1 hlt V1 hXl hXl2 hnm
        by_cases h1 : a4 = 1
        · subst h1
          go_wp2_with (go_at_call 28; (with_reducible refine HATW.out.mono ?_); rintro e w' ⟨rfl, hw⟩; rw [hw])
          go_ret
          exact ⟨_, rfl, by rw [List.length_append]; have := HXL.out; simp; omega, HV1.out⟩
        · have h1i : ((a4 : Int) == 1) = false := by rw [beq_eq_false_iff_ne]; omega
          go_wp2_with (go_at_call 28; (with_reducible refine HATW.out.mono ?_); rintro e w' ⟨rfl, hw⟩; rw [hw])
          go_ret
          exact ⟨_, rfl, by have := HXL.out; omega, HV1.out⟩
      · have hi1 : ¬ (n : Int) + 1 < (m : Int) := by omega
        clear hlt1 hlt V1 hXl hXl2 hnm
        by_cases h1 : a4 = 1
        · subst h1
          go_wp2_with (go_at_call 28; (with_reducible refine HATW.out.mono ?_); rintro e w' ⟨rfl, hw⟩; rw [hw])
          go_ret
          exact ⟨_, rfl, by rw [List.length_append]; have := HXL.out; simp; omega, HV1.out⟩
        · have h1i : ((a4 : Int) == 1) = false := by rw [beq_eq_false_iff_ne]; omega
          go_wp2_with (go_at_call 28; (with_reducible refine HATW.out.mono ?_); rintro e w' ⟨rfl, hw⟩; rw [hw])
          go_ret
          exact ⟨_, rfl, by have := HXL.out; omega, HV1.out⟩
end Go.Proofs.YtfbookfaodfmdaaDoor
