import Derived.Test.YtbfoajfpnfkfnaaDoorS20
import Derived.Test.YtbfoajfpnfkfnaaDoorS21
set_option linter.unusedVariables false
set_option linter.unusedSimpArgs false
namespace Go.Proofs.YtbfoajfpnfkfnaaDoor
open Go.RowKit

theorem digL_lt (d : List Nat) : ∀ x ∈ digL d, x < 4 := by
  intro x hx
  unfold digL at hx
  rcases List.mem_append.1 hx with h | h
  · exact dg64_lt d x h
  · exact dig4_lt _ x h
/-- A row of 68 numbers, wherever it lies. -/
def Row68 (W : World) (g : Nat) (X : List Nat) : Prop := ∀ k, k < 68 → W.cell? ⟨g, k, none⟩ = some (.int .i64 ((X.getD k 0 : Nat) : Int))
theorem Row68.of {W : World} {g : Nat} {X : List Nat} {base cap : Nat} (h : OwnI W base (.slice (some ⟨g, 0, none⟩) 68 cap) X) (hl : X.length = 68) : Row68 W g X := by
  intro k hk
  obtain ⟨g', cap', he, hb, hc⟩ := OwnI.some_ h (by omega)
  rw [hl] at he
  cases he
  refine hc k _ ?_
  rw [List.getD_eq_getElem?_getD, List.getElem?_eq_getElem (by omega)]; rfl

set_option maxHeartbeats 4000000 in
set_option maxRecDepth 100000 in
theorem match_aux (a X : List Nat) (w : World) (ha : a.length = 16) (HXL : Hid (X.length = 68)) (HX4 : Hid (∀ x ∈ X, x < 4))
    (HSA : Hid (∀ W, Below w.heap.size w W → Calls Tryd.prog 28 #[] W fun e w' => e = .returned (.bool true) ∧ Below W.heap.size W w'))
    (HDA : Hid (∀ W, Calls Tryd.prog 29 #[.agg (bs a).toArray] W fun e w' => ∃ g, e = .returned (.slice (some ⟨g, 0, none⟩) 68 68) ∧ W.heap.size ≤ g ∧ Arr w' g 68 76 (isv X) ∧ Below W.heap.size W w'))
    (HDB : Hid (∀ W, Calls Tryd.prog 30 #[.agg (bs a).toArray] W fun e w' => ∃ v', e = .returned v' ∧ OwnI w' W.heap.size v' X ∧ Below W.heap.size W w')) :
    Calls Tryd.prog 10 #[.agg (bs a).toArray] w (SRes w) := by
  have P1 := Arr.new' w 44 (bs a).toArray 16 (bs a) rfl (by rw [bs_len, ha]) (by decide)
  have V0 := new_later w (.cells (bs a).toArray 44)
  have HLA : Hid ((bs a).length = 16) := Lib.hid (by rw [bs_len, ha])
  have HIA : Hid ((Tryd.prog.info? 44).map (·.size) = some (bs a).length) := Lib.hid (by rw [HLA.out]; exact info_dig)
  have hu := Tryd.underlying44
  clear ha
  go_enter Tryd.func10, Tryd.ntmps10
  go_upto_region 1 with fail
  generalize hW : w.alloc (.cells (bs a).toArray 44) = wa at P1 V0 ⊢
  clear hW
  go_upto_region 4 with (first
    | (go_at_call 28; (with_reducible refine (HSA.out _ V0).mono ?_); rintro e w1 ⟨rfl, hb1⟩; have V1 := later V0 hb1; have A1 := P1.later hb1; clear HSA hb1)
    | (with_reducible refine wpList_load_mid rfl _ (.tmp 1) rfl w.heap.size 0 rfl (bs a) _ A2.range Tryd.underlying44 rfl HIA.out ?_)
    | (with_reducible refine wpList_load_mid rfl _ (.tmp 1) rfl w.heap.size 0 rfl (bs a) _ A1.range Tryd.underlying44 rfl HIA.out ?_)
    | (go_at_call 29; (with_reducible refine (HDA.out _).mono ?_); rintro e w2 ⟨g, rfl, hg, D2, hb2⟩; have V2 := later V1 hb2; have A2 := A1.later hb2; clear HDA hb2)
    | (go_at_call 30; (with_reducible refine (HDB.out _).mono ?_); rintro e w3 ⟨v3, rfl, O3, hb3⟩; have V3 := later V2 hb3; have D3 := D2.later hb3; clear HDB hb3))
  clear V0 P1 V1 A1 V2 A2 D2
  obtain ⟨g2, cap2, rfl, _, hc2⟩ := OwnI.some_ O3 (by rw [HXL.out]; decide)
  rw [HXL.out] at O3 ⊢
  have E3 := Row68.of O3 HXL.out
  clear O3 hc2
  go_wp2_with fail
  go_loopw [6] (fun i W => ∃ k : Nat, k ≤ 68 ∧ i = .int .i64 (k : Int) ∧ Arr W g 68 76 (isv X) ∧ Row68 W g2 X ∧ Below w.heap.size w W) (fun i _ => 68 - (intOf i).toNat)
  case atStart => exact ⟨0, by omega, rfl, D3, E3, V3⟩
  case round =>
    obtain ⟨k, hk, rfl, D4, E4, V4⟩ := hrel
    clear D3 E3 V3
    by_cases hlt : k < 68
    · have hki : (k : Int) < 68 := by omega
      have hk0 : (0 : Int) ≤ (k : Int) := by omega
      have hkl : k < X.length := by rw [HXL.out]; exact hlt
      have hcx := D4.cell (isv_at X k hkl)
      have hcy := E4 k hlt
      have hx4 : X.getD k 0 < 4 := by
        rw [List.getD_eq_getElem?_getD, List.getElem?_eq_getElem hkl]
        exact HX4.out _ (List.getElem_mem hkl)
      have HR : Hid (∀ n, Arr (wr.drewN n) g 68 76 (isv X) ∧ Row68 (wr.drewN n) g2 X ∧ Below w.heap.size w (wr.drewN n)) := Lib.hid fun n => ⟨D4, E4, below_drewN V4 n⟩
      generalize X.getD k 0 = x at hcx hcy hx4
      clear D4 E4 V4 hkl
      have hx0 : ¬ (x : Int) < 0 := by omega
      have hx3 : ¬ (x : Int) > 3 := by omega
      have hx3' : ¬ 3 < (x : Int) := by omega
      have hd1 : decide ((x : Int) < 0) = false := decide_eq_false hx0
      have hd2 : decide (3 < (x : Int)) = false := decide_eq_false hx3'
      go_wp2_with fail
      go_quiet (fail)
      go_wp2_with fail
      go_roundw
      case rel => exact ⟨k + 1, by omega, by go_num, HR.out _⟩
      case measure => simp [intOf]; omega
    · have hk68 : k = 68 := by omega
      subst hk68
      go_wp2_with fail
      go_ret
      exact ⟨rfl, V4⟩
theorem SignDigitsMatchSpec_any (a : List Nat) (w : World) (ha : a.length = 16) (haB : ∀ x ∈ a, x < 256) (hk : Kc w) :
    Calls Tryd.prog 10 #[.agg (bs a).toArray] w (SRes w) :=
  match_aux a (digL a) w ha (Lib.hid (digL_len a ha)) (Lib.hid (digL_lt a)) (Lib.hid fun W hW => ssanity_any W (hk.later hW)) (Lib.hid fun W => digits_any a _ ha haB W (Lib.hid rfl)) (Lib.hid fun W => rdigits_aux a _ ha haB W (Lib.hid rfl))
end Go.Proofs.YtbfoajfpnfkfnaaDoor
