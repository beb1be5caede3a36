import Derived.Test.YtkpoiljioadfgaaDoorX01
import Derived.Test.YtkpoiljioadfgaaDoorX05
import Derived.Test.YtkpoiljioadfgaaDoorX06
import Derived.Test.YtkpoiljioadfgaaDoorX08
import Derived.Test.YtkpoiljioadfgaaDoorX12
import Derived.Test.YtkpoiljioadfgaaDoorX15
import Derived.Test.YtkpoiljioadfgaaDoorX16
import Derived.Deep.RegionHeld3
import Derived.Deep.AppendLies
set_option linter.unusedVariables false
set_option linter.unusedSimpArgs false
namespace Go.Proofs.YtkpoiljioadfgaaDoor
open Go.RowKit
set_option maxHeartbeats 400000 in
set_option maxRecDepth 100000 in
theorem List_new (k s q i : Int) (w : World) :
    Calls Tryd.prog 13 #[.agg (t5 k s q i none 0 0).toArray] w (fun e w' => ∃ g, e = .returned (.agg #[.int .i64 2, .int .i64 0, .int .i64 0, .int .i64 0, .slice (some ⟨g, 0, none⟩) 1 1]) ∧ w.heap.size ≤ g ∧ w'.rangeAt g 0 [.int .i64 k, .int .i64 s, .int .i64 q, .int .i64 i, .slice none 0 0] ∧ Below w.heap.size w w') := by
  have P0 := t5_new w k s q i none 0 0
  have V0 := new_later w (.cells (t5 k s q i none 0 0).toArray 31)
  have b2 := new_later (w.alloc (.cells (t5 k s q i none 0 0).toArray 31)) (.cells #[.int .i64 0, .int .i64 0, .int .i64 0, .int .i64 0, .slice none 0 0] 31)
  have R0 := Arr.new' (w.alloc (.cells (t5 k s q i none 0 0).toArray 31)) 31 #[.int .i64 0, .int .i64 0, .int .i64 0, .int .i64 0, .slice none 0 0] 5 z5 rfl rfl (by decide)
  rw [World.size_alloc] at R0
  have P1 := P0.later b2
  have V1 := later V0 b2
  generalize hW : (w.alloc (.cells (t5 k s q i none 0 0).toArray 31)).alloc (.cells #[.int .i64 0, .int .i64 0, .int .i64 0, .int .i64 0, .slice none 0 0] 31) = wa at P1 V1 R0
  have y0 := P1.cell (j := 0) (v := .int .i64 k) rfl
  have y1 := P1.cell (j := 1) (v := .int .i64 s) rfl
  have y2 := P1.cell (j := 2) (v := .int .i64 q) rfl
  have y3 := P1.cell (j := 3) (v := .int .i64 i) rfl
  have y4 := P1.cell (j := 4) (v := .slice none 0 0) rfl
  have V2 := new_later wa (.cells #[.int .i64 k, .int .i64 s, .int .i64 q, .int .i64 i, .slice none 0 0] 31)
  have K2 := Arr.new' wa 31 #[.int .i64 k, .int .i64 s, .int .i64 q, .int .i64 i, .slice none 0 0] 5 (t5 k s q i none 0 0) rfl rfl (by decide)
  have R2 := R0.later V2
  have hwl : w.heap.size + 1 < wa.heap.size := R0.lt
  have HR := Lib.hid R2
  have HV := Lib.hid (later V1 V2)
  have HK := Lib.hid K2
  have HI : Hid (∀ A : Option Addr, (Tryd.prog.info? 31).map (·.size) = some ([.int .i64 2, .int .i64 0, .int .i64 0, .int .i64 0, .slice A 1 1] : List Value).length) := Lib.hid fun A => info_type
  have HO : Hid (∀ A : Option Addr, ∀ v ∈ ([.int .i64 2, .int .i64 0, .int .i64 0, .int .i64 0, .slice A 1 1] : List Value), v.oneCell' = true) := Lib.hid fun A => by intro v hv; simp at hv; rcases hv with rfl | rfl | rfl | rfl | rfl <;> rfl
  clear P1 P0 V0 b2 V1 R0 R2 V2 K2
  go_enter Tryd.func13, Tryd.ntmps13
  go_upto_region 1 with fail
  clear hW
  go_wp2_with (refine wpList_store_arr rfl _ (.tmp 2) (.tmp 5) rfl (w.heap.size + 1) 0 5 31 _ [.int .i64 2, .int .i64 0, .int .i64 0, .int .i64 0, .slice (some ⟨wa.heap.size, 0, none⟩) 1 1] z5 rfl rfl rfl HR.out (show 0 + 5 ≤ 5 by omega) (HI.out _) (HO.out _) ?_; intro w7 f7 o7)
  rw [setAll_all z5 [.int .i64 2, .int .i64 0, .int .i64 0, .int .i64 0, .slice (some ⟨wa.heap.size, 0, none⟩) 1 1] rfl] at f7
  refine bodyPost_ret (results_one rfl _ _ (w.heap.size + 1) [.int .i64 2, .int .i64 0, .int .i64 0, .int .i64 0, .slice (some ⟨wa.heap.size, 0, none⟩) 1 1] _ rfl f7.range Tryd.underlying31 rfl (HI.out _)) rfl ?_
  have hb7 : Below w.heap.size w w7 := HV.out.trans (o7.bel.mono (by omega))
  exact ⟨wa.heap.size, rfl, by omega, (HK.out.only o7 (by omega)).range, hb7⟩
theorem ty_leaf (k s q i : Int) (h1 : i64r k) (h2 : i64r s) (h3 : i64r q) (h4 : i64r i) (F : Nat → Prop) (w : World) : Foot F (fun W => TyAt W (.node k s q i []) (.agg #[.int .i64 k, .int .i64 s, .int .i64 q, .int .i64 i, .slice none 0 0])) w := fun w' _ _ => by
  unfold TyAt
  exact ⟨none, 0, rfl, ⟨Nat.le_refl _, by simp [maxLen], h1, h2, h3, h4⟩, by unfold KtAt; trivial⟩
theorem ty_list (k s q i : Int) (h1 : i64r k) (h2 : i64r s) (h3 : i64r q) (h4 : i64r i) {F : Nat → Prop} {w : World} {g : Nat} (hr : w.rangeAt g 0 [.int .i64 k, .int .i64 s, .int .i64 q, .int .i64 i, .slice none 0 0]) (hg : F g) : Foot F (fun W => TyAt W (tL (.node k s q i [])) (.agg #[.int .i64 2, .int .i64 0, .int .i64 0, .int .i64 0, .slice (some ⟨g, 0, none⟩) 1 1])) w := fun w' hb he => by
  unfold tL TyAt
  refine ⟨some ⟨g, 0, none⟩, 1, rfl, ⟨by simp, by simp [maxLen], by unfold i64r; omega, by unfold i64r; omega, by unfold i64r; omega, by unfold i64r; omega⟩, ?_⟩
  unfold KtAt
  refine ⟨⟨g, 0, t5 k s q i none 0 0, rfl, ?_, ty_leaf k s q i h1 h2 h3 h4 F w w' hb he⟩, by unfold KtAt; trivial⟩
  have h := range_heap hr (he g hg)
  simpa [t5] using h
def PickRes (j : Nat) (w : World) (e : Ending) (w' : World) : Prop := ∃ (t : Ty) (k s q i : Int) (A : Option Addr) (len cap : Nat), Gd j t ∧ e = .returned (.agg #[.int .i64 k, .int .i64 s, .int .i64 q, .int .i64 i, .slice A len cap]) ∧ Foot (w.heap.size ≤ ·) (fun W => TyAt W t (.agg #[.int .i64 k, .int .i64 s, .int .i64 q, .int .i64 i, .slice A len cap])) w' ∧ Below w.heap.size w w'
set_option maxHeartbeats 2000000 in
set_option maxRecDepth 100000 in
theorem Pick_any (n j : Nat) (hn : n < 65536) (hj : j ≤ 4) (w : World) :
    Calls Tryd.prog 45 #[.int .i64 (n : Int), .int .i64 (j : Int)] w (PickRes j w) := by
  have hK := ar_lt (n : Int) (4 + 2 * j) (by omega)
  have HAR : Hid (∀ W, Calls Tryd.prog 12 #[.int .i64 (n : Int), .int .i64 (4 + 2 * (j : Int))] W fun e w' => e = .returned (.int .i64 ((ar (n : Int) (4 + 2 * j) : Nat) : Int)) ∧ w' = W) := Lib.hid fun W => by
    have h := Around_any (n : Int) (4 + 2 * j) (by omega) (by omega) (by unfold i64r; omega) W
    rwa [show ((4 + 2 * j : Nat) : Int) = 4 + 2 * (j : Int) from by omega] at h
  have HAR2 : Hid (∀ W, Calls Tryd.prog 12 #[.int .i64 ((n : Int) / 64), .int .i64 5] W fun e w' => e = .returned (.int .i64 ((ar ((n : Int) / 64) 5 : Nat) : Int)) ∧ w' = W) := Lib.hid fun W => Around_any ((n : Int) / 64) 5 (by omega) (by omega) (by unfold i64r; omega) W
  have hK2 := ar_lt ((n : Int) / 64) 5 (by omega)
  generalize ar (n : Int) (4 + 2 * j) = K at hK HAR
  generalize ar ((n : Int) / 64) 5 = K2 at hK2 HAR2
  have hni : (n : Int) < 65536 := by omega
  have hn0 : (0 : Int) ≤ (n : Int) := by omega
  have hji : (j : Int) ≤ 4 := by omega
  have hj0 : (0 : Int) ≤ (j : Int) := by omega
  have hKi : (K : Int) < 12 := by omega
  have hK0 : (0 : Int) ≤ (K : Int) := by omega
  have HKJ := Lib.hid hK
  have HJ := Lib.hid hj
  have V0 := new_later w (.cells #[.int .i64 0, .int .i64 0, .int .i64 0, .int .i64 0, .slice none 0 0] 31)
  have R0 : Arr (w.alloc (.cells #[.int .i64 0, .int .i64 0, .int .i64 0, .int .i64 0, .slice none 0 0] 31)) w.heap.size 5 31 z5 := Arr.new' w _ _ 5 z5 rfl rfl (by decide)
  generalize hW : w.alloc (.cells #[.int .i64 0, .int .i64 0, .int .i64 0, .int .i64 0, .slice none 0 0] 31) = wa at V0 R0
  have HV := Lib.hid V0
  have HR := Lib.hid R0
  have hwa : w.heap.size < wa.heap.size := R0.lt
  have HLZ : Hid (∀ W, Calls Tryd.prog 13 #[.agg #[.int .i64 0, .int .i64 0, .int .i64 0, .int .i64 0, .slice none 0 0]] W (fun e w' => ∃ g, e = .returned (.agg #[.int .i64 2, .int .i64 0, .int .i64 0, .int .i64 0, .slice (some ⟨g, 0, none⟩) 1 1]) ∧ W.heap.size ≤ g ∧ w'.rangeAt g 0 [.int .i64 0, .int .i64 0, .int .i64 0, .int .i64 0, .slice none 0 0] ∧ Below W.heap.size W w')) := Lib.hid fun W => List_new 0 0 0 0 W
  clear V0 R0 hn hj
  by_cases h1 : K = 1
  · have e1 : ((K : Int) == 1) = true := by rw [beq_iff_eq]; omega
    clear h1 hK hK2
    go_enter Tryd.func45, Tryd.ntmps45
    go_upto_region 1 with fail
    clear hW
    go_wp2_with (first
      | (go_at_call 12; (with_reducible refine (HAR.out _).mono ?_); rintro e w2 ⟨rfl, hw2⟩; rw [hw2]; clear hw2)
      | (refine wpList_store_arr rfl _ (.tmp 4) (.tmp 14) rfl w.heap.size 0 5 31 _ [.int .i64 1, .int .i64 0, .int .i64 0, .int .i64 0, .slice none 0 0] z5 rfl rfl rfl HR.out (show 0 + 5 ≤ 5 by omega) info_type (by intro v hv; simp at hv; rcases hv with rfl | rfl | rfl | rfl | rfl <;> rfl) ?_; intro w7 f7 o7))
    rw [setAll_all z5 [.int .i64 1, .int .i64 0, .int .i64 0, .int .i64 0, .slice none 0 0] rfl] at f7
    refine bodyPost_ret (results_one rfl _ _ w.heap.size [.int .i64 1, .int .i64 0, .int .i64 0, .int .i64 0, .slice none 0 0] _ rfl f7.range Tryd.underlying31 rfl info_type) rfl ?_
    exact ⟨tB, _, _, _, _, _, _, _, .inr (.inl rfl), rfl, ty_leaf _ _ _ _ (by unfold i64r; omega) (by unfold i64r; omega) (by unfold i64r; omega) (by unfold i64r; omega) _ _, HV.out.trans (o7.bel.mono (Nat.le_refl _))⟩
  have e1 : ((K : Int) == 1) = false := by rw [beq_eq_false_iff_ne]; omega
  by_cases h2 : K = 2
  · have e2 : ((K : Int) == 2) = true := by rw [beq_iff_eq]; omega
    clear h1 h2 hK hK2
    go_enter Tryd.func45, Tryd.ntmps45
    go_upto_region 1 with fail
    clear hW
    go_wp2_with (first
      | (go_at_call 12; (with_reducible refine (HAR.out _).mono ?_); rintro e w2 ⟨rfl, hw2⟩; rw [hw2]; clear hw2)
      | (go_at_call 13; (with_reducible refine (HLZ.out _).mono ?_); rintro e w3 ⟨g, rfl, hg, hr3, hb3⟩; have HG := Lib.hid hg; have HR3 := Lib.hid hr3; have HB3 := Lib.hid hb3; clear hg hr3 hb3)
      | (refine wpList_store_arr rfl _ (.tmp 4) (.tmp 18) rfl w.heap.size 0 5 31 _ [.int .i64 2, .int .i64 0, .int .i64 0, .int .i64 0, .slice (some ⟨g, 0, none⟩) 1 1] z5 rfl rfl rfl (HR.out.later HB3.out) (show 0 + 5 ≤ 5 by omega) info_type (by intro v hv; simp at hv; rcases hv with rfl | rfl | rfl | rfl | rfl <;> rfl) ?_; intro w7 f7 o7))
    rw [setAll_all z5 [.int .i64 2, .int .i64 0, .int .i64 0, .int .i64 0, .slice (some ⟨g, 0, none⟩) 1 1] rfl] at f7
    refine bodyPost_ret (results_one rfl _ _ w.heap.size [.int .i64 2, .int .i64 0, .int .i64 0, .int .i64 0, .slice (some ⟨g, 0, none⟩) 1 1] _ rfl f7.range Tryd.underlying31 rfl info_type) rfl ?_
    have hg := HG.out
    exact ⟨tL tI, _, _, _, _, _, _, _, .inr (.inr (.inl rfl)), rfl, ty_list 0 0 0 0 (by unfold i64r; omega) (by unfold i64r; omega) (by unfold i64r; omega) (by unfold i64r; omega) (range_heap HR3.out fun _ => o7.2 _ (by omega)) (by omega), (later HV.out HB3.out).trans (o7.bel.mono (Nat.le_refl _))⟩
  have e2 : ((K : Int) == 2) = false := by rw [beq_eq_false_iff_ne]; omega
  by_cases h4 : 4 ≤ K
  · have h4i : (4 : Int) ≤ (K : Int) := by omega
    obtain ⟨I, hI⟩ : ∃ I, (K - 4) / 2 = I := ⟨_, rfl⟩
    obtain ⟨II, hII⟩ : ∃ II, 1 + I = II := ⟨_, rfl⟩
    have hIj : I < j := by omega
    have hII31 : II ≤ 31 := by have := HJ.out; omega
    have HGI : Hid (tD I = .node 3 0 1 (II : Int) []) := Lib.hid (by unfold tD; rw [← hII, show ((1 + I : Nat) : Int) = 1 + (I : Int) from by omega])
    have HIJ := Lib.hid hIj
    have HID : Hid (∀ W, Calls Tryd.prog 15 #[.int .i64 (1 + ((K : Int) - 4) / 2)] W fun e w' => e = .returned (.agg #[.int .i64 0, .int .i64 1, .int .i64 (II : Int)]) ∧ Below W.heap.size W w') := Lib.hid fun W => by
      have h := ID_any II hII31 W
      rwa [show (Value.int .i64 (1 + ((K : Int) - 4) / 2)) = .int .i64 (II : Int) from by congr 1; omega]
    have HOF : Hid (∀ W, Calls Tryd.prog 14 #[.agg #[.int .i64 0, .int .i64 1, .int .i64 (II : Int)]] W fun e w' => e = .returned (.agg #[.int .i64 3, .int .i64 0, .int .i64 1, .int .i64 (II : Int), .slice none 0 0]) ∧ Below W.heap.size W w') := Lib.hid fun W => Of_any 0 1 (II : Int) W
    have HLD : Hid (∀ W, Calls Tryd.prog 13 #[.agg #[.int .i64 3, .int .i64 0, .int .i64 1, .int .i64 (II : Int), .slice none 0 0]] W (fun e w' => ∃ g, e = .returned (.agg #[.int .i64 2, .int .i64 0, .int .i64 0, .int .i64 0, .slice (some ⟨g, 0, none⟩) 1 1]) ∧ W.heap.size ≤ g ∧ w'.rangeAt g 0 [.int .i64 3, .int .i64 0, .int .i64 1, .int .i64 (II : Int), .slice none 0 0] ∧ Below W.heap.size W w')) := Lib.hid fun W => List_new 3 0 1 (II : Int) W
    have HR2 : Hid (i64r (II : Int)) := Lib.hid (by unfold i64r; omega)
    clear h1 h2 h4 hK hI hII hIj hII31
    go_enter Tryd.func45, Tryd.ntmps45
    go_upto_region 1 with fail
    clear hW
    go_upto_region 8 with (first
      | (go_at_call 12; (with_reducible refine (HAR.out _).mono ?_); rintro e w2 ⟨rfl, hw2⟩; rw [hw2]; clear hw2)
      | (go_at_call 15; (with_reducible refine (HID.out _).mono ?_); rintro e w3 ⟨rfl, hb3⟩; have HB3 := Lib.hid hb3; clear hb3)
      | (go_at_call 14; (with_reducible refine (HOF.out _).mono ?_); rintro e w4 ⟨rfl, hb4⟩; have HB4 := Lib.hid (later HB3.out hb4); clear hb4))
    have b5 := new_later w4 (.cells #[.int .i64 3, .int .i64 0, .int .i64 1, .int .i64 (II : Int), .slice none 0 0] 31)
    have A5 : Arr (w4.alloc (.cells #[.int .i64 3, .int .i64 0, .int .i64 1, .int .i64 (II : Int), .slice none 0 0] 31)) w4.heap.size 5 31 [.int .i64 3, .int .i64 0, .int .i64 1, .int .i64 (II : Int), .slice none 0 0] := Arr.new' w4 _ _ 5 _ rfl rfl (by decide)
    generalize w4.alloc (.cells #[.int .i64 3, .int .i64 0, .int .i64 1, .int .i64 (II : Int), .slice none 0 0] 31) = w5 at b5 A5 ⊢
    have HB5 := Lib.hid (later HB4.out b5)
    have HR5 := Lib.hid ((HR.out.later HB4.out).later b5)
    generalize w4.heap.size = g4 at A5 ⊢
    have x0 := A5.cell (j := 0) (v := .int .i64 3) rfl
    have x1 := A5.cell (j := 1) (v := .int .i64 0) rfl
    have x2 := A5.cell (j := 2) (v := .int .i64 1) rfl
    have x3 := A5.cell (j := 3) (v := .int .i64 (II : Int)) rfl
    have x4 := A5.cell (j := 4) (v := .slice none 0 0) rfl
    clear b5 A5
    by_cases h5 : K2 = 1
    · have e5 : ((K2 : Int) == 1) = true := by rw [beq_iff_eq]; omega
      clear h5 hK2
      go_wp2_with (first
        | (go_at_call 12; (with_reducible refine (HAR2.out _).mono ?_); rintro e w2 ⟨rfl, hw2⟩; rw [hw2]; clear hw2)
        | (go_at_call 13; (with_reducible refine (HLD.out _).mono ?_); rintro e w3 ⟨g, rfl, hg, hr3, hb3⟩; have HG := Lib.hid hg; have HR3 := Lib.hid hr3; have HB6 := Lib.hid hb3; clear hg hr3 hb3)
        | (refine wpList_store_arr rfl _ (.tmp 4) (.tmp 32) rfl w.heap.size 0 5 31 _ [.int .i64 2, .int .i64 0, .int .i64 0, .int .i64 0, .slice (some ⟨g, 0, none⟩) 1 1] z5 rfl rfl rfl (HR5.out.later HB6.out) (show 0 + 5 ≤ 5 by omega) info_type (by intro v hv; simp at hv; rcases hv with rfl | rfl | rfl | rfl | rfl <;> rfl) ?_; intro w7 f7 o7))
      rw [setAll_all z5 [.int .i64 2, .int .i64 0, .int .i64 0, .int .i64 0, .slice (some ⟨g, 0, none⟩) 1 1] rfl] at f7
      refine bodyPost_ret (results_one rfl _ _ w.heap.size [.int .i64 2, .int .i64 0, .int .i64 0, .int .i64 0, .slice (some ⟨g, 0, none⟩) 1 1] _ rfl f7.range Tryd.underlying31 rfl info_type) rfl ?_
      have hg := HG.out
      have hs5 := HB5.out.size
      refine ⟨tL (tD I), _, _, _, _, _, _, _, .inr (.inr (.inr ⟨I, HIJ.out, .inr rfl⟩)), rfl, ?_, (later (later HV.out HB5.out) HB6.out).trans (o7.bel.mono (Nat.le_refl _))⟩
      rw [HGI.out]
      exact ty_list 3 0 1 (II : Int) (by unfold i64r; omega) (by unfold i64r; omega) (by unfold i64r; omega) HR2.out (range_heap HR3.out fun _ => o7.2 _ (by omega)) (by omega)
    · have e5 : ((K2 : Int) == 1) = false := by rw [beq_eq_false_iff_ne]; omega
      clear h5 hK2
      go_wp2_with (first
        | (go_at_call 12; (with_reducible refine (HAR2.out _).mono ?_); rintro e w2 ⟨rfl, hw2⟩; rw [hw2]; clear hw2)
        | (refine wpList_store_arr rfl _ (.tmp 4) (.tmp 33) rfl w.heap.size 0 5 31 _ [.int .i64 3, .int .i64 0, .int .i64 1, .int .i64 (II : Int), .slice none 0 0] z5 rfl rfl rfl HR5.out (show 0 + 5 ≤ 5 by omega) info_type (by intro v hv; simp at hv; rcases hv with rfl | rfl | rfl | rfl | rfl <;> rfl) ?_; intro w7 f7 o7))
      rw [setAll_all z5 [.int .i64 3, .int .i64 0, .int .i64 1, .int .i64 (II : Int), .slice none 0 0] rfl] at f7
      refine bodyPost_ret (results_one rfl _ _ w.heap.size [.int .i64 3, .int .i64 0, .int .i64 1, .int .i64 (II : Int), .slice none 0 0] _ rfl f7.range Tryd.underlying31 rfl info_type) rfl ?_
      refine ⟨tD I, _, _, _, _, _, _, _, .inr (.inr (.inr ⟨I, HIJ.out, .inl rfl⟩)), rfl, ?_, (later HV.out HB5.out).trans (o7.bel.mono (Nat.le_refl _))⟩
      rw [HGI.out]
      exact ty_leaf 3 0 1 (II : Int) (by unfold i64r; omega) (by unfold i64r; omega) (by unfold i64r; omega) HR2.out _ _
  · have h4i : decide ((4 : Int) ≤ (K : Int)) = false := by rw [decide_eq_false_iff_not]; omega
    clear h1 h2 h4 hK hK2 hKi
    go_enter Tryd.func45, Tryd.ntmps45
    go_upto_region 1 with fail
    clear hW
    go_wp2_with (first
      | (go_at_call 12; (with_reducible refine (HAR.out _).mono ?_); rintro e w2 ⟨rfl, hw2⟩; rw [hw2]; clear hw2)
      | (refine wpList_store_arr rfl _ (.tmp 4) (.tmp 34) rfl w.heap.size 0 5 31 _ [.int .i64 0, .int .i64 0, .int .i64 0, .int .i64 0, .slice none 0 0] z5 rfl rfl rfl HR.out (show 0 + 5 ≤ 5 by omega) info_type (by intro v hv; simp at hv; rcases hv with rfl | rfl | rfl | rfl | rfl <;> rfl) ?_; intro w7 f7 o7))
    rw [setAll_all z5 [.int .i64 0, .int .i64 0, .int .i64 0, .int .i64 0, .slice none 0 0] rfl] at f7
    refine bodyPost_ret (results_one rfl _ _ w.heap.size [.int .i64 0, .int .i64 0, .int .i64 0, .int .i64 0, .slice none 0 0] _ rfl f7.range Tryd.underlying31 rfl info_type) rfl ?_
    exact ⟨tI, _, _, _, _, _, _, _, .inl rfl, rfl, ty_leaf _ _ _ _ (by unfold i64r; omega) (by unfold i64r; omega) (by unfold i64r; omega) (by unfold i64r; omega) _ _, HV.out.trans (o7.bel.mono (Nat.le_refl _))⟩
end Go.Proofs.YtkpoiljioadfgaaDoor

namespace Go.Proofs.YtkpoiljioadfgaaDoor
open Go.RowKit
def lf (n : Int) : Tr := .node 0 n []
def bxE : Tr := .node 3 1 [.node 2 0 [lf 1, lf (-2)]]
def wrE : Tr := .node 3 1 [lf 1]
def liE : Tr := .node 4 0 [lf 3, lf 0]
def niE : Tr := .node 4 0 [lf 9]
def onE : Tr := .node 4 0 [lf 1, lf 1]
def fiE : Tr := .node 4 0 [lf 5]
theorem ex_vty : vty pEx 24 (tD 1) = true := by decide
theorem ex_vty' : vty pEx 24 (tD 2) = false := by decide
theorem ex_same : (tD 1).same (tD 1) = true := by decide
theorem ex_same' : (tD 1).same (tD 0) = false := by decide
theorem ex_wt : bxE.wt = 4 := by decide +kernel
theorem ex_wt' : liE.wt = 5 := by decide +kernel
theorem ex_sz : bxE.sz = 4 := by decide +kernel
theorem ex_cp1 : (lf 2).cp (.node 1 1 []) = -1 := by decide
theorem ex_cp2 : niE.cp onE = -1 := by decide
theorem ex_cp3 : onE.cp niE = 1 := by decide
theorem ex_zr1 : (zr pEx 24 (tD 0) 0) = (0, .node 2 0 [lf 0, lf 0], 3) := by rfl
theorem ex_zr2 : (zr pEx 24 (tD 1) 0) = (0, .node 3 0 [lf 0], 2) := by rfl
theorem ex_pv1 : (pv pEx bxE (tD 1) 24 0).1 = true := by decide
theorem ex_pv2 : (pv pEx wrE (tD 1) 24 0).1 = false := by decide
theorem ex_en : fiE.en = [129, 4, 128, 129, 1, 128, 129, 5, 128] := by decide +kernel
theorem ex_dz : (dz [129, 4, 128, 129, 1, 128, 129, 5, 128] 24 0 0) = (0, fiE, 9, 2) := by kernel_rfl
end Go.Proofs.YtkpoiljioadfgaaDoor

namespace Go.Proofs.YtkpoiljioadfgaaDoor
open Go.RowKit
theorem info_slots3 : (Tryd.prog.info? 66).map (fun i => (i.zero, i.size, i.bytes)) = some (some (.agg #[.int .i64 0, .int .i64 0, .int .i64 0, .string ⟨#[]⟩, .int .i64 0, .int .i64 0, .int .i64 0, .int .i64 0, .slice none 0 0, .int .i64 0, .int .i64 0]), 11, 112) := by kernel_rfl
set_option maxHeartbeats 400000 in
set_option maxRecDepth 100000 in
theorem clone_slots (w : World) (g o m cap : Nat) (C : List Value) (hC : C.length = m * 11) (hr : w.rangeAt g o C) (h1 : ∀ u ∈ C, u.oneCell' = true) (hm : 0 < m) (hmc : m ≤ cap ∧ cap ≤ maxLen) (hb : m * 112 ≤ 140737488355328) :
    Calls Tryd.prog 87 #[.slice (some ⟨g, o, none⟩) m cap] w (fun e w' => ∃ h c', e = .returned (.slice (some ⟨h, 0, none⟩) m c') ∧ w'.ownsRow w.heap.size 66 11 (.slice (some ⟨h, 0, none⟩) m c') m C ∧ Below w.heap.size w w') := by
  have heq : ∀ W, (binOp BinOp.eql 40 (.slice (some ⟨g, o, none⟩) m cap) (.slice none 0 0)).run Tryd.prog W = .ok (.bool false) W := fun W => by kernel_rfl
  have HNW : Hid (∀ j u, C[j]? = some u → (w.alloc (.cells #[] 66)).cell? ((⟨g, o, none⟩ : Addr).add j) = some u) := Lib.hid fun j u hu => by
    have h := range_below hr (new_later w (.cells #[] 66)) j u hu
    have ha : (⟨g, o, none⟩ : Addr).add j = ⟨g, o + j, none⟩ := by unfold Addr.add; split <;> simp_all
    rw [ha]; exact h
  have HOW : Hid ((w.alloc (.cells #[] 66)).ownsRow w.heap.size 66 11 (.slice (some ⟨w.heap.size, 0, none⟩) 0 0) 0 []) := Lib.hid (World.ownsRow_made w #[] 0 (Nat.le_refl _) (by simp [maxLen]) rfl)
  obtain ⟨i0, hi0, hz0, hz1, hz2⟩ := info_parts info_slots3
  have HI := Lib.hid (And.intro hi0 (And.intro hz0 (And.intro hz1 hz2)))
  have HH := Lib.hid (And.intro hC (And.intro h1 (And.intro hm (And.intro hmc hb))))
  clear hr hC h1 hm hmc hb hi0 hz0 hz1 hz2
  go_enter Tryd.func87, Tryd.ntmps87
  go_wp2_with (at_builtin; refine wpList_append_lies _ rfl _ _ _ rfl w.heap.size 66 i0 (.agg #[.int .i64 0, .int .i64 0, .int .i64 0, .string ⟨#[]⟩, .int .i64 0, .int .i64 0, .int .i64 0, .int .i64 0, .slice none 0 0, .int .i64 0, .int .i64 0]) 11 112 rfl HI.out.1 HI.out.2.1 HI.out.2.2.1 HI.out.2.2.2 rfl (by omega) (.slice (some ⟨w.heap.size, 0, none⟩) 0 0) 0 [] rfl HOW.out ⟨g, o, none⟩ m cap C rfl HH.out.1 HNW.out HH.out.2.1 HH.out.2.2.1 (by have := HH.out.2.2.2.1; omega) (by have := HH.out.2.2.2.2; omega) (by simp) (w.heap.size + 1) (by simp) ?_; intro h c' w' hown hgr hat hlt; have HO := Lib.hid hown; have HG := Lib.hid hgr; clear hown hgr hat hlt)
  go_ret
  refine ⟨h, c', by simp, ?_, ?_⟩
  · have := HO.out; simpa using this
  · exact ((new_later w (.cells #[] 66)).mono (Nat.le_refl _)).grown HG.out (by simp) (fun k hk => by simp [Value.ownBlock] at hk; omega)
theorem info_types3 : (Tryd.prog.info? 31).map (fun i => (i.zero, i.size, i.bytes)) = some (some (.agg #[.int .i64 0, .int .i64 0, .int .i64 0, .int .i64 0, .slice none 0 0]), 5, 56) := by kernel_rfl
set_option maxHeartbeats 400000 in
set_option maxRecDepth 100000 in
theorem clone_types (w : World) (g o m cap : Nat) (C : List Value) (hC : C.length = m * 5) (hr : w.rangeAt g o C) (h1 : ∀ u ∈ C, u.oneCell' = true) (hm : 0 < m) (hmc : m ≤ cap ∧ cap ≤ maxLen) (hb : m * 56 ≤ 140737488355328) :
    Calls Tryd.prog 92 #[.slice (some ⟨g, o, none⟩) m cap] w (fun e w' => ∃ h c', e = .returned (.slice (some ⟨h, 0, none⟩) m c') ∧ w'.ownsRow w.heap.size 31 5 (.slice (some ⟨h, 0, none⟩) m c') m C ∧ Below w.heap.size w w') := by
  have heq : ∀ W, (binOp BinOp.eql 29 (.slice (some ⟨g, o, none⟩) m cap) (.slice none 0 0)).run Tryd.prog W = .ok (.bool false) W := fun W => by kernel_rfl
  have HNW : Hid (∀ j u, C[j]? = some u → (w.alloc (.cells #[] 31)).cell? ((⟨g, o, none⟩ : Addr).add j) = some u) := Lib.hid fun j u hu => by
    have h := range_below hr (new_later w (.cells #[] 31)) j u hu
    have ha : (⟨g, o, none⟩ : Addr).add j = ⟨g, o + j, none⟩ := by unfold Addr.add; split <;> simp_all
    rw [ha]; exact h
  have HOW : Hid ((w.alloc (.cells #[] 31)).ownsRow w.heap.size 31 5 (.slice (some ⟨w.heap.size, 0, none⟩) 0 0) 0 []) := Lib.hid (World.ownsRow_made w #[] 0 (Nat.le_refl _) (by simp [maxLen]) rfl)
  obtain ⟨i0, hi0, hz0, hz1, hz2⟩ := info_parts info_types3
  have HI := Lib.hid (And.intro hi0 (And.intro hz0 (And.intro hz1 hz2)))
  have HH := Lib.hid (And.intro hC (And.intro h1 (And.intro hm (And.intro hmc hb))))
  clear hr hC h1 hm hmc hb hi0 hz0 hz1 hz2
  go_enter Tryd.func92, Tryd.ntmps92
  go_wp2_with (at_builtin; refine wpList_append_lies _ rfl _ _ _ rfl w.heap.size 31 i0 (.agg #[.int .i64 0, .int .i64 0, .int .i64 0, .int .i64 0, .slice none 0 0]) 5 56 rfl HI.out.1 HI.out.2.1 HI.out.2.2.1 HI.out.2.2.2 rfl (by omega) (.slice (some ⟨w.heap.size, 0, none⟩) 0 0) 0 [] rfl HOW.out ⟨g, o, none⟩ m cap C rfl HH.out.1 HNW.out HH.out.2.1 HH.out.2.2.1 (by have := HH.out.2.2.2.1; omega) (by have := HH.out.2.2.2.2; omega) (by simp) (w.heap.size + 1) (by simp) ?_; intro h c' w' hown hgr hat hlt; have HO := Lib.hid hown; have HG := Lib.hid hgr; clear hown hgr hat hlt)
  go_ret
  refine ⟨h, c', by simp, ?_, ?_⟩
  · have := HO.out; simpa using this
  · exact ((new_later w (.cells #[] 31)).mono (Nat.le_refl _)).grown HG.out (by simp) (fun k hk => by simp [Value.ownBlock] at hk; omega)
theorem info_exprs3 : (Tryd.prog.info? 44).map (fun i => (i.zero, i.size, i.bytes)) = some (some (.agg #[.int .i64 0, .int .i64 0, .int .i64 0, .int .i64 0, .int .i64 0, .int .i64 0, .int .i64 0, .int .i64 0, .int .i64 0, .int .i64 0, .int .i64 0, .int .i64 0, .slice none 0 0, .slice none 0 0, .slice none 0 0]), 15, 168) := by kernel_rfl
set_option maxHeartbeats 400000 in
set_option maxRecDepth 100000 in
theorem clone_exprs (w : World) (g o m cap : Nat) (C : List Value) (hC : C.length = m * 15) (hr : w.rangeAt g o C) (h1 : ∀ u ∈ C, u.oneCell' = true) (hm : 0 < m) (hmc : m ≤ cap ∧ cap ≤ maxLen) (hb : m * 168 ≤ 140737488355328) :
    Calls Tryd.prog 93 #[.slice (some ⟨g, o, none⟩) m cap] w (fun e w' => ∃ h c', e = .returned (.slice (some ⟨h, 0, none⟩) m c') ∧ w'.ownsRow w.heap.size 44 15 (.slice (some ⟨h, 0, none⟩) m c') m C ∧ Below w.heap.size w w') := by
  have heq : ∀ W, (binOp BinOp.eql 41 (.slice (some ⟨g, o, none⟩) m cap) (.slice none 0 0)).run Tryd.prog W = .ok (.bool false) W := fun W => by kernel_rfl
  have HNW : Hid (∀ j u, C[j]? = some u → (w.alloc (.cells #[] 44)).cell? ((⟨g, o, none⟩ : Addr).add j) = some u) := Lib.hid fun j u hu => by
    have h := range_below hr (new_later w (.cells #[] 44)) j u hu
    have ha : (⟨g, o, none⟩ : Addr).add j = ⟨g, o + j, none⟩ := by unfold Addr.add; split <;> simp_all
    rw [ha]; exact h
  have HOW : Hid ((w.alloc (.cells #[] 44)).ownsRow w.heap.size 44 15 (.slice (some ⟨w.heap.size, 0, none⟩) 0 0) 0 []) := Lib.hid (World.ownsRow_made w #[] 0 (Nat.le_refl _) (by simp [maxLen]) rfl)
  obtain ⟨i0, hi0, hz0, hz1, hz2⟩ := info_parts info_exprs3
  have HI := Lib.hid (And.intro hi0 (And.intro hz0 (And.intro hz1 hz2)))
  have HH := Lib.hid (And.intro hC (And.intro h1 (And.intro hm (And.intro hmc hb))))
  clear hr hC h1 hm hmc hb hi0 hz0 hz1 hz2
  go_enter Tryd.func93, Tryd.ntmps93
  go_wp2_with (at_builtin; refine wpList_append_lies _ rfl _ _ _ rfl w.heap.size 44 i0 (.agg #[.int .i64 0, .int .i64 0, .int .i64 0, .int .i64 0, .int .i64 0, .int .i64 0, .int .i64 0, .int .i64 0, .int .i64 0, .int .i64 0, .int .i64 0, .int .i64 0, .slice none 0 0, .slice none 0 0, .slice none 0 0]) 15 168 rfl HI.out.1 HI.out.2.1 HI.out.2.2.1 HI.out.2.2.2 rfl (by omega) (.slice (some ⟨w.heap.size, 0, none⟩) 0 0) 0 [] rfl HOW.out ⟨g, o, none⟩ m cap C rfl HH.out.1 HNW.out HH.out.2.1 HH.out.2.2.1 (by have := HH.out.2.2.2.1; omega) (by have := HH.out.2.2.2.2; omega) (by simp) (w.heap.size + 1) (by simp) ?_; intro h c' w' hown hgr hat hlt; have HO := Lib.hid hown; have HG := Lib.hid hgr; clear hown hgr hat hlt)
  go_ret
  refine ⟨h, c', by simp, ?_, ?_⟩
  · have := HO.out; simpa using this
  · exact ((new_later w (.cells #[] 44)).mono (Nat.le_refl _)).grown HG.out (by simp) (fun k hk => by simp [Value.ownBlock] at hk; omega)
end Go.Proofs.YtkpoiljioadfgaaDoor

namespace Go.Proofs.YtkpoiljioadfgaaDoor
open Go.RowKit
set_option maxHeartbeats 400000 in
set_option maxRecDepth 100000 in
theorem clonenil_types (w : World) : Calls Tryd.prog 92 #[.slice none 0 0] w (fun e w' => e = .returned (.slice none 0 0) ∧ w' = w) := by
  have heq : ∀ W, (binOp BinOp.eql 29 (.slice none 0 0) (.slice none 0 0)).run Tryd.prog W = .ok (.bool true) W := fun W => by kernel_rfl
  go_enter Tryd.func92, Tryd.ntmps92
  go_wp2_with fail
  go_ret
  exact ⟨by simp, by simp⟩
set_option maxHeartbeats 400000 in
set_option maxRecDepth 100000 in
theorem copynil_types (f : Value) (w : World) : Calls Tryd.prog 88 #[.slice none 0 0, f] w (fun e w' => e = .returned (.slice none 0 0) ∧ w' = w) := by
  have HC := Lib.hid (clonenil_types w)
  go_enter Tryd.func88, Tryd.ntmps88
  go_wp2_with (go_at_call 92; (with_reducible refine HC.out.mono ?_); rintro e w2 ⟨rfl, hw2⟩; rw [hw2]; clear hw2)
  go_loopw [11] (fun i W => i = .int .i64 0 ∧ W = w) (fun _ _ => 0)
  case atStart => exact ⟨rfl, rfl⟩
  case round =>
    obtain ⟨rfl, hw⟩ := hrel
    subst hw
    go_wp2_with fail
    go_ret
    exact ⟨by simp, by simp⟩
set_option maxHeartbeats 400000 in
set_option maxRecDepth 100000 in
theorem clonenil_exprs (w : World) : Calls Tryd.prog 93 #[.slice none 0 0] w (fun e w' => e = .returned (.slice none 0 0) ∧ w' = w) := by
  have heq : ∀ W, (binOp BinOp.eql 41 (.slice none 0 0) (.slice none 0 0)).run Tryd.prog W = .ok (.bool true) W := fun W => by kernel_rfl
  go_enter Tryd.func93, Tryd.ntmps93
  go_wp2_with fail
  go_ret
  exact ⟨by simp, by simp⟩
set_option maxHeartbeats 400000 in
set_option maxRecDepth 100000 in
theorem copynil_exprs (f : Value) (w : World) : Calls Tryd.prog 89 #[.slice none 0 0, f] w (fun e w' => e = .returned (.slice none 0 0) ∧ w' = w) := by
  have HC := Lib.hid (clonenil_exprs w)
  go_enter Tryd.func89, Tryd.ntmps89
  go_wp2_with (go_at_call 93; (with_reducible refine HC.out.mono ?_); rintro e w2 ⟨rfl, hw2⟩; rw [hw2]; clear hw2)
  go_loopw [11] (fun i W => i = .int .i64 0 ∧ W = w) (fun _ _ => 0)
  case atStart => exact ⟨rfl, rfl⟩
  case round =>
    obtain ⟨rfl, hw⟩ := hrel
    subst hw
    go_wp2_with fail
    go_ret
    exact ⟨by simp, by simp⟩
set_option maxHeartbeats 400000 in
set_option maxRecDepth 100000 in
theorem clonenil_strs (w : World) : Calls Tryd.prog 79 #[.slice none 0 0] w (fun e w' => e = .returned (.slice none 0 0) ∧ w' = w) := by
  have heq : ∀ W, (binOp BinOp.eql 42 (.slice none 0 0) (.slice none 0 0)).run Tryd.prog W = .ok (.bool true) W := fun W => by kernel_rfl
  go_enter Tryd.func79, Tryd.ntmps79
  go_wp2_with fail
  go_ret
  exact ⟨by simp, by simp⟩
end Go.Proofs.YtkpoiljioadfgaaDoor

namespace Go.Proofs.YtkpoiljioadfgaaDoor
open Go.RowKit
set_option maxHeartbeats 1000000 in
set_option maxRecDepth 100000 in
theorem copyType_leaf (k s q i : Int) (w : World) : Calls Tryd.prog 77 #[.agg (t5 k s q i none 0 0).toArray] w (fun e w' => e = .returned (.agg #[.int .i64 k, .int .i64 s, .int .i64 q, .int .i64 i, .slice none 0 0]) ∧ Below w.heap.size w w') := by
  have P0 := t5_new w k s q i none 0 0
  have V0 := new_later w (.cells (t5 k s q i none 0 0).toArray 31)
  have b2 := new_later (w.alloc (.cells (t5 k s q i none 0 0).toArray 31)) (.cells #[.int .i64 0, .int .i64 0, .int .i64 0, .int .i64 0, .slice none 0 0] 31)
  have R0 := Arr.new' (w.alloc (.cells (t5 k s q i none 0 0).toArray 31)) 31 #[.int .i64 0, .int .i64 0, .int .i64 0, .int .i64 0, .slice none 0 0] 5 z5 rfl rfl (by decide)
  rw [World.size_alloc] at R0
  have P1 := P0.later b2
  have V1 := later V0 b2
  generalize hW : (w.alloc (.cells (t5 k s q i none 0 0).toArray 31)).alloc (.cells #[.int .i64 0, .int .i64 0, .int .i64 0, .int .i64 0, .slice none 0 0] 31) = wa at P1 V1 R0
  have A1 := P1.set_ 4 (.slice none 0 0)
  have R1 := R0.other (b := w.heap.size) (j := 4) (by omega) (.slice none 0 0)
  have HR := Lib.hid R1
  have HV := Lib.hid (V1.setCell (p := ⟨w.heap.size, 4, none⟩) (Nat.le_refl _) (.slice none 0 0))
  have y4 := P1.cell (j := 4) (v := .slice none 0 0) rfl
  have f4 := P1.free 4
  have c0 := A1.cell (j := 0) (v := .int .i64 k) rfl
  have c1 := A1.cell (j := 1) (v := .int .i64 s) rfl
  have c2 := A1.cell (j := 2) (v := .int .i64 q) rfl
  have c3 := A1.cell (j := 3) (v := .int .i64 i) rfl
  have c4 := A1.cell (j := 4) (v := .slice none 0 0) rfl
  have HC := Lib.hid (fun (f : Value) (W : World) => copynil_types f W)
  clear P0 V0 b2 R0 P1 V1 A1 R1
  go_enter Tryd.func77, Tryd.ntmps77
  go_upto_region 1 with fail
  clear hW
  go_wp2_with (first
    | (go_at_call 88; (with_reducible refine (HC.out _ _).mono ?_); rintro e w2 ⟨rfl, hw2⟩; rw [hw2]; clear hw2)
    | (refine wpList_store_arr rfl _ (.tmp 2) (.tmp 7) rfl (w.heap.size + 1) 0 5 31 _ [.int .i64 k, .int .i64 s, .int .i64 q, .int .i64 i, .slice none 0 0] z5 rfl rfl rfl HR.out (show 0 + 5 ≤ 5 by omega) info_type (List.all_eq_true.mp (by rfl)) ?_; intro w7 f7 o7))
  rw [setAll_all z5 [.int .i64 k, .int .i64 s, .int .i64 q, .int .i64 i, .slice none 0 0] rfl] at f7
  exact bodyPost_ret (results_one rfl _ _ (w.heap.size + 1) [.int .i64 k, .int .i64 s, .int .i64 q, .int .i64 i, .slice none 0 0] _ rfl f7.range Tryd.underlying31 rfl info_type) rfl ⟨rfl, HV.out.trans (o7.bel.mono (by omega))⟩
end Go.Proofs.YtkpoiljioadfgaaDoor

namespace Go.Proofs.YtkpoiljioadfgaaDoor
open Go.RowKit
def z11 : List Value := [.int .i64 0, .int .i64 0, .int .i64 0, .string ⟨#[]⟩, .int .i64 0, .int .i64 0, .int .i64 0, .int .i64 0, .slice none 0 0, .int .i64 0, .int .i64 0]
theorem info_sl11 : (Tryd.prog.info? 66).map (·.size) = some 11 := by kernel_rfl
set_option maxHeartbeats 1000000 in
set_option maxRecDepth 100000 in
theorem copySlot_leaf (a b c k s q i x y : Int) (nm : ByteArray) (w : World) : Calls Tryd.prog 76 #[.agg #[.int .i64 a, .int .i64 b, .int .i64 c, .string nm, .int .i64 k, .int .i64 s, .int .i64 q, .int .i64 i, .slice none 0 0, .int .i64 x, .int .i64 y]] w
    (fun e w' => e = .returned (.agg #[.int .i64 a, .int .i64 b, .int .i64 c, .string nm, .int .i64 k, .int .i64 s, .int .i64 q, .int .i64 i, .slice none 0 0, .int .i64 x, .int .i64 y]) ∧ Below w.heap.size w w') := by
  have P0 : Arr (w.alloc (.cells #[.int .i64 a, .int .i64 b, .int .i64 c, .string nm, .int .i64 k, .int .i64 s, .int .i64 q, .int .i64 i, .slice none 0 0, .int .i64 x, .int .i64 y] 66)) w.heap.size 11 66 [.int .i64 a, .int .i64 b, .int .i64 c, .string nm, .int .i64 k, .int .i64 s, .int .i64 q, .int .i64 i, .slice none 0 0, .int .i64 x, .int .i64 y] := Arr.new' w _ _ 11 _ rfl rfl (by decide)
  have V0 := new_later w (.cells #[.int .i64 a, .int .i64 b, .int .i64 c, .string nm, .int .i64 k, .int .i64 s, .int .i64 q, .int .i64 i, .slice none 0 0, .int .i64 x, .int .i64 y] 66)
  have b2 := new_later (w.alloc (.cells #[.int .i64 a, .int .i64 b, .int .i64 c, .string nm, .int .i64 k, .int .i64 s, .int .i64 q, .int .i64 i, .slice none 0 0, .int .i64 x, .int .i64 y] 66)) (.cells #[.int .i64 0, .int .i64 0, .int .i64 0, .string ⟨#[]⟩, .int .i64 0, .int .i64 0, .int .i64 0, .int .i64 0, .slice none 0 0, .int .i64 0, .int .i64 0] 66)
  have R0 := Arr.new' (w.alloc (.cells #[.int .i64 a, .int .i64 b, .int .i64 c, .string nm, .int .i64 k, .int .i64 s, .int .i64 q, .int .i64 i, .slice none 0 0, .int .i64 x, .int .i64 y] 66)) 66 #[.int .i64 0, .int .i64 0, .int .i64 0, .string ⟨#[]⟩, .int .i64 0, .int .i64 0, .int .i64 0, .int .i64 0, .slice none 0 0, .int .i64 0, .int .i64 0] 11 z11 rfl rfl (by decide)
  rw [World.size_alloc] at R0
  have P1 := P0.later b2
  have V1 := later V0 b2
  generalize hW : (w.alloc (.cells #[.int .i64 a, .int .i64 b, .int .i64 c, .string nm, .int .i64 k, .int .i64 s, .int .i64 q, .int .i64 i, .slice none 0 0, .int .i64 x, .int .i64 y] 66)).alloc (.cells #[.int .i64 0, .int .i64 0, .int .i64 0, .string ⟨#[]⟩, .int .i64 0, .int .i64 0, .int .i64 0, .int .i64 0, .slice none 0 0, .int .i64 0, .int .i64 0] 66) = wa at P1 V1 R0
  have HR := Lib.hid R0
  have HP := Lib.hid P1
  have HV := Lib.hid V1
  have y4 := P1.cell (j := 4) (v := .int .i64 k) rfl
  have y5 := P1.cell (j := 5) (v := .int .i64 s) rfl
  have y6 := P1.cell (j := 6) (v := .int .i64 q) rfl
  have y7 := P1.cell (j := 7) (v := .int .i64 i) rfl
  have y8 := P1.cell (j := 8) (v := .slice none 0 0) rfl
  have HC : Hid (∀ W, Calls Tryd.prog 77 #[.agg #[.int .i64 k, .int .i64 s, .int .i64 q, .int .i64 i, .slice none 0 0]] W (fun e w' => e = .returned (.agg #[.int .i64 k, .int .i64 s, .int .i64 q, .int .i64 i, .slice none 0 0]) ∧ Below W.heap.size W w')) := Lib.hid fun W => copyType_leaf k s q i W
  clear P0 V0 b2 R0 P1 V1
  go_enter Tryd.func76, Tryd.ntmps76
  go_upto_region 1 with fail
  clear hW
  go_wp2_with (first
    | (go_at_call 77; (with_reducible refine (HC.out _).mono ?_); rintro e w2 ⟨rfl, hb2⟩; have HB2 := Lib.hid hb2; clear hb2)
    | (refine wpList_store_arr rfl _ (.tmp 6) (.tmp 5) rfl w.heap.size 4 11 66 _ [.int .i64 k, .int .i64 s, .int .i64 q, .int .i64 i, .slice none 0 0] [.int .i64 a, .int .i64 b, .int .i64 c, .string nm, .int .i64 k, .int .i64 s, .int .i64 q, .int .i64 i, .slice none 0 0, .int .i64 x, .int .i64 y] rfl rfl rfl (HP.out.later HB2.out) (show 4 + 5 ≤ 11 by omega) info_type (List.all_eq_true.mp (by rfl)) ?_; intro w6 f6 o6; have c0 := f6.cell (j := 0) (v := .int .i64 a) rfl; have c1 := f6.cell (j := 1) (v := .int .i64 b) rfl; have c2 := f6.cell (j := 2) (v := .int .i64 c) rfl; have c3 := f6.cell (j := 3) (v := .string nm) rfl; have c4 := f6.cell (j := 4) (v := .int .i64 k) rfl; have c5 := f6.cell (j := 5) (v := .int .i64 s) rfl; have c6 := f6.cell (j := 6) (v := .int .i64 q) rfl; have c7 := f6.cell (j := 7) (v := .int .i64 i) rfl; have c8 := f6.cell (j := 8) (v := .slice none 0 0) rfl; have c9 := f6.cell (j := 9) (v := .int .i64 x) rfl; have c10 := f6.cell (j := 10) (v := .int .i64 y) rfl; have HR6 := Lib.hid ((HR.out.later HB2.out).only o6 (by omega)); have HO6 := Lib.hid o6; clear f6 o6)
    | (refine wpList_store_arr rfl _ (.tmp 2) (.tmp 7) rfl (w.heap.size + 1) 0 11 66 _ [.int .i64 a, .int .i64 b, .int .i64 c, .string nm, .int .i64 k, .int .i64 s, .int .i64 q, .int .i64 i, .slice none 0 0, .int .i64 x, .int .i64 y] z11 rfl rfl rfl HR6.out (show 0 + 11 ≤ 11 by omega) info_sl11 (List.all_eq_true.mp (by rfl)) ?_; intro w7 f7 o7))
  rw [setAll_all z11 [.int .i64 a, .int .i64 b, .int .i64 c, .string nm, .int .i64 k, .int .i64 s, .int .i64 q, .int .i64 i, .slice none 0 0, .int .i64 x, .int .i64 y] rfl] at f7
  exact bodyPost_ret (results_one rfl _ _ (w.heap.size + 1) [.int .i64 a, .int .i64 b, .int .i64 c, .string nm, .int .i64 k, .int .i64 s, .int .i64 q, .int .i64 i, .slice none 0 0, .int .i64 x, .int .i64 y] _ rfl f7.range Tryd.underlying66 rfl info_sl11) rfl ⟨rfl, ((later HV.out HB2.out).trans (HO6.out.bel.mono (by omega))).trans (o7.bel.mono (by omega))⟩
end Go.Proofs.YtkpoiljioadfgaaDoor

