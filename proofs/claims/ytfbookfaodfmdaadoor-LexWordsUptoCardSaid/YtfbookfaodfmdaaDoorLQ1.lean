import Derived.Test.YtfbookfaodfmdaaDoorLH
import Derived.Test.YtfbookfaodfmdaaDoorLG2
set_option linter.unusedVariables false
set_option linter.unusedSimpArgs false
namespace Go.Proofs.YtfbookfaodfmdaaDoor
open Go.RowKit

/-- The texts of the generator's tokens. -/
def pcL (l : List Int) : List (List Nat) := (l.take 30).map pieceL
def pcs (l : List Int) : List ByteArray := (pcL l).map mkS
theorem pcs_len (l : List Int) : (pcs l).length ≤ 30 := by simp [pcs, pcL]; omega

set_option maxHeartbeats 2000000 in
set_option maxRecDepth 100000 in
theorem Pieces_any (m cap : Nat) (A : Option Addr) (l : List Int) (w : World) (hm : m = l.length) (hm2 : m ≤ maxLen) (hl : ∀ x ∈ l, InR x) (hr : Rd w w.heap.size A (iv l)) :
    Calls Tryd.prog 16 #[.slice A m cap] w fun e w' => ∃ v', e = .returned v' ∧ OwnS w' w.heap.size v' (pcs l) ∧ Below w.heap.size w w' := by
  have HM := Lib.hid hm
  have HR := Lib.hid hr
  have HLI := Lib.hid hl
  have hm3 : (m : Int) ≤ 9223372036854775807 := by simp only [maxLen] at hm2; omega
  clear hm hr hl
  go_enter Tryd.func16, Tryd.ntmps16
  go_wp2_with fail
  go_loopw [3, 4] (fun v i W => ∃ j : Nat, j ≤ m ∧ j ≤ 30 ∧ i = .int .i64 (j : Int) ∧ OwnS W w.heap.size v ((l.take j).map fun x => mkS (pieceL x)) ∧ Below w.heap.size w W) (fun _ i _ => 30 - (intOf i).toNat)
  case atStart => exact ⟨0, by omega, by omega, rfl, OwnS.nil _ _, Below.refl _ _⟩
  case round =>
    obtain ⟨j, hj, hj30, rfl, hown, hb⟩ := hrel
    have hj0 : (0 : Int) ≤ (j : Int) := by omega
    have hj3 : (j : Int) ≤ 30 := by omega
    by_cases hlt : j < m ∧ j < 30
    · have hji : (j : Int) < (m : Int) := by omega
      have hji2 : (j : Int) < 30 := by omega
      have hjl : j < l.length := by have := HM.out; omega
      obtain ⟨b, o, rfl, hbB, hc⟩ := HR.out.at_ (by intro e; have h9 := congrArg List.length e; simp [iv] at h9; subst h9; simp at hjl)
      have hx := (hb.cell (p := ⟨b, o + j, none⟩) hbB).trans (hc j _ (iv_get l j hjl))
      have hxr := HLI.out _ (List.getElem_mem hjl)
      have hn : ((l.take (j + 1)).map fun x => mkS (pieceL x)) = ((l.take j).map fun x => mkS (pieceL x)) ++ [mkS (pieceL l[j])] := by rw [List.take_succ_eq_append_getElem hjl, List.map_append]; rfl
      have hl : ((l.take j).map fun x => mkS (pieceL x)).length ≤ 1000000 := by simp; omega
      have HN := Lib.hid hn
      generalize l[j] = a at hx hxr HN
      have HP := Lib.hid fun W => Piece_any a hxr W
      generalize mkS (pieceL a) = P at HN HP
      generalize ((l.take j).map fun x => mkS (pieceL x)) = M at HN hown hl
      have HO := Lib.hid hown
      have HB := Lib.hid hb
      have HJL := Lib.hid hlt
      clear hc hn hjl hxr hown hb hlt
      go_wp2_with (first
        | (go_at_call 29; (with_reducible refine (HP.out _).mono ?_); rintro e wp ⟨rfl, hbp⟩; have HB2 := Lib.hid (later HB.out hbp); have hown2 := HO.out.later hbp; have hbs := (HB2.out).size; clear hbp)
        | (refine wpList_putSt (x := P) hown2 hbs hl rfl _ _ rfl rfl rfl ?_; intro v5 w5 hown5 hb5))
      go_roundw
      case rel => exact ⟨j + 1, by have := HJL.out; omega, by have := HJL.out; omega, by go_num, by rw [HN.out]; exact hown5, HB2.out.trans hb5⟩
      case measure => have := HJL.out; simp [intOf]; omega
    · have hpc : pcs l = (l.take j).map fun x => mkS (pieceL x) := by
        unfold pcs pcL
        rw [List.map_map]
        have h1 : l.take 30 = l.take j := by
          by_cases h30 : j = 30
          · rw [h30]
          · have := HM.out
            rw [List.take_of_length_le (by omega), List.take_of_length_le (by omega)]
        rw [h1]; rfl
      rw [← hpc] at hown
      by_cases hjm : j < m
      · have hji : (j : Int) < (m : Int) := by omega
        have hji2 : ¬ (j : Int) < 30 := by omega
        clear hpc hlt hjm
        go_wp2_with fail
        go_ret
        exact ⟨_, rfl, hown, hb⟩
      · have hji : ¬ (j : Int) < (m : Int) := by omega
        clear hpc hlt hjm
        go_wp2_with fail
        go_ret
        exact ⟨_, rfl, hown, hb⟩
end Go.Proofs.YtfbookfaodfmdaaDoor
