import Derived.Test.YtfbookfaodfmdaaDoorLR4
import Derived.Test.YtfbookfaodfmdaaDoorLG2
import Derived.Test.YtfbookfaodfmdaaDoorLG3
set_option linter.unusedVariables false
set_option linter.unusedSimpArgs false
namespace Go.Proofs.YtfbookfaodfmdaaDoor
open Go.RowKit

theorem bld_writeB (B b : Nat) (X Y : List Nat) (W : World) (h : IsBld W B b X) (hY : (∀ d ∈ Y, d < 256)) (hl : X.length + Y.length ≤ 1000000000) (hB : B ≤ W.heap.size) :
    Calls Tryd.prog 41 #[.pointer (some ⟨b, 0, none⟩), .string (mkS Y)] W fun e w' => e = .returned (.tuple #[.int .i64 (Y.length : Int), .nilIface]) ∧ IsBld w' B b (X ++ Y) ∧ Below B W w' ∧ Lib.OthersKept 5 (some b) W w' := by
  refine (Tryd.b_write B b (bs X) (mkS Y) W h (by rw [bs_len, mkS_size]; omega) hB).mono fun e w' ⟨he, h1, h2, h3⟩ => ⟨?_, ?_, h2, h3⟩
  · rw [he, mkS_size]
  · rw [sb_cells, sb_mkS Y hY, ← bs_app] at h1
    exact .inr h1
set_option maxHeartbeats 2000000 in
set_option maxRecDepth 100000 in
theorem Text_big (m cap : Nat) (A : Option Addr) (T : List (List Nat × List Nat)) (E : List Nat) (w : World) (hm : m = T.length) (hm2 : m ≤ 100000000) (hT : TB T) (hE : ∀ d ∈ E, d < 256) (hl : (cat T).length + E.length ≤ 100000000) (hr : Rd w w.heap.size A (tv T)) :
    Calls Tryd.prog 27 #[.slice A m cap, .string (mkS E)] w fun e w' => e = .returned (.string (mkS (cat T ++ E))) ∧ Below w.heap.size w w' := by
  have HM := Lib.hid hm
  have HR := Lib.hid hr
  have HT := Lib.hid hT
  have HE := Lib.hid hE
  have HL := Lib.hid hl
  have V0 := new_later w (.cells #[.pointer none, .slice none 0 0] 62)
  have B0 := IsBld.fresh w
  clear hm hr hT hE hl
  go_enter Tryd.func27, Tryd.ntmps27
  go_upto_region 2 with fail
  generalize w.alloc (.cells #[.pointer none, .slice none 0 0] 62) = W0 at V0 B0 ⊢
  go_wp2_with fail
  go_loopw [7, 10] (fun _ i W => ∃ j : Nat, j ≤ m ∧ i = .int .i64 (j : Int) ∧ IsBld W w.heap.size w.heap.size (cat (T.take j)) ∧ Below w.heap.size w W) (fun _ i _ => m - (intOf i).toNat)
  case atStart => exact ⟨0, Nat.zero_le _, rfl, B0, V0⟩
  case round =>
    obtain ⟨j, hj, rfl, B1, V1⟩ := hrel
    clear B0 V0
    by_cases hlt : j < m
    · have hjl : j < T.length := by have := HM.out; omega
      have hji : (j : Int) < (m : Int) := by omega
      have hj0 : (0 : Int) ≤ (j : Int) := by omega
      obtain ⟨b, o, rfl, hbB, hc1, hc2⟩ := tok_at HR.out j hjl
      have hc3 := (V1.cell (p := ⟨b, o + 2 * j, none⟩) hbB).trans hc1
      have hc4 := (V1.cell (p := ⟨b, o + 2 * j + 1, none⟩) hbB).trans hc2
      have hTj := HT.out _ (List.getElem_mem hjl)
      have hct := cat_take T j hjl
      have hcl := cat_take_le T (j + 1)
      have hcl0 := cat_take_le T j
      have hll := HL.out
      generalize T[j] = X at hc3 hc4 hTj hct
      obtain ⟨x, y⟩ := X
      simp only at hc3 hc4 hTj hct
      have HCR : Hid (wr.rangeAt b (o + j * 2) [.string (mkS x), .string (mkS y)]) := Lib.hid (by
        intro q v hq
        rw [show o + 2 * j = o + j * 2 by omega] at hc3 hc4
        match q, hq with
        | 0, hq => simp at hq; subst hq; exact hc3
        | 1, hq => simp at hq; subst hq; exact hc4)
      have hlen : (cat (T.take j)).length + y.length + x.length ≤ 100000000 := by
        rw [hct, List.length_append, List.length_append] at hcl; omega
      have HCT := Lib.hid hct
      generalize cat (T.take j) = C at B1 HCT hlen
      have HI2 : Hid ((Tryd.prog.info? 40).map (·.size) = some ([.string (mkS x), .string (mkS y)] : List Value).length) := Lib.hid info_tok_size
      have HOC : Hid (∀ v ∈ ([.string (mkS x), .string (mkS y)] : List Value), v.oneCell' = true) := Lib.hid (by intro v hv; simp at hv; rcases hv with rfl | rfl <;> rfl)
      have HNE : Hid ((some wr.heap.size : Option Nat) ≠ some w.heap.size) := Lib.hid (by have := B1.lt; simp; omega)
      have HNT : Hid (∀ c fz, Obj.cells #[Value.string (mkS x), .string (mkS y)] 40 (0, 0) ≠ .cells c 5 fz) := Lib.hid (by intro c fz h; cases h)
      have HX := Lib.hid hTj.1
      have HY := Lib.hid hTj.2
      have H1 : Hid (C.length + y.length ≤ 1000000000) := Lib.hid (by omega)
      have H2 : Hid ((C ++ y).length + x.length ≤ 1000000000) := Lib.hid (by rw [List.length_append]; omega)
      clear hc1 hc2 hc3 hc4 hjl hTj hct hcl hcl0 hll hlen
      go_wp2_with (first
        | (with_reducible refine wpList_load_mid rfl _ (.tmp 12) rfl b (o + j * 2) rfl [.string (mkS x), .string (mkS y)] _ HCR.out Tryd.underlying40 rfl HI2.out ?_)
        | (with_reducible refine wpList_store_new rfl _ (.tmp 7) (.tmp 13) rfl rfl rfl info_tok_size rfl rfl (all_oneCell_toArray HOC.out) ?_; intro w5 hb5 hrow5 hsz5; have B5 := B1.later hb5; have V5 := later V1 hb5; have hd1 : w5.cell? ⟨wr.heap.size, 1, none⟩ = some (.string (mkS y)) := (cell_of_row _ _ _ _ _ _ hrow5))
        | (go_at_call 41; (with_reducible refine (bld_writeB _ _ C y w5 B5 HY.out H1.out V5.size).mono ?_); rintro e w6 ⟨rfl, B6, hb6, hk6⟩; have hrow6 := hk6 wr.heap.size _ hrow5 HNE.out HNT.out; have V6 := V5.trans hb6; have hd0 : w6.cell? ⟨wr.heap.size, 0, none⟩ = some (.string (mkS x)) := (cell_of_row _ _ _ _ _ _ hrow6); clear hd1 B5)
        | (go_at_call 41; (with_reducible refine (bld_writeB _ _ (C ++ y) x w6 B6 HX.out H2.out V6.size).mono ?_); rintro e w7 ⟨rfl, B7, hb7, _⟩; have V7 := V6.trans hb7))
      go_roundw
      case rel => exact ⟨j + 1, by omega, by go_num, by rw [HCT.out]; exact B7, V7⟩
      case measure => simp [intOf]; omega
    · obtain rfl : j = m := by omega
      rw [List.take_of_length_le (by rw [HM.out]; exact Nat.le_refl _)] at B1
      have HCB := Lib.hid (cat_bytes HT.out)
      have H1 : Hid ((cat T).length + E.length ≤ 1000000000) := Lib.hid (by have := HL.out; omega)
      have HB2 : Hid (∀ d ∈ cat T ++ E, d < 256) := Lib.hid (by
        intro d hd
        rcases List.mem_append.1 hd with h | h
        · exact HCB.out d h
        · exact HE.out d h)
      go_wp2_with (first
        | (go_at_call 41; (with_reducible refine (bld_writeB _ _ (cat T) E wr B1 HE.out H1.out V1.size).mono ?_); rintro e w6 ⟨rfl, B6, hb6, _⟩; have V6 := V1.trans hb6)
        | (go_at_call 42; (with_reducible refine (bld_string _ _ (cat T ++ E) w6 B6 HB2.out V6.size).mono ?_); rintro e w7 ⟨rfl, hb7⟩; have V7 := V6.trans hb7))
      go_ret
      exact ⟨rfl, V7⟩

set_option maxHeartbeats 2000000 in
set_option maxRecDepth 100000 in
theorem RText_any (m cap : Nat) (A : Option Addr) (T : List (List Nat × List Nat)) (E : List Nat) (w : World) (hm : m = T.length) (hm2 : m ≤ 100000) (hl : (cat T).length + E.length ≤ 100000000) (hr : Rd w w.heap.size A (tv T)) :
    Calls Tryd.prog 23 #[.slice A m cap, .string (mkS E)] w (DrawRes (.string (mkS (cat T ++ E))) w) := by
  have HM := Lib.hid hm
  have HR := Lib.hid hr
  have HL := Lib.hid hl
  clear hm hr hl
  go_enter Tryd.func23, Tryd.ntmps23
  go_wp2_with fail
  go_loopw [5, 6] (fun v i W => ∃ j q : Nat, j ≤ m ∧ i = .int .i64 (j : Int) ∧ v = .string (mkS (cat (T.take j))) ∧ W = w.drewN q) (fun _ i _ => m - (intOf i).toNat)
  case atStart => exact ⟨0, 0, Nat.zero_le _, rfl, rfl, rfl⟩
  case round =>
    obtain ⟨j, q, hj, rfl, rfl, rfl⟩ := hrel
    by_cases hlt : j < m
    · have hjl : j < T.length := by have := HM.out; omega
      have hji : (j : Int) < (m : Int) := by omega
      have hj0 : (0 : Int) ≤ (j : Int) := by omega
      obtain ⟨b, o, rfl, hbB, hc1, hc2⟩ := tok_at HR.out j hjl
      have hct := cat_take T j hjl
      have hcl := cat_take_le T (j + 1)
      have hll := HL.out
      generalize T[j] = X at hc1 hc2 hct
      obtain ⟨x, y⟩ := X
      simp only at hc1 hc2 hct
      rw [show o + 2 * j = o + j * 2 by omega] at hc1 hc2
      have hlen : (cat (T.take j)).length + y.length + x.length ≤ 100000000 := by
        rw [hct, List.length_append, List.length_append] at hcl; omega
      have HCT := Lib.hid hct
      generalize cat (T.take j) = C at HCT hlen
      have ha1 := mkS_app C y
      have ha2 := mkS_app (C ++ y) x
      have hz1 : ¬ (mkS C).size + (mkS y).size > 9223372036854775807 := by rw [mkS_size, mkS_size]; omega
      have hz2 : ¬ (mkS (C ++ y)).size + (mkS x).size > 9223372036854775807 := by rw [mkS_size, mkS_size, List.length_append]; omega
      have HF : Hid (C ++ y ++ x = cat (T.take (j + 1))) := Lib.hid HCT.out.symm
      clear hct hcl hll hlen hjl HCT
      go_wp2_with fail
      go_quiet (fail)
      go_wp2_with fail
      go_roundw
      case rel => exact ⟨j + 1, _, by omega, by go_num, by rw [← HF.out]; simp, rfl⟩
      case measure => simp [intOf]; omega
    · obtain rfl : j = m := by omega
      have hll := HL.out
      rw [List.take_of_length_le (by rw [HM.out]; exact Nat.le_refl _)]
      have ha := mkS_app (cat T) E
      have hz : ¬ (mkS (cat T)).size + (mkS E).size > 9223372036854775807 := by rw [mkS_size, mkS_size]; omega
      clear hll
      go_wp2_with fail
      go_ret
      exact ⟨rfl, _, rfl⟩
end Go.Proofs.YtfbookfaodfmdaaDoor
