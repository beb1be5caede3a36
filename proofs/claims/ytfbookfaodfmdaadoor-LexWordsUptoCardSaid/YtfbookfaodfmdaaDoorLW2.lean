import Derived.Test.YtfbookfaodfmdaaDoorLG1
set_option linter.unusedVariables false
set_option linter.unusedSimpArgs false
namespace Go.Proofs.YtfbookfaodfmdaaDoor
open Go.RowKit

theorem toL1 : (ByteArray.mk #[40]).toList = [40] := by decide +kernel
theorem toL2 : (ByteArray.mk #[91]).toList = [91] := by decide +kernel
theorem toL3 : (ByteArray.mk #[46]).toList = [46] := by decide +kernel
theorem toL4 : (ByteArray.mk #[41]).toList = [41] := by decide +kernel
theorem toL5 : (ByteArray.mk #[93]).toList = [93] := by decide +kernel
theorem toL6 : (ByteArray.mk #[44]).toList = [44] := by decide +kernel
theorem jBeh_eq (s : ByteArray) : jBeh s = (s.toList == [40] || s.toList == [91] || s.toList == [46]) := by unfold jBeh; rw [toL1, toL2, toL3]
theorem jBef_eq (s : ByteArray) : jBef s = (s.toList == [41] || s.toList == [93] || s.toList == [44] || s.toList == [46]) := by unfold jBef; rw [toL4, toL5, toL6, toL3]
theorem usl_get (l : List ByteArray) (j : Nat) (h : j < (usl l).length) : (usl l)[j] = if 1 ≤ j ∧ j < l.length ∧ jBeh (l.getD (j - 1) ⟨#[]⟩) = false ∧ jBef (l.getD j ⟨#[]⟩) = false then ⟨#[32]⟩ else ⟨#[]⟩ := by
  simp only [usl, List.getElem_map, List.getElem_range]

set_option maxHeartbeats 8000000 in
set_option maxRecDepth 100000 in
theorem RUsual_any (m cap : Nat) (A : Option Addr) (l : List ByteArray) (w : World) (hm : m = l.length) (hm2 : m ≤ 1000) (hr : Rd w w.heap.size A (ss l)) :
    Calls Tryd.prog 26 #[.slice A m cap] w fun e w' => ∃ v', e = .returned v' ∧ OwnS w' w.heap.size v' (usl l) ∧ Below w.heap.size w w' := by
  have HM := Lib.hid hm
  have HR := Lib.hid hr
  have hmi : (m : Int) ≤ 1000 := by omega
  have HUL : Hid ((usl l).length = m + 1) := Lib.hid (by rw [usl_len, hm])
  have HUG := Lib.hid (usl_get l)
  have hA : OwnS (w.alloc (.cells #[.string ⟨#[]⟩] 9)) w.heap.size (.slice (some ⟨w.heap.size, 0, none⟩) 1 1) ((usl l).take 1) := by
    have h1 : (usl l).take 1 = [⟨#[]⟩] := by
      rw [List.take_succ_eq_append_getElem (by rw [HUL.out]; omega), usl_get, if_neg (by omega)]; rfl
    rw [h1]
    exact arr_new w 9 #[.string ⟨#[]⟩] 1 rfl (by decide)
  have hV := new_later w (.cells #[.string ⟨#[]⟩] 9)
  clear hm hr
  go_enter Tryd.func26, Tryd.ntmps26
  go_wp2_with fail
  go_loopw [3, 4, 5, 6] (fun v i _ _ W => ∃ j : Nat, 1 ≤ j ∧ j ≤ m + 1 ∧ i = .int .i64 (j : Int) ∧ OwnS W w.heap.size v ((usl l).take j) ∧ Below w.heap.size w W) (fun _ i _ _ _ => m + 1 - (intOf i).toNat)
  case atStart => exact ⟨1, by omega, by omega, rfl, hA, hV⟩
  case round =>
    obtain ⟨j, hj1, hj2, rfl, hown, hb⟩ := hrel
    clear hA hV
    have hj0 : (0 : Int) ≤ (j : Int) := by omega
    have HO := Lib.hid hown
    have HB := Lib.hid hb
    by_cases hle : j ≤ m
    · have hji : (j : Int) ≤ (m : Int) := by omega
      have hju : j < (usl l).length := by rw [HUL.out]; omega
      have hl9 : ((usl l).take j).length ≤ 1000000 := by rw [List.length_take]; omega
      obtain ⟨p, hp⟩ : ∃ p, j = p + 1 := ⟨j - 1, by omega⟩
      have hwp : IntKind.i64.wrap ((j : Int) - 1) = (p : Int) := (IntWalk.i64_in _ (by omega)).trans (by omega)
      have hp0 : (0 : Int) ≤ (p : Int) := by omega
      have hpm : (p : Int) < (m : Int) := by omega
      have hpl : p < l.length := by have := HM.out; omega
      obtain ⟨b, o, rfl, hbB, hc⟩ := HR.out.at_ (by intro e; have h9 := congrArg List.length e; simp [ss] at h9; subst h9; simp at hpl)
      have hx := (hb.cell (p := ⟨b, o + p, none⟩) hbB).trans (hc p (.string l[p]) (by simp [ss, List.getElem?_eq_getElem hpl]))
      have hgj := HUG.out j hju
      rw [show j - 1 = p by omega, show l.getD p ⟨#[]⟩ = l[p] by simp [List.getElem?_eq_getElem hpl], jBeh_eq] at hgj
      generalize l[p] = a at hx hgj
      by_cases hjm : j = m
      · rw [if_neg (by have := HM.out; omega)] at hgj
        subst hjm
        have HN := Lib.hid (show (usl l).take (j + 1) = (usl l).take j ++ [⟨#[]⟩] by rw [List.take_succ_eq_append_getElem hju, hgj])
        generalize (usl l).take j = M at HO hl9 HN
        clear hgj hju hc hpl hp hown hb
        go_wp2_with (refine wpList_putSt (x := ⟨#[]⟩) HO.out HB.out.size hl9 rfl _ _ rfl rfl rfl ?_; intro v5 w5 hown5 hb5)
        go_roundw
        case rel => exact ⟨j + 1, by omega, by omega, by go_num, by rw [HN.out]; exact hown5, HB.out.trans hb5⟩
        case measure => simp [intOf] <;> omega
      · have hjn : ((j : Int) == (m : Int)) = false := by rw [beq_eq_false_iff_ne]; omega
        have hjl : j < l.length := by have := HM.out; omega
        have hjli : (j : Int) < (m : Int) := by omega
        have hy := (hb.cell (p := ⟨b, o + j, none⟩) hbB).trans (hc j (.string l[j]) (by simp [ss, List.getElem?_eq_getElem hjl]))
        rw [show l.getD j ⟨#[]⟩ = l[j] by simp [List.getElem?_eq_getElem hjl], jBef_eq] at hgj
        generalize l[j] = z at hy hgj
        have HJL := Lib.hid (⟨hj1, hjl⟩ : 1 ≤ j ∧ j < l.length)
        clear hc hpl hjl hown hb hp
        cases e0 : (a.toList == ([40] : List UInt8)) with
        | true =>
          rw [e0] at hgj
          rw [if_neg (by simp)] at hgj
          have HN := Lib.hid (show (usl l).take (j + 1) = (usl l).take j ++ [⟨#[]⟩] by rw [List.take_succ_eq_append_getElem hju, hgj])
          generalize (usl l).take j = M at HO hl9 HN
          clear hgj hju
          go_wp2_with (refine wpList_putSt (x := ⟨#[]⟩) HO.out HB.out.size hl9 rfl _ _ rfl rfl rfl ?_; intro v5 w5 hown5 hb5)
          go_roundw
          case rel => exact ⟨j + 1, by omega, by omega, by go_num, by rw [HN.out]; exact hown5, HB.out.trans hb5⟩
          case measure => simp [intOf] <;> omega
        | false =>
          cases e1 : (a.toList == ([91] : List UInt8)) with
          | true =>
            rw [e0, e1] at hgj
            rw [if_neg (by simp)] at hgj
            have HN := Lib.hid (show (usl l).take (j + 1) = (usl l).take j ++ [⟨#[]⟩] by rw [List.take_succ_eq_append_getElem hju, hgj])
            generalize (usl l).take j = M at HO hl9 HN
            clear hgj hju
            go_wp2_with (refine wpList_putSt (x := ⟨#[]⟩) HO.out HB.out.size hl9 rfl _ _ rfl rfl rfl ?_; intro v5 w5 hown5 hb5)
            go_roundw
            case rel => exact ⟨j + 1, by omega, by omega, by go_num, by rw [HN.out]; exact hown5, HB.out.trans hb5⟩
            case measure => simp [intOf] <;> omega
          | false =>
            cases e2 : (a.toList == ([46] : List UInt8)) with
            | true =>
              rw [e0, e1, e2] at hgj
              rw [if_neg (by simp)] at hgj
              have HN := Lib.hid (show (usl l).take (j + 1) = (usl l).take j ++ [⟨#[]⟩] by rw [List.take_succ_eq_append_getElem hju, hgj])
              generalize (usl l).take j = M at HO hl9 HN
              clear hgj hju
              go_wp2_with (refine wpList_putSt (x := ⟨#[]⟩) HO.out HB.out.size hl9 rfl _ _ rfl rfl rfl ?_; intro v5 w5 hown5 hb5)
              go_roundw
              case rel => exact ⟨j + 1, by omega, by omega, by go_num, by rw [HN.out]; exact hown5, HB.out.trans hb5⟩
              case measure => simp [intOf] <;> omega
            | false =>
              cases e3 : (z.toList == ([41] : List UInt8)) with
              | true =>
                rw [e0, e1, e2, e3] at hgj
                rw [if_neg (by simp)] at hgj
                have HN := Lib.hid (show (usl l).take (j + 1) = (usl l).take j ++ [⟨#[]⟩] by rw [List.take_succ_eq_append_getElem hju, hgj])
                generalize (usl l).take j = M at HO hl9 HN
                clear hgj hju
                go_wp2_with (refine wpList_putSt (x := ⟨#[]⟩) HO.out HB.out.size hl9 rfl _ _ rfl rfl rfl ?_; intro v5 w5 hown5 hb5)
                go_roundw
                case rel => exact ⟨j + 1, by omega, by omega, by go_num, by rw [HN.out]; exact hown5, HB.out.trans hb5⟩
                case measure => simp [intOf] <;> omega
              | false =>
                cases e4 : (z.toList == ([93] : List UInt8)) with
                | true =>
                  rw [e0, e1, e2, e3, e4] at hgj
                  rw [if_neg (by simp)] at hgj
                  have HN := Lib.hid (show (usl l).take (j + 1) = (usl l).take j ++ [⟨#[]⟩] by rw [List.take_succ_eq_append_getElem hju, hgj])
                  generalize (usl l).take j = M at HO hl9 HN
                  clear hgj hju
                  go_wp2_with (refine wpList_putSt (x := ⟨#[]⟩) HO.out HB.out.size hl9 rfl _ _ rfl rfl rfl ?_; intro v5 w5 hown5 hb5)
                  go_roundw
                  case rel => exact ⟨j + 1, by omega, by omega, by go_num, by rw [HN.out]; exact hown5, HB.out.trans hb5⟩
                  case measure => simp [intOf] <;> omega
                | false =>
                  cases e5 : (z.toList == ([44] : List UInt8)) with
                  | true =>
                    rw [e0, e1, e2, e3, e4, e5] at hgj
                    rw [if_neg (by simp)] at hgj
                    have HN := Lib.hid (show (usl l).take (j + 1) = (usl l).take j ++ [⟨#[]⟩] by rw [List.take_succ_eq_append_getElem hju, hgj])
                    generalize (usl l).take j = M at HO hl9 HN
                    clear hgj hju
                    go_wp2_with (refine wpList_putSt (x := ⟨#[]⟩) HO.out HB.out.size hl9 rfl _ _ rfl rfl rfl ?_; intro v5 w5 hown5 hb5)
                    go_roundw
                    case rel => exact ⟨j + 1, by omega, by omega, by go_num, by rw [HN.out]; exact hown5, HB.out.trans hb5⟩
                    case measure => simp [intOf] <;> omega
                  | false =>
                    cases e6 : (z.toList == ([46] : List UInt8)) with
                    | true =>
                      rw [e0, e1, e2, e3, e4, e5, e6] at hgj
                      rw [if_neg (by simp)] at hgj
                      have HN := Lib.hid (show (usl l).take (j + 1) = (usl l).take j ++ [⟨#[]⟩] by rw [List.take_succ_eq_append_getElem hju, hgj])
                      generalize (usl l).take j = M at HO hl9 HN
                      clear hgj hju
                      go_wp2_with (refine wpList_putSt (x := ⟨#[]⟩) HO.out HB.out.size hl9 rfl _ _ rfl rfl rfl ?_; intro v5 w5 hown5 hb5)
                      go_roundw
                      case rel => exact ⟨j + 1, by omega, by omega, by go_num, by rw [HN.out]; exact hown5, HB.out.trans hb5⟩
                      case measure => simp [intOf] <;> omega
                    | false =>
                      rw [e0, e1, e2, e3, e4, e5, e6] at hgj
                      rw [if_pos ⟨HJL.out.1, HJL.out.2, rfl, rfl⟩] at hgj
                      have HN := Lib.hid (show (usl l).take (j + 1) = (usl l).take j ++ [⟨#[32]⟩] by rw [List.take_succ_eq_append_getElem hju, hgj])
                      generalize (usl l).take j = M at HO hl9 HN
                      clear hgj hju
                      go_wp2_with (refine wpList_putSt (x := ⟨#[32]⟩) HO.out HB.out.size hl9 rfl _ _ rfl rfl rfl ?_; intro v5 w5 hown5 hb5)
                      go_roundw
                      case rel => exact ⟨j + 1, by omega, by omega, by go_num, by rw [HN.out]; exact hown5, HB.out.trans hb5⟩
                      case measure => simp [intOf] <;> omega
    · have hji : ¬ (j : Int) ≤ (m : Int) := by omega
      rw [List.take_of_length_le (by rw [HUL.out]; omega)] at hown
      clear HO
      go_wp2_with fail
      go_ret
      exact ⟨_, rfl, hown, hb⟩
end Go.Proofs.YtfbookfaodfmdaaDoor
