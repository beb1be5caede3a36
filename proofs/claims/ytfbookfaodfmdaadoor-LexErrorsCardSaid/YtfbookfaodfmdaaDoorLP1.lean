import Derived.Test.YtfbookfaodfmdaaDoorLH
set_option linter.unusedVariables false
set_option linter.unusedSimpArgs false
namespace Go.Proofs.YtfbookfaodfmdaaDoor
open Go.RowKit

/-- The three texts lie in a row. -/
def Row3 (g : Nat) (W : World) : Prop := ∀ j, j < 3 → ∃ x : ByteArray, x.size ≤ 281474976710656 ∧ W.cell? ⟨g, j, none⟩ = some (.string x)
theorem Row3.new (W : World) (x y z : ByteArray) (hx : x.size ≤ 281474976710656) (hy : y.size ≤ 281474976710656) (hz : z.size ≤ 281474976710656) (t : TypeId) : Row3 W.heap.size (W.alloc (.cells #[.string x, .string y, .string z] t)) := by
  intro j hj
  rcases (by omega : j = 0 ∨ j = 1 ∨ j = 2) with rfl | rfl | rfl
  · exact ⟨x, hx, by rw [cell_of_row _ _ _ _ _ _ (heap_alloc_new W _)]; rfl⟩
  · exact ⟨y, hy, by rw [cell_of_row _ _ _ _ _ _ (heap_alloc_new W _)]; rfl⟩
  · exact ⟨z, hz, by rw [cell_of_row _ _ _ _ _ _ (heap_alloc_new W _)]; rfl⟩
theorem append_q (x y : ByteArray) (n m : Nat) (hx : x.size ≤ n) (hy : y.size ≤ m) (h : n + m ≤ 281474976710656) : (x ++ y).size ≤ 281474976710656 ∧ ¬ x.size + y.size > 9223372036854775807 := by
  rw [ByteArray.size_append]; omega

set_option maxHeartbeats 8000000 in
set_option maxRecDepth 100000 in
theorem LexErrors_any (m cap : Nat) (A : Option Addr) (l : List Int) (raw : ByteArray) (long : Int) (w : World) (hm : m = l.length) (hm2 : m ≤ maxLen) (hl : ∀ x ∈ l, InR x) (hr : Rd w w.heap.size A (iv l)) (hraw : raw.size ≤ 140737488355328) (hlong : InR long) (hk : Kx w) :
    Calls Tryd.prog 8 #[.slice A m cap, .string raw, .int .i64 long] w (SRes w) := by
  have HSam : Hid (∀ W, Below w.heap.size w W → Calls Tryd.prog 9 #[.slice A m cap] W fun e w' => ∃ s : ByteArray, e = .returned (.string s) ∧ s.size ≤ 5000 ∧ Below W.heap.size W w') := Lib.hid fun W hW =>
    (Sample_any m cap A l W hm hm2 hl (hr.later hW)).mono fun e w' ⟨X, h1, h2, h3⟩ => ⟨mkS X, h1, by rw [mkS_size]; exact h2, h3⟩
  have HRw := Lib.hid hraw
  have HK := Lib.hid hk
  have HA5 : Hid (∀ W, Calls Tryd.prog 10 #[.int .i64 long, .int .i64 5] W fun e w' => e = .returned (.int .i64 ((ar long 5 : Nat) : Int)) ∧ w' = W) := Lib.hid fun W => Around_any long 5 (by decide) (by decide) hlong W
  have ha5 := ar_lt long 5 (by decide)
  generalize ar long 5 = a5 at HA5 ha5
  have HSN := Lib.hid fun (s : ByteArray) (n : Int) (h2 : s.size ≤ 281474976710656) (h : (SC (sb s)).2.2 = n) (W : World) (hW : Kx W) => Scan_num h2 h W hW
  clear hm hl hr hraw hk hlong
  go_enter Tryd.func8, Tryd.ntmps8
  go_upto_region 2 with (first
    | (go_at_call 9; (with_reducible refine (HSam.out _ (Below.refl _ _)).mono ?_); rintro e w1 ⟨s1, rfl, hs1, hb1⟩; have HB1 := Lib.hid hb1; have hq1 := (append_q s1 ⟨#[63]⟩ 5000 1 hs1 (Nat.le_refl _) (by decide)).2; have HQ1 := Lib.hid (append_q s1 ⟨#[63]⟩ 5000 1 hs1 (Nat.le_refl _) (by decide)).1; clear hs1 hb1)
    | (go_at_call 9; (with_reducible refine (HSam.out _ HB1.out).mono ?_); rintro e w2 ⟨s2, rfl, hs2, hb2⟩; have HB2 := Lib.hid (later HB1.out hb2); have hq2 := (append_q s2 ⟨#[32, 62]⟩ 5000 2 hs2 (Nat.le_refl _) (by decide)).2; have hz2 : (s2 ++ (ByteArray.mk #[32, 62])).size ≤ 5002 := (by rw [ByteArray.size_append]; show s2.size + 2 ≤ _; omega); have hq3 := (append_q (s2 ++ ⟨#[32, 62]⟩) raw 5002 140737488355328 hz2 HRw.out (by decide)).2; have HQ3 := Lib.hid (append_q (s2 ++ ⟨#[32, 62]⟩) raw 5002 140737488355328 hz2 HRw.out (by decide)).1; clear hs2 hb2 hz2))
  have hrow := Row3.new w2 (s1 ++ (ByteArray.mk #[63])) raw (s2 ++ (ByteArray.mk #[32, 62]) ++ raw) HQ1.out (by have := HRw.out; omega) HQ3.out 9
  have hV0 := later HB2.out (new_later w2 (.cells #[.string (s1 ++ (ByteArray.mk #[63])), .string raw, .string (s2 ++ (ByteArray.mk #[32, 62]) ++ raw)] 9))
  have hg := alloc_size1 w2 (.cells #[.string (s1 ++ (ByteArray.mk #[63])), .string raw, .string (s2 ++ (ByteArray.mk #[32, 62]) ++ raw)] 9)
  generalize w2.alloc (.cells #[.string (s1 ++ (ByteArray.mk #[63])), .string raw, .string (s2 ++ (ByteArray.mk #[32, 62]) ++ raw)] 9) = w0 at hrow hV0 hg ⊢
  have hgl : w2.heap.size < w0.heap.size := by omega
  generalize w2.heap.size = g at hrow hg hgl ⊢
  have HROW := Lib.hid hrow
  have HV0 := Lib.hid hV0
  have HK0 := Lib.hid (HK.out.later hV0)
  have HGL := Lib.hid hgl
  clear hrow hV0 hg hgl HQ1 HQ3 hq1 hq2 hq3
  go_wp2_with fail
  go_loopw [8, 9, 10, 11, 12, 13, 14, 15, 16, 17, 18] (fun i _ _ _ _ _ _ _ _ _ _ W => ∃ j : Nat, j ≤ 3 ∧ i = .int .i64 (j : Int) ∧ Below w0.heap.size w0 W) (fun i _ _ _ _ _ _ _ _ _ _ _ => 3 - (intOf i).toNat)
  case atStart => exact ⟨0, by omega, rfl, Below.refl _ _⟩
  case round =>
    obtain ⟨j, hj, rfl, hb⟩ := hrel
    by_cases hlt : j < 3
    · have hji : (j : Int) < 3 := by omega
      have hj0 : (0 : Int) ≤ (j : Int) := by omega
      obtain ⟨x, hxs, hx0⟩ := HROW.out j hlt
      have hx := (hb.cell (p := ⟨g, j, none⟩) HGL.out).trans hx0
      have HKr := Lib.hid (HK0.out.later hb)
      have HBr := Lib.hid hb
      rcases sc_cases (sb x) with ⟨_, hc⟩ | ⟨_, T, e, _, hc⟩ | ⟨hle, n, _, hc, hn, hc1, hc2⟩
      · have HS1 := Lib.hid (HSN.out x 8192 hxs (by rw [hc]) wr HKr.out)
        clear hc hx0 hxs hb
        go_wp2_with (go_at_call 11; (with_reducible refine HS1.out.mono ?_); rintro e w3 ⟨v3, E3, rfl, hb3⟩; have HB3 := Lib.hid hb3; clear hb3)
        refine ⟨⟨j + 1, by omega, by go_num, later HBr.out HB3.out⟩, by simp [intOf]; omega⟩
      · have HS1 := Lib.hid (HSN.out x (-1) hxs (by rw [hc]) wr HKr.out)
        clear hc hx0 hxs hb
        go_wp2_with (go_at_call 11; (with_reducible refine HS1.out.mono ?_); rintro e w3 ⟨v3, E3, rfl, hb3⟩; have HB3 := Lib.hid hb3; clear hb3)
        refine ⟨⟨j + 1, by omega, by go_num, later HBr.out HB3.out⟩, by simp [intOf]; omega⟩
      · rw [sb_len] at hle hn
        have hne1 : ((n : Int) == -1) = false := by rw [beq_eq_false_iff_ne]; omega
        have hne2 : ((n : Int) == 8192) = false := by rw [beq_eq_false_iff_ne]; omega
        have hn0 : (0 : Int) ≤ (n : Int) := by omega
        have hnx : (n : Int) < (x.size : Int) := by omega
        have hsl1 := slice_to x n (by omega)
        have hsl2 := slice_from x n (by omega)
        have HS1 := Lib.hid (HSN.out x (n : Int) hxs (by rw [hc]) wr HKr.out)
        have HS2 : Hid (∀ W, Kx W → Calls Tryd.prog 11 #[.string (x.extract 0 n)] W fun e w' => ∃ v E, e = .returned (.tuple #[v, .string E, .int .i64 (-1)]) ∧ Below W.heap.size W w') := Lib.hid fun W hW => HSN.out (x.extract 0 n) (-1) (by rw [← sb_len, sb_ext]; simp [sb_len]; omega) (by rw [sb_ext]; simpa using hc1) W hW
        have HS3 : Hid (∀ W, Kx W → Calls Tryd.prog 11 #[.string (x.extract n x.size)] W fun e w' => ∃ v E, e = .returned (.tuple #[v, .string E, .int .i64 0]) ∧ Below W.heap.size W w') := Lib.hid fun W hW => HSN.out (x.extract n x.size) 0 (by rw [← sb_len, sb_from]; simp [sb_len]; omega) (by rw [sb_from]; exact hc2) W hW
        generalize x.extract 0 n = x1 at hsl1 HS2
        generalize x.extract n x.size = x2 at hsl2 HS3
        clear hc hx0 hxs hb hc1 hc2 hle
        go_wp2_with (first
          | (go_at_call 11; (with_reducible refine HS1.out.mono ?_); rintro e w3 ⟨v3, E3, rfl, hb3⟩; have HB3 := Lib.hid hb3; have HK3 := Lib.hid (HKr.out.later hb3); clear hb3)
          | (go_at_call 11; (with_reducible refine (HS2.out _ HK3.out).mono ?_); rintro e w4 ⟨v4, E4, rfl, hb4⟩; have HB4 := Lib.hid (later HB3.out hb4); have HK4 := Lib.hid (HK3.out.later hb4); clear hb4)
          | (go_at_call 11; (with_reducible refine (HS3.out _ HK4.out).mono ?_); rintro e w5 ⟨v5, E5, rfl, hb5⟩; have HB5 := Lib.hid (later HB4.out hb5); clear hb5))
        refine ⟨⟨j + 1, by omega, by go_num, later HBr.out HB5.out⟩, by simp [intOf]; omega⟩
    · obtain rfl : j = 3 := by omega
      have HKr := Lib.hid (HK0.out.later hb)
      have HBr := Lib.hid (later HV0.out hb)
      clear hb hlt
      obtain ⟨z, hwz, hz1, hz2⟩ : ∃ z : Nat, IntKind.i64.wrap (8190 + (a5 : Int)) = (z : Int) ∧ 8190 ≤ z ∧ z ≤ 8194 := ⟨8190 + a5, (IntWalk.i64_in _ (by omega)).trans (by omega), by omega, by omega⟩
      clear ha5
      have hz3 : (z : Int) ≤ 8194 := by omega
      have hz0 : (0 : Int) ≤ (z : Int) := by omega
      go_wp2_with (first
        | (go_at_call 10; (with_reducible refine (HA5.out _).mono ?_); rintro e w' ⟨rfl, hw⟩; rw [hw]; clear hw)
        | (refine wpList_makeV (n := z) Tryd.underlying24 info_u8 rfl ?_ ?_ rfl _ _ rfl rfl rfl ?_ ?_ ?_; (omega); (simp only [maxLen]; omega); (omega); (omega); intro w1 h1 h2 h3))
      have A1 : Arr w1 wr.heap.size z 5 (bs (spj z 0)) := by rw [spj_zero]; unfold bs; rw [List.map_replicate]; exact h1
      have HB1' := Lib.hid (later HBr.out h2)
      have HK1 := Lib.hid (HKr.out.later h2)
      have hgw := A1.lt
      have hg1 : w.heap.size ≤ wr.heap.size := HBr.out.size
      generalize wr.heap.size = g1 at A1 hgw hg1 ⊢
      have HG1 := Lib.hid hgw
      have HG2 := Lib.hid hg1
      clear h1 h2 h3 hgw hg1
      go_loopw [21] (fun i W => ∃ j : Nat, j ≤ z ∧ i = .int .i64 (j : Int) ∧ Arr W g1 z 5 (bs (spj z j)) ∧ Below w.heap.size w W) (fun i _ => z - (intOf i).toNat)
      case atStart => exact ⟨0, by omega, rfl, A1, HB1'.out⟩
      case round =>
        obtain ⟨j, hj, rfl, A2, hb⟩ := hrel
        by_cases hlt : j < z
        · have hji : (j : Int) < (z : Int) := by omega
          have hj0 : (0 : Int) ≤ (j : Int) := by omega
          have hj9 : (j : Int) ≤ 9000 := by omega
          have hfr := A2.free j
          have hcj : ∃ v, wr.cell? ⟨g1, j, none⟩ = some v := ⟨_, A2.cell (List.getElem?_eq_getElem (by rw [bs_len, spj_len z j hj]; exact hlt))⟩
          obtain ⟨vj, hvj⟩ := hcj
          have HA2 := Lib.hid A2
          have HB2 := Lib.hid hb
          have HSE := Lib.hid (spj_set z j hlt)
          clear A2 hb A1 hwz
          go_wp2_with fail
          go_roundw
          case rel => exact ⟨j + 1, by omega, by go_num, by rw [← HSE.out]; exact HA2.out.set_ _ _, HB2.out.setCell HG2.out _⟩
          case measure => simp [intOf]; omega
        · obtain rfl : j = z := by omega
          rw [spj_end] at A2
          have HKe := Lib.hid (HK.out.later hb)
          have HBe := Lib.hid hb
          have hcv := run_conv wr.heap.size j j (some ⟨g1, 0, none⟩) (List.replicate j 32) wr (by simp) (Rd.own A2)
          have HCV : Hid (∀ W, Below wr.heap.size wr W → (convert 24 9 (.slice (some ⟨g1, 0, none⟩) j j)).run Tryd.prog W = .ok (.string (mkS (List.replicate j 32))) W) := Lib.hid fun W hW => run_conv W.heap.size j j (some ⟨g1, 0, none⟩) (List.replicate j 32) W (by simp) ((Rd.own A2).later hW)
          have hsb : sb (mkS (List.replicate j 32)) = List.replicate j 32 := sb_mkS _ (by intro d hd; rw [List.eq_of_mem_replicate hd]; decide)
          have hsz : (mkS (List.replicate j 32)).size ≤ 281474976710656 := by rw [mkS_size]; simp; omega
          have HLV := Lib.hid fun (W : World) (hW : Kx W) => lives_any W hW
          by_cases h8 : j ≤ 8192
          · have h8i : (j : Int) ≤ 8192 := by omega
            have h8d : decide ((8192 : Int) < (j : Int)) = false := decide_eq_false (by omega)
            have hsc : SC (sb (mkS (List.replicate j 32))) = ([], List.replicate j 32, -1) := by rw [hsb]; exact sc_ok (by simp; exact h8) (CB_alone (CB_spaces j))
            have HSC : Hid (∀ W, Kx W → Calls Tryd.prog 11 #[.string (mkS (List.replicate j 32))] W fun e w' => ∃ A c, e = .returned (.tuple #[.slice A 0 c, .string (mkS (List.replicate j 32)), .int .i64 (-1)]) ∧ Below W.heap.size W w') := Lib.hid fun W hW => by
              refine (Scan_any _ hsz W hW).mono ?_
              rw [hsc]
              rintro e w' ⟨v, rfl, ho, hb⟩
              obtain ⟨A', c', rfl, _⟩ := ho.shape
              exact ⟨A', c', rfl, hb⟩
            have HBL : Hid (∀ W, Kx W → Calls Tryd.prog 21 #[.string (mkS (List.replicate j 32))] W fun e w' => e = .returned (.bool true) ∧ Below W.heap.size W w') := Lib.hid fun W hW => by
              refine (Blank_any _ hsz W hW).mono ?_
              unfold blk
              rw [hsc]
              exact fun e w' h => h
            generalize mkS (List.replicate j 32) = P at hcv HCV HSC HBL
            have HCV2 := HCV
            clear A1 A2 hb hwz hsb hsz hsc h8 hlt hj
            go_wp2_with (first
              | (go_at_call 11; (with_reducible refine (HSC.out _ HKe.out).mono ?_); rintro e w3 ⟨A3, c3, rfl, hb3⟩; have HB3 := Lib.hid hb3; have hcv3 := HCV.out _ hb3; have HK3 := Lib.hid (HKe.out.later hb3); clear hb3)
              | (go_at_call 21; (with_reducible refine (HBL.out _ HK3.out).mono ?_); rintro e w4 ⟨rfl, hb4⟩; have HB4 := Lib.hid (later HB3.out hb4); have HK4 := Lib.hid (HK3.out.later hb4); clear hb4)
              | (go_at_call 15; (with_reducible refine (HLV.out _ HK4.out).mono ?_); rintro e w5 ⟨rfl, hb5⟩; have HB5 := Lib.hid (later HB4.out hb5); clear hb5))
            go_ret
            exact ⟨rfl, later HBe.out HB5.out⟩
          · have h8i : (8192 : Int) < (j : Int) := by omega
            have h8d : decide ((j : Int) ≤ 8192) = false := decide_eq_false (by omega)
            have hsc : SC (sb (mkS (List.replicate j 32))) = ([], [], 8192) := by rw [hsb]; exact sc_long (by simp; omega)
            have HSC : Hid (∀ W, Kx W → Calls Tryd.prog 11 #[.string (mkS (List.replicate j 32))] W fun e w' => ∃ A c, e = .returned (.tuple #[.slice A 0 c, .string (mkS []), .int .i64 8192]) ∧ Below W.heap.size W w') := Lib.hid fun W hW => by
              refine (Scan_any _ hsz W hW).mono ?_
              rw [hsc]
              rintro e w' ⟨v, rfl, ho, hb⟩
              obtain ⟨A', c', rfl, _⟩ := ho.shape
              exact ⟨A', c', rfl, hb⟩
            have HBL : Hid (∀ W, Kx W → Calls Tryd.prog 21 #[.string (mkS (List.replicate j 32))] W fun e w' => e = .returned (.bool false) ∧ Below W.heap.size W w') := Lib.hid fun W hW => by
              refine (Blank_any _ hsz W hW).mono ?_
              unfold blk
              rw [hsc]
              exact fun e w' h => h
            generalize mkS (List.replicate j 32) = P at hcv HCV HSC HBL
            clear A1 A2 hb hwz hsb hsz hsc h8 hlt hj
            go_wp2_with (first
              | (go_at_call 11; (with_reducible refine (HSC.out _ HKe.out).mono ?_); rintro e w3 ⟨A3, c3, rfl, hb3⟩; have HB3 := Lib.hid hb3; have hcv3 := HCV.out _ hb3; have HK3 := Lib.hid (HKe.out.later hb3); clear hb3)
              | (go_at_call 21; (with_reducible refine (HBL.out _ HK3.out).mono ?_); rintro e w4 ⟨rfl, hb4⟩; have HB4 := Lib.hid (later HB3.out hb4); have HK4 := Lib.hid (HK3.out.later hb4); clear hb4)
              | (go_at_call 15; (with_reducible refine (HLV.out _ HK4.out).mono ?_); rintro e w5 ⟨rfl, hb5⟩; have HB5 := Lib.hid (later HB4.out hb5); clear hb5))
            go_ret
            exact ⟨rfl, later HBe.out HB5.out⟩
end Go.Proofs.YtfbookfaodfmdaaDoor
