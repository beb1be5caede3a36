import Derived.Test.YtfbookfaodfmdaaDoorLP6
set_option linter.unusedVariables false
set_option linter.unusedSimpArgs false
namespace Go.Proofs.YtfbookfaodfmdaaDoor
open Go.RowKit

theorem append_q2 (x y : ByteArray) (n m : Nat) (hx : x.size ≤ n) (hy : y.size ≤ m) (h : n + m ≤ 281474976710656) : (x ++ y).size ≤ n + m ∧ ¬ x.size + y.size > 9223372036854775807 := by
  rw [ByteArray.size_append]; omega
set_option maxHeartbeats 8000000 in
set_option maxRecDepth 100000 in
theorem LexScans_any (m cap : Nat) (A : Option Addr) (l : List Int) (raw : ByteArray) (at0 : Int) (c : Nat) (w : World) (hm : m = l.length) (hm2 : m ≤ maxLen) (hl : ∀ x ∈ l, InR x) (hr : Rd w w.heap.size A (iv l)) (hraw : raw.size ≤ 140737488355328) (hat : InR at0) (hc : c < 256) (hk : Kx w) :
    Calls Tryd.prog 3 #[.slice A m cap, .string raw, .int .i64 at0, .int .u8 (c : Int)] w (SRes w) := by
  have HSam : Hid (∀ W, Below w.heap.size w W → Calls Tryd.prog 9 #[.slice A m cap] W fun e w' => ∃ s : ByteArray, e = .returned (.string s) ∧ s.size ≤ 5000 ∧ Below W.heap.size W w') := Lib.hid fun W hW =>
    (Sample_any m cap A l W hm hm2 hl (hr.later hW)).mono fun e w' ⟨X, h1, h2, h3⟩ => ⟨mkS X, h1, by rw [mkS_size]; exact h2, h3⟩
  have HRw := Lib.hid hraw
  have HK := Lib.hid hk
  have HLV := Lib.hid fun (W : World) (hW : Kx W) => lives_any W hW
  have HAR := Lib.hid fun (k : Nat) (h0 : 0 < k) (h1 : k ≤ 1000000) (W : World) => Around_any at0 k h0 h1 hat W
  clear hm hl hr hraw hat hk
  go_enter Tryd.func3, Tryd.ntmps3
  go_upto_region 2 with (go_at_call 9; (with_reducible refine (HSam.out _ (Below.refl _ _)).mono ?_); rintro e w1 ⟨s, rfl, hs1, hb1⟩; have HB1 := Lib.hid hb1; have HQ1 : Hid (s.size ≤ 5000) := Lib.hid hs1; clear hs1 hb1)
  obtain ⟨hq1, hq2⟩ := append_q2 s ⟨#[32]⟩ 5000 1 HQ1.out (Nat.le_refl _) (by decide)
  have hxs : (s ++ (ByteArray.mk #[32])).size = s.size + 1 := ByteArray.size_append ..
  obtain ⟨w2, C, hcv, hb2, hg2, hcell⟩ := conv_str w1 (s ++ ⟨#[32]⟩)
  generalize hxe : s ++ (ByteArray.mk #[32]) = x at hq1 hxs hcv hcell
  obtain ⟨M, hM⟩ : ∃ M, x.size = M := ⟨_, rfl⟩
  have hL := sb_len x
  generalize sb x = L at hcell hL
  rw [hM] at hcv hxs hq1 hcell hL
  have hM0 : 0 < M := by omega
  have HARM : Hid (∀ W, Calls Tryd.prog 10 #[.int .i64 at0, .int .i64 (M : Int)] W fun e w' => e = .returned (.int .i64 ((ar at0 M : Nat) : Int)) ∧ w' = W) := Lib.hid fun W => HAR.out M hM0 (by omega) W
  have hj := ar_lt at0 M hM0
  generalize ar at0 M = j at HARM hj
  have hji : (j : Int) < (M : Int) := by omega
  have hj0 : (0 : Int) ≤ (j : Int) := by omega
  obtain ⟨hcj, hfj⟩ := hcell j hj
  have hset := conv_set (W := w2) (g := w1.heap.size) (L := L) (fun i hi => (hcell i (by omega)).1) hg2 j c (by omega)
  have hVs : Below w.heap.size w (w2.setCell ⟨w1.heap.size, j, none⟩ (.int .u8 (c : Int))) := later HB1.out (hb2.setCell (Nat.le_refl _) _)
  generalize w1.heap.size = g at hcv hg2 hcell hset hcj hfj hVs
  have HSET := Lib.hid hset
  have HVS := Lib.hid hVs
  have HLL : Hid ((L.set j c).length = M) := Lib.hid (by rw [List.length_set, hL])
  have HQ2 : Hid (M ≤ 5001 ∧ M = s.size + 1) := Lib.hid ⟨hq1, hxs⟩
  have hMi : (M : Int) ≤ 5001 := by omega
  clear hset hVs hcell hq1 hj hM hxs hM0 hL hb2 hg2
  go_upto_region 4 with (go_at_call 10; (with_reducible refine (HARM.out _).mono ?_); rintro e w' ⟨rfl, hw⟩; rw [hw]; clear hw)
  generalize w2.setCell ⟨g, j, none⟩ (.int .u8 (c : Int)) = w3 at HSET HVS ⊢
  have HCV : Hid (∀ W, Below w3.heap.size w3 W → (convert 24 9 (.slice (some ⟨g, 0, none⟩) M C)).run Tryd.prog W = .ok (.string (mkS (L.set j c))) W) := Lib.hid fun W hW => run_conv W.heap.size M C (some ⟨g, 0, none⟩) (L.set j c) W HLL.out.symm (HSET.out.later hW)
  have hys : (mkS (L.set j c)).size ≤ 281474976710656 := by rw [mkS_size, HLL.out]; omega
  generalize mkS (L.set j c) = y at HCV hys
  have hws : IntKind.i64.wrap ((s.size : Int) + 1) = (M : Int) := (IntWalk.i64_in _ (by have := HQ2.out; omega)).trans (by have := HQ2.out; omega)
  have hsl := slice_to s j (by have := HQ2.out; omega)
  have hes : (s.extract 0 j).size ≤ 281474976710656 := by rw [← sb_len, sb_ext]; simp [sb_len]; have := HQ1.out; omega
  obtain ⟨hq3, hq4⟩ := append_q2 s raw 5000 140737488355328 HQ1.out HRw.out (by decide)
  have hd1 : (s ++ raw).size ≤ 281474976710656 := by omega
  have hss : s.size ≤ 281474976710656 := by have := HQ1.out; omega
  have hrs : raw.size ≤ 281474976710656 := by have := HRw.out; omega
  have HROW : Hid (∀ W : World, Row6 W.heap.size (W.alloc (.cells #[.string s, .string y, .string raw, .string (s ++ raw), .string (s.extract 0 j), .string ⟨#[]⟩] 9))) := Lib.hid fun W => Row6.new W s y raw (s ++ raw) (s.extract 0 j) ⟨#[]⟩ hss hys hrs hd1 hes (by decide) _
  generalize s.extract 0 j = x4 at hsl HROW
  have hjs : (j : Int) ≤ (s.size : Int) := by have := HQ2.out; omega
  have hsM : (s.size : Int) ≤ 5000 := by have := HQ1.out; omega
  have hbd : Below w3.heap.size w3 w3.drew := below_drewN (Below.refl _ _) 1
  have HV3 := HVS
  clear hys hes hq3 hd1 hss hrs hcv hcj hfj hq2 hxe hc
  go_region_held3 (fun W => (convert 24 9 (.slice (some ⟨g, 0, none⟩) M C)).run Tryd.prog W = .ok (.string y) W)
    (first | exact HCV.out _ hbd | exact HCV.out _ (below_drewN (new_later w3 _) 1))
    (first | (go_at_call 10; (with_reducible refine (HARM.out _).mono ?_); rintro e w' ⟨rfl, hw⟩; rw [hw]; clear hw))
  have hrow : Row6 w3.heap.size (w3.alloc (.cells #[.string s, .string y, .string raw, .string (s ++ raw), .string x4, .string ⟨#[]⟩] 9)).drew := HROW.out w3
  have hV4 : Below w.heap.size w (w3.alloc (.cells #[.string s, .string y, .string raw, .string (s ++ raw), .string x4, .string ⟨#[]⟩] 9)).drew := below_drewN (later HV3.out (new_later w3 _)) 1
  have hg4 : w3.heap.size < (w3.alloc (.cells #[.string s, .string y, .string raw, .string (s ++ raw), .string x4, .string ⟨#[]⟩] 9)).drew.heap.size := by
    show w3.heap.size < (w3.alloc (.cells #[.string s, .string y, .string raw, .string (s ++ raw), .string x4, .string ⟨#[]⟩] 9)).heap.size
    rw [alloc_size1]; omega
  generalize (w3.alloc (.cells #[.string s, .string y, .string raw, .string (s ++ raw), .string x4, .string ⟨#[]⟩] 9)).drew = w4 at hrow hV4 hg4 ⊢
  generalize w3.heap.size = g4 at hrow hg4 ⊢
  have HROW4 := Lib.hid hrow
  have HV4 := Lib.hid hV4
  have HK4 := Lib.hid (HK.out.later hV4)
  have HG4 := Lib.hid hg4
  clear hrow hV4 hg4 HCV HROW hbd hsl hws hq4 HSET HVS HV3 HARM HAR HSam hjs hsM hMi hji hj0
  go_wp2_with fail
  go_loopw [12, 13, 14, 15, 16, 17, 18] (fun i _ _ _ _ _ _ W => ∃ k : Nat, k ≤ 6 ∧ i = .int .i64 (k : Int) ∧ Below w4.heap.size w4 W) (fun i _ _ _ _ _ _ _ => 6 - (intOf i).toNat)
  case atStart => exact ⟨0, by omega, rfl, Below.refl _ _⟩
  case round =>
    obtain ⟨k, hk, rfl, hb⟩ := hrel
    by_cases hlt : k < 6
    · have hki : (k : Int) < 6 := by omega
      have hk0 : (0 : Int) ≤ (k : Int) := by omega
      obtain ⟨z, hzs, hz0⟩ := HROW4.out k hlt
      have hz := (hb.cell (p := ⟨g4, k, none⟩) HG4.out).trans hz0
      have HKr := Lib.hid (HK4.out.later hb)
      have HBr := Lib.hid hb
      have HZC : Hid (∀ W, Below wr.heap.size wr W → W.cell? ⟨g4, k, none⟩ = some (.string z)) := Lib.hid fun W hW => ((later hb hW).cell (p := ⟨g4, k, none⟩) HG4.out).trans hz0
      obtain ⟨T, E, n, hsc⟩ : ∃ T E n, SC (sb z) = (T, E, n) := ⟨_, _, _, rfl⟩
      have hTl : T.length ≤ 8192 := by have := sc_len (sb z); rw [hsc] at this; exact this
      obtain ⟨q, hq⟩ : ∃ q, T.length = q := ⟨_, rfl⟩
      have HS1 := Lib.hid (Scan_both hzs hsc q hq wr HKr.out)
      have HS2 := Lib.hid fun (W : World) => RScan_both hzs hsc q hq W
      have HPL := Lib.hid fun (c : Nat) (A : Option Addr) (W : World) (hr : Rd W W.heap.size A (tv T)) => plain_rd q c A T W hq.symm (by omega) hr
      have HSM := Lib.hid fun (c d : Nat) (A A' : Option Addr) (W : World) (hr : Rd W W.heap.size A (tv T)) (hr' : Rd W W.heap.size A' (tv T)) => same_rd q c d A A' T W hq.symm (by omega) hr hr'
      generalize mkS E = E' at HS1 HS2
      clear hz0 hzs hb hsc hTl hq
      go_upto_region 9 with (go_at_call 11; (with_reducible refine HS1.out.mono ?_); rintro e w5 ⟨A5, c5, rfl, hr5, hb5⟩; have HB5 := Lib.hid hb5; have HR5 := Lib.hid hr5; clear hb5 hr5)
      have hz5 := HZC.out _ HB5.out
      clear hz
      go_upto_region 10 with (go_at_call 12; (with_reducible refine (HS2.out _).mono ?_); rintro e w6 ⟨A6, c6, rfl, hr6, hb6⟩; have HB6 := Lib.hid hb6; have HR6 := Lib.hid hr6; clear hb6 hr6)
      clear hz5
      go_wp2_with (first
        | (go_at_call 14; (with_reducible refine (HPL.out _ _ _ (HR5.out.later HB6.out)).mono ?_); rintro e w7 ⟨A7, c7, rfl, hr7, hb7⟩; have HB7 := Lib.hid hb7; have HR7 := Lib.hid hr7; clear hb7 hr7)
        | (go_at_call 13; (with_reducible refine (HSM.out _ _ _ _ _ HR7.out (HR6.out.later HB7.out)).mono ?_); rintro e w8 ⟨rfl, hb8⟩; have HB8 := Lib.hid (later (later (later HB5.out HB6.out) HB7.out) hb8); clear hb8))
      exact ⟨⟨k + 1, by omega, by go_num, later HBr.out HB8.out⟩, by simp [intOf]; omega⟩
    · obtain rfl : k = 6 := by omega
      have HKr := Lib.hid (HK4.out.later hb)
      have HBr := Lib.hid (later HV4.out hb)
      clear hb hlt
      go_wp2_with (go_at_call 15; (with_reducible refine (HLV.out _ HKr.out).mono ?_); rintro e w5 ⟨rfl, hb5⟩; have HB5 := Lib.hid hb5; clear hb5)
      go_ret
      exact ⟨rfl, later HBr.out HB5.out⟩
end Go.Proofs.YtfbookfaodfmdaaDoor
