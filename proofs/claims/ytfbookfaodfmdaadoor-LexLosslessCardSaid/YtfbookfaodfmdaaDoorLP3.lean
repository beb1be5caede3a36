import Derived.Test.YtfbookfaodfmdaaDoorLP2
set_option linter.unusedVariables false
set_option linter.unusedSimpArgs false
namespace Go.Proofs.YtfbookfaodfmdaaDoor
open Go.RowKit

set_option maxHeartbeats 8000000 in
set_option maxRecDepth 100000 in
theorem LexLossless_any (m cap : Nat) (A : Option Addr) (l : List Int) (raw : ByteArray) (w : World) (hm : m = l.length) (hm2 : m ≤ maxLen) (hl : ∀ x ∈ l, InR x) (hr : Rd w w.heap.size A (iv l)) (hraw : raw.size ≤ 140737488355328) (hk : Kx w) :
    Calls Tryd.prog 5 #[.slice A m cap, .string raw] w (SRes w) := by
  have HSam : Hid (∀ W, Below w.heap.size w W → Calls Tryd.prog 9 #[.slice A m cap] W fun e w' => ∃ s : ByteArray, e = .returned (.string s) ∧ s.size ≤ 5000 ∧ Below W.heap.size W w') := Lib.hid fun W hW =>
    (Sample_any m cap A l W hm hm2 hl (hr.later hW)).mono fun e w' ⟨X, h1, h2, h3⟩ => ⟨mkS X, h1, by rw [mkS_size]; exact h2, h3⟩
  have HRw := Lib.hid hraw
  have HK := Lib.hid hk
  have HLV := Lib.hid fun (W : World) (hW : Kx W) => lives_any W hW
  clear hm hl hr hraw hk
  go_enter Tryd.func5, Tryd.ntmps5
  go_upto_region 2 with (go_at_call 9; (with_reducible refine (HSam.out _ (Below.refl _ _)).mono ?_); rintro e w1 ⟨s1, rfl, hs1, hb1⟩; have HB1 := Lib.hid hb1; have HQ1 : Hid (s1.size ≤ 281474976710656) := Lib.hid (by omega); clear hs1 hb1)
  have hrow := Row2'.new w1 s1 raw HQ1.out (by have := HRw.out; omega) 9
  have hV0 := later HB1.out (new_later w1 (.cells #[.string s1, .string raw] 9))
  have hg := alloc_size1 w1 (.cells #[.string s1, .string raw] 9)
  generalize w1.alloc (.cells #[.string s1, .string raw] 9) = w0 at hrow hV0 hg ⊢
  have hgl : w1.heap.size < w0.heap.size := by omega
  generalize w1.heap.size = g at hrow hg hgl ⊢
  have HROW := Lib.hid hrow
  have HV0 := Lib.hid hV0
  have HK0 := Lib.hid (HK.out.later hV0)
  have HGL := Lib.hid hgl
  clear hrow hV0 hg hgl HQ1
  go_wp2_with fail
  go_loopw [6, 7, 8, 9, 10, 11, 12, 13] (fun i _ _ _ _ _ _ _ W => ∃ j : Nat, j ≤ 2 ∧ i = .int .i64 (j : Int) ∧ Below w0.heap.size w0 W) (fun i _ _ _ _ _ _ _ _ => 2 - (intOf i).toNat)
  case atStart => exact ⟨0, by omega, rfl, Below.refl _ _⟩
  case round =>
    obtain ⟨j, hj, rfl, hb⟩ := hrel
    by_cases hlt : j < 2
    · have hji : (j : Int) < 2 := by omega
      have hj0 : (0 : Int) ≤ (j : Int) := by omega
      obtain ⟨x, hxs, hx0⟩ := HROW.out j hlt
      have hx := (hb.cell (p := ⟨g, j, none⟩) HGL.out).trans hx0
      have HKr := Lib.hid (HK0.out.later hb)
      have HBr := Lib.hid hb
      rcases sc_cases (sb x) with ⟨_, hc⟩ | ⟨hle, T, E, hok, hc⟩ | ⟨hle, n, _, hc, hn, _, _⟩
      · have HS1 := Lib.hid (Scan_none hxs hc wr HKr.out)
        clear hc hx0 hxs hb
        go_wp2_with (go_at_call 11; (with_reducible refine HS1.out.mono ?_); rintro e w3 ⟨A3, c3, rfl, hb3⟩; have HB3 := Lib.hid hb3; clear hb3)
        refine ⟨⟨j + 1, by omega, by go_num, later HBr.out HB3.out⟩, by simp [intOf]; omega⟩
      · have hbt : ∀ d ∈ sb x, d < 256 := sb_lt x
        obtain ⟨hTB, hEB⟩ := ok_bytes hbt hok
        have HTK := Lib.hid (lossless_tok hbt hle hok)
        obtain ⟨hcat, hch, he1⟩ := (S_iff _ _ _).1 hok
        have hlen : (cat T).length + E.length ≤ 8192 := by rw [← List.length_append, ← hcat]; exact hle
        have hTl : T.length ≤ 8192 := by have := tok_len_le (T := T) (fun y hy => (hch.good y hy).2.1); omega
        have hxe : mkS (cat T ++ E) = x := by rw [← hcat, mkS_sb]
        have HS1 := Lib.hid (Scan_read hxs hc T.length rfl wr HKr.out)
        have HTX : Hid (∀ (W : World) (A : Option Addr) (c : Nat), Rd W W.heap.size A (tv T) → Calls Tryd.prog 27 #[.slice A T.length c, .string (mkS E)] W fun e w' => e = .returned (.string x) ∧ Below W.heap.size W w') := Lib.hid fun W A c hr => by
          have h := Text_any T.length c A T E W rfl (by omega) hTB hEB (by omega) hr
          rwa [hxe] at h
        have HBL : Hid (∀ W, Kx W → Calls Tryd.prog 21 #[.string (mkS E)] W fun e w' => e = .returned (.bool true) ∧ Below W.heap.size W w') := Lib.hid fun W hW =>
          Blank_yes (E := E) (by rw [mkS_size]; omega) (by rw [sb_mkS _ hEB]; exact sc_ok (by omega) he1) W hW
        generalize mkS E = E' at HS1 HTX HBL
        generalize hTn : T.length = nT at HS1 HTX hTl
        have HTN := Lib.hid hTn
        have hTi : (nT : Int) ≤ 8192 := by omega
        clear hc hx0 hxs hb hle hok hcat hch he1 hlen hbt hTB hEB hxe hTn
        go_upto_region 9 with (go_at_call 11; (with_reducible refine HS1.out.mono ?_); rintro e w3 ⟨A3, c3, rfl, hr3, hb3⟩; have HB3 := Lib.hid hb3; have HR3 := Lib.hid hr3; have HK3 := Lib.hid (HKr.out.later hb3); clear hr3 hb3)
        have HXC : Hid (∀ W, Below w3.heap.size w3 W → W.cell? ⟨g, j, none⟩ = some (.string x)) := Lib.hid fun W hW => by
          have hgr : g < wr.heap.size := Nat.lt_of_lt_of_le HGL.out HBr.out.size
          exact ((later HB3.out hW).cell (p := ⟨g, j, none⟩) hgr).trans hx
        have hbd : Below w3.heap.size w3 w3.drew := below_drewN (Below.refl _ _) 1
        clear hx
        go_region_held3 (fun W => W.cell? ⟨g, j, none⟩ = some (.string x))
          (first | exact HXC.out _ hbd | exact HXC.out _ hbt | exact HXC.out _ hbb)
          (first
            | (go_at_call 27; (with_reducible refine (HTX.out _ _ _ (HR3.out.later hbd)).mono ?_); rintro e wt ⟨rfl, hbt0⟩; have hbt := later hbd hbt0; have HKt := Lib.hid (HK3.out.later hbt))
            | (go_at_call 21; (with_reducible refine (HBL.out _ HKt.out).mono ?_); rintro e wb ⟨rfl, hbb0⟩; have hbb := later hbt hbb0))
        have HBB := Lib.hid (later (later HBr.out HB3.out) hbb)
        have HB3b := Lib.hid hbb
        have HKb := Lib.hid (HK3.out.later hbb)
        have HRb := Lib.hid (HR3.out.later hbb)
        clear hbb hbb0 hbt hbt0 hbd HXC HTX HBL HBr HKr HKt HR3
        go_wp2_with fail
        go_loopw [10, 11, 12, 13] (fun i _ _ _ W => ∃ k : Nat, k ≤ nT ∧ i = .int .i64 (k : Int) ∧ Below wb.heap.size wb W) (fun i _ _ _ _ => nT - (intOf i).toNat)
        case atStart => exact ⟨0, by omega, rfl, Below.refl _ _⟩
        case round =>
          obtain ⟨k, hk, rfl, hb⟩ := hrel
          by_cases hlk : k < nT
          · have hki : (k : Int) < (nT : Int) := by omega
            have hk0 : (0 : Int) ≤ (k : Int) := by omega
            have hkT : k < T.length := by rw [HTN.out]; exact hlk
            obtain ⟨b, o, rfl, hbB, hc1, hc2⟩ := tok_at HRb.out k hkT
            obtain ⟨htk1, htk2, htk3⟩ := HTK.out T[k] (List.getElem_mem hkT)
            generalize T[k] = t at hc1 hc2 htk1 htk2 htk3
            obtain ⟨t1, t2⟩ := t
            simp only at hc1 hc2 htk1 htk2 htk3
            rw [show o + 2 * k = o + k * 2 by omega] at hc1 hc2
            have HKc := Lib.hid (HKb.out.later hb)
            have HBc := Lib.hid hb
            have HCC : Hid (∀ W, Below wr.heap.size wr W → W.cell? ⟨b, o + k * 2, none⟩ = some (.string (mkS t1)) ∧ W.cell? ⟨b, o + k * 2 + 1, none⟩ = some (.string (mkS t2))) := Lib.hid fun W hW =>
              ⟨((later hb hW).cell (p := ⟨b, o + k * 2, none⟩) hbB).trans hc1, ((later hb hW).cell (p := ⟨b, o + k * 2 + 1, none⟩) hbB).trans hc2⟩
            have hap := mkS_app t2 t1
            have hsq : ¬ (mkS t2).size + (mkS t1).size > 9223372036854775807 := by rw [mkS_size, mkS_size]; rw [List.length_append] at htk3; omega
            have HS2 : Hid (∀ W, Kx W → Calls Tryd.prog 11 #[.string (mkS (t2 ++ t1))] W fun e w' => ∃ A c, e = .returned (.tuple #[.slice A 1 c, .string ⟨#[]⟩, .int .i64 (-1)]) ∧ Rd w' w'.heap.size A (tv [(t1, t2)]) ∧ Below W.heap.size W w') := Lib.hid fun W hW =>
              Scan_read (by rw [mkS_size]; omega) htk1 1 rfl W hW
            have HBL2 : Hid (∀ W, Kx W → Calls Tryd.prog 21 #[.string (mkS t2)] W fun e w' => e = .returned (.bool true) ∧ Below W.heap.size W w') := Lib.hid fun W hW =>
              Blank_yes (by rw [mkS_size]; rw [List.length_append] at htk3; omega) htk2 W hW
            have HTV : Hid (∀ (W : World) (A : Option Addr), Rd W W.heap.size A (tv [(t1, t2)]) → ∃ b o, A = some ⟨b, o, none⟩ ∧ ∀ W', Below W.heap.size W W' → W'.cell? ⟨b, o, none⟩ = some (.string (mkS t1)) ∧ W'.cell? ⟨b, o + 1, none⟩ = some (.string (mkS t2))) := Lib.hid fun W A hr => by
              obtain ⟨b, o, h1, h2, h3, h4⟩ := tok_at hr 0 (Nat.zero_lt_one)
              exact ⟨b, o, h1, fun W' hW => ⟨(hW.cell (p := ⟨b, o, none⟩) h2).trans h3, (hW.cell (p := ⟨b, o + 1, none⟩) h2).trans h4⟩⟩
            generalize mkS (t2 ++ t1) = y at hap HS2
            generalize mkS t1 = x1 at hap hsq HCC HTV
            generalize mkS t2 = x2 at hap hsq HCC HTV HBL2
            have hnq := fun W => neq_tok x1 x2 x1 x2 W
            have hbd : Below wr.heap.size wr wr.drew := below_drewN (Below.refl _ _) 1
            clear hc1 hc2 htk1 htk2 htk3 hb HRb
            go_upto_region 14 with fail
            go_region_held3 (fun W => W.cell? ⟨b, o + k * 2, none⟩ = some (.string x1) ∧ W.cell? ⟨b, o + k * 2 + 1, none⟩ = some (.string x2))
              (first | exact HCC.out _ hbd | exact HCC.out _ hb5)
              (first | (go_at_call 11; (with_reducible refine (HS2.out _ (HKc.out.later hbd)).mono ?_); rintro e w5 ⟨A5, c5, rfl, hr5, hb50⟩; have hb5 := later hbd hb50; have HR5 := Lib.hid hr5; have HK5 := Lib.hid (HKc.out.later hb5); clear hr5))
            obtain ⟨b1, o1, rfl, htv⟩ := HTV.out _ _ HR5.out
            have HSS : Hid (∀ W, Below w5.heap.size w5 W → (W.cell? ⟨b, o + k * 2, none⟩ = some (.string x1) ∧ W.cell? ⟨b, o + k * 2 + 1, none⟩ = some (.string x2)) ∧ W.cell? ⟨b1, o1, none⟩ = some (.string x1) ∧ W.cell? ⟨b1, o1 + 1, none⟩ = some (.string x2)) := Lib.hid fun W hW => ⟨HCC.out _ (later hb5 hW), htv W hW⟩
            have HB5 := Lib.hid hb5
            have hbd5 : Below w5.heap.size w5 w5.drew := below_drewN (Below.refl _ _) 1
            clear hb5 hb50 hbd htv HCC HTV HS2 HR5
            go_upto_region 15 with fail
            go_region_held3 (fun W => (W.cell? ⟨b, o + k * 2, none⟩ = some (.string x1) ∧ W.cell? ⟨b, o + k * 2 + 1, none⟩ = some (.string x2)) ∧ W.cell? ⟨b1, o1, none⟩ = some (.string x1) ∧ W.cell? ⟨b1, o1 + 1, none⟩ = some (.string x2))
              (first | exact HSS.out _ hbd5 | exact HSS.out _ hb6)
              (first | (go_at_call 21; (with_reducible refine (HBL2.out _ (HK5.out.later hbd5)).mono ?_); rintro e w6 ⟨rfl, hb60⟩; have hb6 := later hbd5 hb60))
            have HB6 := Lib.hid (later (later HBc.out HB5.out) hb6)
            clear hb6 hb60 hbd5 HSS HBL2
            go_wp2_with fail
            refine ⟨⟨k + 1, by omega, by go_num, HB6.out⟩, by simp [intOf]; omega⟩
          · have hlk' : ¬ (k : Int) < (nT : Int) := by omega
            have HBk := Lib.hid (later HBB.out hb)
            clear hb hlk HRb
            go_wp2_with fail
            refine ⟨⟨j + 1, by omega, by go_num, HBk.out⟩, by simp [intOf]; omega⟩
      · have HS1 := Lib.hid (Scan_none hxs hc wr HKr.out)
        have hne1 : ((n : Int) != -1) = true := by rw [bne_iff_ne]; omega
        clear hc hx0 hxs hb
        go_wp2_with (go_at_call 11; (with_reducible refine HS1.out.mono ?_); rintro e w3 ⟨A3, c3, rfl, hb3⟩; have HB3 := Lib.hid hb3; clear hb3)
        refine ⟨⟨j + 1, by omega, by go_num, later HBr.out HB3.out⟩, by simp [intOf]; omega⟩
    · obtain rfl : j = 2 := by omega
      have HKr := Lib.hid (HK0.out.later hb)
      have HBr := Lib.hid (later HV0.out hb)
      clear hb hlt
      go_wp2_with (go_at_call 15; (with_reducible refine (HLV.out _ HKr.out).mono ?_); rintro e w5 ⟨rfl, hb5⟩; have HB5 := Lib.hid hb5; clear hb5)
      go_ret
      exact ⟨rfl, later HBr.out HB5.out⟩
end Go.Proofs.YtfbookfaodfmdaaDoor
