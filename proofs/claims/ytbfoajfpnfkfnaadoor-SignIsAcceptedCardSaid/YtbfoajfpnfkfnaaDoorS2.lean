import Derived.Test.YtbfoajfpnfkfnaaDoorS1
set_option linter.unusedVariables false
namespace Go.Proofs.YtbfoajfpnfkfnaaDoor
open Go.RowKit

/-- P3.1: the digits of a digest, and of its checksum. -/
def dg64 (d : List Nat) : List Nat := d.flatMap dig4
def chk (l : List Nat) : Nat := (l.map (3 - ·)).sum
def digL (d : List Nat) : List Nat := dg64 d ++ dig4 (chk (dg64 d))
def dk (d : List Nat) (k : Nat) : List Nat := dg64 (d.take k) ++ List.replicate (68 - 4 * k) 0
theorem dg64_len (d : List Nat) : (dg64 d).length = 4 * d.length := by
  induction d with
  | nil => rfl
  | cons a d ih => unfold dg64 at *; rw [List.flatMap_cons, List.length_append, ih, dig4_len, List.length_cons]; omega
theorem dg64_snoc (d : List Nat) (a : Nat) : dg64 (d ++ [a]) = dg64 d ++ dig4 a := by unfold dg64; simp
theorem dig4_lt (n : Nat) : ∀ x ∈ dig4 n, x < 4 := by
  intro x hx
  simp only [dig4, List.mem_cons, List.not_mem_nil, or_false] at hx
  rcases hx with rfl | rfl | rfl | rfl <;> omega
theorem dg64_lt (d : List Nat) : ∀ x ∈ dg64 d, x < 4 := by
  intro x hx
  obtain ⟨a, _, h⟩ := List.mem_flatMap.1 hx
  exact dig4_lt a x h
theorem dk_zero (d : List Nat) : dk d 0 = List.replicate 68 0 := rfl
theorem dk_len (d : List Nat) (k : Nat) (hd : d.length = 16) (hk : k ≤ 16) : (dk d k).length = 68 := by
  unfold dk; rw [List.length_append, dg64_len, List.length_take, List.length_replicate]; omega
theorem dk_put (d : List Nat) (k : Nat) (hd : d.length = 16) (hk : k < 16) : putD (dk d k) (4 * k) (d.getD k 0) 4 = dk d (k + 1) := by
  have hl : (dg64 (d.take k)).length = 4 * k := by rw [dg64_len, List.length_take]; omega
  have hkd : k < d.length := by omega
  have hg : d.getD k 0 = d[k] := by rw [List.getD_eq_getElem?_getD, List.getElem?_eq_getElem hkd]; rfl
  unfold putD dk
  rw [show 4 * k + (4 - 4) = 4 * k by omega, show 4 - 4 = 0 from rfl, List.drop_zero, List.take_append_of_le_length (by omega), List.take_of_length_le (by omega), List.drop_append, List.drop_of_length_le (by omega), List.nil_append, hl, List.drop_replicate, hg, List.take_succ_eq_append_getElem hkd, dg64_snoc]
  rw [show 68 - 4 * k - (4 * k + 4 - 4 * k) = 68 - 4 * (k + 1) by omega]
theorem dk_all (d : List Nat) (hd : d.length = 16) : dk d 16 = dg64 d ++ List.replicate 4 0 := by
  unfold dk; rw [List.take_of_length_le (by omega)]
theorem dk_last (d : List Nat) (n : Nat) (hd : d.length = 16) : putD (dg64 d ++ List.replicate 4 0) 64 n 4 = dg64 d ++ dig4 n := by
  have hl : (dg64 d).length = 64 := by rw [dg64_len]; omega
  unfold putD
  rw [show 64 + (4 - 4) = 64 from rfl, show 4 - 4 = 0 from rfl, List.drop_zero, List.take_append_of_le_length (by omega), List.take_of_length_le (by omega), List.drop_of_length_le (by rw [List.length_append, hl, List.length_replicate]; omega), List.append_nil]
theorem chk_snoc (l : List Nat) (x : Nat) : chk (l ++ [x]) = chk l + (3 - x) := by unfold chk; simp
theorem chk_le (l : List Nat) : chk l ≤ 3 * l.length := by
  induction l with
  | nil => exact Nat.le_refl _
  | cons a l ih => unfold chk at *; rw [List.map_cons, List.sum_cons, List.length_cons]; omega
theorem slice_hlo (W : World) (g R : Nat) (hR : R < 68) : (Instr.sliceAt 76 (.pointer (some ⟨g, 0, none⟩)) (some (.int .i64 (R : Int))) none none).run Tryd.prog W = .ok (.slice (some ⟨g, R, none⟩) (68 - R) (68 - R)) W := by
  have e : Tryd.prog.arrayLen 76 = 68 := by kernel_rfl
  have e2 : Tryd.prog.elem 76 = 3 := by kernel_rfl
  have hs : ∀ W, (sizeOf (Tryd.prog.elem 76)).run Tryd.prog W = .ok 1 W := fun _ => by kernel_rfl
  have h := run_sliceAt_array_l (P := Tryd.prog) W 76 ⟨g, 0, none⟩ (by rw [e, e2]; exact Tryd.underlying76) .i64 (R : Int) (by omega) (by rw [e]; omega)
  rw [h, hs W]
  have hne : ¬ 68 = R := by omega
  simp [slicedAt, e, hne, add_mid]
theorem slice_hhi (W : World) (g : Nat) : (Instr.sliceAt 76 (.pointer (some ⟨g, 0, none⟩)) none (some (.int .i64 64)) none).run Tryd.prog W = .ok (.slice (some ⟨g, 0, none⟩) 64 68) W := by
  have e : Tryd.prog.arrayLen 76 = 68 := by kernel_rfl
  have e2 : Tryd.prog.elem 76 = 3 := by kernel_rfl
  have hs : ∀ W, (sizeOf (Tryd.prog.elem 76)).run Tryd.prog W = .ok 1 W := fun _ => by kernel_rfl
  have h := run_sliceAt_array_h (P := Tryd.prog) W 76 ⟨g, 0, none⟩ (by rw [e, e2]; exact Tryd.underlying76) .i64 64 (by omega) (by rw [e]; omega)
  rw [h, hs W, e]
  simp [slicedAt, Addr.add]

set_option maxHeartbeats 2000000 in
set_option maxRecDepth 100000 in
theorem digitsOf_aux (d DL : List Nat) (hd : d.length = 16) (hdb : AllB d) (w : World) (HDL : Hid (digL d = DL)) :
    Calls Tryd.prog 48 #[.agg (bs d).toArray] w fun e w' => e = .returned (.agg (isv DL).toArray) ∧ Below w.heap.size w w' := by
  have HD := Lib.hid hd
  have HB := Lib.hid hdb
  have HLb : Hid ((bs d).length = 16) := by show (bs d).length = 16; rw [bs_len, hd]
  clear hd hdb
  go_enter Tryd.func48, Tryd.ntmps48
  go_upto_region 1 with fail
  go_cut [3] (fun r wx => r = .pointer (some ⟨w.heap.size + 1 + 1, 0, none⟩) ∧ Arr wx w.heap.size 16 44 (bs d) ∧ Arr wx (w.heap.size + 1) 68 76 (isv (List.replicate 68 0)) ∧ Arr wx (w.heap.size + 1 + 1) 68 76 (isv (List.replicate 68 0)) ∧ Below w.heap.size w wx)
  case first =>
    go_wp2_with fail
    go_meet
    exact ⟨rfl, three_new w _ _ _ _ _ _ _ _ _ _ _ _ rfl rfl rfl HLb.out (by simp [isv]) (by simp [isv]) (by decide) (by decide) (by decide)⟩
  case rest =>
    obtain ⟨rfl, a1, a2, a3, hbw⟩ := hcut
    have hR := Lib.hid a1.range
    go_wp2_with (with_reducible refine wpList_load_mid rfl _ (.tmp 1) rfl w.heap.size _ rfl (bs d) _ hR.out Tryd.underlying44 rfl (by rw [HLb.out]; exact info_dg) ?_)
    clear a1 hR
    obtain ⟨G, hG⟩ : ∃ G, w.heap.size + 1 + 1 = G := ⟨_, rfl⟩
    rw [hG] at a3 ⊢
    have hG1 : w.heap.size + 1 < G := by omega
    clear hG
    go_loopw [10] (fun i W => ∃ k : Nat, k ≤ 16 ∧ i = .int .i64 (k : Int) ∧ Arr W G 68 76 (isv (dk d k)) ∧ Only G wc W) (fun i _ => 16 - (intOf i).toNat)
    case atStart => exact ⟨0, by omega, rfl, by rw [dk_zero]; exact a3, Only.refl G wc⟩
    case round =>
      obtain ⟨k, hk, rfl, ha, hO⟩ := hrel
      by_cases hlt : k < 16
      · have hkl : k < d.length := by have := HD.out; omega
        have hbk : (bs d).toArray[k]? = some (.int .u8 (d.getD k 0 : Nat)) := by
          have := bs_get d k hkl
          rw [List.getD_eq_getElem?_getD]; simpa using this
        have hix := fun W => run_index_arr (P := Tryd.prog) W 44 5 16 .i64 .u8 (bs d).toArray k _ Tryd.underlying44 Tryd.underlying5 info_u8s hlt hbk
        have hv := getD_lt HB.out (by decide) k
        have HPUT := Lib.hid (dk_put d k HD.out hlt)
        have hdl := dk_len d k HD.out hk
        obtain ⟨T, HT⟩ : ∃ T, Hid (4 * k = T) := ⟨_, Lib.hid rfl⟩
        obtain ⟨C, HC⟩ : ∃ C, Hid (68 - T = C) := ⟨_, Lib.hid rfl⟩
        rw [HT.out] at HPUT
        have hT68 : T < 68 := by have := HT.out; omega
        have hsl := fun W => slice_hlo W G T hT68
        rw [HC.out] at hsl
        have hC4 : 4 ≤ C := by have := HT.out; have := HC.out; omega
        have hC4I : (4 : Int) ≤ (C : Int) := by omega
        have hTk : (k : Int) * 4 = (T : Int) := by have := HT.out; omega
        generalize d.getD k 0 = X at hix hv HPUT
        have HW : Hid (∀ W, Arr W G 68 76 (isv (dk d k)) → Calls Tryd.prog 64 #[.slice (some ⟨G, T, none⟩) 4 C, .int .i64 (X : Int)] W fun e w' => e = .returned (.tuple #[]) ∧ Arr w' G 68 76 (isv (dk d (k + 1))) ∧ Only G W w') := by
          refine Lib.hid fun W hW => ?_
          rw [← HPUT.out]
          exact write_any G T C X (dk d k) W hW (by have := HT.out; omega) hdl (by omega) hC4
        have HA := Lib.hid ha
        have hki : (k : Int) < 16 := by omega
        clear hbk ha hdl hkl HPUT
        go_wp2_with (go_at_call 64; with_reducible refine (HW.out _ HA.out).mono ?_; rintro e w4 ⟨rfl, ha4, hO4⟩)
        go_roundw
        case rel => exact ⟨k + 1, hlt, by go_num, ha4, hO.trans hO4⟩
        case measure => simp [intOf]; omega
      · have hk16 : k = 16 := by omega
        subst hk16
        rw [dk_all d HD.out] at ha
        have hs2 := fun W => slice_hhi W G
        have hs3 : ∀ W, (Instr.sliceAt 76 (.pointer (some ⟨G, 0, none⟩)) (some (.int .i64 64)) none none).run Tryd.prog W = .ok (.slice (some ⟨G, 64, none⟩) 4 4) W := fun W => slice_hlo W G 64 (by omega)
        have HA := Lib.hid ha
        have HL64 : Hid ((dg64 d).length = 64) := Lib.hid (by rw [dg64_len, HD.out])
        have b2 := (a2.only hO (by omega))
        have hbo := hbw.trans (hO.bel.mono (by omega : w.heap.size ≤ G))
        clear ha a2 a3 hbw hO hlt hk
        obtain ⟨wo, rfl⟩ : ∃ wo : World, wo = wr := ⟨_, rfl⟩
        go_wp2_with fail
        go_loopw [6, 24] (fun s i W => ∃ j : Nat, j ≤ 64 ∧ i = .int .i64 (j : Int) ∧ s = .int .i64 ((chk ((dg64 d).take j) : Nat) : Int) ∧ W = wo) (fun _ i _ => 64 - (intOf i).toNat)
        case atStart => exact ⟨0, by omega, rfl, rfl, rfl⟩
        case round =>
          obtain ⟨j, hj, rfl, rfl, rfl⟩ := hrel
          have hcl := chk_le ((dg64 d).take j)
          have hcl2 : ((dg64 d).take j).length ≤ 64 := by rw [List.length_take]; omega
          by_cases hlt : j < 64
          · have hjl : j < (dg64 d).length := by rw [HL64.out]; exact hlt
            have hcj : (dg64 d ++ List.replicate 4 0)[j]? = some (dg64 d)[j] := by rw [List.getElem?_append_left hjl, List.getElem?_eq_getElem hjl]
            have hcell := HA.out.cell (isv_get hcj)
            have hx4 := dg64_lt d _ (List.getElem_mem hjl)
            have hsn := chk_snoc ((dg64 d).take j) (dg64 d)[j]
            rw [← List.take_succ_eq_append_getElem hjl] at hsn
            have HSN := Lib.hid hsn
            clear hcj hsn
            generalize (dg64 d)[j] = x at hcell hx4 HSN
            generalize chk ((dg64 d).take j) = S at hcl HSN ⊢
            have hS : S ≤ 192 := by omega
            have hji : (j : Int) < 64 := by omega
            have hj0 : (0 : Int) ≤ (j : Int) := by omega
            clear hcl hcl2
            go_wp2_with fail
            go_roundw
            case rel => exact ⟨j + 1, hlt, by go_num, congrArg (Value.int .i64) (by rw [HSN.out]; omega), by trivial⟩
            case measure => simp [intOf]; omega
          · have hj64 : j = 64 := by omega
            subst hj64
            rw [List.take_of_length_le (by rw [HL64.out]; exact Nat.le_refl _)] at hcl ⊢
            have HW : Hid (∀ W, Arr W G 68 76 (isv (dg64 d ++ List.replicate 4 0)) → Calls Tryd.prog 64 #[.slice (some ⟨G, 64, none⟩) 4 4, .int .i64 ((chk (dg64 d) : Nat) : Int)] W fun e w' => e = .returned (.tuple #[]) ∧ Arr w' G 68 76 (isv DL) ∧ Only G W w') := by
              refine Lib.hid fun W hW => ?_
              rw [← HDL.out]
              unfold digL
              rw [← dk_last d (chk (dg64 d)) HD.out]
              exact write_any G 64 4 _ _ W hW (by omega) (by rw [List.length_append, HL64.out]; rfl) (by have := HL64.out; omega) (by omega)
            have HDLL : Hid ((isv DL).length = 68) := Lib.hid (by rw [isv_len, ← HDL.out]; unfold digL; rw [List.length_append, HL64.out]; rfl)
            have HI5 : Hid ((Tryd.prog.info? 76).map (·.size) = some (isv DL).length) := Lib.hid (by rw [HDLL.out]; exact info_heights)
            generalize chk (dg64 d) = S at HW ⊢
            clear hcl hcl2 hlt hj
            go_wp2_with (first
              | (go_at_call 64; with_reducible refine (HW.out _ HA.out).mono ?_; rintro e w4 ⟨rfl, ha4, hO4⟩; have b4 := b2.only hO4 (by omega); have hb4 := hbo.trans (hO4.bel.mono (by omega : w.heap.size ≤ G)); have R4 := Lib.hid ha4.range)
              | (with_reducible refine wpList_load_mid rfl _ (.tmp 3) rfl G 0 rfl (isv DL) _ R4.out Tryd.underlying76 rfl HI5.out ?_)
              | (refine wpList_store_arr rfl _ (.tmp 2) (.tmp 36) rfl (w.heap.size + 1) 0 68 76 _ (isv DL) _ rfl rfl rfl b4 (by rw [HDLL.out]; omega) HI5.out (isv_cell DL) ?_; intro w9 f9 o9; have hbw9 := hb4.trans (o9.bel.mono (by omega : w.heap.size ≤ w.heap.size + 1)); rw [setAll_all _ _ (by rw [HDLL.out, isv_len]; rfl)] at f9))
            exact bodyPost_ret (results_one rfl _ _ (w.heap.size + 1) (isv DL) _ rfl f9.range Tryd.underlying76 rfl HI5.out) rfl ⟨rfl, hbw9⟩
theorem digitsOf_any (d : List Nat) (hd : d.length = 16) (hdb : AllB d) (w : World) :
    Calls Tryd.prog 48 #[.agg (bs d).toArray] w fun e w' => e = .returned (.agg (isv (digL d)).toArray) ∧ Below w.heap.size w w' :=
  digitsOf_aux d (digL d) hd hdb w (Lib.hid rfl)
end Go.Proofs.YtbfoajfpnfkfnaaDoor
