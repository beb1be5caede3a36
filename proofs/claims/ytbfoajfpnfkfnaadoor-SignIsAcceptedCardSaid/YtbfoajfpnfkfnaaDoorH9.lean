import Derived.Test.YtbfoajfpnfkfnaaDoorH7
set_option linter.unusedVariables false
namespace Go.Proofs.YtbfoajfpnfkfnaaDoor
open Go.RowKit

set_option maxHeartbeats 1000000 in
set_option maxRecDepth 100000 in
theorem bytes32_any (z : List Nat) (hz : z.length = 32) (w : World) :
    Calls Tryd.prog 23 #[.agg (bs z).toArray] w fun e w' => e = .returned (.string (mkS z)) ∧ Below w.heap.size w w' := by
  have a1 := Arr.new' w 24 (bs z).toArray 32 (bs z) rfl (by rw [bs_len, hz]) (by decide)
  have hbw := new_later w (.cells (bs z).toArray 24)
  have hs1 : (w.alloc (.cells (bs z).toArray 24)).heap.size = w.heap.size + 1 := by simp
  have HZ := Lib.hid hz
  clear hz
  go_enter Tryd.func23, Tryd.ntmps23
  go_wp2_with fail
  have hs2 : w.heap.size + 1 ≤ (w.alloc (.cells (bs z).toArray 24)).heap.size := by omega
  generalize hW : w.alloc (.cells (bs z).toArray 24) = wa at a1 hbw hs2 ⊢
  clear hW hs1
  go_loopw [3, 4] (fun v i W => ∃ k : Nat, k ≤ 32 ∧ i = .int .i64 (k : Int) ∧ OwnB W (w.heap.size + 1) v (z.take k) ∧ Below (w.heap.size + 1) wa W) (fun _ i _ => 32 - (intOf i).toNat)
  case atStart => exact ⟨0, by omega, rfl, OwnB.nil _ _, Below.refl _ _⟩
  case round =>
    obtain ⟨k, hk, rfl, hown, hb⟩ := hrel
    have hbs := hb.size
    by_cases hlt : k < 32
    · have hkz : k < z.length := by have := HZ.out; omega
      have hbg := bs_get z k hkz
      rw [List.getElem?_eq_getElem hkz, Option.getD_some] at hbg
      have hcell := (a1.below hb (by omega)).cell hbg
      have ht : z.take (k + 1) = z.take k ++ [z[k]] := List.take_succ_eq_append_getElem hkz
      have HT := Lib.hid ht
      have hl : (z.take k).length ≤ 32 := by rw [List.length_take]; omega
      clear hbg ht
      generalize z[k] = X at hcell HT
      have hki : (k : Int) < 32 := by omega
      go_wp2_with (at_builtin; refine wpList_putB (x := X) hown rfl (by omega) (by omega) rfl _ _ rfl rfl rfl ?_; intro v5 w5 hown5 hbel5)
      go_roundw
      case rel => exact ⟨k + 1, by omega, by go_num, by rw [HT.out]; exact hown5, hb.trans hbel5⟩
      case measure => simp [intOf]; omega
    · have hkn : k = 32 := by omega
      subst hkn
      rw [List.take_of_length_le (by rw [HZ.out]; exact Nat.le_refl _)] at hown
      obtain ⟨va, vc, rfl, _, _⟩ := hown.shape
      have hcv := run_conv wr.heap.size z.length vc va z wr rfl hown.rd
      go_wp2_with fail
      go_ret
      exact ⟨rfl, hbw.trans (hb.mono (by omega))⟩
set_option maxHeartbeats 1000000 in
set_option maxRecDepth 100000 in
theorem text_any (z : List Nat) (hz : z.length = 16) (w : World) :
    Calls Tryd.prog 36 #[.agg (bs z).toArray] w fun e w' => e = .returned (.string (mkS z)) ∧ Below w.heap.size w w' := by
  have a1 := Arr.new' w 44 (bs z).toArray 16 (bs z) rfl (by rw [bs_len, hz]) (by decide)
  have hbw := new_later w (.cells (bs z).toArray 44)
  have hs1 : (w.alloc (.cells (bs z).toArray 44)).heap.size = w.heap.size + 1 := by simp
  have HZ := Lib.hid hz
  clear hz
  go_enter Tryd.func36, Tryd.ntmps36
  go_wp2_with fail
  have hs2 : w.heap.size + 1 ≤ (w.alloc (.cells (bs z).toArray 44)).heap.size := by omega
  generalize hW : w.alloc (.cells (bs z).toArray 44) = wa at a1 hbw hs2 ⊢
  clear hW hs1
  go_loopw [3, 4] (fun v i W => ∃ k : Nat, k ≤ 16 ∧ i = .int .i64 (k : Int) ∧ OwnB W (w.heap.size + 1) v (z.take k) ∧ Below (w.heap.size + 1) wa W) (fun _ i _ => 16 - (intOf i).toNat)
  case atStart => exact ⟨0, by omega, rfl, OwnB.nil _ _, Below.refl _ _⟩
  case round =>
    obtain ⟨k, hk, rfl, hown, hb⟩ := hrel
    have hbs := hb.size
    by_cases hlt : k < 16
    · have hkz : k < z.length := by have := HZ.out; omega
      have hbg := bs_get z k hkz
      rw [List.getElem?_eq_getElem hkz, Option.getD_some] at hbg
      have hcell := (a1.below hb (by omega)).cell hbg
      have ht : z.take (k + 1) = z.take k ++ [z[k]] := List.take_succ_eq_append_getElem hkz
      have HT := Lib.hid ht
      have hl : (z.take k).length ≤ 16 := by rw [List.length_take]; omega
      clear hbg ht
      generalize z[k] = X at hcell HT
      have hki : (k : Int) < 16 := by omega
      go_wp2_with (at_builtin; refine wpList_putB (x := X) hown rfl (by omega) (by omega) rfl _ _ rfl rfl rfl ?_; intro v5 w5 hown5 hbel5)
      go_roundw
      case rel => exact ⟨k + 1, by omega, by go_num, by rw [HT.out]; exact hown5, hb.trans hbel5⟩
      case measure => simp [intOf]; omega
    · have hkn : k = 16 := by omega
      subst hkn
      rw [List.take_of_length_le (by rw [HZ.out]; exact Nat.le_refl _)] at hown
      obtain ⟨va, vc, rfl, _, _⟩ := hown.shape
      have hcv := run_conv wr.heap.size z.length vc va z wr rfl hown.rd
      go_wp2_with fail
      go_ret
      exact ⟨rfl, hbw.trans (hb.mono (by omega))⟩
set_option maxHeartbeats 1000000 in
set_option maxRecDepth 100000 in
theorem asText_any (z : List Nat) (hz : z.length = 32) (w : World) :
    Calls Tryd.prog 41 #[.agg (bs z).toArray] w fun e w' => e = .returned (.string (mkS z)) ∧ Below w.heap.size w w' := by
  have a1 := Arr.new' w 24 (bs z).toArray 32 (bs z) rfl (by rw [bs_len, hz]) (by decide)
  have hbw := new_later w (.cells (bs z).toArray 24)
  have hsl := slice_all (w.alloc (.cells (bs z).toArray 24)) 24 32 w.heap.size 0 (by kernel_rfl) (by kernel_rfl) Tryd.underlying24 (by decide)
  have hrd : Rd (w.alloc (.cells (bs z).toArray 24)) (w.alloc (.cells (bs z).toArray 24)).heap.size (some ⟨w.heap.size, 0, none⟩) (bs z) := .inr ⟨w.heap.size, 0, rfl, a1.lt, fun j u hu => by rw [Nat.zero_add]; exact a1.cell hu⟩
  have hcv := run_conv _ 32 32 _ z _ hz.symm hrd
  clear hz a1 hrd
  go_enter Tryd.func41, Tryd.ntmps41
  go_wp2_with fail
  go_ret
  exact ⟨rfl, hbw⟩
end Go.Proofs.YtbfoajfpnfkfnaaDoor
