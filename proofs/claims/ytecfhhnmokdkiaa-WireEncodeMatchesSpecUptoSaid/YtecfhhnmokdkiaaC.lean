import Derived.Test.YtecfhhnmokdkiaaB
set_option linter.unusedVariables false
namespace Go.Proofs.Ytecfhhnmokdkiaa
open Go.RowKit

theorem shl_or (m d : Nat) (D : Int) (hD : D = (d : Int)) (hm : m < 2 ^ 56) (hd : d < 256) : bits .or .u64 ((m : Int) * 256) D = ((256 * m + d : Nat) : Int) := by
  subst hD
  have e : (m : Int) * 256 = ((m * 256 : Nat) : Int) := by omega
  rw [e, u64_or_nat _ _ (by omega) (by omega), nat_join 8 (m * 256) d (by omega) (by omega)]
  congr 1
  omega

set_option maxHeartbeats 400000 in
set_option maxRecDepth 100000 in
theorem magnitude_any (B cap : Nat) (A : Option Addr) (zs : List Nat) (neg : Bool) (w : World) (hr : Rd w B A (bs zs)) (hb : ∀ d ∈ zs, d < 256) (hl : zs.length ≤ 8) :
    Calls Try.prog 33 #[.slice A zs.length cap, .bool neg] w fun e w' => e = .returned (.int .u64 (val (inv neg zs) : Int)) ∧ w = w' := by
  have HB := Lib.hid hb
  clear hb
  go_enter Try.func33, Try.ntmps33
  go_wp2
  go_loop [5, 7, 10] (fun m _ i => ∃ (k M : Nat), k ≤ zs.length ∧ i = .int .i64 (k : Int) ∧ m = .int .u64 (M : Int) ∧ M = val (inv neg (zs.take k))) (fun _ _ i => zs.length - (intOf i).toNat)
  case atStart => exact ⟨0, 0, Nat.zero_le _, rfl, rfl, by cases neg <;> rfl⟩
  case round =>
    obtain ⟨k, M, hk, rfl, rfl, hM⟩ := hrel
    by_cases hlt : k < zs.length
    · obtain ⟨b, o, rfl, _, hc⟩ := hr.at_ (by simp [bs]; intro h; rw [h] at hlt; simp at hlt)
      have hcell := hc k _ (bs_get zs k hlt)
      have hz : zs[k] < 256 := HB.out _ (List.getElem_mem hlt)
      have hM56 : M < 2 ^ 56 := by
        rw [hM]
        have h1 := inv_val_lt neg (zs.take k) (fun d hd => HB.out d (List.mem_of_mem_take hd))
        have h2 : (zs.take k).length ≤ 7 := by rw [List.length_take]; omega
        exact Nat.lt_of_lt_of_le h1 (by rw [show (2 : Nat) ^ 56 = 256 ^ 7 from by decide]; exact Nat.pow_le_pow_right (by omega) h2)
      have hnext := inv_snoc neg zs k hlt
      rw [← hM] at hnext
      have HN := Lib.hid hnext
      have HM := Lib.hid hM
      clear hc hnext hM hr
      cases neg
      · go_wp2
        go_round
        case rel => exact ⟨k + 1, _, by omega, by go_num, congrArg (Value.int .u64) (shl_or M zs[k] _ rfl hM56 hz), HN.out.symm⟩
        case measure => simp [intOf]; omega
      · go_wp2
        go_round
        case rel => exact ⟨k + 1, _, by omega, by go_num, congrArg (Value.int .u64) (shl_or M (255 - zs[k]) _ (by omega) hM56 (by omega)), HN.out.symm⟩
        case measure => simp [intOf]; omega
    · have hkl : k = zs.length := by omega
      subst hkl
      rw [List.take_length] at hM
      subst hM
      go_wp2
      go_ret
      exact ⟨rfl, rfl⟩
end Go.Proofs.Ytecfhhnmokdkiaa
