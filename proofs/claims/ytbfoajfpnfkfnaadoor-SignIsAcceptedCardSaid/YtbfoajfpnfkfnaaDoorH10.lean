import Derived.Test.YtbfoajfpnfkfnaaDoorH7
set_option linter.unusedVariables false
namespace Go.Proofs.YtbfoajfpnfkfnaaDoor
open Go.RowKit

/-- Which bytes differ. -/
theorem or_zero (a b : Nat) : a ||| b = 0 ↔ a = 0 ∧ b = 0 := by
  constructor
  · intro h
    have h1 : a ≤ a ||| b := Nat.left_le_or
    have h2 : b ≤ a ||| b := Nat.right_le_or
    omega
  · rintro ⟨rfl, rfl⟩; rfl
theorem xor_zero (a b : Nat) : a ^^^ b = 0 ↔ a = b := by
  constructor
  · intro h
    have : (a ^^^ b) ^^^ b = 0 ^^^ b := by rw [h]
    rwa [Nat.xor_assoc, Nat.xor_self, Nat.xor_zero, Nat.zero_xor] at this
  · rintro rfl; exact Nat.xor_self a
def diffN (a b : List Nat) : Nat → Nat
  | 0 => 0
  | k + 1 => diffN a b k ||| (a.getD k 0 ^^^ b.getD k 0)
theorem diffN_lt {a b : List Nat} (ha : AllB a) (hb : AllB b) : ∀ k, diffN a b k < 256
  | 0 => by simp [diffN]
  | k + 1 => Nat.or_lt_two_pow (n := 8) (diffN_lt ha hb k) (Nat.xor_lt_two_pow (n := 8) (getD_lt ha (by decide) k) (getD_lt hb (by decide) k))
theorem diffN_zero {a b : List Nat} : ∀ k, k ≤ a.length → k ≤ b.length → (diffN a b k = 0 ↔ a.take k = b.take k)
  | 0, _, _ => by simp [diffN]
  | k + 1, h1, h2 => by
    rw [diffN, or_zero, xor_zero, diffN_zero k (by omega) (by omega), List.take_succ_eq_append_getElem (by omega), List.take_succ_eq_append_getElem (by omega)]
    rw [List.getD_eq_getElem?_getD, List.getD_eq_getElem?_getD, List.getElem?_eq_getElem (by omega), List.getElem?_eq_getElem (by omega)]
    simp only [Option.getD_some]
    constructor
    · rintro ⟨h, h'⟩; rw [h, h']
    · intro h
      have := List.append_inj' h rfl
      simpa using this
theorem run_index_str (W : World) (s : ByteArray) (kk : IntKind) (k : Nat) (hk : k < s.size) : (Instr.index 9 (.string s) (.int kk (k : Int))).run Tryd.prog W = .ok (.int .u8 (((sb s).getD k 0 : Nat) : Int)) W := by
  rw [run_index_string (P := Tryd.prog) W 9 s kk k Tryd.underlying9, dif_pos ⟨by omega, by omega⟩]
  have h2 : k < s.data.toList.length := by simpa using hk
  simp [sb, List.getD_eq_getElem?_getD, List.getElem?_map, List.getElem?_eq_getElem h2]
  rfl
theorem or_bits (d a b : Nat) (hd : d < 256) (ha : a < 256) (hb : b < 256) : bits BinOp.or IntKind.u8 (d : Int) (bits BinOp.xor IntKind.u8 (a : Int) (b : Int)) = ((d ||| (a ^^^ b) : Nat) : Int) := by
  rw [u8_xor_nat _ _ ha hb, u8_or_nat _ _ hd (Nat.xor_lt_two_pow (n := 8) ha hb)]

set_option maxHeartbeats 1000000 in
set_option maxRecDepth 100000 in
theorem equal_any (a b : ByteArray) (w : World) (hs : a.size ≤ 9223372036854775807) :
    Calls Tryd.prog 27 #[.string a, .string b] w (BoolRes w (decide (a = b))) := by
  by_cases hl : a.size = b.size
  · have HL := Lib.hid hl
    have hne : ((a.size : Int) != (b.size : Int)) = false := by simp [hl]
    clear hl
    go_enter Tryd.func27, Tryd.ntmps27
    go_wp2_with fail
    go_loopw [5, 14] (fun d i W => ∃ k q : Nat, k ≤ a.size ∧ i = .int .i64 (k : Int) ∧ d = .int .u8 ((diffN (sb a) (sb b) k : Nat) : Int) ∧ W = w.drewN q) (fun _ i _ => a.size - (intOf i).toNat)
    case atStart => exact ⟨0, 0, Nat.zero_le _, rfl, rfl, rfl⟩
    case round =>
      obtain ⟨k, q, hk, rfl, rfl, rfl⟩ := hrel
      by_cases hlt : k < a.size
      · have hia := fun W => run_index_str W a .i64 k hlt
        have hib := fun W => run_index_str W b .i64 k (by have := HL.out; omega)
        have hd := diffN_lt (a := sb a) (b := sb b) (sb_lt a) (sb_lt b) k
        have hva := getD_lt (l := sb a) (sb_lt a) (by decide) k
        have hvb := getD_lt (l := sb b) (sb_lt b) (by decide) k
        have HN : Hid (diffN (sb a) (sb b) (k + 1) = diffN (sb a) (sb b) k ||| ((sb a).getD k 0 ^^^ (sb b).getD k 0)) := rfl
        generalize diffN (sb a) (sb b) k = D at hd HN ⊢
        generalize (sb a).getD k 0 = X at hia hva HN
        generalize (sb b).getD k 0 = Y at hib hvb HN
        have hor := or_bits D X Y hd hva hvb
        obtain ⟨E, hE⟩ : ∃ E, D ||| (X ^^^ Y) = E := ⟨_, rfl⟩
        rw [hE] at hor HN
        have hki : (k : Int) < (a.size : Int) := by omega
        clear hE
        go_wp2_with fail
        go_quiet (fail)
        go_wp2_with fail
        go_roundw
        case rel => exact ⟨k + 1, _, by omega, by go_num, by rw [HN.out], rfl⟩
        case measure => simp [intOf]; omega
      · have hka : k = a.size := by omega
        subst hka
        have hz := diffN_zero (a := sb a) (b := sb b) a.size (by rw [sb_len]; exact Nat.le_refl _) (by rw [sb_len, HL.out]; exact Nat.le_refl _)
        rw [List.take_of_length_le (by rw [sb_len]; exact Nat.le_refl _), List.take_of_length_le (by rw [sb_len, HL.out]; exact Nat.le_refl _)] at hz
        generalize diffN (sb a) (sb b) a.size = D at hz ⊢
        have HZ := Lib.hid hz
        clear hz
        go_wp2_with fail
        go_ret
        refine ⟨?_, q, rfl⟩
        congr 2
        have h1 := HZ.out
        by_cases hD : D = 0
        · rw [decide_eq_true (sb_inj (h1.1 hD)), hD]; rfl
        · rw [decide_eq_false (fun h => hD (h1.2 (by rw [h])))]
          simp; exact hD
  · have hne : ((a.size : Int) != (b.size : Int)) = true := by simp; omega
    have hf : decide (a = b) = false := by simp; rintro rfl; exact hl rfl
    rw [hf]
    clear hf hl
    go_enter Tryd.func27, Tryd.ntmps27
    go_wp2_with fail
    go_ret
    exact BoolRes.mk (k := 0) rfl
end Go.Proofs.YtbfoajfpnfkfnaaDoor
