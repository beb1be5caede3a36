import Derived.Test.YtbfoajfpnfkfnaaDoorA
set_option linter.unusedVariables false
namespace Go.Proofs.YtbfoajfpnfkfnaaDoor
open Go.RowKit

theorem appendInt_any (base : Nat) (v : Value) (xs : List Nat) (n : Int) (w : World) (hb : base ≤ w.heap.size) (hlo : -9223372036854775808 ≤ n) (hhi : n ≤ 9223372036854775807) (hlen : xs.length + 16 ≤ 140737488355328)
    (hown : OwnB w base v xs) :
    Calls Tryd.prog 70 #[v, .int .i64 n] w fun e w' => ∃ v', e = .returned v' ∧ OwnB w' base v' (xs ++ enc n) ∧ Below base w w' := by
  by_cases h : 0 ≤ n
  · obtain ⟨m, rfl⟩ := Int.eq_ofNat_of_zero_le h
    exact appendInt_pos base v xs m w hb (by omega) hlen hown
  · exact appendInt_neg base v xs (-1 - n).toNat n (by omega) w hb (by omega) hlen hown

theorem appendBytes_any (base : Nat) (v : Value) (xs : List Nat) (s : ByteArray) (w : World) (hb : base ≤ w.heap.size) (hs : s.size ≤ 9223372036854775807) (hlen : xs.length + 16 + s.size ≤ 140737488355328)
    (hown : OwnB w base v xs) :
    Calls Tryd.prog 61 #[v, .string s] w fun e w' => ∃ v', e = .returned v' ∧ OwnB w' base v' (xs ++ (enc s.size ++ sb s)) ∧ Below base w w' := by
  have he := enc_len s.size (by omega)
  go_enter Tryd.func61, Tryd.ntmps61
  go_wp2_with (first
    | (go_at_call 70; refine (appendInt_any base _ xs s.size _ hb (by omega) (by omega) (by omega) hown).mono ?_; rintro e w1 ⟨v1, rfl, hown1, hbel1⟩)
    | (at_builtin; refine wpList_putS hown1 (by have := hbel1.size; omega) (by simp; omega) rfl _ _ rfl rfl rfl ?_; intro v2 w2 hown2 hbel2))
  go_ret
  exact ⟨_, rfl, by simpa using hown2, hbel1.trans hbel2⟩

theorem Bytes_any (s : ByteArray) (w : World) (hs : s.size + 32 ≤ 140737488355328) :
    Calls Tryd.prog 44 #[.string s] w fun e w' => ∃ v', e = .returned v' ∧ OwnB w' w.heap.size v' (enc s.size ++ sb s) ∧ Below w.heap.size w w' := by
  go_enter Tryd.func44, Tryd.ntmps44
  go_wp2_with (go_at_call 61; refine (appendBytes_any w.heap.size _ [] s _ (Nat.le_refl _) (by omega) (by simp; omega) (OwnB.nil _ _)).mono ?_; rintro e w1 ⟨v1, rfl, hown, hbel⟩)
  go_ret
  exact ⟨_, rfl, hown, hbel⟩
end Go.Proofs.YtbfoajfpnfkfnaaDoor
