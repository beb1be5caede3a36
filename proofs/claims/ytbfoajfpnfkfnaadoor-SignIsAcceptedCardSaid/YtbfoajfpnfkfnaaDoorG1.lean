import Derived.Test.YtbfoajfpnfkfnaaDoorH2
set_option linter.unusedVariables false
namespace Go.Proofs.YtbfoajfpnfkfnaaDoor
open Go.RowKit

theorem rr_bits' (x n p q : Nat) (hx : x < 4294967296) (hp : p = 2 ^ (32 - n)) (hq : q = 2 ^ n) : bits .or .u32 ((x : Int) / (q : Int)) (((x : Int) * (p : Int)) % 4294967296) = ((rr x n : Nat) : Int) := by
  subst hp hq
  have e1 : ((x : Int) * ((2 ^ (32 - n) : Nat) : Int)) % 4294967296 = ((x * 2 ^ (32 - n) % 4294967296 : Nat) : Int) := by simp
  have e2 : (x : Int) / ((2 ^ n : Nat) : Int) = ((x / 2 ^ n : Nat) : Int) := by simp
  have h2 : x / 2 ^ n < 4294967296 := Nat.lt_of_le_of_lt (Nat.div_le_self _ _) hx
  rw [e1, e2, u32_or_nat _ _ h2 (Nat.mod_lt _ (by decide)), Nat.or_comm]
  rfl
theorem quiet_more2 {P : Program} {f : FuncId} {args : Array Value} {w : World} {a n : Nat} {v : Value}
    (h : Calls P f args (w.drewN (a + n)) fun e w' => e = .returned v ∧ ∃ m, w' = (w.drewN (a + n)).drewN m) :
    Calls P f args (w.drewN (a + n)) fun e w'' => e = .returned v ∧ ∃ m, w'' = w.drewN (a + m) :=
  h.mono fun _ _ ⟨he, m, hm⟩ => ⟨he, n + m, by rw [hm, World.drewN_drewN, Nat.add_assoc]⟩
set_option maxHeartbeats 400000 in
set_option maxRecDepth 100000 in
theorem ref_rotr2 (x : Nat) (w : World) (hx : x < 4294967296) :
    Calls Tryd.prog 39 #[.int .u32 (x : Int), .int .i64 2] w fun e w' => e = .returned (.int .u32 ((rr x 2 : Nat) : Int)) ∧ ∃ m, w' = w.drewN m := by
  go_enter Tryd.func39, Tryd.ntmps39
  go_wp2_with fail
  go_quiet (fail)
  go_wp2_with fail
  go_ret
  have hr := rr_bits' x 2 1073741824 4 hx rfl rfl
  exact ⟨by rw [← hr]; rfl, _, rfl⟩
set_option maxHeartbeats 400000 in
set_option maxRecDepth 100000 in
theorem ref_rotr6 (x : Nat) (w : World) (hx : x < 4294967296) :
    Calls Tryd.prog 39 #[.int .u32 (x : Int), .int .i64 6] w fun e w' => e = .returned (.int .u32 ((rr x 6 : Nat) : Int)) ∧ ∃ m, w' = w.drewN m := by
  go_enter Tryd.func39, Tryd.ntmps39
  go_wp2_with fail
  go_quiet (fail)
  go_wp2_with fail
  go_ret
  have hr := rr_bits' x 6 67108864 64 hx rfl rfl
  exact ⟨by rw [← hr]; rfl, _, rfl⟩
set_option maxHeartbeats 400000 in
set_option maxRecDepth 100000 in
theorem ref_rotr7 (x : Nat) (w : World) (hx : x < 4294967296) :
    Calls Tryd.prog 39 #[.int .u32 (x : Int), .int .i64 7] w fun e w' => e = .returned (.int .u32 ((rr x 7 : Nat) : Int)) ∧ ∃ m, w' = w.drewN m := by
  go_enter Tryd.func39, Tryd.ntmps39
  go_wp2_with fail
  go_quiet (fail)
  go_wp2_with fail
  go_ret
  have hr := rr_bits' x 7 33554432 128 hx rfl rfl
  exact ⟨by rw [← hr]; rfl, _, rfl⟩
set_option maxHeartbeats 400000 in
set_option maxRecDepth 100000 in
theorem ref_rotr11 (x : Nat) (w : World) (hx : x < 4294967296) :
    Calls Tryd.prog 39 #[.int .u32 (x : Int), .int .i64 11] w fun e w' => e = .returned (.int .u32 ((rr x 11 : Nat) : Int)) ∧ ∃ m, w' = w.drewN m := by
  go_enter Tryd.func39, Tryd.ntmps39
  go_wp2_with fail
  go_quiet (fail)
  go_wp2_with fail
  go_ret
  have hr := rr_bits' x 11 2097152 2048 hx rfl rfl
  exact ⟨by rw [← hr]; rfl, _, rfl⟩
set_option maxHeartbeats 400000 in
set_option maxRecDepth 100000 in
theorem ref_rotr13 (x : Nat) (w : World) (hx : x < 4294967296) :
    Calls Tryd.prog 39 #[.int .u32 (x : Int), .int .i64 13] w fun e w' => e = .returned (.int .u32 ((rr x 13 : Nat) : Int)) ∧ ∃ m, w' = w.drewN m := by
  go_enter Tryd.func39, Tryd.ntmps39
  go_wp2_with fail
  go_quiet (fail)
  go_wp2_with fail
  go_ret
  have hr := rr_bits' x 13 524288 8192 hx rfl rfl
  exact ⟨by rw [← hr]; rfl, _, rfl⟩
set_option maxHeartbeats 400000 in
set_option maxRecDepth 100000 in
theorem ref_rotr17 (x : Nat) (w : World) (hx : x < 4294967296) :
    Calls Tryd.prog 39 #[.int .u32 (x : Int), .int .i64 17] w fun e w' => e = .returned (.int .u32 ((rr x 17 : Nat) : Int)) ∧ ∃ m, w' = w.drewN m := by
  go_enter Tryd.func39, Tryd.ntmps39
  go_wp2_with fail
  go_quiet (fail)
  go_wp2_with fail
  go_ret
  have hr := rr_bits' x 17 32768 131072 hx rfl rfl
  exact ⟨by rw [← hr]; rfl, _, rfl⟩
set_option maxHeartbeats 400000 in
set_option maxRecDepth 100000 in
theorem ref_rotr18 (x : Nat) (w : World) (hx : x < 4294967296) :
    Calls Tryd.prog 39 #[.int .u32 (x : Int), .int .i64 18] w fun e w' => e = .returned (.int .u32 ((rr x 18 : Nat) : Int)) ∧ ∃ m, w' = w.drewN m := by
  go_enter Tryd.func39, Tryd.ntmps39
  go_wp2_with fail
  go_quiet (fail)
  go_wp2_with fail
  go_ret
  have hr := rr_bits' x 18 16384 262144 hx rfl rfl
  exact ⟨by rw [← hr]; rfl, _, rfl⟩
set_option maxHeartbeats 400000 in
set_option maxRecDepth 100000 in
theorem ref_rotr19 (x : Nat) (w : World) (hx : x < 4294967296) :
    Calls Tryd.prog 39 #[.int .u32 (x : Int), .int .i64 19] w fun e w' => e = .returned (.int .u32 ((rr x 19 : Nat) : Int)) ∧ ∃ m, w' = w.drewN m := by
  go_enter Tryd.func39, Tryd.ntmps39
  go_wp2_with fail
  go_quiet (fail)
  go_wp2_with fail
  go_ret
  have hr := rr_bits' x 19 8192 524288 hx rfl rfl
  exact ⟨by rw [← hr]; rfl, _, rfl⟩
set_option maxHeartbeats 400000 in
set_option maxRecDepth 100000 in
theorem ref_rotr22 (x : Nat) (w : World) (hx : x < 4294967296) :
    Calls Tryd.prog 39 #[.int .u32 (x : Int), .int .i64 22] w fun e w' => e = .returned (.int .u32 ((rr x 22 : Nat) : Int)) ∧ ∃ m, w' = w.drewN m := by
  go_enter Tryd.func39, Tryd.ntmps39
  go_wp2_with fail
  go_quiet (fail)
  go_wp2_with fail
  go_ret
  have hr := rr_bits' x 22 1024 4194304 hx rfl rfl
  exact ⟨by rw [← hr]; rfl, _, rfl⟩
set_option maxHeartbeats 400000 in
set_option maxRecDepth 100000 in
theorem ref_rotr25 (x : Nat) (w : World) (hx : x < 4294967296) :
    Calls Tryd.prog 39 #[.int .u32 (x : Int), .int .i64 25] w fun e w' => e = .returned (.int .u32 ((rr x 25 : Nat) : Int)) ∧ ∃ m, w' = w.drewN m := by
  go_enter Tryd.func39, Tryd.ntmps39
  go_wp2_with fail
  go_quiet (fail)
  go_wp2_with fail
  go_ret
  have hr := rr_bits' x 25 128 33554432 hx rfl rfl
  exact ⟨by rw [← hr]; rfl, _, rfl⟩
end Go.Proofs.YtbfoajfpnfkfnaaDoor
