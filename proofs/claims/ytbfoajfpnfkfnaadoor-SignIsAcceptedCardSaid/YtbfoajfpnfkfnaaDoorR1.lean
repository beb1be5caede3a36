import Derived.Test.YtbfoajfpnfkfnaaDoorBase
import Derived.Test.YtbfoajfpnfkfnaaDoorSha
import Derived.Laws.BitsAll
set_option linter.unusedVariables false
namespace Go.Proofs.YtbfoajfpnfkfnaaDoor
open Go.RowKit

theorem rr_bits (x n p q : Nat) (hx : x < 4294967296) (hp : p = 2 ^ (32 - n)) (hq : q = 2 ^ n) : bits .or .u32 (((x : Int) * (p : Int)) % 4294967296) ((x : Int) / (q : Int)) = ((rr x n : Nat) : Int) := by
  subst hp hq
  have e1 : ((x : Int) * ((2 ^ (32 - n) : Nat) : Int)) % 4294967296 = ((x * 2 ^ (32 - n) % 4294967296 : Nat) : Int) := by simp
  have e2 : (x : Int) / ((2 ^ n : Nat) : Int) = ((x / 2 ^ n : Nat) : Int) := by simp
  have h2 : x / 2 ^ n < 4294967296 := Nat.lt_of_le_of_lt (Nat.div_le_self _ _) hx
  rw [e1, e2, u32_or_nat _ _ (Nat.mod_lt _ (by decide)) h2]
  rfl
set_option maxHeartbeats 400000 in
set_option maxRecDepth 100000 in
theorem rol2 (x : Nat) (w : World) (hx : x < 4294967296) :
    Calls Tryd.prog 77 #[.int .u32 (x : Int), .int .i64 (-2)] w fun e w' => e = .returned (.int .u32 ((rr x 2 : Nat) : Int)) ∧ w = w' := by
  have hs : bits BinOp.and IntKind.u64 (IntKind.u64.wrap (-2)) 31 = 30 := by kernel_rfl
  go_enter Tryd.func77, Tryd.ntmps77
  go_wp2_with fail
  go_ret
  have hr := rr_bits x 2 1073741824 4 hx rfl rfl
  exact ⟨by rw [← hr]; rfl, rfl⟩
theorem rotr2 (x : Nat) (w : World) (hx : x < 4294967296) :
    Calls Tryd.prog 74 #[.int .u32 (x : Int), .int .i64 2] w fun e w' => e = .returned (.int .u32 ((rr x 2 : Nat) : Int)) ∧ w = w' := by
  go_enter Tryd.func74, Tryd.ntmps74
  go_wp2_with (go_at_call 77; refine (rol2 x _ hx).mono ?_; rintro e w1 ⟨rfl, rfl⟩)
  go_ret
  exact ⟨rfl, rfl⟩
set_option maxHeartbeats 400000 in
set_option maxRecDepth 100000 in
theorem rol6 (x : Nat) (w : World) (hx : x < 4294967296) :
    Calls Tryd.prog 77 #[.int .u32 (x : Int), .int .i64 (-6)] w fun e w' => e = .returned (.int .u32 ((rr x 6 : Nat) : Int)) ∧ w = w' := by
  have hs : bits BinOp.and IntKind.u64 (IntKind.u64.wrap (-6)) 31 = 26 := by kernel_rfl
  go_enter Tryd.func77, Tryd.ntmps77
  go_wp2_with fail
  go_ret
  have hr := rr_bits x 6 67108864 64 hx rfl rfl
  exact ⟨by rw [← hr]; rfl, rfl⟩
theorem rotr6 (x : Nat) (w : World) (hx : x < 4294967296) :
    Calls Tryd.prog 74 #[.int .u32 (x : Int), .int .i64 6] w fun e w' => e = .returned (.int .u32 ((rr x 6 : Nat) : Int)) ∧ w = w' := by
  go_enter Tryd.func74, Tryd.ntmps74
  go_wp2_with (go_at_call 77; refine (rol6 x _ hx).mono ?_; rintro e w1 ⟨rfl, rfl⟩)
  go_ret
  exact ⟨rfl, rfl⟩
set_option maxHeartbeats 400000 in
set_option maxRecDepth 100000 in
theorem rol7 (x : Nat) (w : World) (hx : x < 4294967296) :
    Calls Tryd.prog 77 #[.int .u32 (x : Int), .int .i64 (-7)] w fun e w' => e = .returned (.int .u32 ((rr x 7 : Nat) : Int)) ∧ w = w' := by
  have hs : bits BinOp.and IntKind.u64 (IntKind.u64.wrap (-7)) 31 = 25 := by kernel_rfl
  go_enter Tryd.func77, Tryd.ntmps77
  go_wp2_with fail
  go_ret
  have hr := rr_bits x 7 33554432 128 hx rfl rfl
  exact ⟨by rw [← hr]; rfl, rfl⟩
theorem rotr7 (x : Nat) (w : World) (hx : x < 4294967296) :
    Calls Tryd.prog 74 #[.int .u32 (x : Int), .int .i64 7] w fun e w' => e = .returned (.int .u32 ((rr x 7 : Nat) : Int)) ∧ w = w' := by
  go_enter Tryd.func74, Tryd.ntmps74
  go_wp2_with (go_at_call 77; refine (rol7 x _ hx).mono ?_; rintro e w1 ⟨rfl, rfl⟩)
  go_ret
  exact ⟨rfl, rfl⟩
set_option maxHeartbeats 400000 in
set_option maxRecDepth 100000 in
theorem rol11 (x : Nat) (w : World) (hx : x < 4294967296) :
    Calls Tryd.prog 77 #[.int .u32 (x : Int), .int .i64 (-11)] w fun e w' => e = .returned (.int .u32 ((rr x 11 : Nat) : Int)) ∧ w = w' := by
  have hs : bits BinOp.and IntKind.u64 (IntKind.u64.wrap (-11)) 31 = 21 := by kernel_rfl
  go_enter Tryd.func77, Tryd.ntmps77
  go_wp2_with fail
  go_ret
  have hr := rr_bits x 11 2097152 2048 hx rfl rfl
  exact ⟨by rw [← hr]; rfl, rfl⟩
theorem rotr11 (x : Nat) (w : World) (hx : x < 4294967296) :
    Calls Tryd.prog 74 #[.int .u32 (x : Int), .int .i64 11] w fun e w' => e = .returned (.int .u32 ((rr x 11 : Nat) : Int)) ∧ w = w' := by
  go_enter Tryd.func74, Tryd.ntmps74
  go_wp2_with (go_at_call 77; refine (rol11 x _ hx).mono ?_; rintro e w1 ⟨rfl, rfl⟩)
  go_ret
  exact ⟨rfl, rfl⟩
set_option maxHeartbeats 400000 in
set_option maxRecDepth 100000 in
theorem rol13 (x : Nat) (w : World) (hx : x < 4294967296) :
    Calls Tryd.prog 77 #[.int .u32 (x : Int), .int .i64 (-13)] w fun e w' => e = .returned (.int .u32 ((rr x 13 : Nat) : Int)) ∧ w = w' := by
  have hs : bits BinOp.and IntKind.u64 (IntKind.u64.wrap (-13)) 31 = 19 := by kernel_rfl
  go_enter Tryd.func77, Tryd.ntmps77
  go_wp2_with fail
  go_ret
  have hr := rr_bits x 13 524288 8192 hx rfl rfl
  exact ⟨by rw [← hr]; rfl, rfl⟩
theorem rotr13 (x : Nat) (w : World) (hx : x < 4294967296) :
    Calls Tryd.prog 74 #[.int .u32 (x : Int), .int .i64 13] w fun e w' => e = .returned (.int .u32 ((rr x 13 : Nat) : Int)) ∧ w = w' := by
  go_enter Tryd.func74, Tryd.ntmps74
  go_wp2_with (go_at_call 77; refine (rol13 x _ hx).mono ?_; rintro e w1 ⟨rfl, rfl⟩)
  go_ret
  exact ⟨rfl, rfl⟩
set_option maxHeartbeats 400000 in
set_option maxRecDepth 100000 in
theorem rol17 (x : Nat) (w : World) (hx : x < 4294967296) :
    Calls Tryd.prog 77 #[.int .u32 (x : Int), .int .i64 (-17)] w fun e w' => e = .returned (.int .u32 ((rr x 17 : Nat) : Int)) ∧ w = w' := by
  have hs : bits BinOp.and IntKind.u64 (IntKind.u64.wrap (-17)) 31 = 15 := by kernel_rfl
  go_enter Tryd.func77, Tryd.ntmps77
  go_wp2_with fail
  go_ret
  have hr := rr_bits x 17 32768 131072 hx rfl rfl
  exact ⟨by rw [← hr]; rfl, rfl⟩
theorem rotr17 (x : Nat) (w : World) (hx : x < 4294967296) :
    Calls Tryd.prog 74 #[.int .u32 (x : Int), .int .i64 17] w fun e w' => e = .returned (.int .u32 ((rr x 17 : Nat) : Int)) ∧ w = w' := by
  go_enter Tryd.func74, Tryd.ntmps74
  go_wp2_with (go_at_call 77; refine (rol17 x _ hx).mono ?_; rintro e w1 ⟨rfl, rfl⟩)
  go_ret
  exact ⟨rfl, rfl⟩
set_option maxHeartbeats 400000 in
set_option maxRecDepth 100000 in
theorem rol18 (x : Nat) (w : World) (hx : x < 4294967296) :
    Calls Tryd.prog 77 #[.int .u32 (x : Int), .int .i64 (-18)] w fun e w' => e = .returned (.int .u32 ((rr x 18 : Nat) : Int)) ∧ w = w' := by
  have hs : bits BinOp.and IntKind.u64 (IntKind.u64.wrap (-18)) 31 = 14 := by kernel_rfl
  go_enter Tryd.func77, Tryd.ntmps77
  go_wp2_with fail
  go_ret
  have hr := rr_bits x 18 16384 262144 hx rfl rfl
  exact ⟨by rw [← hr]; rfl, rfl⟩
theorem rotr18 (x : Nat) (w : World) (hx : x < 4294967296) :
    Calls Tryd.prog 74 #[.int .u32 (x : Int), .int .i64 18] w fun e w' => e = .returned (.int .u32 ((rr x 18 : Nat) : Int)) ∧ w = w' := by
  go_enter Tryd.func74, Tryd.ntmps74
  go_wp2_with (go_at_call 77; refine (rol18 x _ hx).mono ?_; rintro e w1 ⟨rfl, rfl⟩)
  go_ret
  exact ⟨rfl, rfl⟩
set_option maxHeartbeats 400000 in
set_option maxRecDepth 100000 in
theorem rol19 (x : Nat) (w : World) (hx : x < 4294967296) :
    Calls Tryd.prog 77 #[.int .u32 (x : Int), .int .i64 (-19)] w fun e w' => e = .returned (.int .u32 ((rr x 19 : Nat) : Int)) ∧ w = w' := by
  have hs : bits BinOp.and IntKind.u64 (IntKind.u64.wrap (-19)) 31 = 13 := by kernel_rfl
  go_enter Tryd.func77, Tryd.ntmps77
  go_wp2_with fail
  go_ret
  have hr := rr_bits x 19 8192 524288 hx rfl rfl
  exact ⟨by rw [← hr]; rfl, rfl⟩
theorem rotr19 (x : Nat) (w : World) (hx : x < 4294967296) :
    Calls Tryd.prog 74 #[.int .u32 (x : Int), .int .i64 19] w fun e w' => e = .returned (.int .u32 ((rr x 19 : Nat) : Int)) ∧ w = w' := by
  go_enter Tryd.func74, Tryd.ntmps74
  go_wp2_with (go_at_call 77; refine (rol19 x _ hx).mono ?_; rintro e w1 ⟨rfl, rfl⟩)
  go_ret
  exact ⟨rfl, rfl⟩
set_option maxHeartbeats 400000 in
set_option maxRecDepth 100000 in
theorem rol22 (x : Nat) (w : World) (hx : x < 4294967296) :
    Calls Tryd.prog 77 #[.int .u32 (x : Int), .int .i64 (-22)] w fun e w' => e = .returned (.int .u32 ((rr x 22 : Nat) : Int)) ∧ w = w' := by
  have hs : bits BinOp.and IntKind.u64 (IntKind.u64.wrap (-22)) 31 = 10 := by kernel_rfl
  go_enter Tryd.func77, Tryd.ntmps77
  go_wp2_with fail
  go_ret
  have hr := rr_bits x 22 1024 4194304 hx rfl rfl
  exact ⟨by rw [← hr]; rfl, rfl⟩
theorem rotr22 (x : Nat) (w : World) (hx : x < 4294967296) :
    Calls Tryd.prog 74 #[.int .u32 (x : Int), .int .i64 22] w fun e w' => e = .returned (.int .u32 ((rr x 22 : Nat) : Int)) ∧ w = w' := by
  go_enter Tryd.func74, Tryd.ntmps74
  go_wp2_with (go_at_call 77; refine (rol22 x _ hx).mono ?_; rintro e w1 ⟨rfl, rfl⟩)
  go_ret
  exact ⟨rfl, rfl⟩
set_option maxHeartbeats 400000 in
set_option maxRecDepth 100000 in
theorem rol25 (x : Nat) (w : World) (hx : x < 4294967296) :
    Calls Tryd.prog 77 #[.int .u32 (x : Int), .int .i64 (-25)] w fun e w' => e = .returned (.int .u32 ((rr x 25 : Nat) : Int)) ∧ w = w' := by
  have hs : bits BinOp.and IntKind.u64 (IntKind.u64.wrap (-25)) 31 = 7 := by kernel_rfl
  go_enter Tryd.func77, Tryd.ntmps77
  go_wp2_with fail
  go_ret
  have hr := rr_bits x 25 128 33554432 hx rfl rfl
  exact ⟨by rw [← hr]; rfl, rfl⟩
theorem rotr25 (x : Nat) (w : World) (hx : x < 4294967296) :
    Calls Tryd.prog 74 #[.int .u32 (x : Int), .int .i64 25] w fun e w' => e = .returned (.int .u32 ((rr x 25 : Nat) : Int)) ∧ w = w' := by
  go_enter Tryd.func74, Tryd.ntmps74
  go_wp2_with (go_at_call 77; refine (rol25 x _ hx).mono ?_; rintro e w1 ⟨rfl, rfl⟩)
  go_ret
  exact ⟨rfl, rfl⟩
end Go.Proofs.YtbfoajfpnfkfnaaDoor
