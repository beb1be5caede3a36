/-
  The evaluator's operations by the machine: the statement's function, whole.
-/
import Derived.Test.YtbmjdelpgkilcaaY8
set_option linter.unusedVariables false
section
set_option linter.unusedVariables false
set_option linter.unusedSimpArgs false
set_option maxRecDepth 20000
namespace Go.Eng
open Go.Proofs
def okO (o : Int) : Bool := o == 0 || o == 2 || o == 3 || o == 4 || o == 6 || o == 7 || o == 8
theorem okO_iff {o : Int} (h : okO o = true) : ((o.toNat : Nat) : Int) = o ∧ (o.toNat = 0 ∨ o.toNat = 2 ∨ o.toNat = 3 ∨ o.toNat = 4 ∨ o.toNat = 6 ∨ o.toNat = 7 ∨ o.toNat = 8) := by
  unfold okO at h
  simp only [Bool.or_eq_true, beq_iff_eq] at h
  omega
def sw (o : Nat) (k x k' x' : Int) : Bool := sameB (opV o k x k' x').1 (opV o k x k' x').2 (opV o k' x' k x).1 (opV o k' x' k x).2
theorem cmpI_sw (a b : Int) : (cmpI a b = 0 ↔ cmpI b a = 0) := by
  unfold cmpI
  repeat' split
  all_goals omega
theorem cmpV_sw (k x k' x' : Int) : (cmpV k x k' x' == 0) = (cmpV k' x' k x == 0) := by
  have h1 := cmpI_sw k k'
  have h2 := cmpI_sw x x'
  have h0 : cmpI 0 0 = 0 := rfl
  unfold cmpV or3
  rw [h0]
  generalize cmpI k k' = a at *
  generalize cmpI k' k = b at *
  generalize cmpI x x' = c at *
  generalize cmpI x' x = d at *
  rw [Bool.eq_iff_iff, beq_iff_eq, beq_iff_eq]
  by_cases p1 : a = 0
  · have q1 := h1.1 p1
    by_cases p2 : c = 0
    · have q2 := h2.1 p2
      simp [p1, p2, q1, q2]
    · have q2 : d ≠ 0 := fun e => p2 (h2.2 e)
      simp [p1, p2, q1, q2]
  · have q1 : b ≠ 0 := fun e => p1 (h1.2 e)
    simp [p1, q1]
theorem addR_sw (a b : Int) (ha : Lm a) (hb : Lm b) : addR a b = addR b a := by
  unfold Lm at ha hb
  unfold addR
  rw [wrap_ok (1099511627776 - b) ⟨by omega, by omega⟩, wrap_ok (-1099511627776 - b) ⟨by omega, by omega⟩, wrap_ok (a + b) ⟨by omega, by omega⟩, wrap_ok (1099511627776 - a) ⟨by omega, by omega⟩, wrap_ok (-1099511627776 - a) ⟨by omega, by omega⟩, wrap_ok (b + a) ⟨by omega, by omega⟩]
  repeat' split
  all_goals omega
theorem sw_true (o : Nat) (k x k' x' : Int) (h : opV o k x k' x' = opV o k' x' k x) : sw o k x k' x' = true := by
  unfold sw
  rw [h]
  exact sameB_refl _ _
theorem sw_ok (o : Nat) (ho : o = 0 ∨ o = 2 ∨ o = 6 ∨ o = 7 ∨ o = 8) (k x k' x' : Int) (ha : Lm x) (hb : Lm x') : sw o k x k' x' = true := by
  refine sw_true o k x k' x' ?_
  rcases ho with rfl | rfl | rfl | rfl | rfl
  · simp only [opV, addR_sw x x' ha hb]
  · simp only [opV, mulF_sym x x' ha hb]
  · simp only [opV, cmpV_sw k x k' x']
  · simp only [opV, Bool.and_comm]
  · simp only [opV, Bool.or_comm]
def T3 : EnvT := fun f args objs => match f, args, objs with
  | 7, [.lf (.int .i64 a), .lf (.int .i64 2)], [] => some (iT (ard a 2), [])
  | 8, [.ag [.lf (.int .i64 k), .lf (.int .i64 x), .lf (.slice none 0 0)], .ag [.lf (.int .i64 k'), .lf (.int .i64 x'), .lf (.slice none 0 0)]], [] => some (.lf (.bool (sameB k x k' x')), [])
  | 9, [.lf (.int .i64 o), .vw 0 3 0 2 false], [.ro 25 3 2 [.lf (.int .i64 k), .lf (.int .i64 x), .lf (.slice none 0 0), .lf (.int .i64 k'), .lf (.int .i64 x'), .lf (.slice none 0 0)] 0] => match okO o with
    | true => some (vT (opV o.toNat k x k' x').1 (opV o.toNat k x k' x').2, [.ro 25 3 2 [iT k, iT x, nilT, iT k', iT x', nilT] 2])
    | false => none
  | 10, [], [] => some (.lf (.bool true), [])
  | _, _, _ => none
def tm1 (a b : Int) : List TV := [iT a, iT b, .lf undef, .lf undef, .lf (.bool false), .lf undef, .lf undef, .lf undef, .lf undef, .lf undef, .lf undef, .lf undef, .lf undef, .lf undef, .lf undef, .lf undef, .lf undef, .lf undef, .lf undef, .lf undef, .lf undef, .lf undef, .lf undef, .lf undef, .lf undef, .lf undef, .lf undef, .lf undef, .lf undef, .lf undef, .lf undef, .lf undef, .lf undef, .lf undef, .lf undef, .lf undef, .lf undef, .lf undef, .lf undef, .lf undef, .lf undef, .lf undef, .lf undef, .lf undef, .lf undef, .lf undef, .lf undef, .lf undef, .lf undef, .lf undef, .lf undef, .lf undef, .lf undef, .lf undef, .lf undef, .lf undef, .lf undef, .lf undef, .lf undef, .lf undef, .lf undef, .lf undef, .lf undef, .lf undef, .lf undef, .lf undef, .lf undef, .lf undef, .lf undef, .lf undef, .lf undef, .lf undef, .lf undef, .lf undef, .lf undef, .lf undef, .lf undef, .lf undef, .lf undef, .lf undef, .lf undef, .lf undef, .lf undef, .lf undef, .lf undef, .lf undef, .lf undef, .lf undef, .lf undef, .lf undef, .lf undef, .lf undef, .lf undef, .lf undef, .lf undef, .lf undef, .lf undef, .lf undef, .lf undef, .lf undef, .lf undef, .lf undef, .lf undef, .lf undef, .lf undef, .lf undef, .lf undef, .lf undef, .lf undef, .lf undef, .lf undef, .lf undef, .lf undef, .lf undef, .lf undef, .lf undef, .lf undef, .lf undef, .lf undef, .lf undef, .lf undef, .lf undef, .lf undef, .lf undef, .lf undef, .lf undef, .lf undef, .lf undef, .lf undef]
def tm2 (a b x : Int) : List TV := [iT a, iT b, .lf undef, .lf undef, .lf (.bool false), .pt 0 0, .lf undef, .lf undef, .lf undef, .lf undef, .lf undef, .lf undef, .lf undef, iT a, iT x, vT 0 x, .lf undef, .lf undef, .lf undef, .lf undef, .lf undef, .lf undef, .lf undef, .lf undef, .lf undef, .lf undef, .lf undef, .lf undef, .lf undef, .lf undef, .lf undef, .lf undef, .lf undef, .lf undef, .lf undef, .lf undef, .lf undef, .lf undef, .lf undef, .lf undef, .lf undef, .lf undef, .lf undef, .lf undef, .lf undef, .lf undef, .lf undef, .lf undef, .lf undef, .lf undef, .lf undef, .lf undef, .lf undef, .lf undef, .lf undef, .lf undef, .lf undef, .lf undef, .lf undef, .lf undef, .lf undef, .lf undef, .lf undef, .lf undef, .lf undef, .lf undef, .lf undef, .lf undef, .lf undef, .lf undef, .lf undef, .lf undef, .lf undef, .lf undef, .lf undef, .lf undef, .lf undef, .lf undef, .lf undef, .lf undef, .lf undef, .lf undef, .lf undef, .lf undef, .lf undef, .lf undef, .lf undef, .lf undef, .lf undef, .lf undef, .lf undef, .lf undef, .lf undef, .lf undef, .lf undef, .lf undef, .lf undef, .lf undef, .lf undef, .lf undef, .lf undef, .lf undef, .lf undef, .lf undef, .lf undef, .lf undef, .lf undef, .lf undef, .lf undef, .lf undef, .lf undef, .lf undef, .lf undef, .lf undef, .lf undef, .lf undef, .lf undef, .lf undef, .lf undef, .lf undef, .lf undef, .lf undef, .lf undef, .lf undef, .lf undef, .lf undef, .lf undef, .lf undef, .lf undef]
def tm3 (a b x y : Int) : List TV := [iT a, iT b, .lf undef, .lf undef, .lf (.bool false), .pt 0 0, .pt 1 0, .lf undef, .lf undef, .lf undef, .lf undef, .lf undef, .lf undef, iT a, iT x, vT 0 x, iT b, iT y, vT 0 y, .lf undef, .lf undef, .lf undef, .lf undef, .lf undef, .lf undef, .lf undef, .lf undef, .lf undef, .lf undef, .lf undef, .lf undef, .lf undef, .lf undef, .lf undef, .lf undef, .lf undef, .lf undef, .lf undef, .lf undef, .lf undef, .lf undef, .lf undef, .lf undef, .lf undef, .lf undef, .lf undef, .lf undef, .lf undef, .lf undef, .lf undef, .lf undef, .lf undef, .lf undef, .lf undef, .lf undef, .lf undef, .lf undef, .lf undef, .lf undef, .lf undef, .lf undef, .lf undef, .lf undef, .lf undef, .lf undef, .lf undef, .lf undef, .lf undef, .lf undef, .lf undef, .lf undef, .lf undef, .lf undef, .lf undef, .lf undef, .lf undef, .lf undef, .lf undef, .lf undef, .lf undef, .lf undef, .lf undef, .lf undef, .lf undef, .lf undef, .lf undef, .lf undef, .lf undef, .lf undef, .lf undef, .lf undef, .lf undef, .lf undef, .lf undef, .lf undef, .lf undef, .lf undef, .lf undef, .lf undef, .lf undef, .lf undef, .lf undef, .lf undef, .lf undef, .lf undef, .lf undef, .lf undef, .lf undef, .lf undef, .lf undef, .lf undef, .lf undef, .lf undef, .lf undef, .lf undef, .lf undef, .lf undef, .lf undef, .lf undef, .lf undef, .lf undef, .lf undef, .lf undef, .lf undef, .lf undef, .lf undef, .lf undef, .lf undef, .lf undef]
def hp2 (x : Int) : List Ob := [.vr 25 [iT 0, iT x, nilT]]
def hp3 (x y : Int) : List Ob := [.vr 25 [iT 0, iT x, nilT], .vr 25 [iT 0, iT y, nilT]]
def R0 (x y q r : Int) : Bool := x == IntKind.i64.wrap (IntKind.i64.wrap (y * q) + r)
def R1 (y r : Int) : Bool := decide (r < 0) == decide (y < 0)
def R2 (y r : Int) : Bool := decide (mxI r (IntKind.i64.wrap (0 - r)) < mxI y (IntKind.i64.wrap (0 - y)))
section
variable {bz2 : EnvT}
theorem T3_le (hB : Bas bz2) (n : Nat) : EnvLe T3 (En bz2 (n + 6)) := fun f args objs r h => by
  unfold T3 at h
  split at h
  · cases h; rw [En_in _ rfl]; exact around_any hB (n + 5) _ 2 (by decide)
  · cases h; rw [En_in _ rfl]; exact same_any hB (n + 4) _ _ _ _
  · split at h
    · rename_i hok
      cases h
      obtain ⟨e1, e2⟩ := okO_iff hok
      have := f9_row hB n _ e2
      rw [e1] at this
      exact this _ _ _ _
    · cases h
  · cases h
    rw [En_in _ rfl]
    unfold Cn
    simp only [hB.2]
  · cases h
theorem main_A (a b x y : Int) : runC Try.prog Mp T3 1000000 0 (hz 3) Try.f3.results.toList (seqR (seqR (seqR (Try.f3.body.getD .skip)))) (tm3 a b x y) (hp3 x y) [none, some false, none, some false, none, some false, none, some false, some false, some false, some false, some false, some false, some false, some false, some false, some false, some false, some false, some false, some true, some true, some true, some false, some false, some false, some false, some false, some false, some false, some true, some true, some true, some true, some true, some true, some true, some true, some true, some true, some true, some false, some true, some true, some false, some true, some true, some true] = some (.lf (.bool true), [], [(.lf (.bool (R2 y (remR x y))), true), (.lf (.bool (R2 y (remR x y))), true), (.lf (.bool (R0 x y (divR x y) (remR x y))), true), (.lf (.bool (R0 x y (divR x y) (remR x y))), true), (.lf (.bool ((remR x y) == 0)), false), (.lf (.bool ((remR x y) == 0)), false), (.lf (.bool (R1 y (remR x y))), true), (.lf (.bool (R1 y (remR x y))), true), (.lf (.bool (R1 y (remR x y))), true), (.lf (.bool (R1 y (remR x y))), true), (.lf (.bool (R1 y (remR x y))), true), (.lf (.bool (R1 y (remR x y))), true), (.lf (.bool (R1 y (remR x y))), true), (.lf (.bool (R1 y (remR x y))), true), (.lf (.bool (R1 y (remR x y))), true), (.lf (.bool (R1 y (remR x y))), true), (.lf (.bool (R1 y (remR x y))), true), (.lf (.bool (R1 y (remR x y))), true), (.lf (.bool ((remR x y) == 0)), false), (.lf (.bool ((remR x y) == 0)), false), (.lf (.bool ((remR x y) == 0)), false), (.lf (.bool ((remR x y) == 0)), false), (.lf (.bool ((remR x y) == 0)), false), (.lf (.bool ((remR x y) == 0)), false), (.lf (.bool ((remR x y) == 0)), false), (.lf (.bool (R0 x y (divR x y) (remR x y))), true), (.lf (.bool (R0 x y (divR x y) (remR x y))), true), (.lf (.bool (R0 x y (divR x y) (remR x y))), true), (.lf (.bool (y == 0)), false), (.lf (.bool (!(sw 8 1 (ard a 2) 1 (ard b 2)))), false), (.lf (.bool (!(sw 7 1 (ard a 2) 1 (ard b 2)))), false), (.lf (.bool (!(sw 7 1 (ard a 2) 1 (ard b 2)))), false), (.lf (.bool (!(sw 7 1 (ard a 2) 1 (ard b 2)))), false), (.lf (.bool (!(sw 7 1 (ard a 2) 1 (ard b 2)))), false), (.lf (.bool (!(sw 7 1 (ard a 2) 1 (ard b 2)))), false), (.lf (.bool (!(sw 7 1 (ard a 2) 1 (ard b 2)))), false), (.lf (.bool (!(sw 7 1 (ard a 2) 1 (ard b 2)))), false), (.lf (.bool (!(sw 7 1 (ard a 2) 1 (ard b 2)))), false), (.lf (.bool (!(sw 7 1 (ard a 2) 1 (ard b 2)))), false), (.lf (.bool (!(sw 7 1 (ard a 2) 1 (ard b 2)))), false), (.lf (.bool (!(sw 7 1 (ard a 2) 1 (ard b 2)))), false), (.lf (.bool (!(sw 6 0 x 0 y))), false), (.lf (.bool (!(sw 2 0 x 0 y))), false), (.lf (.bool (!(sw 0 0 x 0 y))), false)]) := by kernel_rfl
theorem obl_A (a b x y : Int) (h0 : sw 0 0 x 0 y = true) (h2 : sw 2 0 x 0 y = true) (h6 : sw 6 0 x 0 y = true) (h7 : sw 7 1 (ard a 2) 1 (ard b 2) = true) (h8 : sw 8 1 (ard a 2) 1 (ard b 2) = true) (hy : (y == 0) = false) (he : R0 x y (divR x y) (remR x y) = true) (hr : ((remR x y) == 0) = false) (hm : R1 y (remR x y) = true) (hl : R2 y (remR x y) = true) : OblOk [(.lf (.bool (R2 y (remR x y))), true), (.lf (.bool (R2 y (remR x y))), true), (.lf (.bool (R0 x y (divR x y) (remR x y))), true), (.lf (.bool (R0 x y (divR x y) (remR x y))), true), (.lf (.bool ((remR x y) == 0)), false), (.lf (.bool ((remR x y) == 0)), false), (.lf (.bool (R1 y (remR x y))), true), (.lf (.bool (R1 y (remR x y))), true), (.lf (.bool (R1 y (remR x y))), true), (.lf (.bool (R1 y (remR x y))), true), (.lf (.bool (R1 y (remR x y))), true), (.lf (.bool (R1 y (remR x y))), true), (.lf (.bool (R1 y (remR x y))), true), (.lf (.bool (R1 y (remR x y))), true), (.lf (.bool (R1 y (remR x y))), true), (.lf (.bool (R1 y (remR x y))), true), (.lf (.bool (R1 y (remR x y))), true), (.lf (.bool (R1 y (remR x y))), true), (.lf (.bool ((remR x y) == 0)), false), (.lf (.bool ((remR x y) == 0)), false), (.lf (.bool ((remR x y) == 0)), false), (.lf (.bool ((remR x y) == 0)), false), (.lf (.bool ((remR x y) == 0)), false), (.lf (.bool ((remR x y) == 0)), false), (.lf (.bool ((remR x y) == 0)), false), (.lf (.bool (R0 x y (divR x y) (remR x y))), true), (.lf (.bool (R0 x y (divR x y) (remR x y))), true), (.lf (.bool (R0 x y (divR x y) (remR x y))), true), (.lf (.bool (y == 0)), false), (.lf (.bool (!(sw 8 1 (ard a 2) 1 (ard b 2)))), false), (.lf (.bool (!(sw 7 1 (ard a 2) 1 (ard b 2)))), false), (.lf (.bool (!(sw 7 1 (ard a 2) 1 (ard b 2)))), false), (.lf (.bool (!(sw 7 1 (ard a 2) 1 (ard b 2)))), false), (.lf (.bool (!(sw 7 1 (ard a 2) 1 (ard b 2)))), false), (.lf (.bool (!(sw 7 1 (ard a 2) 1 (ard b 2)))), false), (.lf (.bool (!(sw 7 1 (ard a 2) 1 (ard b 2)))), false), (.lf (.bool (!(sw 7 1 (ard a 2) 1 (ard b 2)))), false), (.lf (.bool (!(sw 7 1 (ard a 2) 1 (ard b 2)))), false), (.lf (.bool (!(sw 7 1 (ard a 2) 1 (ard b 2)))), false), (.lf (.bool (!(sw 7 1 (ard a 2) 1 (ard b 2)))), false), (.lf (.bool (!(sw 7 1 (ard a 2) 1 (ard b 2)))), false), (.lf (.bool (!(sw 6 0 x 0 y))), false), (.lf (.bool (!(sw 2 0 x 0 y))), false), (.lf (.bool (!(sw 0 0 x 0 y))), false)] := by
  simp only [h0, h2, h6, h7, h8, hy, he, hr, hm, hl, Bool.not_true]
  repeat' first | exact obl_nil | refine obl_cons rfl ?_
theorem main_B (a b x y : Int) : runC Try.prog Mp T3 1000000 0 (hz 3) Try.f3.results.toList (seqR (seqR (seqR (Try.f3.body.getD .skip)))) (tm3 a b x y) (hp3 x y) [none, some false, none, some false, none, some false, none, some false, some false, some false, some false, some false, some false, some false, some false, some false, some false, some false, some false, some false, some true, some true, some true, some true, some true, some true, some true, some true, some true, some true, some true, some true, some true, some true, none, none] = some (.lf (.bool true), [], [(.lf (.bool (R0 x y (divR x y) (remR x y))), true), (.lf (.bool (R0 x y (divR x y) (remR x y))), true), (.lf (.bool ((remR x y) == 0)), true), (.lf (.bool ((remR x y) == 0)), true), (.lf (.bool ((remR x y) == 0)), true), (.lf (.bool ((remR x y) == 0)), true), (.lf (.bool ((remR x y) == 0)), true), (.lf (.bool ((remR x y) == 0)), true), (.lf (.bool ((remR x y) == 0)), true), (.lf (.bool ((remR x y) == 0)), true), (.lf (.bool ((remR x y) == 0)), true), (.lf (.bool (R0 x y (divR x y) (remR x y))), true), (.lf (.bool (R0 x y (divR x y) (remR x y))), true), (.lf (.bool (R0 x y (divR x y) (remR x y))), true), (.lf (.bool (y == 0)), false), (.lf (.bool (!(sw 8 1 (ard a 2) 1 (ard b 2)))), false), (.lf (.bool (!(sw 7 1 (ard a 2) 1 (ard b 2)))), false), (.lf (.bool (!(sw 7 1 (ard a 2) 1 (ard b 2)))), false), (.lf (.bool (!(sw 7 1 (ard a 2) 1 (ard b 2)))), false), (.lf (.bool (!(sw 7 1 (ard a 2) 1 (ard b 2)))), false), (.lf (.bool (!(sw 7 1 (ard a 2) 1 (ard b 2)))), false), (.lf (.bool (!(sw 7 1 (ard a 2) 1 (ard b 2)))), false), (.lf (.bool (!(sw 7 1 (ard a 2) 1 (ard b 2)))), false), (.lf (.bool (!(sw 7 1 (ard a 2) 1 (ard b 2)))), false), (.lf (.bool (!(sw 7 1 (ard a 2) 1 (ard b 2)))), false), (.lf (.bool (!(sw 7 1 (ard a 2) 1 (ard b 2)))), false), (.lf (.bool (!(sw 7 1 (ard a 2) 1 (ard b 2)))), false), (.lf (.bool (!(sw 6 0 x 0 y))), false), (.lf (.bool (!(sw 2 0 x 0 y))), false), (.lf (.bool (!(sw 0 0 x 0 y))), false)]) := by kernel_rfl
theorem obl_B (a b x y : Int) (h0 : sw 0 0 x 0 y = true) (h2 : sw 2 0 x 0 y = true) (h6 : sw 6 0 x 0 y = true) (h7 : sw 7 1 (ard a 2) 1 (ard b 2) = true) (h8 : sw 8 1 (ard a 2) 1 (ard b 2) = true) (hy : (y == 0) = false) (he : R0 x y (divR x y) (remR x y) = true) (hr : ((remR x y) == 0) = true) : OblOk [(.lf (.bool (R0 x y (divR x y) (remR x y))), true), (.lf (.bool (R0 x y (divR x y) (remR x y))), true), (.lf (.bool ((remR x y) == 0)), true), (.lf (.bool ((remR x y) == 0)), true), (.lf (.bool ((remR x y) == 0)), true), (.lf (.bool ((remR x y) == 0)), true), (.lf (.bool ((remR x y) == 0)), true), (.lf (.bool ((remR x y) == 0)), true), (.lf (.bool ((remR x y) == 0)), true), (.lf (.bool ((remR x y) == 0)), true), (.lf (.bool ((remR x y) == 0)), true), (.lf (.bool (R0 x y (divR x y) (remR x y))), true), (.lf (.bool (R0 x y (divR x y) (remR x y))), true), (.lf (.bool (R0 x y (divR x y) (remR x y))), true), (.lf (.bool (y == 0)), false), (.lf (.bool (!(sw 8 1 (ard a 2) 1 (ard b 2)))), false), (.lf (.bool (!(sw 7 1 (ard a 2) 1 (ard b 2)))), false), (.lf (.bool (!(sw 7 1 (ard a 2) 1 (ard b 2)))), false), (.lf (.bool (!(sw 7 1 (ard a 2) 1 (ard b 2)))), false), (.lf (.bool (!(sw 7 1 (ard a 2) 1 (ard b 2)))), false), (.lf (.bool (!(sw 7 1 (ard a 2) 1 (ard b 2)))), false), (.lf (.bool (!(sw 7 1 (ard a 2) 1 (ard b 2)))), false), (.lf (.bool (!(sw 7 1 (ard a 2) 1 (ard b 2)))), false), (.lf (.bool (!(sw 7 1 (ard a 2) 1 (ard b 2)))), false), (.lf (.bool (!(sw 7 1 (ard a 2) 1 (ard b 2)))), false), (.lf (.bool (!(sw 7 1 (ard a 2) 1 (ard b 2)))), false), (.lf (.bool (!(sw 7 1 (ard a 2) 1 (ard b 2)))), false), (.lf (.bool (!(sw 6 0 x 0 y))), false), (.lf (.bool (!(sw 2 0 x 0 y))), false), (.lf (.bool (!(sw 0 0 x 0 y))), false)] := by
  simp only [h0, h2, h6, h7, h8, hy, he, hr, Bool.not_true]
  repeat' first | exact obl_nil | refine obl_cons rfl ?_
theorem main_C (a b x y : Int) : runC Try.prog Mp T3 1000000 0 (hz 3) Try.f3.results.toList (seqR (seqR (seqR (Try.f3.body.getD .skip)))) (tm3 a b x y) (hp3 x y) [none, some false, none, some false, none, some false, none, some false, some false, some false, some false, some false, some false, some false, some false, some false, some false, some false, some false, some true, some true, some true, some true, some true, some true] = some (.lf (.bool true), [], [(.lf (.bool ((remR x y) == 0)), true), (.lf (.bool ((remR x y) == 0)), true), (.lf (.bool ((divR x y) == 0)), true), (.lf (.bool ((divR x y) == 0)), true), (.lf (.bool ((divR x y) == 0)), true), (.lf (.bool (y == 0)), true), (.lf (.bool (!(sw 8 1 (ard a 2) 1 (ard b 2)))), false), (.lf (.bool (!(sw 7 1 (ard a 2) 1 (ard b 2)))), false), (.lf (.bool (!(sw 7 1 (ard a 2) 1 (ard b 2)))), false), (.lf (.bool (!(sw 7 1 (ard a 2) 1 (ard b 2)))), false), (.lf (.bool (!(sw 7 1 (ard a 2) 1 (ard b 2)))), false), (.lf (.bool (!(sw 7 1 (ard a 2) 1 (ard b 2)))), false), (.lf (.bool (!(sw 7 1 (ard a 2) 1 (ard b 2)))), false), (.lf (.bool (!(sw 7 1 (ard a 2) 1 (ard b 2)))), false), (.lf (.bool (!(sw 7 1 (ard a 2) 1 (ard b 2)))), false), (.lf (.bool (!(sw 7 1 (ard a 2) 1 (ard b 2)))), false), (.lf (.bool (!(sw 7 1 (ard a 2) 1 (ard b 2)))), false), (.lf (.bool (!(sw 7 1 (ard a 2) 1 (ard b 2)))), false), (.lf (.bool (!(sw 6 0 x 0 y))), false), (.lf (.bool (!(sw 2 0 x 0 y))), false), (.lf (.bool (!(sw 0 0 x 0 y))), false)]) := by kernel_rfl
theorem obl_C (a b x y : Int) (h0 : sw 0 0 x 0 y = true) (h2 : sw 2 0 x 0 y = true) (h6 : sw 6 0 x 0 y = true) (h7 : sw 7 1 (ard a 2) 1 (ard b 2) = true) (h8 : sw 8 1 (ard a 2) 1 (ard b 2) = true) (hy : (y == 0) = true) (hq : ((divR x y) == 0) = true) (hr : ((remR x y) == 0) = true) : OblOk [(.lf (.bool ((remR x y) == 0)), true), (.lf (.bool ((remR x y) == 0)), true), (.lf (.bool ((divR x y) == 0)), true), (.lf (.bool ((divR x y) == 0)), true), (.lf (.bool ((divR x y) == 0)), true), (.lf (.bool (y == 0)), true), (.lf (.bool (!(sw 8 1 (ard a 2) 1 (ard b 2)))), false), (.lf (.bool (!(sw 7 1 (ard a 2) 1 (ard b 2)))), false), (.lf (.bool (!(sw 7 1 (ard a 2) 1 (ard b 2)))), false), (.lf (.bool (!(sw 7 1 (ard a 2) 1 (ard b 2)))), false), (.lf (.bool (!(sw 7 1 (ard a 2) 1 (ard b 2)))), false), (.lf (.bool (!(sw 7 1 (ard a 2) 1 (ard b 2)))), false), (.lf (.bool (!(sw 7 1 (ard a 2) 1 (ard b 2)))), false), (.lf (.bool (!(sw 7 1 (ard a 2) 1 (ard b 2)))), false), (.lf (.bool (!(sw 7 1 (ard a 2) 1 (ard b 2)))), false), (.lf (.bool (!(sw 7 1 (ard a 2) 1 (ard b 2)))), false), (.lf (.bool (!(sw 7 1 (ard a 2) 1 (ard b 2)))), false), (.lf (.bool (!(sw 7 1 (ard a 2) 1 (ard b 2)))), false), (.lf (.bool (!(sw 6 0 x 0 y))), false), (.lf (.bool (!(sw 2 0 x 0 y))), false), (.lf (.bool (!(sw 0 0 x 0 y))), false)] := by
  simp only [h0, h2, h6, h7, h8, hy, hq, hr, Bool.not_true]
  repeat' first | exact obl_nil | refine obl_cons rfl ?_
end
end Go.Eng
end
