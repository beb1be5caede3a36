/-
  The evaluator's operations by the machine: comparisons, the operations.
-/
import Derived.Test.YtbmjdelpgkilcaaY3
set_option linter.unusedVariables false
section
set_option linter.unusedVariables false
set_option linter.unusedSimpArgs false
set_option maxRecDepth 20000
namespace Go.Eng
open Go.Proofs
abbrev nilT : TV := .lf (.slice none 0 0)
abbrev vT (k n : Int) : TV := .ag [iT k, iT n, nilT]
abbrev vR (k n k' n' : Int) : TV := .fr 3 [[.leaf (.int .i64 k), .leaf (.int .i64 n), .leaf (.slice none 0 0)], [.leaf (.int .i64 k'), .leaf (.int .i64 n'), .leaf (.slice none 0 0)]] false
def cmpI (a b : Int) : Int := if a < b then -1 else if a > b then 1 else 0
def or3 (a b c : Int) : Int := if a ≠ 0 then a else if b ≠ 0 then b else if c ≠ 0 then c else 0
section
variable {bz2 : EnvT}
theorem nan_any (hB : Bas bz2) (n : Nat) (a : Int) : Cn bz2 (n + 1) 75 [iT a] [] = some (.lf (.bool false), []) := by
  have h : runO Try.prog Mp T0 1000000 hz 75 [iT a] [] [] = some (.lf (.bool (a != a)), [], []) := by kernel_rfl
  have e : (a != a) = false := by simp
  rw [e] at h
  exact Cn_o n (hB.1 75 _ _ (by decide)) rfl (T0_le _) h obl_nil
def T56 : EnvT := fun f args objs => match f, args, objs with
  | 75, [.lf (.int .i64 a)], [] => some (.lf (.bool false), [])
  | _, _, _ => none
theorem T56_le (hB : Bas bz2) (n : Nat) : EnvLe T56 (En bz2 (n + 1)) := fun f args objs r h => by
  unfold T56 at h
  split at h
  · cases h; rw [En_in _ rfl]; exact nan_any hB n _
  · cases h
theorem cmp_any (hB : Bas bz2) (n : Nat) (a b : Int) : Cn bz2 (n + 2) 56 [iT a, iT b] [] = some (iT (cmpI a b), []) := by
  have h1 : runO Try.prog Mp T56 1000000 hz 56 [iT a, iT b] [] [none, none, some true] = some (iT (-1), [], [(.lf (.bool (decide (a < b))), true)]) := by kernel_rfl
  have h2 : runO Try.prog Mp T56 1000000 hz 56 [iT a, iT b] [] [none, none, some false, some true] = some (iT 1, [], [(.lf (.bool (decide (b < a))), true), (.lf (.bool (decide (a < b))), false)]) := by kernel_rfl
  have h3 : runO Try.prog Mp T56 1000000 hz 56 [iT a, iT b] [] [none, none, some false, some false] = some (iT 0, [], [(.lf (.bool (decide (b < a))), false), (.lf (.bool (decide (a < b))), false)]) := by kernel_rfl
  unfold cmpI
  by_cases p1 : a < b
  · rw [if_pos p1]
    exact Cn_o (n + 1) (hB.1 56 _ _ (by decide)) rfl (T56_le hB n) h1 (obl_cons (by rw [decide_eq_true p1]) obl_nil)
  · rw [if_neg p1]
    by_cases p2 : b < a
    · rw [if_pos p2]
      exact Cn_o (n + 1) (hB.1 56 _ _ (by decide)) rfl (T56_le hB n) h2 (obl_cons (by rw [decide_eq_true p2]) (obl_cons (by rw [decide_eq_false p1]) obl_nil))
    · rw [if_neg p2]
      exact Cn_o (n + 1) (hB.1 56 _ _ (by decide)) rfl (T56_le hB n) h3 (obl_cons (by rw [decide_eq_false p2]) (obl_cons (by rw [decide_eq_false p1]) obl_nil))
theorem or_any (hB : Bas bz2) (n : Nat) (a b c : Int) : Cn bz2 (n + 1) 55 [.vw 0 1 0 3 false] [.ro 3 1 3 [iT a, iT b, iT c] 0] = some (iT (or3 a b c), [.ro 3 1 3 [iT a, iT b, iT c] 0]) := by
  have h1 : runO Try.prog Mp T0 1000000 hz 55 [.vw 0 1 0 3 false] [.ro 3 1 3 [iT a, iT b, iT c] 0] [none, some true] = some (iT a, [.ro 3 1 3 [iT a, iT b, iT c] 0], [(.lf (.bool (a != 0)), true)]) := by kernel_rfl
  have h2 : runO Try.prog Mp T0 1000000 hz 55 [.vw 0 1 0 3 false] [.ro 3 1 3 [iT a, iT b, iT c] 0] [none, some false, none, some true] = some (iT b, [.ro 3 1 3 [iT a, iT b, iT c] 0], [(.lf (.bool (b != 0)), true), (.lf (.bool (a != 0)), false)]) := by kernel_rfl
  have h3 : runO Try.prog Mp T0 1000000 hz 55 [.vw 0 1 0 3 false] [.ro 3 1 3 [iT a, iT b, iT c] 0] [none, some false, none, some false, none, some true] = some (iT c, [.ro 3 1 3 [iT a, iT b, iT c] 0], [(.lf (.bool (c != 0)), true), (.lf (.bool (b != 0)), false), (.lf (.bool (a != 0)), false)]) := by kernel_rfl
  have h4 : runO Try.prog Mp T0 1000000 hz 55 [.vw 0 1 0 3 false] [.ro 3 1 3 [iT a, iT b, iT c] 0] [none, some false, none, some false, none, some false] = some (iT 0, [.ro 3 1 3 [iT a, iT b, iT c] 0], [(.lf (.bool (c != 0)), false), (.lf (.bool (b != 0)), false), (.lf (.bool (a != 0)), false)]) := by kernel_rfl
  have t {x : Int} (h : x ≠ 0) : TV.lf (.bool (x != 0)) = .lf (.bool true) := by simp [h]
  have f {x : Int} (h : ¬ x ≠ 0) : TV.lf (.bool (x != 0)) = .lf (.bool false) := by
    have : x = 0 := by omega
    simp [this]
  unfold or3
  by_cases p1 : a ≠ 0
  · rw [if_pos p1]
    exact Cn_o n (hB.1 55 _ _ (by decide)) rfl (T0_le _) h1 (obl_cons (t p1) obl_nil)
  · rw [if_neg p1]
    by_cases p2 : b ≠ 0
    · rw [if_pos p2]
      exact Cn_o n (hB.1 55 _ _ (by decide)) rfl (T0_le _) h2 (obl_cons (t p2) (obl_cons (f p1) obl_nil))
    · rw [if_neg p2]
      by_cases p3 : c ≠ 0
      · rw [if_pos p3]
        exact Cn_o n (hB.1 55 _ _ (by decide)) rfl (T0_le _) h3 (obl_cons (t p3) (obl_cons (f p2) (obl_cons (f p1) obl_nil)))
      · rw [if_neg p3]
        exact Cn_o n (hB.1 55 _ _ (by decide)) rfl (T0_le _) h4 (obl_cons (f p3) (obl_cons (f p2) (obl_cons (f p1) obl_nil)))
theorem cfn_any (hB : Bas bz2) (n : Nat) : Cn bz2 (n + 1) 57 [nilT, nilT, .fn 58 [] []] [] = some (iT 0, []) := by
  have h : runO Try.prog Mp T0 1000000 hz 57 [nilT, nilT, .fn 58 [] []] [] [] = some (iT 0, [], []) := by kernel_rfl
  exact Cn_o n (hB.1 57 _ _ (by decide)) rfl (T0_le _) h obl_nil
def T58 : EnvT := fun f args objs => match f, args, objs with
  | 56, [.lf (.int .i64 a), .lf (.int .i64 b)], [] => some (iT (cmpI a b), [])
  | 55, [.vw 0 1 0 3 false], [.ro 3 1 3 [.lf (.int .i64 a), .lf (.int .i64 b), .lf (.int .i64 c)] 0] => some (iT (or3 a b c), [.ro 3 1 3 [iT a, iT b, iT c] 0])
  | 57, [.lf (.slice none 0 0), .lf (.slice none 0 0), .fn 58 [] []], [] => some (iT 0, [])
  | _, _, _ => none
theorem T58_le (hB : Bas bz2) (n : Nat) : EnvLe T58 (En bz2 (n + 2)) := fun f args objs r h => by
  unfold T58 at h
  split at h
  · cases h; rw [En_in _ rfl]; exact cmp_any hB n _ _
  · cases h; rw [En_in _ rfl]; exact or_any hB (n + 1) _ _ _
  · cases h; rw [En_in _ rfl]; exact cfn_any hB (n + 1)
  · cases h
def cmpV (k n k' n' : Int) : Int := or3 (cmpI k k') (cmpI n n') (cmpI 0 0)
theorem vcmp_any (hB : Bas bz2) (n : Nat) (k x k' x' : Int) : Cn bz2 (n + 3) 58 [vT k x, vT k' x'] [] = some (iT (cmpV k x k' x'), []) := by
  have h1 : runO Try.prog Mp T58 1000000 hz 58 [vT k x, vT k' x'] [] [some true] = some (iT (cmpV k x k' x'), [], [(.lf (.bool (cmpV k x k' x' != 0)), true)]) := by kernel_rfl
  have h2 : runO Try.prog Mp T58 1000000 hz 58 [vT k x, vT k' x'] [] [some false] = some (iT 0, [], [(.lf (.bool (cmpV k x k' x' != 0)), false)]) := by kernel_rfl
  generalize cmpV k x k' x' = c at h1 h2 ⊢
  by_cases p : c = 0
  · subst p
    exact Cn_o (n + 2) (hB.1 58 _ _ (by decide)) rfl (T58_le hB n) h2 (obl_cons rfl obl_nil)
  · exact Cn_o (n + 2) (hB.1 58 _ _ (by decide)) rfl (T58_le hB n) h1 (obl_cons (by simp [p]) obl_nil)
end
end Go.Eng
end
