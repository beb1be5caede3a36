/-
  The evaluator's operations by the machine: products, quotients.
-/
import Derived.Test.YtbmjdelpgkilcaaY1
set_option linter.unusedVariables false
section
set_option linter.unusedVariables false
set_option linter.unusedSimpArgs false
set_option maxRecDepth 20000
namespace Go.Eng
open Go.Proofs
theorem fn_121 : Try.prog.funcs[121]? = some Try.f121 := by kernel_rfl
theorem ok_121 : okL Try.prog 121 = true := by kernel_rfl
theorem fn_92 : Try.prog.funcs[92]? = some Try.f92 := by kernel_rfl
theorem ok_92 : okL Try.prog 92 = true := by kernel_rfl
theorem wrapu_ok (a : Int) (h0 : 0 ≤ a) (h1 : a ≤ 18446744073709551615) : IntKind.u64.wrap a = a := by
  simp only [IntKind.wrap, IntKind.signed, IntKind.bits]
  simp
  omega
def andF (a : Int) : Int := IntKind.u64.wrap (BitVec.ofInt 64 a &&& BitVec.ofInt 64 4294967295).toNat
def shF (a : Int) : Int := a.fdiv (2 ^ 32)
def mW (a b : Int) : Int := IntKind.u64.wrap (a * b)
def aW (a b : Int) : Int := IntKind.u64.wrap (a + b)
def hiT (x y : Int) : Int := aW (mW (shF x) (andF y)) (shF (mW (andF x) (andF y)))
def hiF (x y : Int) : Int := aW (aW (mW (shF x) (shF y)) (shF (hiT x y))) (shF (aW (andF (hiT x y)) (mW (andF x) (shF y))))
section
variable {bz2 : EnvT}
theorem mul64_any (hB : Bas bz2) (n : Nat) (x y : Int) : Cn bz2 (n + 1) 121 [uT x, uT y] [] = some (.tu [uT (hiF x y), uT (mW x y)], []) := by
  rw [Cn_fn n (hB.1 121 _ _ (by decide)) fn_121 rfl rfl]
  kernel_rfl
end
theorem andF_eq (a : Int) (h0 : 0 ≤ a) (h1 : a < 18446744073709551616) : andF a = a % 4294967296 := by
  unfold andF
  have e : (BitVec.ofInt 64 a &&& BitVec.ofInt 64 4294967295).toNat = a.toNat % 4294967296 := by
    rw [BitVec.toNat_and, BitVec.toNat_ofInt, BitVec.toNat_ofInt]
    have e1 : (a % ((2 ^ 64 : Nat) : Int)).toNat = a.toNat := by congr 1; omega
    have e2 : ((4294967295 : Int) % ((2 ^ 64 : Nat) : Int)).toNat = 2 ^ 32 - 1 := by decide
    rw [e1, e2, Nat.and_two_pow_sub_one_eq_mod]
  rw [e, wrapu_ok _ (by omega) (by omega)]
  omega
theorem shF_eq (a : Int) (h0 : 0 ≤ a) : shF a = a / 4294967296 := by
  unfold shF
  rw [Int.fdiv_eq_ediv_of_nonneg _ (by decide)]
  rfl
theorem hiF_comm (x y : Int) (hx0 : 0 ≤ x) (hx : x ≤ 1099511627776) (hy0 : 0 ≤ y) (hy : y ≤ 1099511627776) : hiF x y = (x / 4294967296) * (y / 4294967296) + ((x / 4294967296) * (y % 4294967296) + (x % 4294967296) * (y / 4294967296) + (x % 4294967296) * (y % 4294967296) / 4294967296) / 4294967296 := by
  unfold hiF hiT aW mW
  rw [andF_eq x hx0 (by omega), andF_eq y hy0 (by omega), shF_eq x hx0, shF_eq y hy0]
  obtain ⟨x1, hx1⟩ : ∃ x1, x1 = x / 4294967296 := ⟨_, rfl⟩
  obtain ⟨x0, hx2⟩ : ∃ x0, x0 = x % 4294967296 := ⟨_, rfl⟩
  obtain ⟨y1, hy1⟩ : ∃ y1, y1 = y / 4294967296 := ⟨_, rfl⟩
  obtain ⟨y0, hy2⟩ : ∃ y0, y0 = y % 4294967296 := ⟨_, rfl⟩
  rw [← hx1, ← hx2, ← hy1, ← hy2]
  have b1 : 0 ≤ x1 ∧ x1 ≤ 256 := by omega
  have b2 : 0 ≤ x0 ∧ x0 ≤ 4294967295 := by omega
  have b3 : 0 ≤ y1 ∧ y1 ≤ 256 := by omega
  have b4 : 0 ≤ y0 ∧ y0 ≤ 4294967295 := by omega
  have p (a b A B : Int) (ha : 0 ≤ a ∧ a ≤ A) (hb : 0 ≤ b ∧ b ≤ B) : 0 ≤ a * b ∧ a * b ≤ A * B := ⟨Int.mul_nonneg ha.1 hb.1, Int.mul_le_mul ha.2 hb.2 hb.1 (Int.le_trans ha.1 ha.2)⟩
  have p11 := p x1 y1 _ _ b1 b3
  have p10 := p x1 y0 _ _ b1 b4
  have p01 := p x0 y1 _ _ b2 b3
  have p00 := p x0 y0 _ _ b2 b4
  generalize x1 * y1 = q11 at p11 ⊢
  generalize x1 * y0 = q10 at p10 ⊢
  generalize x0 * y1 = q01 at p01 ⊢
  generalize x0 * y0 = q00 at p00 ⊢
  rw [wrapu_ok q10 (by omega) (by omega), wrapu_ok q00 (by omega) (by omega), wrapu_ok q11 (by omega) (by omega), wrapu_ok q01 (by omega) (by omega), shF_eq q00 (by omega)]
  rw [wrapu_ok (q10 + q00 / 4294967296) (by omega) (by omega), shF_eq (q10 + q00 / 4294967296) (by omega), andF_eq (q10 + q00 / 4294967296) (by omega) (by omega)]
  rw [wrapu_ok (q11 + _) (by omega) (by omega), wrapu_ok (_ % _ + q01) (by omega) (by omega), shF_eq _ (by omega), wrapu_ok _ (by omega) (by omega)]
  omega
theorem hiF_sym (x y : Int) (hx0 : 0 ≤ x) (hx : x ≤ 1099511627776) (hy0 : 0 ≤ y) (hy : y ≤ 1099511627776) : hiF x y = hiF y x := by
  rw [hiF_comm x y hx0 hx hy0 hy, hiF_comm y x hy0 hy hx0 hx, Int.mul_comm (y / 4294967296) (x / 4294967296), Int.mul_comm (y / 4294967296) (x % 4294967296), Int.mul_comm (y % 4294967296) (x / 4294967296), Int.mul_comm (y % 4294967296) (x % 4294967296), Int.add_comm (x / 4294967296 * (y % 4294967296))]
theorem mW_sym (x y : Int) : mW x y = mW y x := by unfold mW; rw [Int.mul_comm]
end Go.Eng
end
