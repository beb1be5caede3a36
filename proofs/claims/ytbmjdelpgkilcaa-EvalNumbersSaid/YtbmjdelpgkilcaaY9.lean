/-
  The evaluator's operations by the machine: the statement's function returns true.
-/
import Derived.Test.YtbmjdelpgkilcaaY7
set_option linter.unusedVariables false
section
set_option linter.unusedVariables false
set_option linter.unusedSimpArgs false
set_option maxRecDepth 20000
namespace Go.Eng
open Go.Proofs
theorem fn_3 : Try.prog.funcs[3]? = some Try.f3 := by kernel_rfl
theorem q_facts (x y : Int) (hx : Lm x) (hy : Lm y) (h : y ≠ 0) : R0 x y (divR x y) (remR x y) = true ∧ (remR x y ≠ 0 → R1 y (remR x y) = true ∧ R2 y (remR x y) = true) := by
  rw [divR_eq x y hx hy, remR_eq x y hx hy]
  have hk := divF_ok x y hx hy h
  unfold remF
  rw [if_neg h]
  unfold Lm at hx hy
  generalize divF x y = q at hk ⊢
  obtain ⟨_, _, k1, k2, k3, k4⟩ := hk
  constructor
  · unfold R0
    rw [wrap_ok (y * q) ⟨by omega, by omega⟩, wrap_ok _ ⟨by omega, by omega⟩, beq_iff_eq]
    omega
  · intro hr
    have k5 := k4.resolve_left hr
    constructor
    · unfold R1
      rw [beq_iff_eq]
      exact decide_eq_decide.2 k5.1
    · unfold R2 mxI
      rw [wrap_ok (0 - (x - y * q)) ⟨by omega, by omega⟩, wrap_ok (0 - y) ⟨by omega, by omega⟩, decide_eq_true_eq]
      have := k5.2
      split <;> split <;> omega
section
variable {bz2 : EnvT}
theorem main_any (hB : Bas bz2) (n : Nat) (a b : Int) (ha : Sm64 a) (hb : Sm64 b) : Cn bz2 (n + 7) 3 [iT a, iT b] [] = some (.lf (.bool true), []) := by
  obtain ⟨body, hbo⟩ : ∃ c, c = Try.f3.body.getD .skip := ⟨_, rfl⟩
  have hbd : Try.f3.body = some (.seq (seqL (Try.f3.body.getD .skip)) (.seq (seqL (seqR (Try.f3.body.getD .skip))) (.seq (seqL (seqR (seqR (Try.f3.body.getD .skip)))) (seqR (seqR (seqR (Try.f3.body.getD .skip))))))) := by kernel_rfl
  have hc : ∀ x, Sm64 x → ∀ bn hp, absCallF (En bz2 (n + 6)) bn hp 6 [iT x] = some (iT (numF x), hp, 0, 0) := fun x hx bn hp => call_leaf _ _ _ _ _ _ rfl (fun _ => rfl) (fun _ => rfl) (by rw [En_in _ rfl]; exact num_any hB (n + 4) x hx)
  have ca := hc a ha
  have cb := hc b hb
  have lx := numF_lm a
  have ly := numF_lm b
  have e1 : exec Try.prog Mp (En bz2 (n + 6)) 1000000 0 (hz 3) 0 (seqL (Try.f3.body.getD .skip)) ([iT a, iT b] ++ List.replicate (Try.f3.ntmps - [iT a, iT b].length) (.lf undef)) [] = some (.nor, tm1 a b, []) := by kernel_rfl
  generalize numF a = x at ca lx
  generalize numF b = y at cb ly
  have e2 : exec Try.prog Mp (En bz2 (n + 6)) 1000000 0 (hz 3) 0 (seqL (seqR (Try.f3.body.getD .skip))) (tm1 a b) [] = some (.nor, tm2 a b x, hp2 x) := by
    simp only [Try.f3, Option.getD_some, seqR, seqL, tm1, ex_skip, ex_plain, ex_seq, ex_cond, ex_block, ex_scope, ex_loop, ex_exit, ex_label, ex_ret, runS, stepT, wantT, absOp, evT, putT, List.replicate, List.set_cons_zero, List.set_cons_succ, Option.map_some, Bool.false_eq_true, List.length_cons, List.length_nil, List.cons_append, List.nil_append, List.getD_eq_getElem?_getD, List.getElem?_cons_zero, List.getElem?_cons_succ, Option.getD_some, Nat.reduceSub, Nat.reduceAdd, List.append_eq, newM_self, or00, and00, if_pos, nilPt, absLoad, cellsO, srcR, absApp, stT, apT, lnT, rowLen, resL, resV, Nat.zero_and, true_and, and_true, Nat.zero_add, le_self, zero_le_eq, Nat.mul_one, Nat.zero_mul, List.drop_zero, strs_take, strs_app, Bool.and_self, cls_vw, putC, List.take_zero, List.take_succ_cons, List.drop_succ_cons, if_true, List.length_append, Nat.le_add_left, if_false, pure_bin, pure_un, pure_conv, pure_index, pure_len, pure_slice, orE, absCall, List.map_cons, List.map_nil, Array.toList_map, absNilCheck, absExtract, Bool.not_true, Bool.not_false, mp_ok, mp_bn, mp_ban, mp_gl, List.getElem?_toArray, Option.bind_some, beq_self_eq_true, bne_self_eq_false, eq_ft, eq_tf, int00, toNat0, ok_6, ca, bp_25, al_25, st_25]
    rfl
  have e3 : exec Try.prog Mp (En bz2 (n + 6)) 1000000 0 (hz 3) 0 (seqL (seqR (seqR (Try.f3.body.getD .skip)))) (tm2 a b x) (hp2 x) = some (.nor, tm3 a b x y, hp3 x y) := by
    simp only [Try.f3, Option.getD_some, seqR, seqL, tm2, hp2, ex_skip, ex_plain, ex_seq, ex_cond, ex_block, ex_scope, ex_loop, ex_exit, ex_label, ex_ret, runS, stepT, wantT, absOp, evT, putT, List.replicate, List.set_cons_zero, List.set_cons_succ, Option.map_some, Bool.false_eq_true, List.length_cons, List.length_nil, List.cons_append, List.nil_append, List.getD_eq_getElem?_getD, List.getElem?_cons_zero, List.getElem?_cons_succ, Option.getD_some, Nat.reduceSub, Nat.reduceAdd, List.append_eq, newM_self, or00, and00, if_pos, nilPt, absLoad, cellsO, srcR, absApp, stT, apT, lnT, rowLen, resL, resV, Nat.zero_and, true_and, and_true, Nat.zero_add, le_self, zero_le_eq, Nat.mul_one, Nat.zero_mul, List.drop_zero, strs_take, strs_app, Bool.and_self, cls_vw, putC, List.take_zero, List.take_succ_cons, List.drop_succ_cons, if_true, List.length_append, Nat.le_add_left, if_false, pure_bin, pure_un, pure_conv, pure_index, pure_len, pure_slice, orE, absCall, List.map_cons, List.map_nil, Array.toList_map, absNilCheck, absExtract, Bool.not_true, Bool.not_false, mp_ok, mp_bn, mp_ban, mp_gl, List.getElem?_toArray, Option.bind_some, beq_self_eq_true, bne_self_eq_false, eq_ft, eq_tf, int00, toNat0, ok_6, cb, bp_25, al_25, st_25]
    rfl
  rw [Cn_end (n + 6) (hB.1 3 _ _ (by decide)) fn_3 hbd rfl]
  rw [ex_seq, List.length_nil, e1]
  simp only
  rw [ex_seq, e2]
  simp only
  rw [ex_seq, e3]
  simp only
  have b2 := ard_lt a 2 ha (by decide)
  have b3 := ard_lt b 2 hb (by decide)
  have lc : Lm (ard a 2) := ⟨by omega, by omega⟩
  have ld : Lm (ard b 2) := ⟨by omega, by omega⟩
  have s0 := sw_ok 0 (by decide) 0 x 0 y lx ly
  have s2 := sw_ok 2 (by decide) 0 x 0 y lx ly
  have s6 := sw_ok 6 (by decide) 0 x 0 y lx ly
  have s7 := sw_ok 7 (by decide) 1 _ 1 _ lc ld
  have s8 := sw_ok 8 (by decide) 1 _ 1 _ lc ld
  by_cases hy : y = 0
  · have q0 : divR x y = 0 := by unfold divR; rw [if_pos hy]
    have r0 : remR x y = 0 := by unfold remR; rw [if_pos hy]
    exact runC_spec (T3_le hB n) (main_C a b x y) (obl_C a b x y s0 s2 s6 s7 s8 (by rw [hy]; rfl) (by rw [q0]; rfl) (by rw [r0]; rfl))
  · obtain ⟨f0, f1⟩ := q_facts x y lx ly hy
    have hy' : (y == 0) = false := by simpa using hy
    by_cases hr : remR x y = 0
    · exact runC_spec (T3_le hB n) (main_B a b x y) (obl_B a b x y s0 s2 s6 s7 s8 hy' f0 (by rw [hr]; rfl))
    · obtain ⟨f2, f3⟩ := f1 hr
      exact runC_spec (T3_le hB n) (main_A a b x y) (obl_A a b x y s0 s2 s6 s7 s8 hy' f0 (by simpa using hr) f2 f3)
end
end Go.Eng
end
