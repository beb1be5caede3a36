/-
  The evaluator's operations by the machine: products and quotients of numbers of the language.
-/
import Derived.Test.YtbmjdelpgkilcaaY2
set_option linter.unusedVariables false
section
set_option linter.unusedVariables false
set_option linter.unusedSimpArgs false
set_option maxRecDepth 20000
namespace Go.Eng
open Go.Proofs
def mgF (a : Int) : Int := IntKind.u64.wrap (max a (IntKind.i64.wrap (0 - a)))
theorem mgF_ok (a : Int) (ha : Lm a) : 0 ≤ mgF a ∧ mgF a ≤ 1099511627776 := by
  unfold Lm at ha
  unfold mgF
  rw [wrap_ok (0 - a) ⟨by omega, by omega⟩, wrapu_ok _ (by omega) (by omega)]
  omega
def mulG (sg : Bool) (h l : Int) : Int := if sg = true then IntKind.i64.wrap (0 - (if h = 0 ∧ l < 1099511627776 then IntKind.i64.wrap l else 1099511627776)) else (if h = 0 ∧ l < 1099511627776 then IntKind.i64.wrap l else 1099511627776)
def mulF (a b : Int) : Int := mulG (decide (a < 0) != decide (b < 0)) (hiF (mgF a) (mgF b)) (mW (mgF a) (mgF b))
theorem mulF_sym (a b : Int) (ha : Lm a) (hb : Lm b) : mulF a b = mulF b a := by
  have h1 := mgF_ok a ha
  have h2 := mgF_ok b hb
  unfold mulF
  rw [hiF_sym _ _ h1.1 h1.2 h2.1 h2.2, mW_sym]
  congr 1
  cases decide (a < 0) <;> cases decide (b < 0) <;> rfl
section
variable {bz2 : EnvT}
theorem mul_any (hB : Bas bz2) (n : Nat) (a b : Int) : Cn bz2 (n + 2) 92 [iT a, iT b] [] = some (iT (mulF a b), []) := by
  rw [Cn_fn (n + 1) (hB.1 92 _ _ (by decide)) fn_92 rfl rfl]
  have c1 : ∀ x bn hp, absCallF (En bz2 (n + 1)) bn hp 122 [iT x] = some (uT (mgF x), hp, 0, 0) := fun x bn hp => call_leaf _ _ _ _ _ _ rfl (fun _ => rfl) (fun _ => rfl) (by rw [En_in _ rfl]; exact magn_any hB n x)
  have c2 : ∀ x y bn hp, absCallF (En bz2 (n + 1)) bn hp 121 [uT x, uT y] = some (.tu [uT (hiF x y), uT (mW x y)], hp, 0, 0) := fun x y bn hp => call_leaf _ _ _ _ _ _ rfl (fun _ => rfl) (fun _ => rfl) (by rw [En_in _ rfl]; exact mul64_any hB n x y)
  unfold mulF mulG
  generalize hh : hiF (mgF a) (mgF b) = h
  generalize hl : mW (mgF a) (mgF b) = l
  have k3 : ∀ bn hp, absCallF (En bz2 (n + 1)) bn hp 121 [uT (mgF a), uT (mgF b)] = some (.tu [uT h, uT l], hp, 0, 0) := fun bn hp => by rw [c2, hh, hl]
  clear c2 hh hl
  have n_tt : (true != true) = false := rfl
  have n_tf : (true != false) = true := rfl
  have n_ft : (false != true) = true := rfl
  have n_ff : (false != false) = false := rfl
  have x_f : (false = true) = False := by simp
  by_cases h0 : h = 0
  · have e0 : (h == 0) = true := by simp [h0]
    by_cases l0 : l < 1099511627776
    · have e1 : decide (l < 1099511627776) = true := decide_eq_true l0
      rw [if_pos (show h = 0 ∧ l < 1099511627776 from ⟨h0, l0⟩)]
      cases da : decide (a < 0) <;> cases db : decide (b < 0)
      all_goals
        simp only [Try.f92, ex_skip, ex_plain, ex_seq, ex_cond, ex_block, ex_scope, ex_loop, ex_exit, ex_label, ex_ret, runS, stepT, wantT, absOp, evT, putT, List.replicate, List.set_cons_zero, List.set_cons_succ, Option.map_some, Bool.false_eq_true, List.length_cons, List.length_nil, List.cons_append, List.nil_append, List.getD_eq_getElem?_getD, List.getElem?_cons_zero, List.getElem?_cons_succ, Option.getD_some, Nat.reduceSub, Nat.reduceAdd, List.append_eq, newM_self, or00, and00, if_pos, nilPt, absLoad, cellsO, srcR, absApp, stT, apT, lnT, rowLen, resL, resV, Nat.zero_and, true_and, and_true, Nat.zero_add, le_self, zero_le_eq, Nat.mul_one, Nat.zero_mul, List.drop_zero, strs_take, strs_app, Bool.and_self, cls_vw, putC, List.take_zero, List.take_succ_cons, List.drop_succ_cons, if_true, List.length_append, Nat.le_add_left, if_false, pure_bin, pure_un, pure_conv, pure_index, pure_len, pure_slice, orE, absCall, List.map_cons, List.map_nil, Array.toList_map, absNilCheck, absExtract, Bool.not_true, Bool.not_false, mp_ok, mp_bn, mp_ban, mp_gl, List.getElem?_toArray, Option.bind_some, beq_self_eq_true, bne_self_eq_false, eq_ft, eq_tf, int00, toNat0, ok_122, ok_121, c1, k3, b2_eql_177, e0, b2_lss_177, e1, b2s_i, cv_177_3, b2_lss_3, da, db, b2_neq_4, n_tt, n_tf, n_ft, n_ff, un_neg, x_f]
        simp only [fin_n, List.map_cons, List.map_nil, idsO, idsL, ids, idsL_strs, List.append_nil, List.nil_append, List.cons_append, Ob.live, Option.isSome_none, Option.isSome_some, lay00]
        simp only [renO, renL, ren, renL_strs, idxN, backN, mergeN, List.map_cons, List.map_nil, List.getD_cons_zero, List.getD_cons_succ, List.getD_eq_getElem?_getD, List.getElem?_cons_zero, List.getElem?_cons_succ, Option.getD_some, Nat.reduceEqDiff, Nat.reduceAdd, Nat.reduceBEq, List.length_cons, List.length_nil, List.contains_cons, List.contains_nil, Bool.or_true, Bool.true_or, Bool.or_false, Bool.false_or, Bool.false_eq_true, Nat.zero_testBit, and_self, true_and, false_and, if_true, if_false, List.drop_succ_cons, List.drop_zero, List.drop_nil, Nat.reduceLeDiff, and00, mask, alw, List.foldr_nil, List.filter_nil, Option.map_some, Nat.zero_add, Nat.add_zero, mp_bn, mp_ban]
    · have e1 : decide (l < 1099511627776) = false := decide_eq_false l0
      rw [if_neg (show ¬ (h = 0 ∧ l < 1099511627776) from fun x => l0 x.2)]
      cases da : decide (a < 0) <;> cases db : decide (b < 0)
      all_goals
        simp only [Try.f92, ex_skip, ex_plain, ex_seq, ex_cond, ex_block, ex_scope, ex_loop, ex_exit, ex_label, ex_ret, runS, stepT, wantT, absOp, evT, putT, List.replicate, List.set_cons_zero, List.set_cons_succ, Option.map_some, Bool.false_eq_true, List.length_cons, List.length_nil, List.cons_append, List.nil_append, List.getD_eq_getElem?_getD, List.getElem?_cons_zero, List.getElem?_cons_succ, Option.getD_some, Nat.reduceSub, Nat.reduceAdd, List.append_eq, newM_self, or00, and00, if_pos, nilPt, absLoad, cellsO, srcR, absApp, stT, apT, lnT, rowLen, resL, resV, Nat.zero_and, true_and, and_true, Nat.zero_add, le_self, zero_le_eq, Nat.mul_one, Nat.zero_mul, List.drop_zero, strs_take, strs_app, Bool.and_self, cls_vw, putC, List.take_zero, List.take_succ_cons, List.drop_succ_cons, if_true, List.length_append, Nat.le_add_left, if_false, pure_bin, pure_un, pure_conv, pure_index, pure_len, pure_slice, orE, absCall, List.map_cons, List.map_nil, Array.toList_map, absNilCheck, absExtract, Bool.not_true, Bool.not_false, mp_ok, mp_bn, mp_ban, mp_gl, List.getElem?_toArray, Option.bind_some, beq_self_eq_true, bne_self_eq_false, eq_ft, eq_tf, int00, toNat0, ok_122, ok_121, c1, k3, b2_eql_177, e0, b2_lss_177, e1, b2_lss_3, da, db, b2_neq_4, n_tt, n_tf, n_ft, n_ff, un_neg, x_f]
        simp only [fin_n, List.map_cons, List.map_nil, idsO, idsL, ids, idsL_strs, List.append_nil, List.nil_append, List.cons_append, Ob.live, Option.isSome_none, Option.isSome_some, lay00]
        simp only [renO, renL, ren, renL_strs, idxN, backN, mergeN, List.map_cons, List.map_nil, List.getD_cons_zero, List.getD_cons_succ, List.getD_eq_getElem?_getD, List.getElem?_cons_zero, List.getElem?_cons_succ, Option.getD_some, Nat.reduceEqDiff, Nat.reduceAdd, Nat.reduceBEq, List.length_cons, List.length_nil, List.contains_cons, List.contains_nil, Bool.or_true, Bool.true_or, Bool.or_false, Bool.false_or, Bool.false_eq_true, Nat.zero_testBit, and_self, true_and, false_and, if_true, if_false, List.drop_succ_cons, List.drop_zero, List.drop_nil, Nat.reduceLeDiff, and00, mask, alw, List.foldr_nil, List.filter_nil, Option.map_some, Nat.zero_add, Nat.add_zero, mp_bn, mp_ban]
  · have e0 : (h == 0) = false := by simpa using h0
    rw [if_neg (show ¬ (h = 0 ∧ l < 1099511627776) from fun x => h0 x.1)]
    cases da : decide (a < 0) <;> cases db : decide (b < 0)
    all_goals
      simp only [Try.f92, ex_skip, ex_plain, ex_seq, ex_cond, ex_block, ex_scope, ex_loop, ex_exit, ex_label, ex_ret, runS, stepT, wantT, absOp, evT, putT, List.replicate, List.set_cons_zero, List.set_cons_succ, Option.map_some, Bool.false_eq_true, List.length_cons, List.length_nil, List.cons_append, List.nil_append, List.getD_eq_getElem?_getD, List.getElem?_cons_zero, List.getElem?_cons_succ, Option.getD_some, Nat.reduceSub, Nat.reduceAdd, List.append_eq, newM_self, or00, and00, if_pos, nilPt, absLoad, cellsO, srcR, absApp, stT, apT, lnT, rowLen, resL, resV, Nat.zero_and, true_and, and_true, Nat.zero_add, le_self, zero_le_eq, Nat.mul_one, Nat.zero_mul, List.drop_zero, strs_take, strs_app, Bool.and_self, cls_vw, putC, List.take_zero, List.take_succ_cons, List.drop_succ_cons, if_true, List.length_append, Nat.le_add_left, if_false, pure_bin, pure_un, pure_conv, pure_index, pure_len, pure_slice, orE, absCall, List.map_cons, List.map_nil, Array.toList_map, absNilCheck, absExtract, Bool.not_true, Bool.not_false, mp_ok, mp_bn, mp_ban, mp_gl, List.getElem?_toArray, Option.bind_some, beq_self_eq_true, bne_self_eq_false, eq_ft, eq_tf, int00, toNat0, ok_122, ok_121, c1, k3, b2_eql_177, e0, b2_lss_3, da, db, b2_neq_4, n_tt, n_tf, n_ft, n_ff, un_neg, x_f]
      simp only [fin_n, List.map_cons, List.map_nil, idsO, idsL, ids, idsL_strs, List.append_nil, List.nil_append, List.cons_append, Ob.live, Option.isSome_none, Option.isSome_some, lay00]
      simp only [renO, renL, ren, renL_strs, idxN, backN, mergeN, List.map_cons, List.map_nil, List.getD_cons_zero, List.getD_cons_succ, List.getD_eq_getElem?_getD, List.getElem?_cons_zero, List.getElem?_cons_succ, Option.getD_some, Nat.reduceEqDiff, Nat.reduceAdd, Nat.reduceBEq, List.length_cons, List.length_nil, List.contains_cons, List.contains_nil, Bool.or_true, Bool.true_or, Bool.or_false, Bool.false_or, Bool.false_eq_true, Nat.zero_testBit, and_self, true_and, false_and, if_true, if_false, List.drop_succ_cons, List.drop_zero, List.drop_nil, Nat.reduceLeDiff, and00, mask, alw, List.foldr_nil, List.filter_nil, Option.map_some, Nat.zero_add, Nat.add_zero, mp_bn, mp_ban]
def divF (a b : Int) : Int := if b = 0 then 0 else if a.tmod b ≠ 0 ∧ ¬ (a < 0 ↔ b < 0) then a.tdiv b - 1 else a.tdiv b
theorem divF_ok (a b : Int) (ha : Lm a) (hb : Lm b) (h : b ≠ 0) : -1099511627777 ≤ a.tdiv b ∧ a.tdiv b ≤ 1099511627776 ∧ -4398046511104 ≤ b * divF a b ∧ b * divF a b ≤ 4398046511104 ∧ (-1099511627776 ≤ a - b * divF a b ∧ a - b * divF a b ≤ 1099511627776) ∧ (a - b * divF a b = 0 ∨ ((a - b * divF a b < 0 ↔ b < 0) ∧ max (a - b * divF a b) (-(a - b * divF a b)) < max b (-b))) := by
  unfold Lm at ha hb
  have e := Int.mul_tdiv_add_tmod a b
  have mm : (a.tmod b).natAbs < b.natAbs := by
    rw [Int.natAbs_tmod]
    exact Nat.mod_lt _ (by omega)
  have m1 : a.tmod b < max b (-b) := by omega
  have m2 : -(max b (-b)) < a.tmod b := by omega
  have m3 : 0 ≤ a → 0 ≤ a.tmod b := fun h0 => Int.tmod_nonneg b h0
  have m4 : a ≤ 0 → a.tmod b ≤ 0 := fun h0 => by
    have := Int.tmod_nonneg (a := -a) b (by omega)
    rw [Int.neg_tmod] at this
    omega
  have q1 : max (a.tdiv b) (-(a.tdiv b)) ≤ max a (-a) := by
    have := Int.natAbs_tdiv_le_natAbs a b
    omega
  unfold divF
  rw [if_neg h]
  split
  · rename_i hc
    have e2 : b * (a.tdiv b - 1) = b * a.tdiv b - b := by rw [Int.mul_sub, Int.mul_one]
    rw [e2]
    generalize b * a.tdiv b = p at e ⊢
    generalize a.tdiv b = q at q1 ⊢
    generalize a.tmod b = m at *
    omega
  · rename_i hc
    generalize b * a.tdiv b = p at e ⊢
    generalize a.tdiv b = q at q1 ⊢
    generalize a.tmod b = m at *
    omega
def divR (a b : Int) : Int := if b = 0 then 0 else if a.tmod b ≠ 0 ∧ ¬ (a < 0 ↔ b < 0) then IntKind.i64.wrap (IntKind.i64.wrap (a.tdiv b) - 1) else IntKind.i64.wrap (a.tdiv b)
theorem divR_eq (a b : Int) (ha : Lm a) (hb : Lm b) : divR a b = divF a b := by
  unfold divR divF
  by_cases h : b = 0
  · rw [if_pos h, if_pos h]
  · have hk := divF_ok a b ha hb h
    have w1 : IntKind.i64.wrap (a.tdiv b) = a.tdiv b := wrap_ok _ ⟨by omega, by omega⟩
    have w2 : IntKind.i64.wrap (a.tdiv b - 1) = a.tdiv b - 1 := wrap_ok _ ⟨by omega, by omega⟩
    rw [w1, w2]
theorem div_any (hB : Bas bz2) (n : Nat) (a b : Int) : Cn bz2 (n + 1) 93 [iT a, iT b] [] = some (iT (divR a b), []) := by
  rw [Cn_fn n (hB.1 93 _ _ (by decide)) fn_93 rfl rfl]
  have n_tt : (true != true) = false := rfl
  have n_tf : (true != false) = true := rfl
  have n_ft : (false != true) = true := rfl
  have n_ff : (false != false) = false := rfl
  by_cases h : b = 0
  · have e0 : (b == 0) = true := by simp [h]
    unfold divR
    rw [if_pos h]
    simp only [Try.f93, ex_skip, ex_plain, ex_seq, ex_cond, ex_block, ex_scope, ex_loop, ex_exit, ex_label, ex_ret, runS, stepT, wantT, absOp, evT, putT, List.replicate, List.set_cons_zero, List.set_cons_succ, Option.map_some, Bool.false_eq_true, List.length_cons, List.length_nil, List.cons_append, List.nil_append, List.getD_eq_getElem?_getD, List.getElem?_cons_zero, List.getElem?_cons_succ, Option.getD_some, Nat.reduceSub, Nat.reduceAdd, List.append_eq, newM_self, or00, and00, if_pos, nilPt, absLoad, cellsO, srcR, absApp, stT, apT, lnT, rowLen, resL, resV, Nat.zero_and, true_and, and_true, Nat.zero_add, le_self, zero_le_eq, Nat.mul_one, Nat.zero_mul, List.drop_zero, strs_take, strs_app, Bool.and_self, cls_vw, putC, List.take_zero, List.take_succ_cons, List.drop_succ_cons, if_true, List.length_append, Nat.le_add_left, if_false, pure_bin, pure_un, pure_conv, pure_index, pure_len, pure_slice, orE, absCall, List.map_cons, List.map_nil, Array.toList_map, absNilCheck, absExtract, Bool.not_true, Bool.not_false, mp_ok, mp_bn, mp_ban, mp_gl, List.getElem?_toArray, Option.bind_some, beq_self_eq_true, bne_self_eq_false, eq_ft, eq_tf, int00, toNat0, b2_eql_3, e0]
    simp only [fin_n, List.map_cons, List.map_nil, idsO, idsL, ids, idsL_strs, List.append_nil, List.nil_append, List.cons_append, Ob.live, Option.isSome_none, Option.isSome_some, lay00]
    simp only [renO, renL, ren, renL_strs, idxN, backN, mergeN, List.map_cons, List.map_nil, List.getD_cons_zero, List.getD_cons_succ, List.getD_eq_getElem?_getD, List.getElem?_cons_zero, List.getElem?_cons_succ, Option.getD_some, Nat.reduceEqDiff, Nat.reduceAdd, Nat.reduceBEq, List.length_cons, List.length_nil, List.contains_cons, List.contains_nil, Bool.or_true, Bool.true_or, Bool.or_false, Bool.false_or, Bool.false_eq_true, Nat.zero_testBit, and_self, true_and, false_and, if_true, if_false, List.drop_succ_cons, List.drop_zero, List.drop_nil, Nat.reduceLeDiff, and00, mask, alw, List.foldr_nil, List.filter_nil, Option.map_some, Nat.zero_add, Nat.add_zero, mp_bn, mp_ban]
  · have e0 : (b == 0) = false := by simpa using h
    unfold divR
    rw [if_neg h]
    by_cases hm : a.tmod b = 0
    · have e1 : (a.tmod b != 0) = false := by simp [hm]
      rw [if_neg (fun x => x.1 hm)]
      simp only [Try.f93, ex_skip, ex_plain, ex_seq, ex_cond, ex_block, ex_scope, ex_loop, ex_exit, ex_label, ex_ret, runS, stepT, wantT, absOp, evT, putT, List.replicate, List.set_cons_zero, List.set_cons_succ, Option.map_some, Bool.false_eq_true, List.length_cons, List.length_nil, List.cons_append, List.nil_append, List.getD_eq_getElem?_getD, List.getElem?_cons_zero, List.getElem?_cons_succ, Option.getD_some, Nat.reduceSub, Nat.reduceAdd, List.append_eq, newM_self, or00, and00, if_pos, nilPt, absLoad, cellsO, srcR, absApp, stT, apT, lnT, rowLen, resL, resV, Nat.zero_and, true_and, and_true, Nat.zero_add, le_self, zero_le_eq, Nat.mul_one, Nat.zero_mul, List.drop_zero, strs_take, strs_app, Bool.and_self, cls_vw, putC, List.take_zero, List.take_succ_cons, List.drop_succ_cons, if_true, List.length_append, Nat.le_add_left, if_false, pure_bin, pure_un, pure_conv, pure_index, pure_len, pure_slice, orE, absCall, List.map_cons, List.map_nil, Array.toList_map, absNilCheck, absExtract, Bool.not_true, Bool.not_false, mp_ok, mp_bn, mp_ban, mp_gl, List.getElem?_toArray, Option.bind_some, beq_self_eq_true, bne_self_eq_false, eq_ft, eq_tf, int00, toNat0, b2_eql_3, e0, bin_quo _ _ _ _ _ _ _ _ h, bin_rem _ _ _ _ _ _ _ _ h, b2_neq_3, e1]
      simp only [fin_n, List.map_cons, List.map_nil, idsO, idsL, ids, idsL_strs, List.append_nil, List.nil_append, List.cons_append, Ob.live, Option.isSome_none, Option.isSome_some, lay00]
      simp only [renO, renL, ren, renL_strs, idxN, backN, mergeN, List.map_cons, List.map_nil, List.getD_cons_zero, List.getD_cons_succ, List.getD_eq_getElem?_getD, List.getElem?_cons_zero, List.getElem?_cons_succ, Option.getD_some, Nat.reduceEqDiff, Nat.reduceAdd, Nat.reduceBEq, List.length_cons, List.length_nil, List.contains_cons, List.contains_nil, Bool.or_true, Bool.true_or, Bool.or_false, Bool.false_or, Bool.false_eq_true, Nat.zero_testBit, and_self, true_and, false_and, if_true, if_false, List.drop_succ_cons, List.drop_zero, List.drop_nil, Nat.reduceLeDiff, and00, mask, alw, List.foldr_nil, List.filter_nil, Option.map_some, Nat.zero_add, Nat.add_zero, mp_bn, mp_ban]
    · have e1 : (a.tmod b != 0) = true := by simpa using hm
      cases da : decide (a < 0) <;> cases db : decide (b < 0)
      · rw [if_neg (fun x => x.2 (by simp only [decide_eq_false_iff_not] at da db; omega))]
        simp only [Try.f93, ex_skip, ex_plain, ex_seq, ex_cond, ex_block, ex_scope, ex_loop, ex_exit, ex_label, ex_ret, runS, stepT, wantT, absOp, evT, putT, List.replicate, List.set_cons_zero, List.set_cons_succ, Option.map_some, Bool.false_eq_true, List.length_cons, List.length_nil, List.cons_append, List.nil_append, List.getD_eq_getElem?_getD, List.getElem?_cons_zero, List.getElem?_cons_succ, Option.getD_some, Nat.reduceSub, Nat.reduceAdd, List.append_eq, newM_self, or00, and00, if_pos, nilPt, absLoad, cellsO, srcR, absApp, stT, apT, lnT, rowLen, resL, resV, Nat.zero_and, true_and, and_true, Nat.zero_add, le_self, zero_le_eq, Nat.mul_one, Nat.zero_mul, List.drop_zero, strs_take, strs_app, Bool.and_self, cls_vw, putC, List.take_zero, List.take_succ_cons, List.drop_succ_cons, if_true, List.length_append, Nat.le_add_left, if_false, pure_bin, pure_un, pure_conv, pure_index, pure_len, pure_slice, orE, absCall, List.map_cons, List.map_nil, Array.toList_map, absNilCheck, absExtract, Bool.not_true, Bool.not_false, mp_ok, mp_bn, mp_ban, mp_gl, List.getElem?_toArray, Option.bind_some, beq_self_eq_true, bne_self_eq_false, eq_ft, eq_tf, int00, toNat0, b2_eql_3, e0, bin_quo _ _ _ _ _ _ _ _ h, bin_rem _ _ _ _ _ _ _ _ h, b2_neq_3, e1, b2_lss_3, da, db, b2_neq_4, n_ff]
        simp only [fin_n, List.map_cons, List.map_nil, idsO, idsL, ids, idsL_strs, List.append_nil, List.nil_append, List.cons_append, Ob.live, Option.isSome_none, Option.isSome_some, lay00]
        simp only [renO, renL, ren, renL_strs, idxN, backN, mergeN, List.map_cons, List.map_nil, List.getD_cons_zero, List.getD_cons_succ, List.getD_eq_getElem?_getD, List.getElem?_cons_zero, List.getElem?_cons_succ, Option.getD_some, Nat.reduceEqDiff, Nat.reduceAdd, Nat.reduceBEq, List.length_cons, List.length_nil, List.contains_cons, List.contains_nil, Bool.or_true, Bool.true_or, Bool.or_false, Bool.false_or, Bool.false_eq_true, Nat.zero_testBit, and_self, true_and, false_and, if_true, if_false, List.drop_succ_cons, List.drop_zero, List.drop_nil, Nat.reduceLeDiff, and00, mask, alw, List.foldr_nil, List.filter_nil, Option.map_some, Nat.zero_add, Nat.add_zero, mp_bn, mp_ban]
      · rw [if_pos ⟨hm, by simp only [decide_eq_false_iff_not, decide_eq_true_eq] at da db; omega⟩]
        simp only [Try.f93, ex_skip, ex_plain, ex_seq, ex_cond, ex_block, ex_scope, ex_loop, ex_exit, ex_label, ex_ret, runS, stepT, wantT, absOp, evT, putT, List.replicate, List.set_cons_zero, List.set_cons_succ, Option.map_some, Bool.false_eq_true, List.length_cons, List.length_nil, List.cons_append, List.nil_append, List.getD_eq_getElem?_getD, List.getElem?_cons_zero, List.getElem?_cons_succ, Option.getD_some, Nat.reduceSub, Nat.reduceAdd, List.append_eq, newM_self, or00, and00, if_pos, nilPt, absLoad, cellsO, srcR, absApp, stT, apT, lnT, rowLen, resL, resV, Nat.zero_and, true_and, and_true, Nat.zero_add, le_self, zero_le_eq, Nat.mul_one, Nat.zero_mul, List.drop_zero, strs_take, strs_app, Bool.and_self, cls_vw, putC, List.take_zero, List.take_succ_cons, List.drop_succ_cons, if_true, List.length_append, Nat.le_add_left, if_false, pure_bin, pure_un, pure_conv, pure_index, pure_len, pure_slice, orE, absCall, List.map_cons, List.map_nil, Array.toList_map, absNilCheck, absExtract, Bool.not_true, Bool.not_false, mp_ok, mp_bn, mp_ban, mp_gl, List.getElem?_toArray, Option.bind_some, beq_self_eq_true, bne_self_eq_false, eq_ft, eq_tf, int00, toNat0, b2_eql_3, e0, bin_quo _ _ _ _ _ _ _ _ h, bin_rem _ _ _ _ _ _ _ _ h, b2_neq_3, e1, b2_lss_3, da, db, b2_neq_4, n_ft, b2_sub_3]
        simp only [fin_n, List.map_cons, List.map_nil, idsO, idsL, ids, idsL_strs, List.append_nil, List.nil_append, List.cons_append, Ob.live, Option.isSome_none, Option.isSome_some, lay00]
        simp only [renO, renL, ren, renL_strs, idxN, backN, mergeN, List.map_cons, List.map_nil, List.getD_cons_zero, List.getD_cons_succ, List.getD_eq_getElem?_getD, List.getElem?_cons_zero, List.getElem?_cons_succ, Option.getD_some, Nat.reduceEqDiff, Nat.reduceAdd, Nat.reduceBEq, List.length_cons, List.length_nil, List.contains_cons, List.contains_nil, Bool.or_true, Bool.true_or, Bool.or_false, Bool.false_or, Bool.false_eq_true, Nat.zero_testBit, and_self, true_and, false_and, if_true, if_false, List.drop_succ_cons, List.drop_zero, List.drop_nil, Nat.reduceLeDiff, and00, mask, alw, List.foldr_nil, List.filter_nil, Option.map_some, Nat.zero_add, Nat.add_zero, mp_bn, mp_ban]
      · rw [if_pos ⟨hm, by simp only [decide_eq_false_iff_not, decide_eq_true_eq] at da db; omega⟩]
        simp only [Try.f93, ex_skip, ex_plain, ex_seq, ex_cond, ex_block, ex_scope, ex_loop, ex_exit, ex_label, ex_ret, runS, stepT, wantT, absOp, evT, putT, List.replicate, List.set_cons_zero, List.set_cons_succ, Option.map_some, Bool.false_eq_true, List.length_cons, List.length_nil, List.cons_append, List.nil_append, List.getD_eq_getElem?_getD, List.getElem?_cons_zero, List.getElem?_cons_succ, Option.getD_some, Nat.reduceSub, Nat.reduceAdd, List.append_eq, newM_self, or00, and00, if_pos, nilPt, absLoad, cellsO, srcR, absApp, stT, apT, lnT, rowLen, resL, resV, Nat.zero_and, true_and, and_true, Nat.zero_add, le_self, zero_le_eq, Nat.mul_one, Nat.zero_mul, List.drop_zero, strs_take, strs_app, Bool.and_self, cls_vw, putC, List.take_zero, List.take_succ_cons, List.drop_succ_cons, if_true, List.length_append, Nat.le_add_left, if_false, pure_bin, pure_un, pure_conv, pure_index, pure_len, pure_slice, orE, absCall, List.map_cons, List.map_nil, Array.toList_map, absNilCheck, absExtract, Bool.not_true, Bool.not_false, mp_ok, mp_bn, mp_ban, mp_gl, List.getElem?_toArray, Option.bind_some, beq_self_eq_true, bne_self_eq_false, eq_ft, eq_tf, int00, toNat0, b2_eql_3, e0, bin_quo _ _ _ _ _ _ _ _ h, bin_rem _ _ _ _ _ _ _ _ h, b2_neq_3, e1, b2_lss_3, da, db, b2_neq_4, n_tf, b2_sub_3]
        simp only [fin_n, List.map_cons, List.map_nil, idsO, idsL, ids, idsL_strs, List.append_nil, List.nil_append, List.cons_append, Ob.live, Option.isSome_none, Option.isSome_some, lay00]
        simp only [renO, renL, ren, renL_strs, idxN, backN, mergeN, List.map_cons, List.map_nil, List.getD_cons_zero, List.getD_cons_succ, List.getD_eq_getElem?_getD, List.getElem?_cons_zero, List.getElem?_cons_succ, Option.getD_some, Nat.reduceEqDiff, Nat.reduceAdd, Nat.reduceBEq, List.length_cons, List.length_nil, List.contains_cons, List.contains_nil, Bool.or_true, Bool.true_or, Bool.or_false, Bool.false_or, Bool.false_eq_true, Nat.zero_testBit, and_self, true_and, false_and, if_true, if_false, List.drop_succ_cons, List.drop_zero, List.drop_nil, Nat.reduceLeDiff, and00, mask, alw, List.foldr_nil, List.filter_nil, Option.map_some, Nat.zero_add, Nat.add_zero, mp_bn, mp_ban]
      · rw [if_neg (fun x => x.2 (by simp only [decide_eq_true_eq] at da db; omega))]
        simp only [Try.f93, ex_skip, ex_plain, ex_seq, ex_cond, ex_block, ex_scope, ex_loop, ex_exit, ex_label, ex_ret, runS, stepT, wantT, absOp, evT, putT, List.replicate, List.set_cons_zero, List.set_cons_succ, Option.map_some, Bool.false_eq_true, List.length_cons, List.length_nil, List.cons_append, List.nil_append, List.getD_eq_getElem?_getD, List.getElem?_cons_zero, List.getElem?_cons_succ, Option.getD_some, Nat.reduceSub, Nat.reduceAdd, List.append_eq, newM_self, or00, and00, if_pos, nilPt, absLoad, cellsO, srcR, absApp, stT, apT, lnT, rowLen, resL, resV, Nat.zero_and, true_and, and_true, Nat.zero_add, le_self, zero_le_eq, Nat.mul_one, Nat.zero_mul, List.drop_zero, strs_take, strs_app, Bool.and_self, cls_vw, putC, List.take_zero, List.take_succ_cons, List.drop_succ_cons, if_true, List.length_append, Nat.le_add_left, if_false, pure_bin, pure_un, pure_conv, pure_index, pure_len, pure_slice, orE, absCall, List.map_cons, List.map_nil, Array.toList_map, absNilCheck, absExtract, Bool.not_true, Bool.not_false, mp_ok, mp_bn, mp_ban, mp_gl, List.getElem?_toArray, Option.bind_some, beq_self_eq_true, bne_self_eq_false, eq_ft, eq_tf, int00, toNat0, b2_eql_3, e0, bin_quo _ _ _ _ _ _ _ _ h, bin_rem _ _ _ _ _ _ _ _ h, b2_neq_3, e1, b2_lss_3, da, db, b2_neq_4, n_tt]
        simp only [fin_n, List.map_cons, List.map_nil, idsO, idsL, ids, idsL_strs, List.append_nil, List.nil_append, List.cons_append, Ob.live, Option.isSome_none, Option.isSome_some, lay00]
        simp only [renO, renL, ren, renL_strs, idxN, backN, mergeN, List.map_cons, List.map_nil, List.getD_cons_zero, List.getD_cons_succ, List.getD_eq_getElem?_getD, List.getElem?_cons_zero, List.getElem?_cons_succ, Option.getD_some, Nat.reduceEqDiff, Nat.reduceAdd, Nat.reduceBEq, List.length_cons, List.length_nil, List.contains_cons, List.contains_nil, Bool.or_true, Bool.true_or, Bool.or_false, Bool.false_or, Bool.false_eq_true, Nat.zero_testBit, and_self, true_and, false_and, if_true, if_false, List.drop_succ_cons, List.drop_zero, List.drop_nil, Nat.reduceLeDiff, and00, mask, alw, List.foldr_nil, List.filter_nil, Option.map_some, Nat.zero_add, Nat.add_zero, mp_bn, mp_ban]
def remR (a b : Int) : Int := if b = 0 then 0 else IntKind.i64.wrap (a - IntKind.i64.wrap (b * divR a b))
def remF (a b : Int) : Int := if b = 0 then 0 else a - b * divF a b
theorem remR_eq (a b : Int) (ha : Lm a) (hb : Lm b) : remR a b = remF a b := by
  unfold remR remF
  by_cases h : b = 0
  · rw [if_pos h, if_pos h]
  · have hk := divF_ok a b ha hb h
    rw [if_neg h, if_neg h, divR_eq a b ha hb]
    rw [wrap_ok (b * divF a b) ⟨by omega, by omega⟩, wrap_ok _ ⟨by omega, by omega⟩]
theorem rem_any (hB : Bas bz2) (n : Nat) (a b : Int) : Cn bz2 (n + 2) 94 [iT a, iT b] [] = some (iT (remR a b), []) := by
  rw [Cn_fn (n + 1) (hB.1 94 _ _ (by decide)) fn_94 rfl rfl]
  have c1 : ∀ bn hp, absCallF (En bz2 (n + 1)) bn hp 93 [iT a, iT b] = some (iT (divR a b), hp, 0, 0) := fun bn hp => call_leaf _ _ _ _ _ _ rfl (fun _ => rfl) (fun _ => rfl) (by rw [En_in _ rfl]; exact div_any hB n a b)
  unfold remR
  by_cases h : b = 0
  · have e0 : (b == 0) = true := by simp [h]
    rw [if_pos h]
    simp only [Try.f94, ex_skip, ex_plain, ex_seq, ex_cond, ex_block, ex_scope, ex_loop, ex_exit, ex_label, ex_ret, runS, stepT, wantT, absOp, evT, putT, List.replicate, List.set_cons_zero, List.set_cons_succ, Option.map_some, Bool.false_eq_true, List.length_cons, List.length_nil, List.cons_append, List.nil_append, List.getD_eq_getElem?_getD, List.getElem?_cons_zero, List.getElem?_cons_succ, Option.getD_some, Nat.reduceSub, Nat.reduceAdd, List.append_eq, newM_self, or00, and00, if_pos, nilPt, absLoad, cellsO, srcR, absApp, stT, apT, lnT, rowLen, resL, resV, Nat.zero_and, true_and, and_true, Nat.zero_add, le_self, zero_le_eq, Nat.mul_one, Nat.zero_mul, List.drop_zero, strs_take, strs_app, Bool.and_self, cls_vw, putC, List.take_zero, List.take_succ_cons, List.drop_succ_cons, if_true, List.length_append, Nat.le_add_left, if_false, pure_bin, pure_un, pure_conv, pure_index, pure_len, pure_slice, orE, absCall, List.map_cons, List.map_nil, Array.toList_map, absNilCheck, absExtract, Bool.not_true, Bool.not_false, mp_ok, mp_bn, mp_ban, mp_gl, List.getElem?_toArray, Option.bind_some, beq_self_eq_true, bne_self_eq_false, eq_ft, eq_tf, int00, toNat0, b2_eql_3, e0]
    simp only [fin_n, List.map_cons, List.map_nil, idsO, idsL, ids, idsL_strs, List.append_nil, List.nil_append, List.cons_append, Ob.live, Option.isSome_none, Option.isSome_some, lay00]
    simp only [renO, renL, ren, renL_strs, idxN, backN, mergeN, List.map_cons, List.map_nil, List.getD_cons_zero, List.getD_cons_succ, List.getD_eq_getElem?_getD, List.getElem?_cons_zero, List.getElem?_cons_succ, Option.getD_some, Nat.reduceEqDiff, Nat.reduceAdd, Nat.reduceBEq, List.length_cons, List.length_nil, List.contains_cons, List.contains_nil, Bool.or_true, Bool.true_or, Bool.or_false, Bool.false_or, Bool.false_eq_true, Nat.zero_testBit, and_self, true_and, false_and, if_true, if_false, List.drop_succ_cons, List.drop_zero, List.drop_nil, Nat.reduceLeDiff, and00, mask, alw, List.foldr_nil, List.filter_nil, Option.map_some, Nat.zero_add, Nat.add_zero, mp_bn, mp_ban]
  · have e0 : (b == 0) = false := by simpa using h
    rw [if_neg h]
    simp only [Try.f94, ex_skip, ex_plain, ex_seq, ex_cond, ex_block, ex_scope, ex_loop, ex_exit, ex_label, ex_ret, runS, stepT, wantT, absOp, evT, putT, List.replicate, List.set_cons_zero, List.set_cons_succ, Option.map_some, Bool.false_eq_true, List.length_cons, List.length_nil, List.cons_append, List.nil_append, List.getD_eq_getElem?_getD, List.getElem?_cons_zero, List.getElem?_cons_succ, Option.getD_some, Nat.reduceSub, Nat.reduceAdd, List.append_eq, newM_self, or00, and00, if_pos, nilPt, absLoad, cellsO, srcR, absApp, stT, apT, lnT, rowLen, resL, resV, Nat.zero_and, true_and, and_true, Nat.zero_add, le_self, zero_le_eq, Nat.mul_one, Nat.zero_mul, List.drop_zero, strs_take, strs_app, Bool.and_self, cls_vw, putC, List.take_zero, List.take_succ_cons, List.drop_succ_cons, if_true, List.length_append, Nat.le_add_left, if_false, pure_bin, pure_un, pure_conv, pure_index, pure_len, pure_slice, orE, absCall, List.map_cons, List.map_nil, Array.toList_map, absNilCheck, absExtract, Bool.not_true, Bool.not_false, mp_ok, mp_bn, mp_ban, mp_gl, List.getElem?_toArray, Option.bind_some, beq_self_eq_true, bne_self_eq_false, eq_ft, eq_tf, int00, toNat0, b2_eql_3, e0, ok_93, c1, b2_mul_3, b2_sub_3]
    simp only [fin_n, List.map_cons, List.map_nil, idsO, idsL, ids, idsL_strs, List.append_nil, List.nil_append, List.cons_append, Ob.live, Option.isSome_none, Option.isSome_some, lay00]
    simp only [renO, renL, ren, renL_strs, idxN, backN, mergeN, List.map_cons, List.map_nil, List.getD_cons_zero, List.getD_cons_succ, List.getD_eq_getElem?_getD, List.getElem?_cons_zero, List.getElem?_cons_succ, Option.getD_some, Nat.reduceEqDiff, Nat.reduceAdd, Nat.reduceBEq, List.length_cons, List.length_nil, List.contains_cons, List.contains_nil, Bool.or_true, Bool.true_or, Bool.or_false, Bool.false_or, Bool.false_eq_true, Nat.zero_testBit, and_self, true_and, false_and, if_true, if_false, List.drop_succ_cons, List.drop_zero, List.drop_nil, Nat.reduceLeDiff, and00, mask, alw, List.foldr_nil, List.filter_nil, Option.map_some, Nat.zero_add, Nat.add_zero, mp_bn, mp_ban]
end
end Go.Eng
end
