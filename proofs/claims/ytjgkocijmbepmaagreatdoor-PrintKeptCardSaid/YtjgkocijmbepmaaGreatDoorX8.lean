/- Part of the engine that runs the program by evaluation (X8). No condition of its own. -/
import Derived.Test.YtjgkocijmbepmaaGreatDoorX22
set_option linter.unusedVariables false
section
set_option linter.unusedVariables false
set_option linter.unusedSimpArgs false
namespace Go.Eng
open Go.Proofs
theorem fn_4 : Tryz.prog.funcs[4]? = some Tryz.f4 := by kernel_rfl
theorem ok_4 : okL Tryz.prog 4 = true := by kernel_rfl
section
variable {bz2 : EnvT} (hB : Bas bz2)
noncomputable def bd4 (n : Nat) : List TV → List Ob → XR := bod Tryz.prog Mp (En bz2 n) 1000000 0 (hz 4) 0 ((loop1 (Tryz.f4.body.getD .skip)).getD .skip)
def tm4 (a b : List ByteArray) (j : Nat) : List TV := [.fr 1 (rowS a) false, .fr 1 (rowS b) false, .bad, .bad, .bad, .lf (.int .i64 (j : Int)), .bad, .bad, .bad, .bad, .bad, .bad, .bad, .bad, .bad, .bad, .bad, .bad, .bad, .bad, .bad, .bad, .bad, .bad, .bad, .bad]
theorem rnd_4 (n : Nat) (a b : List ByteArray) (j : Nat) (x y : ByteArray) (hx : a[j]? = some x) (hy : b[j]? = some y) (ha : a.length ≤ 100000) (hxy : x = y) : rnd (clean 0 (hz 4 0)) (bd4 (bz2 := bz2) n) (tm4 a b j) [] = some (.nor, tm4 a b (j + 1), []) := by
  have hj : j < a.length := (List.getElem?_eq_some_iff.1 hx).1
  have hdr := fun {M : Prm} {env : EnvT} {fu n0 : Nat} {hint : Nat → Option Hint} {b : Nat} {tm : List TV} {hp : List Ob} => @ex_drawn_m Tryz.prog M env op4_6 fu n0 hint b 6 tm hp _ da4_6 df4_6 ds4_6
  simp only [op4_6, regOps, Tryz.f4, Option.getD_some, Nat.reduceEqDiff, if_true, if_false] at hdr
  have hd : decide ((j : Int) < (a.length : Int)) = true := decide_eq_true (by omega)
  have hwr : IntKind.i64.wrap ((j : Int) + 1) = ((j + 1 : Nat) : Int) := wrap_nat j 1 (by omega)
  have hA : (rowS a)[j]? = some [.leaf (.string x)] := by rw [rowS_get, hx]; rfl
  have hB : (rowS b)[j]? = some [.leaf (.string y)] := by rw [rowS_get, hy]; rfl
  have he : decide (x = y) = true := decide_eq_true hxy
  unfold bd4 tm4 rnd bod
  simp only [Tryz.f4, Option.getD_some, loop1]
  simp only [ex_skip, ex_plain, ex_seq, ex_cond, ex_block, ex_scope, ex_loop, ex_exit, ex_label, ex_ret, runS, stepT, wantT, absOp, evT, putT, List.replicate, List.set_cons_zero, List.set_cons_succ, Option.map_some, Bool.false_eq_true, List.length_cons, List.length_nil, List.cons_append, List.nil_append, List.getD_eq_getElem?_getD, List.getElem?_cons_zero, List.getElem?_cons_succ, Option.getD_some, Nat.reduceSub, Nat.reduceAdd, List.append_eq, newM_self, or00, and00, if_pos, nilPt, absLoad, cellsO, srcR, absApp, stT, apT, lnT, rowLen, resL, resV, Nat.zero_and, true_and, and_true, Nat.zero_add, le_self, zero_le_eq, Nat.mul_one, Nat.zero_mul, List.drop_zero, strs_take, strs_app, Bool.and_self, cls_vw, putC, List.take_zero, List.take_succ_cons, List.drop_succ_cons, if_true, List.length_append, Nat.le_add_left, if_false, pure_bin, pure_un, pure_conv, pure_index, pure_len, pure_slice, orE, absCall, List.map_cons, List.map_nil, Array.toList_map, absNilCheck, absExtract, Bool.not_true, Bool.not_false, mp_ok, mp_bn, mp_ban, mp_gl, pure_min, List.getElem?_toArray, Option.bind_some, beq_self_eq_true, bne_self_eq_false, eq_ft, eq_tf, int00, toNat0, ln_22, rowS_len, b2_lss_3, hd, hdr]
  clear hdr
  simp only [runM, ex_skip, ex_plain, ex_seq, ex_cond, ex_block, ex_scope, ex_loop, ex_exit, ex_label, ex_ret, runS, stepT, wantT, absOp, evT, putT, List.replicate, List.set_cons_zero, List.set_cons_succ, Option.map_some, Bool.false_eq_true, List.length_cons, List.length_nil, List.cons_append, List.nil_append, List.getD_eq_getElem?_getD, List.getElem?_cons_zero, List.getElem?_cons_succ, Option.getD_some, Nat.reduceSub, Nat.reduceAdd, List.append_eq, newM_self, or00, and00, if_pos, nilPt, absLoad, cellsO, srcR, absApp, stT, apT, lnT, rowLen, resL, resV, Nat.zero_and, true_and, and_true, Nat.zero_add, le_self, zero_le_eq, Nat.mul_one, Nat.zero_mul, List.drop_zero, strs_take, strs_app, Bool.and_self, cls_vw, putC, List.take_zero, List.take_succ_cons, List.drop_succ_cons, if_true, List.length_append, Nat.le_add_left, if_false, pure_bin, pure_un, pure_conv, pure_index, pure_len, pure_slice, orE, absCall, List.map_cons, List.map_nil, Array.toList_map, absNilCheck, absExtract, Bool.not_true, Bool.not_false, mp_ok, mp_bn, mp_ban, mp_gl, pure_min, List.getElem?_toArray, Option.bind_some, beq_self_eq_true, bne_self_eq_false, eq_ft, eq_tf, int00, toNat0, ia_22, nat0, Int.toNat_natCast, hA, hB, ldT_9, unf, bin_nes, he, b2_add_3, hwr, hz, List.all_nil, List.all_cons, confM, Nat.reduceAdd, Nat.zero_and, Nat.and_zero, ne_eq, not_true_eq_false, decide_false, Bool.not_false, Bool.or_false, Bool.and_true]
  simp only [iter, clean, keepT, promote, compact_n, List.contains_cons, Nat.reduceBEq, Bool.or_true, Bool.true_or, Bool.or_false, Bool.false_or, List.contains_nil, Bool.false_eq_true, if_false, if_true, Nat.reduceAdd, List.length_nil, Nat.le_refl, List.map_cons, List.map_nil, idsO, idsL, ids, idsL_strs, List.append_nil, List.nil_append, List.cons_append, Ob.live, Option.isSome_none, Option.isSome_some, lay00, renL, ren]
theorem rnd_4n (n : Nat) (a b : List ByteArray) (j : Nat) (x y : ByteArray) (hx : a[j]? = some x) (hy : b[j]? = some y) (hxy : x ≠ y) : ∃ tm, rnd (clean 0 (hz 4 0)) (bd4 (bz2 := bz2) n) (tm4 a b j) [] = some (.ret, tm, []) ∧ tm[4]? = some (.lf (.bool false)) := by
  have hj : j < a.length := (List.getElem?_eq_some_iff.1 hx).1
  have hdr := fun {M : Prm} {env : EnvT} {fu n0 : Nat} {hint : Nat → Option Hint} {b : Nat} {tm : List TV} {hp : List Ob} => @ex_drawn_m Tryz.prog M env op4_6 fu n0 hint b 6 tm hp _ da4_6 df4_6 ds4_6
  simp only [op4_6, regOps, Tryz.f4, Option.getD_some, Nat.reduceEqDiff, if_true, if_false] at hdr
  have hd : decide ((j : Int) < (a.length : Int)) = true := decide_eq_true (by omega)
  have hA : (rowS a)[j]? = some [.leaf (.string x)] := by rw [rowS_get, hx]; rfl
  have hB : (rowS b)[j]? = some [.leaf (.string y)] := by rw [rowS_get, hy]; rfl
  have he : decide (x = y) = false := decide_eq_false hxy
  unfold bd4 tm4 rnd bod
  simp only [Tryz.f4, Option.getD_some, loop1]
  simp only [ex_skip, ex_plain, ex_seq, ex_cond, ex_block, ex_scope, ex_loop, ex_exit, ex_label, ex_ret, runS, stepT, wantT, absOp, evT, putT, List.replicate, List.set_cons_zero, List.set_cons_succ, Option.map_some, Bool.false_eq_true, List.length_cons, List.length_nil, List.cons_append, List.nil_append, List.getD_eq_getElem?_getD, List.getElem?_cons_zero, List.getElem?_cons_succ, Option.getD_some, Nat.reduceSub, Nat.reduceAdd, List.append_eq, newM_self, or00, and00, if_pos, nilPt, absLoad, cellsO, srcR, absApp, stT, apT, lnT, rowLen, resL, resV, Nat.zero_and, true_and, and_true, Nat.zero_add, le_self, zero_le_eq, Nat.mul_one, Nat.zero_mul, List.drop_zero, strs_take, strs_app, Bool.and_self, cls_vw, putC, List.take_zero, List.take_succ_cons, List.drop_succ_cons, if_true, List.length_append, Nat.le_add_left, if_false, pure_bin, pure_un, pure_conv, pure_index, pure_len, pure_slice, orE, absCall, List.map_cons, List.map_nil, Array.toList_map, absNilCheck, absExtract, Bool.not_true, Bool.not_false, mp_ok, mp_bn, mp_ban, mp_gl, pure_min, List.getElem?_toArray, Option.bind_some, beq_self_eq_true, bne_self_eq_false, eq_ft, eq_tf, int00, toNat0, ln_22, rowS_len, b2_lss_3, hd, hdr]
  clear hdr
  simp only [runM, ex_skip, ex_plain, ex_seq, ex_cond, ex_block, ex_scope, ex_loop, ex_exit, ex_label, ex_ret, runS, stepT, wantT, absOp, evT, putT, List.replicate, List.set_cons_zero, List.set_cons_succ, Option.map_some, Bool.false_eq_true, List.length_cons, List.length_nil, List.cons_append, List.nil_append, List.getD_eq_getElem?_getD, List.getElem?_cons_zero, List.getElem?_cons_succ, Option.getD_some, Nat.reduceSub, Nat.reduceAdd, List.append_eq, newM_self, or00, and00, if_pos, nilPt, absLoad, cellsO, srcR, absApp, stT, apT, lnT, rowLen, resL, resV, Nat.zero_and, true_and, and_true, Nat.zero_add, le_self, zero_le_eq, Nat.mul_one, Nat.zero_mul, List.drop_zero, strs_take, strs_app, Bool.and_self, cls_vw, putC, List.take_zero, List.take_succ_cons, List.drop_succ_cons, if_true, List.length_append, Nat.le_add_left, if_false, pure_bin, pure_un, pure_conv, pure_index, pure_len, pure_slice, orE, absCall, List.map_cons, List.map_nil, Array.toList_map, absNilCheck, absExtract, Bool.not_true, Bool.not_false, mp_ok, mp_bn, mp_ban, mp_gl, pure_min, List.getElem?_toArray, Option.bind_some, beq_self_eq_true, bne_self_eq_false, eq_ft, eq_tf, int00, toNat0, ia_22, nat0, Int.toNat_natCast, hA, hB, ldT_9, unf, bin_nes, he, List.all_nil, List.all_cons, confM, Nat.reduceAdd, Nat.zero_and, Nat.and_zero, ne_eq, not_true_eq_false, decide_false, Bool.not_false, Bool.or_false, Bool.and_true]
  exact ⟨_, rfl, rfl⟩
theorem rnd_4e (n : Nat) (a b : List ByteArray) : ∃ tm, rnd (clean 0 (hz 4 0)) (bd4 (bz2 := bz2) n) (tm4 a b a.length) [] = some (.ext 0, tm, []) ∧ tm.length = 26 := by
  have hd : decide ((a.length : Int) < (a.length : Int)) = false := decide_eq_false (by omega)
  unfold bd4 tm4 rnd bod
  simp only [Tryz.f4, Option.getD_some, loop1]
  simp only [ex_skip, ex_plain, ex_seq, ex_cond, ex_block, ex_scope, ex_loop, ex_exit, ex_label, ex_ret, runS, stepT, wantT, absOp, evT, putT, List.replicate, List.set_cons_zero, List.set_cons_succ, Option.map_some, Bool.false_eq_true, List.length_cons, List.length_nil, List.cons_append, List.nil_append, List.getD_eq_getElem?_getD, List.getElem?_cons_zero, List.getElem?_cons_succ, Option.getD_some, Nat.reduceSub, Nat.reduceAdd, List.append_eq, newM_self, or00, and00, if_pos, nilPt, absLoad, cellsO, srcR, absApp, stT, apT, lnT, rowLen, resL, resV, Nat.zero_and, true_and, and_true, Nat.zero_add, le_self, zero_le_eq, Nat.mul_one, Nat.zero_mul, List.drop_zero, strs_take, strs_app, Bool.and_self, cls_vw, putC, List.take_zero, List.take_succ_cons, List.drop_succ_cons, if_true, List.length_append, Nat.le_add_left, if_false, pure_bin, pure_un, pure_conv, pure_index, pure_len, pure_slice, orE, absCall, List.map_cons, List.map_nil, Array.toList_map, absNilCheck, absExtract, Bool.not_true, Bool.not_false, mp_ok, mp_bn, mp_ban, mp_gl, pure_min, List.getElem?_toArray, Option.bind_some, beq_self_eq_true, bne_self_eq_false, eq_ft, eq_tf, int00, toNat0, ln_22, rowS_len, b2_lss_3, hd]
  exact ⟨_, rfl, rfl⟩
theorem loop_4 (n : Nat) (a b : List ByteArray) (hl : a.length = b.length) (ha : a.length ≤ 100000) : ∀ (k j fu : Nat), k + j = a.length → k < fu →
    if a.drop j = b.drop j then (∃ tm, itc (clean 0 (hz 4 0)) (bd4 (bz2 := bz2) n) fu (tm4 a b j) [] = some (.ext 0, tm, []) ∧ tm.length = 26) else ∃ tm, itc (clean 0 (hz 4 0)) (bd4 (bz2 := bz2) n) fu (tm4 a b j) [] = some (.ret, tm, []) ∧ tm[4]? = some (.lf (.bool false))
  | 0, j, fu + 1, hk, _ => by
    obtain rfl : j = a.length := by omega
    rw [List.drop_length, hl, List.drop_length, if_pos rfl, ← hl]
    obtain ⟨tm, h1, h2⟩ := rnd_4e (bz2 := bz2) n a b
    exact ⟨tm, itc_ext h1, h2⟩
  | k + 1, j, fu + 1, hk, hf => by
    have hj : j < a.length := by omega
    have hx : a[j]? = some (a[j]'hj) := List.getElem?_eq_getElem hj
    have hy : b[j]? = some (b[j]'(by omega)) := List.getElem?_eq_getElem (by omega)
    rw [List.drop_eq_getElem_cons hj, List.drop_eq_getElem_cons (show j < b.length by omega)]
    by_cases hxy : a[j]'hj = b[j]'(by omega)
    · have ih := loop_4 n a b hl ha k (j + 1) fu (by omega) (by omega)
      rw [itc_nor (rnd_4 n a b j _ _ hx hy ha hxy)]
      by_cases hdd : a.drop (j + 1) = b.drop (j + 1)
      · rw [if_pos hdd] at ih
        rw [if_pos (by rw [hxy, hdd])]
        exact ih
      · rw [if_neg hdd] at ih
        rw [if_neg (fun e => hdd (List.cons.inj e).2)]
        exact ih
    · rw [if_neg (fun e => hxy (List.cons.inj e).1)]
      obtain ⟨tm, h1, h2⟩ := rnd_4n (bz2 := bz2) n a b j _ _ hx hy hxy
      exact ⟨tm, itc_ret h1, h2⟩
theorem sameTexts_any (hB : Bas bz2) (n : Nat) (a b : List ByteArray) (ha : a.length ≤ 100000) (hb : b.length ≤ 100000) : Cn bz2 (n + 1) 4 [.fr 1 (rowS a) false, .fr 1 (rowS b) false] [] = some (.lf (.bool (decide (a = b))), []) := by
  rw [Cn_fn n (hB.1 4 _ _ (by decide)) fn_4 rfl rfl]
  by_cases hl : a.length = b.length
  · have hn : ((a.length : Int) != (b.length : Int)) = false := by rw [hl]; simp
    have hL := loop_4 (bz2 := bz2) n a b hl ha a.length 0 1000000 (by omega) (by omega)
    have hcl : clean 0 (hz 4 0) [.fr 1 (rowS a) false, .fr 1 (rowS b) false, .lf undef, .lf undef, .lf (.bool false), .lf (.int .i64 0), .fr 1 (rowS a) false, .lf (.int .i64 (a.length : Int)), .fr 1 (rowS b) false, .lf (.int .i64 (b.length : Int)), .lf (.bool false), .lf undef, .lf undef, .lf undef, .lf undef, .lf undef, .lf undef, .lf undef, .lf undef, .lf undef, .lf undef, .lf undef, .lf undef, .lf undef, .lf undef, .lf undef] [] = some (tm4 a b 0, []) := by
      simp only [hz, iter, clean, keepT, promote, compact_n, List.contains_cons, Nat.reduceBEq, Bool.or_true, Bool.true_or, Bool.or_false, Bool.false_or, List.contains_nil, Bool.false_eq_true, if_false, if_true, Nat.reduceAdd, List.length_nil, Nat.le_refl, List.map_cons, List.map_nil, idsO, idsL, ids, idsL_strs, List.append_nil, List.nil_append, List.cons_append, Ob.live, Option.isSome_none, Option.isSome_some, lay00, renL, ren, tm4, Int.natCast_zero, Int.cast_ofNat_Int]
    simp only [Tryz.f4, ex_skip, ex_plain, ex_seq, ex_cond, ex_block, ex_scope, ex_loop, ex_exit, ex_label, ex_ret, runS, stepT, wantT, absOp, evT, putT, List.replicate, List.set_cons_zero, List.set_cons_succ, Option.map_some, Bool.false_eq_true, List.length_cons, List.length_nil, List.cons_append, List.nil_append, List.getD_eq_getElem?_getD, List.getElem?_cons_zero, List.getElem?_cons_succ, Option.getD_some, Nat.reduceSub, Nat.reduceAdd, List.append_eq, newM_self, or00, and00, if_pos, nilPt, absLoad, cellsO, srcR, absApp, stT, apT, lnT, rowLen, resL, resV, Nat.zero_and, true_and, and_true, Nat.zero_add, le_self, zero_le_eq, Nat.mul_one, Nat.zero_mul, List.drop_zero, strs_take, strs_app, Bool.and_self, cls_vw, putC, List.take_zero, List.take_succ_cons, List.drop_succ_cons, if_true, List.length_append, Nat.le_add_left, if_false, pure_bin, pure_un, pure_conv, pure_index, pure_len, pure_slice, orE, absCall, List.map_cons, List.map_nil, Array.toList_map, absNilCheck, absExtract, Bool.not_true, Bool.not_false, mp_ok, mp_bn, mp_ban, mp_gl, pure_min, List.getElem?_toArray, Option.bind_some, beq_self_eq_true, bne_self_eq_false, eq_ft, eq_tf, int00, toNat0, ln_22, rowS_len, b2_neq_3, hn]
    rw [List.drop_zero, List.drop_zero] at hL
    by_cases hab : a = b
    · rw [if_pos hab] at hL
      obtain ⟨tm, h1, h2⟩ := hL
      have hi := iter_of hcl h1
      simp only [bd4, Tryz.f4, loop1, Option.getD_some] at hi
      have e : (tm.set 4 (.lf (.bool true)))[4]? = some (.lf (.bool true)) := List.getElem?_set_self (by omega)
      simp only [hi, ex_skip, ex_plain, ex_seq, ex_cond, ex_block, ex_scope, ex_loop, ex_exit, ex_label, ex_ret, runS, stepT, wantT, absOp, evT, putT, List.replicate, List.set_cons_zero, List.set_cons_succ, Option.map_some, Bool.false_eq_true, List.length_cons, List.length_nil, List.cons_append, List.nil_append, List.getD_eq_getElem?_getD, List.getElem?_cons_zero, List.getElem?_cons_succ, Option.getD_some, Nat.reduceSub, Nat.reduceAdd, List.append_eq, newM_self, or00, and00, if_pos, nilPt, absLoad, cellsO, srcR, absApp, stT, apT, lnT, rowLen, resL, resV, Nat.zero_and, true_and, and_true, Nat.zero_add, le_self, zero_le_eq, Nat.mul_one, Nat.zero_mul, List.drop_zero, strs_take, strs_app, Bool.and_self, cls_vw, putC, List.take_zero, List.take_succ_cons, List.drop_succ_cons, if_true, List.length_append, Nat.le_add_left, if_false, pure_bin, pure_un, pure_conv, pure_index, pure_len, pure_slice, orE, absCall, List.map_cons, List.map_nil, Array.toList_map, absNilCheck, absExtract, Bool.not_true, Bool.not_false, mp_ok, mp_bn, mp_ban, mp_gl, pure_min, List.getElem?_toArray, Option.bind_some, beq_self_eq_true, bne_self_eq_false, eq_ft, eq_tf, int00, toNat0, e]
      simp only [fin_n, resL, List.map_cons, List.map_nil, idsO, idsL, ids, idsL_strs, List.append_nil, List.nil_append, List.cons_append, Ob.live, Option.isSome_none, Option.isSome_some, lay00, ren, decide_eq_true hab]
    · rw [if_neg hab] at hL
      obtain ⟨tm, h1, h2⟩ := hL
      have hi := iter_of hcl h1
      simp only [bd4, Tryz.f4, loop1, Option.getD_some] at hi
      simp only [hi, ex_skip, ex_plain, ex_seq, ex_cond, ex_block, ex_scope, ex_loop, ex_exit, ex_label, ex_ret, runS, stepT, wantT, absOp, evT, putT, List.replicate, List.set_cons_zero, List.set_cons_succ, Option.map_some, Bool.false_eq_true, List.length_cons, List.length_nil, List.cons_append, List.nil_append, List.getD_eq_getElem?_getD, List.getElem?_cons_zero, List.getElem?_cons_succ, Option.getD_some, Nat.reduceSub, Nat.reduceAdd, List.append_eq, newM_self, or00, and00, if_pos, nilPt, absLoad, cellsO, srcR, absApp, stT, apT, lnT, rowLen, resL, resV, Nat.zero_and, true_and, and_true, Nat.zero_add, le_self, zero_le_eq, Nat.mul_one, Nat.zero_mul, List.drop_zero, strs_take, strs_app, Bool.and_self, cls_vw, putC, List.take_zero, List.take_succ_cons, List.drop_succ_cons, if_true, List.length_append, Nat.le_add_left, if_false, pure_bin, pure_un, pure_conv, pure_index, pure_len, pure_slice, orE, absCall, List.map_cons, List.map_nil, Array.toList_map, absNilCheck, absExtract, Bool.not_true, Bool.not_false, mp_ok, mp_bn, mp_ban, mp_gl, pure_min, List.getElem?_toArray, Option.bind_some, beq_self_eq_true, bne_self_eq_false, eq_ft, eq_tf, int00, toNat0, h2]
      simp only [fin_n, resL, List.map_cons, List.map_nil, idsO, idsL, ids, idsL_strs, List.append_nil, List.nil_append, List.cons_append, Ob.live, Option.isSome_none, Option.isSome_some, lay00, ren, decide_eq_false hab]
  · have hn : ((a.length : Int) != (b.length : Int)) = true := by rw [bne_iff_ne]; omega
    have hab : ¬ a = b := fun e => hl (by rw [e])
    simp only [Tryz.f4, ex_skip, ex_plain, ex_seq, ex_cond, ex_block, ex_scope, ex_loop, ex_exit, ex_label, ex_ret, runS, stepT, wantT, absOp, evT, putT, List.replicate, List.set_cons_zero, List.set_cons_succ, Option.map_some, Bool.false_eq_true, List.length_cons, List.length_nil, List.cons_append, List.nil_append, List.getD_eq_getElem?_getD, List.getElem?_cons_zero, List.getElem?_cons_succ, Option.getD_some, Nat.reduceSub, Nat.reduceAdd, List.append_eq, newM_self, or00, and00, if_pos, nilPt, absLoad, cellsO, srcR, absApp, stT, apT, lnT, rowLen, resL, resV, Nat.zero_and, true_and, and_true, Nat.zero_add, le_self, zero_le_eq, Nat.mul_one, Nat.zero_mul, List.drop_zero, strs_take, strs_app, Bool.and_self, cls_vw, putC, List.take_zero, List.take_succ_cons, List.drop_succ_cons, if_true, List.length_append, Nat.le_add_left, if_false, pure_bin, pure_un, pure_conv, pure_index, pure_len, pure_slice, orE, absCall, List.map_cons, List.map_nil, Array.toList_map, absNilCheck, absExtract, Bool.not_true, Bool.not_false, mp_ok, mp_bn, mp_ban, mp_gl, pure_min, List.getElem?_toArray, Option.bind_some, beq_self_eq_true, bne_self_eq_false, eq_ft, eq_tf, int00, toNat0, ln_22, rowS_len, b2_neq_3, hn]
    simp only [fin_n, resL, List.map_cons, List.map_nil, idsO, idsL, ids, idsL_strs, List.append_nil, List.nil_append, List.cons_append, Ob.live, Option.isSome_none, Option.isSome_some, lay00, ren, decide_eq_false hab]
theorem sameTexts_en (hB : Bas bz2) (n : Nat) (a b : List ByteArray) (ha : a.length ≤ 100000) (hb : b.length ≤ 100000) : En bz2 (n + 1) 4 [.fr 1 (rowS a) false, .fr 1 (rowS b) false] [] = some (.lf (.bool (decide (a = b))), []) :=
  En_frz (n + 1) (f := 4) (ss := [[1], [1]]) rfl rfl rfl (fun _ => rfl) (fun _ => rfl) (sameTexts_any hB n a b ha hb)
end
end Go.Eng
end
