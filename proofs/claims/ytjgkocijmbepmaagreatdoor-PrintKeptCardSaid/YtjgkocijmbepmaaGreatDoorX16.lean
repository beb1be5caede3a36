/- Part of the engine that runs the program by evaluation (X16). No condition of its own. -/
import Derived.Test.YtjgkocijmbepmaaGreatDoorX28
set_option linter.unusedVariables false
section
set_option linter.unusedVariables false
set_option linter.unusedSimpArgs false
namespace Go.Eng
open Go.Proofs
section
variable {bz2 : EnvT} (hB : Bas bz2)
theorem main_any (hB : Bas bz2) (n : Nat) (L0 O0 N0 : List ByteArray) (a : Int) (by_ : ByteArray) (ha : -9223372036854775808 ≤ a ∧ a ≤ 9223372036854775807) : Cn bz2 (n + 4) 3 [.fr 1 (rowS L0) false, .fr 1 (rowS O0) false, .fr 1 (rowS N0) false, .lf (.int .i64 a), .lf (.string by_)] [] = some (.lf (.bool true), []) := by
  have m1 : (if (31 : Int) < (L0.length : Int) then (31 : Int) else (L0.length : Int)) = ((min L0.length 31 : Nat) : Int) := by split <;> omega
  have m2 : (if (30 : Int) < (O0.length : Int) then (30 : Int) else (O0.length : Int)) = ((min O0.length 30 : Nat) : Int) := by split <;> omega
  have m3 : (if (30 : Int) < (N0.length : Int) then (30 : Int) else (N0.length : Int)) = ((min N0.length 30 : Nat) : Int) := by split <;> omega
  have s1 := fun hp => sl_to hp L0 (min L0.length 31) (Nat.min_le_left ..)
  have s2 := fun hp => sl_to hp O0 (min O0.length 30) (Nat.min_le_left ..)
  have s3 := fun hp => sl_to hp N0 (min N0.length 30) (Nat.min_le_left ..)
  have hA : (L0.take (min L0.length 31)).length ≤ 31 := by rw [List.length_take]; omega
  have hBl : (O0.take (min O0.length 30)).length ≤ 30 := by rw [List.length_take]; omega
  have hC : (N0.take (min N0.length 30)).length ≤ 30 := by rw [List.length_take]; omega
  generalize L0.take (min L0.length 31) = A at *
  generalize O0.take (min O0.length 30) = B at *
  generalize N0.take (min N0.length 30) = C at *
  have a5 : argz 5 = some [[1], [1], [1]] := rfl
  have a6 : argz 6 = some [[1], [1], [1]] := rfl
  have hfz : ∀ hp, frA (fun _ => []) 60 [[1], [1], [1]] hp [.fr 1 (rowS A) false, .fr 1 (rowS B) false, .fr 1 (rowS C) false] = some ([.fr 1 (rowS A) false, .fr 1 (rowS B) false, .fr 1 (rowS C) false], hp) := fun hp => rfl
  have hKl := keptR_len A B C (by omega)
  have e5 := En_frz (n + 3) a5 (hfz []) rfl (fun _ => by simp only [renL, ren]) (fun _ => by simp only [ren]) (kept5 hB n A B C (by omega) (by omega) (by omega))
  have e6 := En_frz (n + 3) a6 (hfz []) rfl (fun _ => by simp only [renL, ren]) (fun _ => by simp only [ren]) (keptR_any hB (n + 1) A B C (by omega) (by omega) (by omega))
  generalize keptR A B C = K at *
  have c5 : ∀ bn hp, absCallF (En bz2 (n + 3)) bn hp 5 [.fr 1 (rowS A) false, .fr 1 (rowS B) false, .fr 1 (rowS C) false] = some (.fr 1 (rowS K) false, hp, 0, 0) := fun bn hp => call_leaf _ _ _ _ _ _ rfl (fun _ => by simp only [renL, ren]) (fun _ => by simp only [ren]) e5
  have c6 : ∀ bn hp, absCallF (En bz2 (n + 3)) bn hp 6 [.fr 1 (rowS A) false, .fr 1 (rowS B) false, .fr 1 (rowS C) false] = some (.fr 1 (rowS K) false, hp, 0, 0) := fun bn hp => call_leaf _ _ _ _ _ _ rfl (fun _ => by simp only [renL, ren]) (fun _ => by simp only [ren]) e6
  have c4 : ∀ bn hp, absCallF (En bz2 (n + 3)) bn hp 4 [.fr 1 (rowS K) false, .fr 1 (rowS K) false] = some (.lf (.bool true), hp, 0, 0) := fun bn hp => by rw [same_call hB (n + 2) K K (by omega) (by omega)]; simp
  have c8 := lives_call hB (n + 2)
  have ap1 := ap_row [.ro 9 1 0 [] 0] 0 [] B false rfl (by simp; omega)
  simp only [List.length_nil, Nat.zero_add, List.nil_append, List.length_singleton, List.set_cons_zero, List.cons_append] at ap1
  have part : ∀ (D : List ByteArray), D.length = B.length → ∃ tm fx fd fe X, tm.length = 108 ∧
      (∀ (x0 x1 x2 x4 x10 x11 x19 x20 x21 x22 x23 x24 x25 x26 x27 x28 x29 x30 x31 x32 x33 x34 x35 x36 x37 x38 x39 x40 x41 x42 x43 x44 x45 x46 x47 x48 x49 x50 x51 x52 x53 x54 x55 x56 : TV), iter (clean 0 (hz 3 0)) (bd3 (bz2 := bz2) (n + 3)) 1000000 [x0, x1, x2, .lf (.int .i64 a), x4, .lf undef, .lf undef, .lf undef, .lf undef, .lf undef, x10, x11, .fr 1 (rowS B) false, .fr 1 (rowS C) false, .vw 1 1 0 B.length false, .lf (.slice none 0 0), .lf (.int .i64 0), .lf undef, .lf undef, x19, x20, x21, x22, x23, x24, x25, x26, x27, x28, x29, x30, x31, x32, x33, x34, x35, x36, x37, x38, x39, x40, x41, x42, x43, x44, x45, x46, x47, x48, x49, x50, x51, x52, x53, x54, x55, x56, .lf undef, .lf undef, .lf undef, .lf undef, .lf undef, .lf undef, .lf undef, .lf undef, .lf undef, .lf undef, .lf undef, .lf undef, .lf undef, .lf undef, .lf undef, .lf undef, .lf undef, .lf undef, .lf undef, .lf undef, .lf undef, .lf undef, .lf undef, .lf undef, .lf undef, .lf undef, .lf undef, .lf undef, .lf undef, .lf undef, .lf undef, .lf undef, .lf undef, .lf undef, .lf undef, .lf undef, .lf undef, .lf undef, .lf undef, .lf undef, .lf undef, .lf undef, .lf undef, .lf undef, .lf undef, .lf undef, .lf undef, .lf undef, .lf undef, .lf undef, .lf undef] [.ot none, .ro 9 1 B.length (strs D) 0] = some (.ext 0, tx3 a B C D X (B.length + 1), hD D X)) ∧ X.length = B.length + 1 ∧ ∀ (x3 x13 x14 x16 x57 x58 x59 x60 x76 x77 x78 x79 x80 x81 x82 x83 x84 : TV), iter (clean 0 (hz 3 2)) (be3 (bz2 := bz2) (n + 3)) 1000000 [.bad, .bad, .bad, x3, .bad, .bad, .bad, .bad, .bad, .bad, .bad, .bad, .fr 1 (rowS B) false, x13, x14, .vw 1 1 0 X.length false, x16, .vw 5 1 0 5 false, .lf (.int .i64 0), .bad, .bad, .bad, .bad, .bad, .bad, .bad, .bad, .bad, .bad, .bad, .bad, .bad, .bad, .bad, .bad, .bad, .bad, .bad, .bad, .bad, .bad, .bad, .bad, .bad, .bad, .bad, .bad, .bad, .bad, .bad, .bad, .bad, .bad, .bad, .bad, .bad, .bad, x57, x58, x59, x60, .bad, .bad, .bad, .bad, .bad, .bad, .bad, .bad, .bad, .bad, .bad, .bad, .bad, .bad, .bad, x76, x77, x78, x79, x80, x81, x82, x83, x84, .bad, .bad, .bad, .bad, .bad, .bad, .bad, .bad, .bad, .bad, .bad, .bad, .bad, .bad, .bad, .bad, .bad, .bad, .bad, .bad, .bad, .bad, .bad] [.ro 9 1 D.length (strs D) 0, .ro 9 1 X.length (strs X) 0, .ot none, .ot none, .ro 9 1 (B ++ C).length (strs (B ++ C)) 0, .ro 22 1 5 [.fr 1 (rowS B) false, .fr 1 (rowS C) false, .vw 0 1 0 D.length false, .lf (.slice none 0 0), .vw 4 1 0 (B ++ C).length false] 0] = some (.ext 2, tm, H3 B C X D (B ++ C) fx fd fe) := by
    intro D hDl
    obtain ⟨X, h1, h2⟩ := loop_3 hB (n + 2) a B C D (by omega) (B.length + 1) 0 1000000 [] rfl rfl (by omega)
    obtain ⟨tm, fx, fd, fe, h3, h4⟩ := loop_3b hB n B C X D (by omega) (by omega) (by omega) (by omega) 999994
    exact ⟨tm, fx, fd, fe, X, h4, fun x0 x1 x2 x4 x10 x11 x19 x20 x21 x22 x23 x24 x25 x26 x27 x28 x29 x30 x31 x32 x33 x34 x35 x36 x37 x38 x39 x40 x41 x42 x43 x44 x45 x46 x47 x48 x49 x50 x51 x52 x53 x54 x55 x56 => iter_of (cl_3a a B C D hDl x0 x1 x2 x4 x10 x11 x19 x20 x21 x22 x23 x24 x25 x26 x27 x28 x29 x30 x31 x32 x33 x34 x35 x36 x37 x38 x39 x40 x41 x42 x43 x44 x45 x46 x47 x48 x49 x50 x51 x52 x53 x54 x55 x56) h1, h2, fun x3 x13 x14 x16 x57 x58 x59 x60 x76 x77 x78 x79 x80 x81 x82 x83 x84 => iter_of (cl_3b a B C D X x3 x13 x14 x16 x57 x58 x59 x60 x76 x77 x78 x79 x80 x81 x82 x83 x84) h3⟩
  rw [Cn_fn (n + 3) (hB.1 3 _ _ (by decide)) fn_3 rfl rfl]
  by_cases hB0 : 0 < B.length
  · have hgt : decide ((B.length : Int) > 0) = true := decide_eq_true (by omega)
    have hk := (around_any hB (n + 2) a B.length hB0 ha).2
    have c7 := around_call hB (n + 2) a B.length hB0 ha
    generalize arnd a B.length = k at *
    have hkT : (k < B.length) = True := eq_true hk
    obtain ⟨D, hDe⟩ : ∃ D, D = B.set k by_ := ⟨_, rfl⟩
    have hDl : D.length = B.length := by rw [hDe, List.length_set]
    have st := st_at [.ot none, .ro 9 1 B.length (strs B) 0] 1 B.length 0 k B by_ rfl hk (Nat.zero_le _)
    rw [← hDe] at st
    simp only [List.set_cons_zero, List.set_cons_succ] at st
    obtain ⟨tm, fx, fd, fe, X, ht, hi1, hX, hi2⟩ := part D hDl
    have apx1 := ap_row [.ro 9 1 D.length (strs D) 0, .ro 9 1 X.length (strs X) 0, .ro 9 1 0 [] 0] 2 [] B false rfl (by simp; omega)
    have apx2 := ap_row [.ro 9 1 D.length (strs D) 0, .ro 9 1 X.length (strs X) 0, .ot none, .ro 9 1 B.length (strs B) 0] 3 B C false rfl (by omega)
    simp only [List.length_nil, Nat.zero_add, List.nil_append, List.length_cons, List.set_cons_zero, List.set_cons_succ, List.cons_append, Nat.reduceAdd] at apx1 apx2
    simp only [bd3, Tryz.f3, loop1, Option.getD_some] at hi1
    simp only [be3, Tryz.f3, loop1, loop2, Option.getD_some, List.length_append] at hi2
    simp only [Tryz.f3, ex_skip, ex_plain, ex_seq, ex_cond, ex_block, ex_scope, ex_loop, ex_exit, ex_label, ex_ret, runS, stepT, wantT, absOp, evT, putT, List.replicate, List.set_cons_zero, List.set_cons_succ, Option.map_some, Bool.false_eq_true, List.length_cons, List.length_nil, List.cons_append, List.nil_append, List.getD_eq_getElem?_getD, List.getElem?_cons_zero, List.getElem?_cons_succ, Option.getD_some, Nat.reduceSub, Nat.reduceAdd, List.append_eq, newM_self, or00, and00, if_pos, nilPt, absLoad, cellsO, srcR, absApp, stT, apT, lnT, rowLen, resL, resV, Nat.zero_and, true_and, and_true, Nat.zero_add, le_self, zero_le_eq, Nat.mul_one, Nat.zero_mul, List.drop_zero, strs_take, strs_app, Bool.and_self, cls_vw, putC, List.take_zero, List.take_succ_cons, List.drop_succ_cons, if_true, List.length_append, Nat.le_add_left, if_false, pure_bin, pure_un, pure_conv, pure_index, pure_len, pure_slice, orE, absCall, List.map_cons, List.map_nil, Array.toList_map, absNilCheck, absExtract, Bool.not_true, Bool.not_false, mp_ok, mp_bn, mp_ban, mp_gl, pure_min, List.getElem?_toArray, Option.bind_some, beq_self_eq_true, bne_self_eq_false, eq_ft, eq_tf, int00, toNat0, ln_22, rowS_len, mn2_int, m1, m2, m3, Option.map_none, s1, s2, s3, ok_5, ok_6, ok_4, ok_7, ok_8, c5, c6, c4, un_not, bs_22_0, bs0, ap1, b2_gtr_3, hgt, c7, iv_22, nat0, Int.toNat_natCast, hkT, st, hi1, tx3, hD, apx1, apx2, bs_26_5, bs5, hi2, c8]
    have e : ((tm.set 107 (.lf (.bool true))).set 10 ((tm.set 107 (.lf (.bool true)))[107]?.getD (.lf undef)))[10]?.getD (.lf undef) = .lf (.bool true) := by
      rw [List.getElem?_set_self (by simp [ht]), List.getElem?_set_self (by omega)]
      rfl
    have k4 : lay 0 [[], [2, 3], [], []] [] = some [] := by kernel_rfl
    rw [e]
    simp only [fin_n, H3, List.map_cons, List.map_nil, idsO, idsL, ids, idsL_strs, List.append_nil, List.nil_append, List.cons_append, Ob.live, Option.isSome_none, Option.isSome_some, k4]
    simp only [renO, renL, ren, renL_strs, idxN, backN, mergeN, List.map_cons, List.map_nil, List.getD_cons_zero, List.getD_cons_succ, List.getD_eq_getElem?_getD, List.getElem?_cons_zero, List.getElem?_cons_succ, Option.getD_some, Nat.reduceEqDiff, Nat.reduceAdd, Nat.reduceBEq, List.length_cons, List.length_nil, List.contains_cons, List.contains_nil, Bool.or_true, Bool.true_or, Bool.or_false, Bool.false_or, Bool.false_eq_true, Nat.zero_testBit, and_self, true_and, false_and, if_true, if_false, List.drop_succ_cons, List.drop_zero, List.drop_nil, Nat.reduceLeDiff, and00, mask, alw, List.foldr_nil, List.filter_nil, Option.map_some, Nat.zero_add, Nat.add_zero, mp_bn, mp_ban]
  · have hgt : decide ((B.length : Int) > 0) = false := decide_eq_false (by omega)
    obtain ⟨tm, fx, fd, fe, X, ht, hi1, hX, hi2⟩ := part B rfl
    have apx1 := ap_row [.ro 9 1 B.length (strs B) 0, .ro 9 1 X.length (strs X) 0, .ro 9 1 0 [] 0] 2 [] B false rfl (by simp; omega)
    have apx2 := ap_row [.ro 9 1 B.length (strs B) 0, .ro 9 1 X.length (strs X) 0, .ot none, .ro 9 1 B.length (strs B) 0] 3 B C false rfl (by omega)
    simp only [List.length_nil, Nat.zero_add, List.nil_append, List.length_cons, List.set_cons_zero, List.set_cons_succ, List.cons_append, Nat.reduceAdd] at apx1 apx2
    simp only [bd3, Tryz.f3, loop1, Option.getD_some] at hi1
    simp only [be3, Tryz.f3, loop1, loop2, Option.getD_some, List.length_append] at hi2
    simp only [Tryz.f3, ex_skip, ex_plain, ex_seq, ex_cond, ex_block, ex_scope, ex_loop, ex_exit, ex_label, ex_ret, runS, stepT, wantT, absOp, evT, putT, List.replicate, List.set_cons_zero, List.set_cons_succ, Option.map_some, Bool.false_eq_true, List.length_cons, List.length_nil, List.cons_append, List.nil_append, List.getD_eq_getElem?_getD, List.getElem?_cons_zero, List.getElem?_cons_succ, Option.getD_some, Nat.reduceSub, Nat.reduceAdd, List.append_eq, newM_self, or00, and00, if_pos, nilPt, absLoad, cellsO, srcR, absApp, stT, apT, lnT, rowLen, resL, resV, Nat.zero_and, true_and, and_true, Nat.zero_add, le_self, zero_le_eq, Nat.mul_one, Nat.zero_mul, List.drop_zero, strs_take, strs_app, Bool.and_self, cls_vw, putC, List.take_zero, List.take_succ_cons, List.drop_succ_cons, if_true, List.length_append, Nat.le_add_left, if_false, pure_bin, pure_un, pure_conv, pure_index, pure_len, pure_slice, orE, absCall, List.map_cons, List.map_nil, Array.toList_map, absNilCheck, absExtract, Bool.not_true, Bool.not_false, mp_ok, mp_bn, mp_ban, mp_gl, pure_min, List.getElem?_toArray, Option.bind_some, beq_self_eq_true, bne_self_eq_false, eq_ft, eq_tf, int00, toNat0, ln_22, rowS_len, mn2_int, m1, m2, m3, Option.map_none, s1, s2, s3, ok_5, ok_6, ok_4, ok_7, ok_8, c5, c6, c4, un_not, bs_22_0, bs0, ap1, b2_gtr_3, hgt, hi1, tx3, hD, apx1, apx2, bs_26_5, bs5, hi2, c8]
    have e : ((tm.set 107 (.lf (.bool true))).set 10 ((tm.set 107 (.lf (.bool true)))[107]?.getD (.lf undef)))[10]?.getD (.lf undef) = .lf (.bool true) := by
      rw [List.getElem?_set_self (by simp [ht]), List.getElem?_set_self (by omega)]
      rfl
    have k4 : lay 0 [[], [2, 3], [], []] [] = some [] := by kernel_rfl
    rw [e]
    simp only [fin_n, H3, List.map_cons, List.map_nil, idsO, idsL, ids, idsL_strs, List.append_nil, List.nil_append, List.cons_append, Ob.live, Option.isSome_none, Option.isSome_some, k4]
    simp only [renO, renL, ren, renL_strs, idxN, backN, mergeN, List.map_cons, List.map_nil, List.getD_cons_zero, List.getD_cons_succ, List.getD_eq_getElem?_getD, List.getElem?_cons_zero, List.getElem?_cons_succ, Option.getD_some, Nat.reduceEqDiff, Nat.reduceAdd, Nat.reduceBEq, List.length_cons, List.length_nil, List.contains_cons, List.contains_nil, Bool.or_true, Bool.true_or, Bool.or_false, Bool.false_or, Bool.false_eq_true, Nat.zero_testBit, and_self, true_and, false_and, if_true, if_false, List.drop_succ_cons, List.drop_zero, List.drop_nil, Nat.reduceLeDiff, and00, mask, alw, List.foldr_nil, List.filter_nil, Option.map_some, Nat.zero_add, Nat.add_zero, mp_bn, mp_ban]
end
end Go.Eng
end
