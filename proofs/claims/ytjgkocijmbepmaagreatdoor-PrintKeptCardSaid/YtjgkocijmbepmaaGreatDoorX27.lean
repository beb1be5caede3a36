/- Part of the engine that runs the program by evaluation (X27). No condition of its own. -/
import Derived.Test.YtjgkocijmbepmaaGreatDoorX14
set_option linter.unusedVariables false
section
set_option linter.unusedVariables false
set_option linter.unusedSimpArgs false
namespace Go.Eng
open Go.Proofs
theorem l4c : lay 0 [[], [2, 3], [], []] [0, 1] = some [0, 1, 2, 3] := by kernel_rfl
def el3 (B C D E : List ByteArray) : List TV := [.fr 1 (rowS B) false, .fr 1 (rowS C) false, .vw 2 1 0 D.length false, .lf (.slice none 0 0), .vw 3 1 0 E.length false]
theorem H3_one (B C X D E : List ByteArray) (fx fd fe : Nat) : (H3 B C X D E fx fd fe)[1]? = some (.ro 22 1 5 (el3 B C D E) 0) := rfl
theorem H3_len (B C X D E : List ByteArray) (fx fd fe : Nat) : (H3 B C X D E fx fd fe).length = 4 := rfl
section
variable {bz2 : EnvT} (hB : Bas bz2)
noncomputable def be3 (n : Nat) : List TV → List Ob → XR := bod Tryz.prog Mp (En bz2 n) 1000000 0 (hz 3) 2 ((loop2 (Tryz.f3.body.getD .skip)).getD .skip)
def te3 (B X : List ByteArray) (i : Nat) : List TV := [.bad, .bad, .bad, .bad, .bad, .bad, .bad, .bad, .bad, .bad, .bad, .bad, .fr 1 (rowS B) false, .bad, .bad, .vw 0 1 0 X.length false, .bad, .vw 1 1 0 5 false, .lf (.int .i64 (i : Int)), .bad, .bad, .bad, .bad, .bad, .bad, .bad, .bad, .bad, .bad, .bad, .bad, .bad, .bad, .bad, .bad, .bad, .bad, .bad, .bad, .bad, .bad, .bad, .bad, .bad, .bad, .bad, .bad, .bad, .bad, .bad, .bad, .bad, .bad, .bad, .bad, .bad, .bad, .bad, .bad, .bad, .bad, .bad, .bad, .bad, .bad, .bad, .bad, .bad, .bad, .bad, .bad, .bad, .bad, .bad, .bad, .bad, .bad, .bad, .bad, .bad, .bad, .bad, .bad, .bad, .bad, .bad, .bad, .bad, .bad, .bad, .bad, .bad, .bad, .bad, .bad, .bad, .bad, .bad, .bad, .bad, .bad, .bad, .bad, .bad, .bad, .bad, .bad, .bad]
theorem rnd_3b (hB : Bas bz2) (n : Nat) (B C X D E K : List ByteArray) (i m : Nat) (e : TV) (fx fd fe fx1 fd1 fe1 fx2 fd2 fe2 : Nat) (hi : i < 5) (hm : m &&& 2 = 0) (hel : (el3 B C D E)[i]? = some e) (hKl : K.length ≤ 100000)
    (hc5 : absCallF (En bz2 (n + 1)) (Mp.bn 5) (H3 B C X D E fx fd fe) 5 [.vw 0 1 0 X.length false, .fr 1 (rowS B) false, e] = some (.fr 1 (rowS K) false, H3 B C X D E fx1 fd1 fe1, m, m))
    (hc6 : absCallF (En bz2 (n + 1)) (Mp.bn 6) (H3 B C X D E fx1 fd1 fe1) 6 [.vw 0 1 0 X.length false, .fr 1 (rowS B) false, e] = some (.fr 1 (rowS K) false, H3 B C X D E fx2 fd2 fe2, m, m)) :
    rnd (clean 0 (hz 3 2)) (be3 (bz2 := bz2) (n + 1)) (te3 B X i) (H3 B C X D E fx fd fe) = some (.nor, te3 B X (i + 1), H3 B C X D E fx2 fd2 fe2) := by
  have hdr := fun {M : Prm} {env : EnvT} {fu n0 : Nat} {hint : Nat → Option Hint} {b : Nat} {tm : List TV} {hp : List Ob} => @ex_drawn_m Tryz.prog M env op3_18 fu n0 hint b 18 tm hp _ da3_18 df3_18 ds3_18
  simp only [op3_18, regOps, Tryz.f3, Option.getD_some, Nat.reduceEqDiff, if_true, if_false] at hdr
  have hd : decide ((i : Int) < ((5 : Nat) : Int)) = true := decide_eq_true (by omega)
  have hi5 : (i < 5) = True := eq_true hi
  have hwr : IntKind.i64.wrap ((i : Int) + 1) = ((i + 1 : Nat) : Int) := wrap_nat i 1 (by omega)
  have hs : ∀ bn hp, absCallF (En bz2 (n + 1)) bn hp 4 [.fr 1 (rowS K) false, .fr 1 (rowS K) false] = some (.lf (.bool true), hp, 0, 0) := fun bn hp => by rw [same_call hB n K K hKl hKl]; simp
  have hm2 : ((m ||| 0) &&& (2 ^ 1 ||| 0) = 0) = True := eq_true (by rw [Nat.or_zero, Nat.or_zero]; exact hm)
  unfold be3 te3 rnd bod
  simp only [Tryz.f3, Option.getD_some, loop1, loop2]
  simp only [ex_skip, ex_plain, ex_seq, ex_cond, ex_block, ex_scope, ex_loop, ex_exit, ex_label, ex_ret, runS, stepT, wantT, absOp, evT, putT, List.replicate, List.set_cons_zero, List.set_cons_succ, Option.map_some, Bool.false_eq_true, List.length_cons, List.length_nil, List.cons_append, List.nil_append, List.getD_eq_getElem?_getD, List.getElem?_cons_zero, List.getElem?_cons_succ, Option.getD_some, Nat.reduceSub, Nat.reduceAdd, List.append_eq, newM_self, or00, and00, if_pos, nilPt, absLoad, cellsO, srcR, absApp, stT, apT, lnT, rowLen, resL, resV, Nat.zero_and, true_and, and_true, Nat.zero_add, le_self, zero_le_eq, Nat.mul_one, Nat.zero_mul, List.drop_zero, strs_take, strs_app, Bool.and_self, cls_vw, putC, List.take_zero, List.take_succ_cons, List.drop_succ_cons, if_true, List.length_append, Nat.le_add_left, if_false, pure_bin, pure_un, pure_conv, pure_index, pure_len, pure_slice, orE, absCall, List.map_cons, List.map_nil, Array.toList_map, absNilCheck, absExtract, Bool.not_true, Bool.not_false, mp_ok, mp_bn, mp_ban, mp_gl, pure_min, List.getElem?_toArray, Option.bind_some, beq_self_eq_true, bne_self_eq_false, eq_ft, eq_tf, int00, toNat0, ln_26, b2_lss_3, hd, hdr]
  clear hdr
  simp only [runM, ex_skip, ex_plain, ex_seq, ex_cond, ex_block, ex_scope, ex_loop, ex_exit, ex_label, ex_ret, runS, stepT, wantT, absOp, evT, putT, List.replicate, List.set_cons_zero, List.set_cons_succ, Option.map_some, Bool.false_eq_true, List.length_cons, List.length_nil, List.cons_append, List.nil_append, List.getD_eq_getElem?_getD, List.getElem?_cons_zero, List.getElem?_cons_succ, Option.getD_some, Nat.reduceSub, Nat.reduceAdd, List.append_eq, newM_self, or00, and00, if_pos, nilPt, absLoad, cellsO, srcR, absApp, stT, apT, lnT, rowLen, resL, resV, Nat.zero_and, true_and, and_true, Nat.zero_add, le_self, zero_le_eq, Nat.mul_one, Nat.zero_mul, List.drop_zero, strs_take, strs_app, Bool.and_self, cls_vw, putC, List.take_zero, List.take_succ_cons, List.drop_succ_cons, if_true, List.length_append, Nat.le_add_left, if_false, pure_bin, pure_un, pure_conv, pure_index, pure_len, pure_slice, orE, absCall, List.map_cons, List.map_nil, Array.toList_map, absNilCheck, absExtract, Bool.not_true, Bool.not_false, mp_ok, mp_bn, mp_ban, mp_gl, pure_min, List.getElem?_toArray, Option.bind_some, beq_self_eq_true, bne_self_eq_false, eq_ft, eq_tf, int00, toNat0, iv_26, H3_one, H3_len, nat0, Int.toNat_natCast, hi5, ldT_22, hel, ok_5, ok_6, ok_4, hc5, hc6, hs, un_not, hm2, b2_add_3, hwr, List.all_nil, List.all_cons, confM, Nat.reduceAdd, Nat.zero_and, Nat.and_zero, ne_eq, not_true_eq_false, decide_false, Bool.not_false, Bool.or_false, Bool.and_true]
  simp only [hz, H3, iter, clean, keepT, promote, compact_n, List.contains_cons, Nat.reduceBEq, Bool.or_true, Bool.true_or, Bool.or_false, Bool.false_or, List.contains_nil, Bool.false_eq_true, if_false, if_true, Nat.reduceAdd, List.length_nil, Nat.le_refl, List.map_cons, List.map_nil, idsO, idsL, ids, idsL_strs, List.append_nil, List.nil_append, List.cons_append, Ob.live, Option.isSome_none, Option.isSome_some, l4c, renL, ren]
  simp only [renO, renL, ren, renL_strs, idxN, backN, mergeN, List.map_cons, List.map_nil, List.getD_cons_zero, List.getD_cons_succ, List.getD_eq_getElem?_getD, List.getElem?_cons_zero, List.getElem?_cons_succ, Option.getD_some, Nat.reduceEqDiff, Nat.reduceAdd, Nat.reduceBEq, List.length_cons, List.length_nil, List.contains_cons, List.contains_nil, Bool.or_true, Bool.true_or, Bool.or_false, Bool.false_or, Bool.false_eq_true, Nat.zero_testBit, and_self, true_and, false_and, if_true, if_false, List.drop_succ_cons, List.drop_zero, List.drop_nil, Nat.reduceLeDiff, and00, mask, alw, List.foldr_nil, List.filter_nil, Option.map_some, Nat.zero_add, Nat.add_zero, mp_bn, mp_ban]
end
end Go.Eng
end
