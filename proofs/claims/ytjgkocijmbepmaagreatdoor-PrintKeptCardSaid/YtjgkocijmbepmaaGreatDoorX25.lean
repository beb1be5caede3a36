/- Part of the engine that runs the program by evaluation (X25). No condition of its own. -/
import Derived.Test.YtjgkocijmbepmaaGreatDoorX12
set_option linter.unusedVariables false
section
set_option linter.unusedVariables false
set_option linter.unusedSimpArgs false
namespace Go.Eng
open Go.Proofs
theorem bnd_nat (d k : Nat) : bnd d (some (.lf (.int .i64 (k : Int)))) = some k := by simp [bnd]
theorem bnd_none (d : Nat) : bnd d none = some d := rfl
theorem sl_to (hp : List Ob) (L : List ByteArray) (k : Nat) (h : k ≤ L.length) : absSlice Tryz.prog hp 22 (.fr 1 (rowS L) false) none (some (.lf (.int .i64 (k : Int)))) none = some (.fr 1 (rowS (L.take k)) false, hp, 0, 0) := by
  rw [sl_22]
  simp only [slT, bnd_nat, bnd_none, rowS_len]
  rw [if_pos ⟨trivial, Nat.zero_le _, h⟩, List.drop_zero, rowS_take]
  rfl
theorem sl_from (hp : List Ob) (L : List ByteArray) (k : Nat) (h : k ≤ L.length) : absSlice Tryz.prog hp 22 (.fr 1 (rowS L) false) (some (.lf (.int .i64 (k : Int)))) none none = some (.fr 1 (rowS (L.drop k)) false, hp, 0, 0) := by
  rw [sl_22]
  simp only [slT, bnd_nat, bnd_none, rowS_len]
  rw [if_pos ⟨trivial, h, Nat.le_refl _⟩, rowS_take, List.take_length, rowS_drop]
  rfl
theorem sl_vw (hp : List Ob) (id off len k : Nat) (h : k ≤ len) : absSlice Tryz.prog hp 22 (.vw id 1 off len false) (some (.lf (.int .i64 (k : Int)))) none none = some (.vw id 1 (off + k) (len - k) false, hp, 0, 0) := by
  rw [sl_22]
  simp only [slT, bnd_nat, bnd_none]
  rw [if_pos ⟨trivial, h, Nat.le_refl _, by simp⟩]
theorem box_22 (hp : List Ob) (xs : List (List Dt)) (f : Bool) : absBox hp 22 (.fr 1 xs f) = some (.pt hp.length 0, hp ++ [.vr 22 [.fr 1 xs f]], 0, 0) := rfl
theorem frR_at (hp : List Ob) (id m fz : Nat) (l : List ByteArray) (h : hp[id]? = some (.ro 9 1 m (strs l) fz)) (hm : m = l.length) : frR (fun _ => []) 60 [[1]] hp (.vw id 1 0 m false) = some (.fr 1 (rowS l) false, hp.set id (.ro 9 1 m (strs l) (max fz m))) := by
  subst hm
  have := frC_row 58 hp id fz false l h
  simpa [frR, frV] using this
theorem ovr_len (U : List ByteArray) (off : Nat) (Y : List ByteArray) (h : off + Y.length ≤ U.length) : (ovr U off Y).length = U.length := by
  unfold ovr
  rw [List.length_append, List.length_append, List.length_take, List.length_drop]
  omega
def keP (L O N : List ByteArray) : List ByteArray := if L.getD (O.length - beh O N) ⟨#[]⟩ = ⟨#[]⟩ then ovr (ovr (usual N) 0 (L.take (bef O N))) (N.length - beh O N + 1) ((L.drop (O.length - beh O N)).drop 1) else ovr (ovr (usual N) 0 (L.take (bef O N))) (N.length - beh O N) (L.drop (O.length - beh O N))
def keptP (L O N : List ByteArray) : List ByteArray := if L.length = O.length + 1 then keP L O N else []
section
variable {bz2 : EnvT} (hB : Bas bz2)
theorem keptP_any (hB : Bas bz2) (n : Nat) (L O N : List ByteArray) (hO : O.length ≤ 10000) (hN : N.length ≤ 10000) : Cn bz2 (n + 3) 5 [.fr 1 (rowS L) false, .fr 1 (rowS O) false, .fr 1 (rowS N) false] [] = some (.fr 1 (rowS (keptP L O N)) false, []) := by
  have hcF := fits_call hB (n + 1) L O (by omega)
  rw [Cn_fr (n + 2) (hB.1 5 _ _ (by decide)) fn_5 rfl (ss := [[1]]) rfl]
  unfold keptP
  have k4 : lay 0 [[], [], []] [] = some [] := by kernel_rfl
  by_cases hL : L.length = O.length + 1
  · have hn : ((L.length : Int) == ((O.length + 1 : Nat) : Int)) = true := by rw [hL]; simp
    have hb := bef_le O N
    have hc1 := bef_call hB n O N hO hN
    have hc2 := beh_call hB n O N hO hN
    have hcU := usual_call hB n N hN
    have hUl : (usual N).length = N.length + 1 := by unfold usual; rw [usJ_len]
    have hmin : (if (N.length : Int) < (O.length : Int) then (N.length : Int) else (O.length : Int)) = ((min O.length N.length : Nat) : Int) := by split <;> omega
    have w1 : IntKind.i64.wrap (((min O.length N.length : Nat) : Int) - (bef O N : Int)) = ((min O.length N.length - bef O N : Nat) : Int) := by rw [wrap_ok _ ⟨by omega, by omega⟩]; omega
    have w2 : IntKind.i64.wrap ((O.length : Int) - (beh O N : Int)) = ((O.length - beh O N : Nat) : Int) := by rw [wrap_ok _ ⟨by omega, by omega⟩]; omega
    have w3 : IntKind.i64.wrap ((N.length : Int) - (beh O N : Int)) = ((N.length - beh O N : Nat) : Int) := by rw [wrap_ok _ ⟨by omega, by omega⟩]; omega
    have hdr8 := fun {M : Prm} {env : EnvT} {fu n0 : Nat} {hint : Nat → Option Hint} {b : Nat} {tm : List TV} {hp : List Ob} => @ex_drawn_m Tryz.prog M env op5_8 fu n0 hint b 8 tm hp _ da5_8 df5_8 ds5_8
    have hdr10 := fun {M : Prm} {env : EnvT} {fu n0 : Nat} {hint : Nat → Option Hint} {b : Nat} {tm : List TV} {hp : List Ob} => @ex_drawn_m Tryz.prog M env op5_10 fu n0 hint b 10 tm hp _ da5_10 df5_10 ds5_10
    simp only [op5_8, op5_10, regOps, Tryz.f5, Option.getD_some, Nat.reduceEqDiff, if_true, if_false] at hdr8 hdr10
    simp only [vON] at hc1 hc2
    have hs1 := fun hp => sl_to hp L (bef O N) (by omega)
    have hs2 := fun hp => sl_from hp L (O.length - beh O N) (by omega)
    have hs3 := fun hp => sl_vw hp 2 0 (N.length + 1) (N.length - beh O N) (by omega)
    have hs4 : ∀ hp, absSlice Tryz.prog hp 22 (.fr 1 (rowS (L.drop (O.length - beh O N))) false) (some (.lf (.int .i64 1))) none none = some (.fr 1 (rowS ((L.drop (O.length - beh O N)).drop 1)) false, hp, 0, 0) := fun hp => sl_from hp (L.drop (O.length - beh O N)) 1 (by rw [List.length_drop]; omega)
    have hs5 : ∀ hp, absSlice Tryz.prog hp 22 (.vw 2 1 (N.length - beh O N) (N.length + 1 - (N.length - beh O N)) false) (some (.lf (.int .i64 1))) none none = some (.vw 2 1 (N.length - beh O N + 1) (N.length + 1 - (N.length - beh O N) - 1) false, hp, 0, 0) := fun hp => sl_vw hp 2 (N.length - beh O N) (N.length + 1 - (N.length - beh O N)) 1 (by omega)
    have hcp1 := cp_row [.vr 22 [.fr 1 (rowS O) false], .vr 22 [.fr 1 (rowS N) false], .ro 9 1 (N.length + 1) (strs (usual N)) 0] 2 0 (N.length + 1) (N.length + 1) (usual N) (L.take (bef O N)) false false rfl (by omega) (by rw [List.length_take]; omega)
    have hl1 : (ovr (usual N) 0 (L.take (bef O N))).length = N.length + 1 := by rw [ovr_len _ _ _ (by rw [List.length_take, hUl]; omega), hUl]
    have hel : (rowS (L.drop (O.length - beh O N)))[0]? = some [.leaf (.string (L.getD (O.length - beh O N) ⟨#[]⟩))] := by
      rw [rowS_get, List.getElem?_drop, Nat.add_zero, List.getD_eq_getElem?_getD, List.getElem?_eq_getElem (show O.length - beh O N < L.length by omega)]; rfl
    rw [if_pos hL]
    unfold keP
    generalize hU1 : ovr (usual N) 0 (L.take (bef O N)) = U1 at *
    generalize hy : L.getD (O.length - beh O N) ⟨#[]⟩ = y at *
    by_cases hy0 : y = ⟨#[]⟩
    · have hd : decide (y = ⟨#[]⟩) = true := decide_eq_true hy0
      have hcp2 := cp_row [.vr 22 [.fr 1 (rowS O) false], .vr 22 [.fr 1 (rowS N) false], .ro 9 1 (N.length + 1) (strs U1) 0] 2 (N.length - beh O N + 1) (N.length + 1 - (N.length - beh O N) - 1) (N.length + 1) U1 ((L.drop (O.length - beh O N)).drop 1) false false rfl (by omega) (by rw [List.length_drop, List.length_drop]; omega)
      have hfr := frR_at [.vr 22 [.fr 1 (rowS O) false], .vr 22 [.fr 1 (rowS N) false], .ro 9 1 (N.length + 1) (strs (ovr U1 (N.length - beh O N + 1) ((L.drop (O.length - beh O N)).drop 1))) 0] 2 (N.length + 1) 0 _ rfl (by rw [ovr_len _ _ _ (by rw [List.length_drop, List.length_drop, hl1]; omega), hl1])
      rw [if_pos hy0]
      simp only [Tryz.f5, ex_skip, ex_plain, ex_seq, ex_cond, ex_block, ex_scope, ex_loop, ex_exit, ex_label, ex_ret, runS, stepT, wantT, absOp, evT, putT, List.replicate, List.set_cons_zero, List.set_cons_succ, Option.map_some, Bool.false_eq_true, List.length_cons, List.length_nil, List.cons_append, List.nil_append, List.getD_eq_getElem?_getD, List.getElem?_cons_zero, List.getElem?_cons_succ, Option.getD_some, Nat.reduceSub, Nat.reduceAdd, List.append_eq, newM_self, or00, and00, if_pos, nilPt, absLoad, cellsO, srcR, absApp, stT, apT, lnT, rowLen, resL, resV, Nat.zero_and, true_and, and_true, Nat.zero_add, le_self, zero_le_eq, Nat.mul_one, Nat.zero_mul, List.drop_zero, strs_take, strs_app, Bool.and_self, cls_vw, putC, List.take_zero, List.take_succ_cons, List.drop_succ_cons, if_true, List.length_append, Nat.le_add_left, if_false, pure_bin, pure_un, pure_conv, pure_index, pure_len, pure_slice, orE, absCall, List.map_cons, List.map_nil, Array.toList_map, absNilCheck, absExtract, Bool.not_true, Bool.not_false, mp_ok, mp_bn, mp_ban, mp_gl, pure_min, List.getElem?_toArray, Option.bind_some, beq_self_eq_true, bne_self_eq_false, eq_ft, eq_tf, int00, toNat0, box_22, ldT_22, ok_9, hcF, hn, un_not, ln_22, rowS_len, mn2_int, hmin, absMakeFunc, ok_10, hc1, b2_sub_3, w1, hc2, ok_13, hcU, Option.map_none, hs1, hcp1, hdr8, hdr10]
      clear hdr8 hdr10
      simp only [runM, ex_skip, ex_plain, ex_seq, ex_cond, ex_block, ex_scope, ex_loop, ex_exit, ex_label, ex_ret, runS, stepT, wantT, absOp, evT, putT, List.replicate, List.set_cons_zero, List.set_cons_succ, Option.map_some, Bool.false_eq_true, List.length_cons, List.length_nil, List.cons_append, List.nil_append, List.getD_eq_getElem?_getD, List.getElem?_cons_zero, List.getElem?_cons_succ, Option.getD_some, Nat.reduceSub, Nat.reduceAdd, List.append_eq, newM_self, or00, and00, if_pos, nilPt, absLoad, cellsO, srcR, absApp, stT, apT, lnT, rowLen, resL, resV, Nat.zero_and, true_and, and_true, Nat.zero_add, le_self, zero_le_eq, Nat.mul_one, Nat.zero_mul, List.drop_zero, strs_take, strs_app, Bool.and_self, cls_vw, putC, List.take_zero, List.take_succ_cons, List.drop_succ_cons, if_true, List.length_append, Nat.le_add_left, if_false, pure_bin, pure_un, pure_conv, pure_index, pure_len, pure_slice, orE, absCall, List.map_cons, List.map_nil, Array.toList_map, absNilCheck, absExtract, Bool.not_true, Bool.not_false, mp_ok, mp_bn, mp_ban, mp_gl, pure_min, List.getElem?_toArray, Option.bind_some, beq_self_eq_true, bne_self_eq_false, eq_ft, eq_tf, int00, toNat0, ldT_22, ln_22, rowS_len, b2_sub_3, w2, w3, Option.map_none, hs2, hs3, ia_22, int00, toNat0, hel, ldT_9, unf, bin_eqs, hd, hs4, hs5, hcp2, List.all_nil, List.all_cons, confM, Nat.reduceAdd, Nat.zero_and, Nat.and_zero, ne_eq, not_true_eq_false, decide_false, Bool.not_false, Bool.or_false, Bool.and_true]
      simp only [mp_sh, hfr, List.set_cons_succ, List.set_cons_zero]
      simp only [fin_n, List.map_cons, List.map_nil, idsO, idsL, ids, idsL_strs, List.append_nil, List.nil_append, List.cons_append, Ob.live, Option.isSome_none, Option.isSome_some, k4]
      simp only [renO, renL, ren, renL_strs, idxN, backN, mergeN, List.map_cons, List.map_nil, List.getD_cons_zero, List.getD_cons_succ, List.getD_eq_getElem?_getD, List.getElem?_cons_zero, List.getElem?_cons_succ, Option.getD_some, Nat.reduceEqDiff, Nat.reduceAdd, Nat.reduceBEq, List.length_cons, List.length_nil, List.contains_cons, List.contains_nil, Bool.or_true, Bool.true_or, Bool.or_false, Bool.false_or, Bool.false_eq_true, Nat.zero_testBit, and_self, true_and, false_and, if_true, if_false, List.drop_succ_cons, List.drop_zero, List.drop_nil, Nat.reduceLeDiff, and00, mask, alw, List.foldr_nil, List.filter_nil, Option.map_some, Nat.zero_add, Nat.add_zero, mp_bn, mp_ban]
    · have hd : decide (y = ⟨#[]⟩) = false := decide_eq_false hy0
      have hcp2 := cp_row [.vr 22 [.fr 1 (rowS O) false], .vr 22 [.fr 1 (rowS N) false], .ro 9 1 (N.length + 1) (strs U1) 0] 2 (N.length - beh O N) (N.length + 1 - (N.length - beh O N)) (N.length + 1) U1 (L.drop (O.length - beh O N)) false false rfl (by omega) (by rw [List.length_drop]; omega)
      have hfr := frR_at [.vr 22 [.fr 1 (rowS O) false], .vr 22 [.fr 1 (rowS N) false], .ro 9 1 (N.length + 1) (strs (ovr U1 (N.length - beh O N) (L.drop (O.length - beh O N)))) 0] 2 (N.length + 1) 0 _ rfl (by rw [ovr_len _ _ _ (by rw [List.length_drop, hl1]; omega), hl1])
      rw [if_neg hy0]
      simp only [Tryz.f5, ex_skip, ex_plain, ex_seq, ex_cond, ex_block, ex_scope, ex_loop, ex_exit, ex_label, ex_ret, runS, stepT, wantT, absOp, evT, putT, List.replicate, List.set_cons_zero, List.set_cons_succ, Option.map_some, Bool.false_eq_true, List.length_cons, List.length_nil, List.cons_append, List.nil_append, List.getD_eq_getElem?_getD, List.getElem?_cons_zero, List.getElem?_cons_succ, Option.getD_some, Nat.reduceSub, Nat.reduceAdd, List.append_eq, newM_self, or00, and00, if_pos, nilPt, absLoad, cellsO, srcR, absApp, stT, apT, lnT, rowLen, resL, resV, Nat.zero_and, true_and, and_true, Nat.zero_add, le_self, zero_le_eq, Nat.mul_one, Nat.zero_mul, List.drop_zero, strs_take, strs_app, Bool.and_self, cls_vw, putC, List.take_zero, List.take_succ_cons, List.drop_succ_cons, if_true, List.length_append, Nat.le_add_left, if_false, pure_bin, pure_un, pure_conv, pure_index, pure_len, pure_slice, orE, absCall, List.map_cons, List.map_nil, Array.toList_map, absNilCheck, absExtract, Bool.not_true, Bool.not_false, mp_ok, mp_bn, mp_ban, mp_gl, pure_min, List.getElem?_toArray, Option.bind_some, beq_self_eq_true, bne_self_eq_false, eq_ft, eq_tf, int00, toNat0, box_22, ldT_22, ok_9, hcF, hn, un_not, ln_22, rowS_len, mn2_int, hmin, absMakeFunc, ok_10, hc1, b2_sub_3, w1, hc2, ok_13, hcU, Option.map_none, hs1, hcp1, hdr8, hdr10]
      clear hdr8 hdr10
      simp only [runM, ex_skip, ex_plain, ex_seq, ex_cond, ex_block, ex_scope, ex_loop, ex_exit, ex_label, ex_ret, runS, stepT, wantT, absOp, evT, putT, List.replicate, List.set_cons_zero, List.set_cons_succ, Option.map_some, Bool.false_eq_true, List.length_cons, List.length_nil, List.cons_append, List.nil_append, List.getD_eq_getElem?_getD, List.getElem?_cons_zero, List.getElem?_cons_succ, Option.getD_some, Nat.reduceSub, Nat.reduceAdd, List.append_eq, newM_self, or00, and00, if_pos, nilPt, absLoad, cellsO, srcR, absApp, stT, apT, lnT, rowLen, resL, resV, Nat.zero_and, true_and, and_true, Nat.zero_add, le_self, zero_le_eq, Nat.mul_one, Nat.zero_mul, List.drop_zero, strs_take, strs_app, Bool.and_self, cls_vw, putC, List.take_zero, List.take_succ_cons, List.drop_succ_cons, if_true, List.length_append, Nat.le_add_left, if_false, pure_bin, pure_un, pure_conv, pure_index, pure_len, pure_slice, orE, absCall, List.map_cons, List.map_nil, Array.toList_map, absNilCheck, absExtract, Bool.not_true, Bool.not_false, mp_ok, mp_bn, mp_ban, mp_gl, pure_min, List.getElem?_toArray, Option.bind_some, beq_self_eq_true, bne_self_eq_false, eq_ft, eq_tf, int00, toNat0, ldT_22, ln_22, rowS_len, b2_sub_3, w2, w3, Option.map_none, hs2, hs3, ia_22, int00, toNat0, hel, ldT_9, unf, bin_eqs, hd, hcp2, List.all_nil, List.all_cons, confM, Nat.reduceAdd, Nat.zero_and, Nat.and_zero, ne_eq, not_true_eq_false, decide_false, Bool.not_false, Bool.or_false, Bool.and_true]
      simp only [mp_sh, hfr, List.set_cons_succ, List.set_cons_zero]
      simp only [fin_n, List.map_cons, List.map_nil, idsO, idsL, ids, idsL_strs, List.append_nil, List.nil_append, List.cons_append, Ob.live, Option.isSome_none, Option.isSome_some, k4]
      simp only [renO, renL, ren, renL_strs, idxN, backN, mergeN, List.map_cons, List.map_nil, List.getD_cons_zero, List.getD_cons_succ, List.getD_eq_getElem?_getD, List.getElem?_cons_zero, List.getElem?_cons_succ, Option.getD_some, Nat.reduceEqDiff, Nat.reduceAdd, Nat.reduceBEq, List.length_cons, List.length_nil, List.contains_cons, List.contains_nil, Bool.or_true, Bool.true_or, Bool.or_false, Bool.false_or, Bool.false_eq_true, Nat.zero_testBit, and_self, true_and, false_and, if_true, if_false, List.drop_succ_cons, List.drop_zero, List.drop_nil, Nat.reduceLeDiff, and00, mask, alw, List.foldr_nil, List.filter_nil, Option.map_some, Nat.zero_add, Nat.add_zero, mp_bn, mp_ban]
  · have hn : ((L.length : Int) == ((O.length + 1 : Nat) : Int)) = false := beq_eq_false_iff_ne.2 (by omega)
    have hfr : ∀ hp, frR (fun _ => []) 60 [[1]] hp (.lf (.slice none 0 0)) = some (.fr 1 (rowS []) false, hp) := fun hp => rfl
    have k5 : lay 0 [[], []] [] = some [] := by kernel_rfl
    rw [if_neg hL]
    simp only [Tryz.f5, ex_skip, ex_plain, ex_seq, ex_cond, ex_block, ex_scope, ex_loop, ex_exit, ex_label, ex_ret, runS, stepT, wantT, absOp, evT, putT, List.replicate, List.set_cons_zero, List.set_cons_succ, Option.map_some, Bool.false_eq_true, List.length_cons, List.length_nil, List.cons_append, List.nil_append, List.getD_eq_getElem?_getD, List.getElem?_cons_zero, List.getElem?_cons_succ, Option.getD_some, Nat.reduceSub, Nat.reduceAdd, List.append_eq, newM_self, or00, and00, if_pos, nilPt, absLoad, cellsO, srcR, absApp, stT, apT, lnT, rowLen, resL, resV, Nat.zero_and, true_and, and_true, Nat.zero_add, le_self, zero_le_eq, Nat.mul_one, Nat.zero_mul, List.drop_zero, strs_take, strs_app, Bool.and_self, cls_vw, putC, List.take_zero, List.take_succ_cons, List.drop_succ_cons, if_true, List.length_append, Nat.le_add_left, if_false, pure_bin, pure_un, pure_conv, pure_index, pure_len, pure_slice, orE, absCall, List.map_cons, List.map_nil, Array.toList_map, absNilCheck, absExtract, Bool.not_true, Bool.not_false, mp_ok, mp_bn, mp_ban, mp_gl, pure_min, List.getElem?_toArray, Option.bind_some, beq_self_eq_true, bne_self_eq_false, eq_ft, eq_tf, int00, toNat0, box_22, ldT_22, ok_9, hcF, hn, un_not, mp_sh, hfr]
    simp only [fin_n, List.map_cons, List.map_nil, idsO, idsL, ids, idsL_strs, List.append_nil, List.nil_append, List.cons_append, Ob.live, Option.isSome_none, Option.isSome_some, k5]
    simp only [renO, renL, ren, renL_strs, idxN, backN, mergeN, List.map_cons, List.map_nil, List.getD_cons_zero, List.getD_cons_succ, List.getD_eq_getElem?_getD, List.getElem?_cons_zero, List.getElem?_cons_succ, Option.getD_some, Nat.reduceEqDiff, Nat.reduceAdd, Nat.reduceBEq, List.length_cons, List.length_nil, List.contains_cons, List.contains_nil, Bool.or_true, Bool.true_or, Bool.or_false, Bool.false_or, Bool.false_eq_true, Nat.zero_testBit, and_self, true_and, false_and, if_true, if_false, List.drop_succ_cons, List.drop_zero, List.drop_nil, Nat.reduceLeDiff, and00, mask, alw, List.foldr_nil, List.filter_nil, Option.map_some, Nat.zero_add, Nat.add_zero, mp_bn, mp_ban]
end
end Go.Eng
end
