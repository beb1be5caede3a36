/- Part of the engine that runs the program by evaluation (X23). No condition of its own. -/
import Derived.Test.YtjgkocijmbepmaaGreatDoorX8
set_option linter.unusedVariables false
section
set_option linter.unusedVariables false
set_option linter.unusedSimpArgs false
namespace Go.Eng
open Go.Proofs
theorem fn_13 : Tryz.prog.funcs[13]? = some Tryz.f13 := by kernel_rfl
theorem ok_13 : okL Tryz.prog 13 = true := by kernel_rfl
theorem strs_get (l : List ByteArray) (i : Nat) : (strs l)[i]? = (l[i]?).map fun s => .lf (.string s) := by simp [strs]
theorem putS (l : List ByteArray) (i : Nat) (s : ByteArray) (h : i < l.length) : putC (strs l) i [.lf (.string s)] = strs (l.set i s) := by
  unfold putC strs
  rw [List.map_set, List.set_eq_take_append_cons_drop, if_pos (by simpa using h)]
  simp
theorem st_row (m fz i : Nat) (l : List ByteArray) (s : ByteArray) (h : i < l.length) (hf : fz ≤ i) : absStore Tryz.prog [.ro 9 1 m (strs l) fz] 9 (.lf (.string s)) (.pt 0 i) = some (.lf undef, [.ro 9 1 m (strs (l.set i s)) fz], 0, 1) := by
  rw [st_9]
  unfold stT
  have hc : cls (.lf (.string s)) = some [.lf (.string s)] := rfl
  simp only [List.getElem?_cons_zero, hc, List.length_singleton, strs_len, Nat.mul_one]
  rw [if_pos ⟨trivial, by omega, hf⟩, putS l i s h]
  rfl
def sepB (l : List ByteArray) (i : Nat) : Bool := !(jb (l.getD (i - 1) ⟨#[]⟩)) && !(ja (l.getD i ⟨#[]⟩))
def usJ (l : List ByteArray) (j : Nat) : List ByteArray := (List.range (l.length + 1)).map fun i => if 0 < i ∧ i < j ∧ sepB l i = true then ⟨#[32]⟩ else ⟨#[]⟩
theorem usJ_len (l : List ByteArray) (j : Nat) : (usJ l j).length = l.length + 1 := by simp [usJ]
theorem usJ_get (l : List ByteArray) (j i : Nat) (h : i < l.length + 1) : (usJ l j)[i]? = some (if 0 < i ∧ i < j ∧ sepB l i = true then ⟨#[32]⟩ else ⟨#[]⟩) := by simp [usJ, List.getElem?_range h]
theorem usJ_one (l : List ByteArray) : List.replicate (l.length + 1) (⟨#[]⟩ : ByteArray) = usJ l 1 := by
  refine List.ext_getElem? fun i => ?_
  rw [List.getElem?_replicate]
  split
  · rename_i h
    rw [usJ_get l 1 i h, if_neg (by omega)]
  · rw [List.getElem?_eq_none (by rw [usJ_len]; omega)]
theorem usJ_yes (l : List ByteArray) (j : Nat) (h0 : 0 < j) (h1 : j < l.length) (hs : sepB l j = true) : (usJ l j).set j ⟨#[32]⟩ = usJ l (j + 1) := by
  refine List.ext_getElem? fun i => ?_
  by_cases hi : i < l.length + 1
  · by_cases e : j = i
    · subst e
      rw [List.getElem?_set_self (by rw [usJ_len]; exact hi), usJ_get _ _ _ hi, if_pos ⟨h0, by omega, hs⟩]
    · rw [List.getElem?_set_ne e, usJ_get _ _ _ hi, usJ_get _ _ _ hi]
      have : (i < j) ↔ (i < j + 1) := by omega
      simp only [this]
  · rw [List.getElem?_eq_none (by simp [usJ_len]; omega), List.getElem?_eq_none (by rw [usJ_len]; omega)]
theorem usJ_no (l : List ByteArray) (j : Nat) (hs : sepB l j = false) : usJ l (j + 1) = usJ l j := by
  refine List.ext_getElem? fun i => ?_
  by_cases hi : i < l.length + 1
  · rw [usJ_get _ _ _ hi, usJ_get _ _ _ hi]
    by_cases e : i = j
    · subst e
      rw [if_neg (fun h => by rw [hs] at h; cases h.2.2), if_neg (fun h => by rw [hs] at h; cases h.2.2)]
    · have : (i < j) ↔ (i < j + 1) := by omega
      simp only [this]
  · rw [List.getElem?_eq_none (by rw [usJ_len]; omega), List.getElem?_eq_none (by rw [usJ_len]; omega)]
def usual (l : List ByteArray) : List ByteArray := usJ l (max 1 l.length)
theorem k1 : layC [[]] [true] [] = some [] := by kernel_rfl
theorem l1b : lay 0 [[]] [0] = some [0] := by kernel_rfl
def oU (l : List ByteArray) (x : List ByteArray) : List Ob := [.ro 9 1 (l.length + 1) (strs x) 0]
section
variable {bz2 : EnvT} (hB : Bas bz2)
theorem jb_call (hB : Bas bz2) (n : Nat) (s : ByteArray) (bn : Nat → Nat) (hp : List Ob) : absCallF (En bz2 (n + 1)) bn hp 21 [.lf (.string s)] = some (.lf (.bool (jb s)), hp, 0, 0) := call_leaf _ _ _ _ _ _ rfl (fun _ => rfl) (fun _ => rfl) (by rw [En_in _ rfl]; exact joinsBehind_any hB n s)
theorem ja_call (hB : Bas bz2) (n : Nat) (s : ByteArray) (bn : Nat → Nat) (hp : List Ob) : absCallF (En bz2 (n + 1)) bn hp 22 [.lf (.string s)] = some (.lf (.bool (ja s)), hp, 0, 0) := call_leaf _ _ _ _ _ _ rfl (fun _ => rfl) (fun _ => rfl) (by rw [En_in _ rfl]; exact joinsBefore_any hB n s)
noncomputable def bd13 (n : Nat) : List TV → List Ob → XR := bod Tryz.prog Mp (En bz2 n) 1000000 0 (hz 13) 0 ((loop1 (Tryz.f13.body.getD .skip)).getD .skip)
def tm13 (l : List ByteArray) (j : Nat) : List TV := [.fr 1 (rowS l) false, .bad, .bad, .vw 0 1 0 (l.length + 1) false, .lf (.int .i64 (j : Int)), .bad, .bad, .bad, .bad, .bad, .bad, .bad, .bad, .bad, .bad, .bad, .bad, .bad, .bad, .bad, .bad, .bad, .bad, .bad, .bad, .bad, .bad, .bad, .bad, .bad, .bad, .bad, .bad, .bad]
theorem rnd_13 (hB : Bas bz2) (n : Nat) (l : List ByteArray) (j : Nat) (h0 : 0 < j) (hj : j < l.length) (hl : l.length ≤ 100000) : rnd (clean 0 (hz 13 0)) (bd13 (bz2 := bz2) (n + 1)) (tm13 l j) (oU l (usJ l j)) = some (.nor, tm13 l (j + 1), oU l (usJ l (j + 1))) := by
  have hd : decide ((j : Int) < (l.length : Int)) = true := decide_eq_true (by omega)
  have hwr : IntKind.i64.wrap ((j : Int) + 1) = ((j + 1 : Nat) : Int) := wrap_nat j 1 (by omega)
  have hw1 : IntKind.i64.wrap ((j : Int) - 1) = ((j - 1 : Nat) : Int) := by rw [wrap_ok _ ⟨by omega, by omega⟩]; omega
  have hA : (rowS l)[j - 1]? = some [.leaf (.string (l.getD (j - 1) ⟨#[]⟩))] := by rw [rowS_get, List.getD_eq_getElem?_getD, List.getElem?_eq_getElem (show j - 1 < l.length by omega)]; rfl
  have hA2 : (rowS l)[j]? = some [.leaf (.string (l.getD j ⟨#[]⟩))] := by rw [rowS_get, List.getD_eq_getElem?_getD, List.getElem?_eq_getElem hj]; rfl
  have hc1 := jb_call hB n (l.getD (j - 1) ⟨#[]⟩)
  have hc2 := ja_call hB n (l.getD j ⟨#[]⟩)
  have hlt : (j < l.length + 1) = True := eq_true (by omega)
  have hst := st_row (l.length + 1) 0 j (usJ l j) ⟨#[32]⟩ (by rw [usJ_len]; omega) (by omega)
  have hn : ([Ob.ro 9 1 (l.length + 1) (strs (usJ l j)) 0] : List Ob).length = 1 := rfl
  generalize ha : l.getD (j - 1) ⟨#[]⟩ = a at *
  generalize hb : l.getD j ⟨#[]⟩ = b at *
  have hs : sepB l j = (!(jb a) && !(ja b)) := by unfold sepB; rw [ha, hb]
  unfold bd13 tm13 rnd bod oU
  cases h1 : jb a with
  | true =>
    rw [h1] at hs hc1
    rw [usJ_no l j hs]
    simp only [Tryz.f13, Option.getD_some, loop1]
    simp only [ex_skip, ex_plain, ex_seq, ex_cond, ex_block, ex_scope, ex_loop, ex_exit, ex_label, ex_ret, runS, stepT, wantT, absOp, evT, putT, List.replicate, List.set_cons_zero, List.set_cons_succ, Option.map_some, Bool.false_eq_true, List.length_cons, List.length_nil, List.cons_append, List.nil_append, List.getD_eq_getElem?_getD, List.getElem?_cons_zero, List.getElem?_cons_succ, Option.getD_some, Nat.reduceSub, Nat.reduceAdd, List.append_eq, newM_self, or00, and00, if_pos, nilPt, absLoad, cellsO, srcR, absApp, stT, apT, lnT, rowLen, resL, resV, Nat.zero_and, true_and, and_true, Nat.zero_add, le_self, zero_le_eq, Nat.mul_one, Nat.zero_mul, List.drop_zero, strs_take, strs_app, Bool.and_self, cls_vw, putC, List.take_zero, List.take_succ_cons, List.drop_succ_cons, if_true, List.length_append, Nat.le_add_left, if_false, pure_bin, pure_un, pure_conv, pure_index, pure_len, pure_slice, orE, absCall, List.map_cons, List.map_nil, Array.toList_map, absNilCheck, absExtract, Bool.not_true, Bool.not_false, mp_ok, mp_bn, mp_ban, mp_gl, pure_min, List.getElem?_toArray, Option.bind_some, beq_self_eq_true, bne_self_eq_false, eq_ft, eq_tf, int00, toNat0, ln_22, rowS_len, b2_lss_3, hd, b2_sub_3, hw1, ia_22, nat0, Int.toNat_natCast, hA, ldT_9, unf, ok_21, hc1, un_not, b2_add_3, hwr, hz]
    simp only [iter, clean, keepT, promote, compact_n, List.contains_cons, Nat.reduceBEq, Bool.or_true, Bool.true_or, Bool.or_false, Bool.false_or, List.contains_nil, Bool.false_eq_true, if_false, if_true, Nat.reduceAdd, List.length_nil, Nat.le_refl, List.map_cons, List.map_nil, idsO, idsL, ids, idsL_strs, List.append_nil, List.nil_append, List.cons_append, Ob.live, Option.isSome_none, Option.isSome_some, l1b, renL, ren]
    simp only [renO, renL, ren, renL_strs, idxN, backN, mergeN, List.map_cons, List.map_nil, List.getD_cons_zero, List.getD_cons_succ, List.getD_eq_getElem?_getD, List.getElem?_cons_zero, List.getElem?_cons_succ, Option.getD_some, Nat.reduceEqDiff, Nat.reduceAdd, Nat.reduceBEq, List.length_cons, List.length_nil, List.contains_cons, List.contains_nil, Bool.or_true, Bool.true_or, Bool.or_false, Bool.false_or, Bool.false_eq_true, Nat.zero_testBit, and_self, true_and, false_and, if_true, if_false, List.drop_succ_cons, List.drop_zero, List.drop_nil, Nat.reduceLeDiff, and00, mask, alw, List.foldr_nil, List.filter_nil, Option.map_some, Nat.zero_add, Nat.add_zero, mp_bn, mp_ban]
  | false =>
    rw [h1] at hs hc1
    cases h2 : ja b with
    | true =>
      rw [h2] at hs hc2
      rw [usJ_no l j hs]
      simp only [Tryz.f13, Option.getD_some, loop1]
      simp only [ex_skip, ex_plain, ex_seq, ex_cond, ex_block, ex_scope, ex_loop, ex_exit, ex_label, ex_ret, runS, stepT, wantT, absOp, evT, putT, List.replicate, List.set_cons_zero, List.set_cons_succ, Option.map_some, Bool.false_eq_true, List.length_cons, List.length_nil, List.cons_append, List.nil_append, List.getD_eq_getElem?_getD, List.getElem?_cons_zero, List.getElem?_cons_succ, Option.getD_some, Nat.reduceSub, Nat.reduceAdd, List.append_eq, newM_self, or00, and00, if_pos, nilPt, absLoad, cellsO, srcR, absApp, stT, apT, lnT, rowLen, resL, resV, Nat.zero_and, true_and, and_true, Nat.zero_add, le_self, zero_le_eq, Nat.mul_one, Nat.zero_mul, List.drop_zero, strs_take, strs_app, Bool.and_self, cls_vw, putC, List.take_zero, List.take_succ_cons, List.drop_succ_cons, if_true, List.length_append, Nat.le_add_left, if_false, pure_bin, pure_un, pure_conv, pure_index, pure_len, pure_slice, orE, absCall, List.map_cons, List.map_nil, Array.toList_map, absNilCheck, absExtract, Bool.not_true, Bool.not_false, mp_ok, mp_bn, mp_ban, mp_gl, pure_min, List.getElem?_toArray, Option.bind_some, beq_self_eq_true, bne_self_eq_false, eq_ft, eq_tf, int00, toNat0, ln_22, rowS_len, b2_lss_3, hd, b2_sub_3, hw1, ia_22, nat0, Int.toNat_natCast, hA, hA2, ldT_9, unf, ok_21, ok_22, hc1, hc2, un_not, b2_add_3, hwr, hz]
      simp only [iter, clean, keepT, promote, compact_n, List.contains_cons, Nat.reduceBEq, Bool.or_true, Bool.true_or, Bool.or_false, Bool.false_or, List.contains_nil, Bool.false_eq_true, if_false, if_true, Nat.reduceAdd, List.length_nil, Nat.le_refl, List.map_cons, List.map_nil, idsO, idsL, ids, idsL_strs, List.append_nil, List.nil_append, List.cons_append, Ob.live, Option.isSome_none, Option.isSome_some, l1b, renL, ren]
      simp only [renO, renL, ren, renL_strs, idxN, backN, mergeN, List.map_cons, List.map_nil, List.getD_cons_zero, List.getD_cons_succ, List.getD_eq_getElem?_getD, List.getElem?_cons_zero, List.getElem?_cons_succ, Option.getD_some, Nat.reduceEqDiff, Nat.reduceAdd, Nat.reduceBEq, List.length_cons, List.length_nil, List.contains_cons, List.contains_nil, Bool.or_true, Bool.true_or, Bool.or_false, Bool.false_or, Bool.false_eq_true, Nat.zero_testBit, and_self, true_and, false_and, if_true, if_false, List.drop_succ_cons, List.drop_zero, List.drop_nil, Nat.reduceLeDiff, and00, mask, alw, List.foldr_nil, List.filter_nil, Option.map_some, Nat.zero_add, Nat.add_zero, mp_bn, mp_ban]
      | false =>
      rw [h2] at hs hc2
      rw [← usJ_yes l j h0 hj hs]
      simp only [Tryz.f13, Option.getD_some, loop1]
      simp only [ex_skip, ex_plain, ex_seq, ex_cond, ex_block, ex_scope, ex_loop, ex_exit, ex_label, ex_ret, runS, stepT, wantT, absOp, evT, putT, List.replicate, List.set_cons_zero, List.set_cons_succ, Option.map_some, Bool.false_eq_true, List.length_cons, List.length_nil, List.cons_append, List.nil_append, List.getD_eq_getElem?_getD, List.getElem?_cons_zero, List.getElem?_cons_succ, Option.getD_some, Nat.reduceSub, Nat.reduceAdd, List.append_eq, newM_self, or00, and00, if_pos, nilPt, absLoad, cellsO, srcR, absApp, stT, apT, lnT, rowLen, resL, resV, Nat.zero_and, true_and, and_true, Nat.zero_add, le_self, zero_le_eq, Nat.mul_one, Nat.zero_mul, List.drop_zero, strs_take, strs_app, Bool.and_self, cls_vw, putC, List.take_zero, List.take_succ_cons, List.drop_succ_cons, if_true, List.length_append, Nat.le_add_left, if_false, pure_bin, pure_un, pure_conv, pure_index, pure_len, pure_slice, orE, absCall, List.map_cons, List.map_nil, Array.toList_map, absNilCheck, absExtract, Bool.not_true, Bool.not_false, mp_ok, mp_bn, mp_ban, mp_gl, pure_min, List.getElem?_toArray, Option.bind_some, beq_self_eq_true, bne_self_eq_false, eq_ft, eq_tf, int00, toNat0, ln_22, rowS_len, b2_lss_3, hd, b2_sub_3, hw1, ia_22, nat0, Int.toNat_natCast, hA, hA2, ldT_9, unf, ok_21, ok_22, hc1, hc2, un_not, iv_22, hlt, hst, b2_add_3, hwr, hz]
      simp only [iter, clean, keepT, promote, compact_n, List.contains_cons, Nat.reduceBEq, Bool.or_true, Bool.true_or, Bool.or_false, Bool.false_or, List.contains_nil, Bool.false_eq_true, if_false, if_true, Nat.reduceAdd, List.length_nil, Nat.le_refl, List.map_cons, List.map_nil, idsO, idsL, ids, idsL_strs, List.append_nil, List.nil_append, List.cons_append, Ob.live, Option.isSome_none, Option.isSome_some, l1b, renL, ren]
      simp only [renO, renL, ren, renL_strs, idxN, backN, mergeN, List.map_cons, List.map_nil, List.getD_cons_zero, List.getD_cons_succ, List.getD_eq_getElem?_getD, List.getElem?_cons_zero, List.getElem?_cons_succ, Option.getD_some, Nat.reduceEqDiff, Nat.reduceAdd, Nat.reduceBEq, List.length_cons, List.length_nil, List.contains_cons, List.contains_nil, Bool.or_true, Bool.true_or, Bool.or_false, Bool.false_or, Bool.false_eq_true, Nat.zero_testBit, and_self, true_and, false_and, if_true, if_false, List.drop_succ_cons, List.drop_zero, List.drop_nil, Nat.reduceLeDiff, and00, mask, alw, List.foldr_nil, List.filter_nil, Option.map_some, Nat.zero_add, Nat.add_zero, mp_bn, mp_ban]
theorem rnd_13e (n : Nat) (l : List ByteArray) (j : Nat) (hj : l.length ≤ j) (x : List ByteArray) : ∃ tm, rnd (clean 0 (hz 13 0)) (bd13 (bz2 := bz2) n) (tm13 l j) (oU l x) = some (.ext 0, tm, oU l x) ∧ tm.length = 34 ∧ tm[3]? = some (.vw 0 1 0 (l.length + 1) false) := by
  have hd : decide ((j : Int) < (l.length : Int)) = false := decide_eq_false (by omega)
  unfold bd13 tm13 rnd bod oU
  simp only [Tryz.f13, Option.getD_some, loop1]
  simp only [ex_skip, ex_plain, ex_seq, ex_cond, ex_block, ex_scope, ex_loop, ex_exit, ex_label, ex_ret, runS, stepT, wantT, absOp, evT, putT, List.replicate, List.set_cons_zero, List.set_cons_succ, Option.map_some, Bool.false_eq_true, List.length_cons, List.length_nil, List.cons_append, List.nil_append, List.getD_eq_getElem?_getD, List.getElem?_cons_zero, List.getElem?_cons_succ, Option.getD_some, Nat.reduceSub, Nat.reduceAdd, List.append_eq, newM_self, or00, and00, if_pos, nilPt, absLoad, cellsO, srcR, absApp, stT, apT, lnT, rowLen, resL, resV, Nat.zero_and, true_and, and_true, Nat.zero_add, le_self, zero_le_eq, Nat.mul_one, Nat.zero_mul, List.drop_zero, strs_take, strs_app, Bool.and_self, cls_vw, putC, List.take_zero, List.take_succ_cons, List.drop_succ_cons, if_true, List.length_append, Nat.le_add_left, if_false, pure_bin, pure_un, pure_conv, pure_index, pure_len, pure_slice, orE, absCall, List.map_cons, List.map_nil, Array.toList_map, absNilCheck, absExtract, Bool.not_true, Bool.not_false, mp_ok, mp_bn, mp_ban, mp_gl, pure_min, List.getElem?_toArray, Option.bind_some, beq_self_eq_true, bne_self_eq_false, eq_ft, eq_tf, int00, toNat0, ln_22, rowS_len, b2_lss_3, hd]
  exact ⟨_, rfl, rfl, rfl⟩
theorem loop_13 (hB : Bas bz2) (n : Nat) (l : List ByteArray) (hl : l.length ≤ 100000) : ∀ (k j fu : Nat), k + j = max 1 l.length → 1 ≤ j → k < fu → ∃ tm, itc (clean 0 (hz 13 0)) (bd13 (bz2 := bz2) (n + 1)) fu (tm13 l j) (oU l (usJ l j)) = some (.ext 0, tm, oU l (usual l)) ∧ tm.length = 34 ∧ tm[3]? = some (.vw 0 1 0 (l.length + 1) false)
  | 0, j, fu + 1, hk, h1, _ => by
    obtain rfl : j = max 1 l.length := by omega
    obtain ⟨tm, h1, h2, h3⟩ := rnd_13e (bz2 := bz2) (n + 1) l (max 1 l.length) (by omega) (usJ l (max 1 l.length))
    exact ⟨tm, itc_ext h1, h2, h3⟩
  | k + 1, j, fu + 1, hk, h1, hf => by
    have hj : j < l.length := by omega
    rw [itc_nor (rnd_13 hB n l j h1 hj hl)]
    exact loop_13 hB n l hl k (j + 1) fu (by omega) (by omega) (by omega)
theorem usual_any (hB : Bas bz2) (n : Nat) (l : List ByteArray) (hl : l.length ≤ 10000) : Cn bz2 (n + 2) 13 [.fr 1 (rowS l) false] [] = some (.vw 0 1 0 (l.length + 1) false, oU l (usual l)) := by
  obtain ⟨tm, h1, h2, h3⟩ := loop_13 hB n l (by omega) (max 1 l.length - 1) 1 1000000 (by omega) (Nat.le_refl _) (by omega)
  have hcl : clean 0 (hz 13 0) [.fr 1 (rowS l) false, .lf undef, .lf (.slice none 0 0), .vw 0 1 0 (l.length + 1) false, .lf (.int .i64 1), .fr 1 (rowS l) false, .lf (.int .i64 (l.length : Int)), .lf (.int .i64 ((l.length + 1 : Nat) : Int)), .vw 0 1 0 (l.length + 1) false, .lf undef, .lf undef, .lf undef, .lf undef, .lf undef, .lf undef, .lf undef, .lf undef, .lf undef, .lf undef, .lf undef, .lf undef, .lf undef, .lf undef, .lf undef, .lf undef, .lf undef, .lf undef, .lf undef, .lf undef, .lf undef, .lf undef, .lf undef, .lf undef, .lf undef] (oU l (usJ l 1)) = some (tm13 l 1, oU l (usJ l 1)) := by
    simp only [hz, oU, iter, clean, keepT, promote, compact_n, List.contains_cons, Nat.reduceBEq, Bool.or_true, Bool.true_or, Bool.or_false, Bool.false_or, List.contains_nil, Bool.false_eq_true, if_false, if_true, Nat.reduceAdd, List.length_nil, Nat.le_refl, List.map_cons, List.map_nil, idsO, idsL, ids, idsL_strs, List.append_nil, List.nil_append, List.cons_append, Ob.live, Option.isSome_none, Option.isSome_some, l1b, renL, ren, tm13, Int.natCast_one, Int.cast_ofNat_Int]
    simp only [renO, renL, ren, renL_strs, idxN, backN, mergeN, List.map_cons, List.map_nil, List.getD_cons_zero, List.getD_cons_succ, List.getD_eq_getElem?_getD, List.getElem?_cons_zero, List.getElem?_cons_succ, Option.getD_some, Nat.reduceEqDiff, Nat.reduceAdd, Nat.reduceBEq, List.length_cons, List.length_nil, List.contains_cons, List.contains_nil, Bool.or_true, Bool.true_or, Bool.or_false, Bool.false_or, Bool.false_eq_true, Nat.zero_testBit, and_self, true_and, false_and, if_true, if_false, List.drop_succ_cons, List.drop_zero, List.drop_nil, Nat.reduceLeDiff, and00, mask, alw, List.foldr_nil, List.filter_nil, Option.map_some, Nat.zero_add, Nat.add_zero, mp_bn, mp_ban]
  have hi := iter_of hcl h1
  simp only [bd13, Tryz.f13, loop1, Option.getD_some, oU] at hi
  have hw : IntKind.i64.wrap ((l.length : Int) + 1) = ((l.length + 1 : Nat) : Int) := wrap_nat l.length 1 (by omega)
  have hmk := mk_22 [] (l.length + 1) (by omega)
  rw [usJ_one] at hmk
  have e : ((tm.set 33 (tm[3]?.getD (.lf undef))).set 2 ((tm.set 33 (tm[3]?.getD (.lf undef)))[33]?.getD (.lf undef)))[2]?.getD (.lf undef) = .vw 0 1 0 (l.length + 1) false := by
    rw [List.getElem?_set_self (by simp [h2]), List.getElem?_set_self (by omega), h3]
    rfl
  have k4 : lay 0 [[]] [0] = some [0] := by kernel_rfl
  rw [Cn_fn (n + 1) (hB.1 13 _ _ (by decide)) fn_13 rfl rfl]
  simp only [Tryz.f13, ex_skip, ex_plain, ex_seq, ex_cond, ex_block, ex_scope, ex_loop, ex_exit, ex_label, ex_ret, runS, stepT, wantT, absOp, evT, putT, List.replicate, List.set_cons_zero, List.set_cons_succ, Option.map_some, Bool.false_eq_true, List.length_cons, List.length_nil, List.cons_append, List.nil_append, List.getD_eq_getElem?_getD, List.getElem?_cons_zero, List.getElem?_cons_succ, Option.getD_some, Nat.reduceSub, Nat.reduceAdd, List.append_eq, newM_self, or00, and00, if_pos, nilPt, absLoad, cellsO, srcR, absApp, stT, apT, lnT, rowLen, resL, resV, Nat.zero_and, true_and, and_true, Nat.zero_add, le_self, zero_le_eq, Nat.mul_one, Nat.zero_mul, List.drop_zero, strs_take, strs_app, Bool.and_self, cls_vw, putC, List.take_zero, List.take_succ_cons, List.drop_succ_cons, if_true, List.length_append, Nat.le_add_left, if_false, pure_bin, pure_un, pure_conv, pure_index, pure_len, pure_slice, orE, absCall, List.map_cons, List.map_nil, Array.toList_map, absNilCheck, absExtract, Bool.not_true, Bool.not_false, mp_ok, mp_bn, mp_ban, mp_gl, pure_min, List.getElem?_toArray, Option.bind_some, beq_self_eq_true, bne_self_eq_false, eq_ft, eq_tf, int00, toNat0, ln_22, rowS_len, b2_add_3, hw, hmk, hi, e]
  simp only [fin_n, oU, List.map_cons, List.map_nil, idsO, idsL, ids, idsL_strs, List.append_nil, List.nil_append, List.cons_append, Ob.live, Option.isSome_none, Option.isSome_some, k4]
  simp only [renO, renL, ren, renL_strs, idxN, backN, mergeN, List.map_cons, List.map_nil, List.getD_cons_zero, List.getD_cons_succ, List.getD_eq_getElem?_getD, List.getElem?_cons_zero, List.getElem?_cons_succ, Option.getD_some, Nat.reduceEqDiff, Nat.reduceAdd, Nat.reduceBEq, List.length_cons, List.length_nil, List.contains_cons, List.contains_nil, Bool.or_true, Bool.true_or, Bool.or_false, Bool.false_or, Bool.false_eq_true, Nat.zero_testBit, and_self, true_and, false_and, if_true, if_false, List.drop_succ_cons, List.drop_zero, List.drop_nil, Nat.reduceLeDiff, and00, mask, alw, List.foldr_nil, List.filter_nil, Option.map_some, Nat.zero_add, Nat.add_zero, mp_bn, mp_ban]
end
end Go.Eng
end
