/- Part of the engine that runs the program by evaluation (X24). No condition of its own. -/
import Derived.Test.YtjgkocijmbepmaaGreatDoorX9
set_option linter.unusedVariables false
section
set_option linter.unusedVariables false
set_option linter.unusedSimpArgs false
namespace Go.Eng
open Go.Proofs
theorem chunks_strs : ∀ l : List ByteArray, chunks 1 l.length (strs l) = some (rowS l)
  | [] => rfl
  | s :: l => by
    have ih := chunks_strs l
    unfold rowS at ih ⊢
    rw [List.length_cons, strs_cons]
    simp only [chunks, List.take_succ_cons, List.take_zero, List.drop_succ_cons, List.drop_zero, ih]
    rfl
theorem frLW_strs (SH : TypeId → List Nat) (n : Nat) (hp : List Ob) : ∀ l : List ByteArray, frLW (frC SH (n + 1)) [] [] hp (strs l) = some (strs l, hp)
  | [] => by simp [strs, frLW]
  | s :: l => by
    have ih := frLW_strs SH n hp l
    rw [strs_cons, frLW]
    simp only [List.headD_nil, List.tail_nil]
    have : frC SH (n + 1) hp 0 (.lf (.string s)) = some (.lf (.string s), hp) := by
      unfold frC
      simp [cvC, isNil]
    simp only [this, ih]
theorem frC_row (n : Nat) (hp : List Ob) (id fz : Nat) (f : Bool) (l : List ByteArray) (h : hp[id]? = some (.ro 9 1 l.length (strs l) fz)) : frC (fun _ => []) (n + 2) hp 1 (.vw id 1 0 l.length f) = some (.fr 1 (rowS l) false, hp.set id (.ro 9 1 l.length (strs l) (max fz l.length))) := by
  unfold frC
  simp only [h]
  rw [if_pos ⟨trivial, by omega⟩, frLW_strs]
  simp only [Nat.zero_mul, List.drop_zero, Nat.mul_one, Nat.zero_add, strs_take, chunks_strs, h, if_true]
theorem frR_row (l : List ByteArray) (fz : Nat) : frR (fun _ => []) 60 [[1]] [.ro 9 1 l.length (strs l) fz] (.vw 0 1 0 l.length false) = some (.fr 1 (rowS l) false, [.ro 9 1 l.length (strs l) (max fz l.length)]) := by
  have := frC_row 58 [.ro 9 1 l.length (strs l) fz] 0 fz false l rfl
  simpa [frR, frV] using this
def usR (l : List ByteArray) : List ByteArray := ⟨#[]⟩ :: (List.range l.length).map fun i => sepR l (i + 1)
theorem usR_len (l : List ByteArray) : (usR l).length = l.length + 1 := by simp [usR]
theorem usR_get (l : List ByteArray) (j : Nat) (h0 : 0 < j) (h : j ≤ l.length) : (usR l)[j]? = some (sepR l j) := by
  obtain ⟨i, rfl⟩ : ∃ i, j = i + 1 := ⟨j - 1, by omega⟩
  simp [usR, List.getElem?_range (show i < l.length by omega)]
theorem usR_eq (l : List ByteArray) : usR l = usual l := by
  refine List.ext_getElem? fun i => ?_
  by_cases hi : i < l.length + 1
  · unfold usual
    rw [usJ_get _ _ _ hi]
    by_cases h0 : i = 0
    · subst h0; simp [usR]
    · rw [usR_get l i (by omega) (by omega)]
      unfold sepR sepB
      by_cases hl : i = l.length
      · rw [if_pos hl, if_neg (by omega)]
      · rw [if_neg hl]
        have : 0 < i ∧ i < max 1 l.length := by omega
        cases jb (l.getD (i - 1) ⟨#[]⟩) <;> cases ja (l.getD i ⟨#[]⟩) <;> simp [this]
  · rw [List.getElem?_eq_none (by rw [usR_len]; omega), List.getElem?_eq_none (by unfold usual; rw [usJ_len]; omega)]
section
variable {bz2 : EnvT} (hB : Bas bz2)
theorem rnd_15e (n : Nat) (l x : List ByteArray) (j : Nat) (hj : l.length < j) : ∃ tm, rnd (clean 0 (hz 15 0)) (bd15 (bz2 := bz2) n) (tm15 l x j) [.ro 9 1 x.length (strs x) 0] = some (.ext 0, tm, [.ro 9 1 x.length (strs x) 0]) ∧ tm.length = 66 ∧ tm[3]? = some (.vw 0 1 0 x.length false) := by
  have hd : decide ((j : Int) ≤ (l.length : Int)) = false := decide_eq_false (by omega)
  unfold bd15 tm15 rnd bod
  simp only [Tryz.f15, Option.getD_some, loop1]
  simp only [ex_skip, ex_plain, ex_seq, ex_cond, ex_block, ex_scope, ex_loop, ex_exit, ex_label, ex_ret, runS, stepT, wantT, absOp, evT, putT, List.replicate, List.set_cons_zero, List.set_cons_succ, Option.map_some, Bool.false_eq_true, List.length_cons, List.length_nil, List.cons_append, List.nil_append, List.getD_eq_getElem?_getD, List.getElem?_cons_zero, List.getElem?_cons_succ, Option.getD_some, Nat.reduceSub, Nat.reduceAdd, List.append_eq, newM_self, or00, and00, if_pos, nilPt, absLoad, cellsO, srcR, absApp, stT, apT, lnT, rowLen, resL, resV, Nat.zero_and, true_and, and_true, Nat.zero_add, le_self, zero_le_eq, Nat.mul_one, Nat.zero_mul, List.drop_zero, strs_take, strs_app, Bool.and_self, cls_vw, putC, List.take_zero, List.take_succ_cons, List.drop_succ_cons, if_true, List.length_append, Nat.le_add_left, if_false, pure_bin, pure_un, pure_conv, pure_index, pure_len, pure_slice, orE, absCall, List.map_cons, List.map_nil, Array.toList_map, absNilCheck, absExtract, Bool.not_true, Bool.not_false, mp_ok, mp_bn, mp_ban, mp_gl, pure_min, List.getElem?_toArray, Option.bind_some, beq_self_eq_true, bne_self_eq_false, eq_ft, eq_tf, int00, toNat0, ln_22, rowS_len, b2_leq_3, hd]
  exact ⟨_, rfl, rfl, rfl⟩
theorem loop_15 (n : Nat) (l : List ByteArray) (hl : l.length ≤ 100000) : ∀ (k j fu : Nat), k + j = l.length + 1 → 1 ≤ j → k < fu → ∃ tm, itc (clean 0 (hz 15 0)) (bd15 (bz2 := bz2) n) fu (tm15 l ((usR l).take j) j) [.ro 9 1 ((usR l).take j).length (strs ((usR l).take j)) 0] = some (.ext 0, tm, [.ro 9 1 (usR l).length (strs (usR l)) 0]) ∧ tm.length = 66 ∧ tm[3]? = some (.vw 0 1 0 (usR l).length false)
  | 0, j, fu + 1, hk, h1, _ => by
    obtain rfl : j = l.length + 1 := by omega
    rw [show (usR l).take (l.length + 1) = usR l from List.take_of_length_le (by rw [usR_len]; omega)]
    obtain ⟨tm, h1, h2, h3⟩ := rnd_15e (bz2 := bz2) n l (usR l) (l.length + 1) (by omega)
    exact ⟨tm, itc_ext h1, h2, h3⟩
  | k + 1, j, fu + 1, hk, h1, hf => by
    have hj : j ≤ l.length := by omega
    have hx : ((usR l).take j).length = j := by rw [List.length_take, usR_len]; omega
    have e : (usR l).take j ++ [sepR l j] = (usR l).take (j + 1) := by
      rw [List.take_add_one, usR_get l j (by omega) hj]; rfl
    rw [itc_nor (rnd_15 n l _ j (by omega) hj hl hx), e]
    exact loop_15 n l hl k (j + 1) fu (by omega) (by omega) (by omega)
theorem usualR_any (hB : Bas bz2) (n : Nat) (l : List ByteArray) (hl : l.length ≤ 10000) : Cn bz2 (n + 1) 15 [.fr 1 (rowS l) false] [] = some (.fr 1 (rowS (usual l)) false, []) := by
  obtain ⟨tm, h1, h2, h3⟩ := loop_15 (bz2 := bz2) n l (by omega) l.length 1 1000000 (by omega) (Nat.le_refl _) (by omega)
  have e1 : (usR l).take 1 = [⟨#[]⟩] := by simp [usR]
  rw [e1] at h1
  have hcl : clean 0 (hz 15 0) [.fr 1 (rowS l) false, .lf undef, .lf (.slice none 0 0), .vw 0 1 0 1 false, .lf (.int .i64 1), .lf undef, .lf undef, .vw 0 1 0 1 false, .lf undef, .lf undef, .lf undef, .lf undef, .lf undef, .lf undef, .lf undef, .lf undef, .lf undef, .lf undef, .lf undef, .lf undef, .lf undef, .lf undef, .lf undef, .lf undef, .lf undef, .lf undef, .lf undef, .lf undef, .lf undef, .lf undef, .lf undef, .lf undef, .lf undef, .lf undef, .lf undef, .lf undef, .lf undef, .lf undef, .lf undef, .lf undef, .lf undef, .lf undef, .lf undef, .lf undef, .lf undef, .lf undef, .lf undef, .lf undef, .lf undef, .lf undef, .lf undef, .lf undef, .lf undef, .lf undef, .lf undef, .lf undef, .lf undef, .lf undef, .lf undef, .lf undef, .lf undef, .lf undef, .lf undef, .lf undef, .lf undef, .lf undef] [.ro 9 1 1 [.lf (.string ⟨#[]⟩)] 0] = some (tm15 l [⟨#[]⟩] 1, [.ro 9 1 [(⟨#[]⟩ : ByteArray)].length (strs [⟨#[]⟩]) 0]) := by
    simp only [hz, iter, clean, keepT, promote, compact_n, List.contains_cons, Nat.reduceBEq, Bool.or_true, Bool.true_or, Bool.or_false, Bool.false_or, List.contains_nil, Bool.false_eq_true, if_false, if_true, Nat.reduceAdd, List.length_nil, Nat.le_refl, List.map_cons, List.map_nil, idsO, idsL, ids, idsL_strs, List.append_nil, List.nil_append, List.cons_append, Ob.live, Option.isSome_none, Option.isSome_some, l1b, renL, ren, tm15, Int.natCast_one, Int.cast_ofNat_Int]
    simp only [renO, renL, ren, renL_strs, idxN, backN, mergeN, List.map_cons, List.map_nil, List.getD_cons_zero, List.getD_cons_succ, List.getD_eq_getElem?_getD, List.getElem?_cons_zero, List.getElem?_cons_succ, Option.getD_some, Nat.reduceEqDiff, Nat.reduceAdd, Nat.reduceBEq, List.length_cons, List.length_nil, List.contains_cons, List.contains_nil, Bool.or_true, Bool.true_or, Bool.or_false, Bool.false_or, Bool.false_eq_true, Nat.zero_testBit, and_self, true_and, false_and, if_true, if_false, List.drop_succ_cons, List.drop_zero, List.drop_nil, Nat.reduceLeDiff, and00, mask, alw, List.foldr_nil, List.filter_nil, Option.map_some, Nat.zero_add, Nat.add_zero, mp_bn, mp_ban]
    rfl
  have hi := iter_of hcl h1
  simp only [bd15, Tryz.f15, loop1, Option.getD_some] at hi
  have e : ((tm.set 65 (tm[3]?.getD (.lf undef))).set 2 ((tm.set 65 (tm[3]?.getD (.lf undef)))[65]?.getD (.lf undef)))[2]?.getD (.lf undef) = .vw 0 1 0 (usR l).length false := by
    rw [List.getElem?_set_self (by simp [h2]), List.getElem?_set_self (by omega), h3]
    rfl
  have k4 : lay 0 [[]] [] = some [] := by kernel_rfl
  rw [Cn_fr n (hB.1 15 _ _ (by decide)) fn_15 rfl (ss := [[1]]) rfl]
  simp only [Tryz.f15, ex_skip, ex_plain, ex_seq, ex_cond, ex_block, ex_scope, ex_loop, ex_exit, ex_label, ex_ret, runS, stepT, wantT, absOp, evT, putT, List.replicate, List.set_cons_zero, List.set_cons_succ, Option.map_some, Bool.false_eq_true, List.length_cons, List.length_nil, List.cons_append, List.nil_append, List.getD_eq_getElem?_getD, List.getElem?_cons_zero, List.getElem?_cons_succ, Option.getD_some, Nat.reduceSub, Nat.reduceAdd, List.append_eq, newM_self, or00, and00, if_pos, nilPt, absLoad, cellsO, srcR, absApp, stT, apT, lnT, rowLen, resL, resV, Nat.zero_and, true_and, and_true, Nat.zero_add, le_self, zero_le_eq, Nat.mul_one, Nat.zero_mul, List.drop_zero, strs_take, strs_app, Bool.and_self, cls_vw, putC, List.take_zero, List.take_succ_cons, List.drop_succ_cons, if_true, List.length_append, Nat.le_add_left, if_false, pure_bin, pure_un, pure_conv, pure_index, pure_len, pure_slice, orE, absCall, List.map_cons, List.map_nil, Array.toList_map, absNilCheck, absExtract, Bool.not_true, Bool.not_false, mp_ok, mp_bn, mp_ban, mp_gl, pure_min, List.getElem?_toArray, Option.bind_some, beq_self_eq_true, bne_self_eq_false, eq_ft, eq_tf, int00, toNat0, bs_22_1, bs1, hi, e, mp_sh]
  rw [frR_row, usR_eq]
  simp only [fin_n, List.map_cons, List.map_nil, idsO, idsL, ids, idsL_strs, List.append_nil, List.nil_append, List.cons_append, Ob.live, Option.isSome_none, Option.isSome_some, k4]
  simp only [renO, renL, ren, renL_strs, idxN, backN, mergeN, List.map_cons, List.map_nil, List.getD_cons_zero, List.getD_cons_succ, List.getD_eq_getElem?_getD, List.getElem?_cons_zero, List.getElem?_cons_succ, Option.getD_some, Nat.reduceEqDiff, Nat.reduceAdd, Nat.reduceBEq, List.length_cons, List.length_nil, List.contains_cons, List.contains_nil, Bool.or_true, Bool.true_or, Bool.or_false, Bool.false_or, Bool.false_eq_true, Nat.zero_testBit, and_self, true_and, false_and, if_true, if_false, List.drop_succ_cons, List.drop_zero, List.drop_nil, Nat.reduceLeDiff, and00, mask, alw, List.foldr_nil, List.filter_nil, Option.map_some, Nat.zero_add, Nat.add_zero, mp_bn, mp_ban]
end
end Go.Eng
end
