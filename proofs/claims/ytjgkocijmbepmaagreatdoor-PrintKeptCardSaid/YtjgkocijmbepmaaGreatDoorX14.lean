/- Part of the engine that runs the program by evaluation (X14). No condition of its own. -/
import Derived.Test.YtjgkocijmbepmaaGreatDoorX26
set_option linter.unusedVariables false
section
set_option linter.unusedVariables false
set_option linter.unusedSimpArgs false
namespace Go.Eng
open Go.Proofs
theorem bs4 (hp : List Ob) (a b c d : ByteArray) : bsF 9 1 4 [.lf (.string ⟨#[]⟩)] [(0, .lf (.string a)), (1, .lf (.string b)), (2, .lf (.string c)), (3, .lf (.string d))] hp = some (.vw hp.length 1 0 4 false, hp ++ [.ro 9 1 4 [.lf (.string a), .lf (.string b), .lf (.string c), .lf (.string d)] 0], 0, 0) := by kernel_rfl
theorem four (a b c d : ByteArray) (k : Nat) (h : k < 4) : ∃ w, ([.lf (.string a), .lf (.string b), .lf (.string c), .lf (.string d)] : List TV)[k]? = some (.lf (.string w)) := by
  match k, h with
  | 0, _ => exact ⟨a, rfl⟩
  | 1, _ => exact ⟨b, rfl⟩
  | 2, _ => exact ⟨c, rfl⟩
  | 3, _ => exact ⟨d, rfl⟩
theorem l5 : lay 0 [[], [], [], [], []] [0, 4] = some [0, 4] := by kernel_rfl
section
variable {bz2 : EnvT} (hB : Bas bz2)
noncomputable def bd3 (n : Nat) : List TV → List Ob → XR := bod Tryz.prog Mp (En bz2 n) 1000000 0 (hz 3) 0 ((loop1 (Tryz.f3.body.getD .skip)).getD .skip)
def tm3 (a : Int) (B C D X : List ByteArray) (j : Nat) : List TV := [.bad, .bad, .bad, .lf (.int .i64 a), .bad, .bad, .bad, .bad, .bad, .bad, .bad, .bad, .fr 1 (rowS B) false, .fr 1 (rowS C) false, .vw 0 1 0 D.length false, .vw 1 1 0 X.length false, .lf (.int .i64 (j : Int)), .bad, .bad, .bad, .bad, .bad, .bad, .bad, .bad, .bad, .bad, .bad, .bad, .bad, .bad, .bad, .bad, .bad, .bad, .bad, .bad, .bad, .bad, .bad, .bad, .bad, .bad, .bad, .bad, .bad, .bad, .bad, .bad, .bad, .bad, .bad, .bad, .bad, .bad, .bad, .bad, .bad, .bad, .bad, .bad, .bad, .bad, .bad, .bad, .bad, .bad, .bad, .bad, .bad, .bad, .bad, .bad, .bad, .bad, .bad, .bad, .bad, .bad, .bad, .bad, .bad, .bad, .bad, .bad, .bad, .bad, .bad, .bad, .bad, .bad, .bad, .bad, .bad, .bad, .bad, .bad, .bad, .bad, .bad, .bad, .bad, .bad, .bad, .bad, .bad, .bad, .bad]
def tx3 (a : Int) (B C D X : List ByteArray) (j : Nat) : List TV := [.bad, .bad, .bad, .lf (.int .i64 a), .bad, .bad, .bad, .bad, .bad, .bad, .bad, .bad, .fr 1 (rowS B) false, .fr 1 (rowS C) false, .vw 0 1 0 D.length false, .vw 1 1 0 X.length false, .lf (.int .i64 (j : Int)), .bad, .bad, .bad, .bad, .bad, .bad, .bad, .bad, .bad, .bad, .bad, .bad, .bad, .bad, .bad, .bad, .bad, .bad, .bad, .bad, .bad, .bad, .bad, .bad, .bad, .bad, .bad, .bad, .bad, .bad, .bad, .bad, .bad, .bad, .bad, .bad, .bad, .bad, .bad, .bad, .lf (.int .i64 (j : Int)), .fr 1 (rowS B) false, .lf (.int .i64 (B.length : Int)), .lf (.bool false), .bad, .bad, .bad, .bad, .bad, .bad, .bad, .bad, .bad, .bad, .bad, .bad, .bad, .bad, .bad, .bad, .bad, .bad, .bad, .bad, .bad, .bad, .bad, .bad, .bad, .bad, .bad, .bad, .bad, .bad, .bad, .bad, .bad, .bad, .bad, .bad, .bad, .bad, .bad, .bad, .bad, .bad, .bad, .bad, .bad, .bad, .bad]
def hD (D X : List ByteArray) : List Ob := [.ro 9 1 D.length (strs D) 0, .ro 9 1 X.length (strs X) 0]
theorem rnd_3 (hB : Bas bz2) (n : Nat) (a : Int) (B C D X : List ByteArray) (j : Nat) (hj : j ≤ B.length) (hl : B.length ≤ 1000) (hX : X.length = j) : ∃ w, rnd (clean 0 (hz 3 0)) (bd3 (bz2 := bz2) (n + 1)) (tm3 a B C D X j) (hD D X) = some (.nor, tm3 a B C D (X ++ [w]) (j + 1), hD D (X ++ [w])) := by
  have hd : decide ((j : Int) ≤ (B.length : Int)) = true := decide_eq_true (by omega)
  have hwr : IntKind.i64.wrap ((j : Int) + 1) = ((j + 1 : Nat) : Int) := wrap_nat j 1 (by omega)
  have hf : fits (X.length + 1) 16 = true := fits_ok _ (by omega)
  have hq := fun x y => bin_quo Tryz.prog (hD D X ++ [.ro 9 1 4 [.lf (.string ⟨#[]⟩), .lf (.string ⟨#[32]⟩), .lf (.string ⟨#[10]⟩), .lf (.string ⟨#[35, 32, 120, 10]⟩)] 0]) 3 x y .i64 a 7 (by decide)
  have hcA : ∀ bn hp, absCallF (En bz2 (n + 1)) bn hp 7 [.lf (.int .i64 (IntKind.i64.wrap (IntKind.i64.wrap (a.tdiv 7) + IntKind.i64.wrap ((j : Int) * (j : Int))))), .lf (.int .i64 4)] = some (.lf (.int .i64 (arnd (IntKind.i64.wrap (IntKind.i64.wrap (a.tdiv 7) + IntKind.i64.wrap ((j : Int) * (j : Int)))) 4 : Int)), hp, 0, 0) := around_call hB n _ 4 (by omega) (wrap_rng _)
  have hlt4 := (around_any hB n (IntKind.i64.wrap (IntKind.i64.wrap (a.tdiv 7) + IntKind.i64.wrap ((j : Int) * (j : Int)))) 4 (by omega) (wrap_rng _)).2
  generalize arnd (IntKind.i64.wrap (IntKind.i64.wrap (a.tdiv 7) + IntKind.i64.wrap ((j : Int) * (j : Int)))) 4 = k at *
  obtain ⟨w, hw⟩ := four ⟨#[]⟩ ⟨#[32]⟩ ⟨#[10]⟩ ⟨#[35, 32, 120, 10]⟩ k hlt4
  have hk4 : (k < 4) = True := eq_true hlt4
  refine ⟨w, ?_⟩
  unfold bd3 tm3 rnd bod
  unfold hD at hq ⊢
  rw [strs_snoc]
  simp only [List.cons_append, List.nil_append] at hq
  simp only [Tryz.f3, Option.getD_some, loop1]
  simp only [ex_skip, ex_plain, ex_seq, ex_cond, ex_block, ex_scope, ex_loop, ex_exit, ex_label, ex_ret, runS, stepT, wantT, absOp, evT, putT, List.replicate, List.set_cons_zero, List.set_cons_succ, Option.map_some, Bool.false_eq_true, List.length_cons, List.length_nil, List.cons_append, List.nil_append, List.getD_eq_getElem?_getD, List.getElem?_cons_zero, List.getElem?_cons_succ, Option.getD_some, Nat.reduceSub, Nat.reduceAdd, List.append_eq, newM_self, or00, and00, if_pos, nilPt, absLoad, cellsO, srcR, absApp, stT, apT, lnT, rowLen, resL, resV, Nat.zero_and, true_and, and_true, Nat.zero_add, le_self, zero_le_eq, Nat.mul_one, Nat.zero_mul, List.drop_zero, strs_take, strs_app, Bool.and_self, cls_vw, putC, List.take_zero, List.take_succ_cons, List.drop_succ_cons, if_true, List.length_append, Nat.le_add_left, if_false, pure_bin, pure_un, pure_conv, pure_index, pure_len, pure_slice, orE, absCall, List.map_cons, List.map_nil, Array.toList_map, absNilCheck, absExtract, Bool.not_true, Bool.not_false, mp_ok, mp_bn, mp_ban, mp_gl, pure_min, List.getElem?_toArray, Option.bind_some, beq_self_eq_true, bne_self_eq_false, eq_ft, eq_tf, int00, toNat0, ln_22, rowS_len, b2_leq_3, hd, bs_22_4, bs4, hq, b2_mul_3, b2_add_3, ok_7, hcA, iv_22, nat0, Int.toNat_natCast, hk4, ldT_9, hw, bs_22_1, bs1, ap_22, hf, hwr, hz]
  simp only [iter, clean, keepT, promote, List.contains_cons, Nat.reduceBEq, Bool.or_true, Bool.true_or, Bool.or_false, Bool.false_or, List.contains_nil, Bool.false_eq_true, if_false, if_true, Nat.reduceAdd, List.length_nil, Nat.le_refl, List.getElem?_cons_succ, List.getElem?_cons_zero, isNil_vw, isNil_nil, false_and, and_true, zlt1, List.set_cons_succ, List.set_cons_zero, List.nil_append, List.length_cons]
  simp only [compact_n, List.map_cons, List.map_nil, idsO, idsL, ids, idsL_strs, List.append_nil, List.nil_append, List.cons_append, Ob.live, Option.isSome_none, Option.isSome_some, idsL_sn, l5, renL, ren]
  simp only [renO, renL, ren, renL_strs, idxN, backN, mergeN, List.map_cons, List.map_nil, List.getD_cons_zero, List.getD_cons_succ, List.getD_eq_getElem?_getD, List.getElem?_cons_zero, List.getElem?_cons_succ, Option.getD_some, Nat.reduceEqDiff, Nat.reduceAdd, Nat.reduceBEq, List.length_cons, List.length_nil, List.contains_cons, List.contains_nil, Bool.or_true, Bool.true_or, Bool.or_false, Bool.false_or, Bool.false_eq_true, Nat.zero_testBit, and_self, true_and, false_and, if_true, if_false, List.drop_succ_cons, List.drop_zero, List.drop_nil, Nat.reduceLeDiff, and00, mask, alw, List.foldr_nil, List.filter_nil, Option.map_some, Nat.zero_add, Nat.add_zero, mp_bn, mp_ban, renL_sn]
theorem rnd_3e (n : Nat) (a : Int) (B C D X : List ByteArray) (j : Nat) (hj : B.length < j) : rnd (clean 0 (hz 3 0)) (bd3 (bz2 := bz2) n) (tm3 a B C D X j) (hD D X) = some (.ext 0, tx3 a B C D X j, hD D X) := by
  have hd : decide ((j : Int) ≤ (B.length : Int)) = false := decide_eq_false (by omega)
  unfold bd3 tm3 rnd bod hD
  simp only [Tryz.f3, Option.getD_some, loop1]
  simp only [ex_skip, ex_plain, ex_seq, ex_cond, ex_block, ex_scope, ex_loop, ex_exit, ex_label, ex_ret, runS, stepT, wantT, absOp, evT, putT, List.replicate, List.set_cons_zero, List.set_cons_succ, Option.map_some, Bool.false_eq_true, List.length_cons, List.length_nil, List.cons_append, List.nil_append, List.getD_eq_getElem?_getD, List.getElem?_cons_zero, List.getElem?_cons_succ, Option.getD_some, Nat.reduceSub, Nat.reduceAdd, List.append_eq, newM_self, or00, and00, if_pos, nilPt, absLoad, cellsO, srcR, absApp, stT, apT, lnT, rowLen, resL, resV, Nat.zero_and, true_and, and_true, Nat.zero_add, le_self, zero_le_eq, Nat.mul_one, Nat.zero_mul, List.drop_zero, strs_take, strs_app, Bool.and_self, cls_vw, putC, List.take_zero, List.take_succ_cons, List.drop_succ_cons, if_true, List.length_append, Nat.le_add_left, if_false, pure_bin, pure_un, pure_conv, pure_index, pure_len, pure_slice, orE, absCall, List.map_cons, List.map_nil, Array.toList_map, absNilCheck, absExtract, Bool.not_true, Bool.not_false, mp_ok, mp_bn, mp_ban, mp_gl, pure_min, List.getElem?_toArray, Option.bind_some, beq_self_eq_true, bne_self_eq_false, eq_ft, eq_tf, int00, toNat0, ln_22, rowS_len, b2_leq_3, hd, tx3]
theorem loop_3 (hB : Bas bz2) (n : Nat) (a : Int) (B C D : List ByteArray) (hl : B.length ≤ 1000) : ∀ (k j fu : Nat) (X : List ByteArray), k + j = B.length + 1 → X.length = j → k < fu → ∃ X', itc (clean 0 (hz 3 0)) (bd3 (bz2 := bz2) (n + 1)) fu (tm3 a B C D X j) (hD D X) = some (.ext 0, tx3 a B C D X' (B.length + 1), hD D X') ∧ X'.length = B.length + 1
  | 0, j, fu + 1, X, hk, hX, _ => by
    obtain rfl : j = B.length + 1 := by omega
    exact ⟨X, itc_ext (rnd_3e (n + 1) a B C D X _ (by omega)), hX⟩
  | k + 1, j, fu + 1, X, hk, hX, hf => by
    obtain ⟨w, hw⟩ := rnd_3 hB n a B C D X j (by omega) hl hX
    rw [itc_nor hw]
    exact loop_3 hB n a B C D hl k (j + 1) fu (X ++ [w]) (by omega) (by simp [hX]) (by omega)
end
end Go.Eng
end
