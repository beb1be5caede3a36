/-
  The evaluator's operations by the machine: the statement's function.
-/
import Derived.Test.YtbmjdelpgkilcaaY5
set_option linter.unusedVariables false
section
set_option linter.unusedVariables false
set_option linter.unusedSimpArgs false
set_option maxRecDepth 20000
namespace Go.Eng
open Go.Proofs
def cmpR (k n k' n' : Int) : Int := if k < k' then -1 else if k > k' then 1 else if n < n' then -1 else if n > n' then 1 else 0
def sameB (k n k' n' : Int) : Bool := cmpR k n k' n' == 0
theorem sameB_refl (k n : Int) : sameB k n k n = true := by simp [sameB, cmpR]
def tblF (i : Int) : Int := if i = 0 then -1099511627776 else if i = 1 then 1099511627776 else if i = 2 then -1099511627775 else if i = 3 then 1048576 else if i = 4 then -1048577 else if i = 5 then 0 else -1
def mxI (a b : Int) : Int := if b > a then b else a
def mnI (a b : Int) : Int := if b < a then b else a
def numF (a : Int) : Int := if a.tmod 3 = 0 then tblF (ard a 7) else mnI (mxI a (-1099511627776)) 1099511627776
theorem ard_lt (a m : Int) (ha : Sm64 a) (hm : 0 < m) : 0 ≤ ard a m ∧ ard a m < m := by
  unfold Sm64 at ha
  unfold ard
  by_cases h : a < 0
  · have e : IntKind.i64.wrap (0 - IntKind.i64.wrap (a + 1)) = -(a + 1) := by
      rw [wrap_ok (a + 1) ⟨by omega, by omega⟩, wrap_ok _ ⟨by omega, by omega⟩]; omega
    rw [if_pos h, e]
    exact ⟨Int.tmod_nonneg m (by omega), Int.tmod_lt_of_pos _ hm⟩
  · rw [if_neg h]
    exact ⟨Int.tmod_nonneg m (by omega), Int.tmod_lt_of_pos _ hm⟩
theorem numF_lm (a : Int) : Lm (numF a) := by
  unfold Lm numF tblF mnI mxI
  repeat' split
  all_goals omega
section
variable {bz2 : EnvT}
theorem rcmp_any (hB : Bas bz2) (n : Nat) (k x k' x' : Int) : Cn bz2 (n + 1) 18 [vT k x, vT k' x'] [] = some (iT (cmpR k x k' x'), []) := by
  have ha : runO Try.prog Mp T0 1000000 hz 18 [vT k x, vT k' x'] [] [none, some true] = some (iT (-1), [], [(.lf (.bool (decide (k < k'))), true)]) := by kernel_rfl
  have hb : runO Try.prog Mp T0 1000000 hz 18 [vT k x, vT k' x'] [] [none, some false, some true] = some (iT (1), [], [(.lf (.bool (decide (k' < k))), true), (.lf (.bool (decide (k < k'))), false)]) := by kernel_rfl
  have hc : runO Try.prog Mp T0 1000000 hz 18 [vT k x, vT k' x'] [] [none, some false, some false, none, some true] = some (iT (-1), [], [(.lf (.bool (decide (x < x'))), true), (.lf (.bool (decide (k' < k))), false), (.lf (.bool (decide (k < k'))), false)]) := by kernel_rfl
  have hd : runO Try.prog Mp T0 1000000 hz 18 [vT k x, vT k' x'] [] [none, some false, some false, none, some false, some true] = some (iT (1), [], [(.lf (.bool (decide (x' < x))), true), (.lf (.bool (decide (x < x'))), false), (.lf (.bool (decide (k' < k))), false), (.lf (.bool (decide (k < k'))), false)]) := by kernel_rfl
  have he : runO Try.prog Mp T0 1000000 hz 18 [vT k x, vT k' x'] [] [none, some false, some false, none, some false, some false] = some (iT (0), [], [(.lf (.bool (decide (x' < x))), false), (.lf (.bool (decide (x < x'))), false), (.lf (.bool (decide (k' < k))), false), (.lf (.bool (decide (k < k'))), false)]) := by kernel_rfl
  have fin : ∀ {r : TV} {l : Obl} {os : Ora}, runO Try.prog Mp T0 1000000 hz 18 [vT k x, vT k' x'] [] os = some (r, [], l) → OblOk l → Cn bz2 (n + 1) 18 [vT k x, vT k' x'] [] = some (r, []) := fun h hl => Cn_o n (hB.1 18 _ _ (by decide)) rfl (T0_le _) h hl
  have t {p : Prop} [Decidable p] (h : p) : TV.lf (.bool (decide p)) = .lf (.bool true) := by rw [decide_eq_true h]
  have f {p : Prop} [Decidable p] (h : ¬ p) : TV.lf (.bool (decide p)) = .lf (.bool false) := by rw [decide_eq_false h]
  unfold cmpR
  by_cases p1 : k < k'
  · rw [if_pos p1]
    exact fin ha (obl_cons (t p1) obl_nil)
  · rw [if_neg p1]
    by_cases p2 : k' < k
    · rw [if_pos p2]
      exact fin hb (obl_cons (t p2) (obl_cons (f p1) obl_nil))
    · rw [if_neg p2]
      by_cases p3 : x < x'
      · rw [if_pos p3]
        exact fin hc (obl_cons (t p3) (obl_cons (f p2) (obl_cons (f p1) obl_nil)))
      · rw [if_neg p3]
        by_cases p4 : x' < x
        · rw [if_pos p4]
          exact fin hd (obl_cons (t p4) (obl_cons (f p3) (obl_cons (f p2) (obl_cons (f p1) obl_nil))))
        · rw [if_neg p4]
          exact fin he (obl_cons (f p4) (obl_cons (f p3) (obl_cons (f p2) (obl_cons (f p1) obl_nil))))
def T8 : EnvT := fun f args objs => match f, args, objs with
  | 18, [.ag [.lf (.int .i64 k), .lf (.int .i64 x), .lf (.slice none 0 0)], .ag [.lf (.int .i64 k'), .lf (.int .i64 x'), .lf (.slice none 0 0)]], [] => some (iT (cmpR k x k' x'), [])
  | _, _, _ => none
theorem T8_le (hB : Bas bz2) (n : Nat) : EnvLe T8 (En bz2 (n + 1)) := fun f args objs r h => by
  unfold T8 at h
  split at h
  · cases h; rw [En_in _ rfl]; exact rcmp_any hB n _ _ _ _
  · cases h
theorem same_any (hB : Bas bz2) (n : Nat) (k x k' x' : Int) : Cn bz2 (n + 2) 8 [vT k x, vT k' x'] [] = some (.lf (.bool (sameB k x k' x')), []) := by
  have h : runO Try.prog Mp T8 1000000 hz 8 [vT k x, vT k' x'] [] [] = some (.lf (.bool (sameB k x k' x')), [], []) := by kernel_rfl
  exact Cn_o (n + 1) (hB.1 8 _ _ (by decide)) rfl (T8_le hB n) h obl_nil
theorem num_any (hB : Bas bz2) (n : Nat) (a : Int) (ha : Sm64 a) : Cn bz2 (n + 2) 6 [iT a] [] = some (iT (numF a), []) := by
  by_cases h : a.tmod 3 = 0
  · have e0 : (a.tmod 3 == 0) = true := by simp [h]
    have hc : ∀ bn hp, absCallF (En bz2 (n + 1)) bn hp 7 [iT a, iT 7] = some (iT (ard a 7), hp, 0, 0) := fun bn hp => call_leaf _ _ _ _ _ _ rfl (fun _ => rfl) (fun _ => rfl) (by rw [En_in _ rfl]; exact around_any hB n a 7 (by decide))
    have hl := ard_lt a 7 ha (by decide)
    unfold numF
    rw [if_pos h]
    generalize ard a 7 = i at hc hl ⊢
    rw [Cn_fn (n + 1) (hB.1 6 _ _ (by decide)) fn_6 rfl rfl]
    have hi : i = 0 ∨ i = 1 ∨ i = 2 ∨ i = 3 ∨ i = 4 ∨ i = 5 ∨ i = 6 := by omega
    rcases hi with rfl | rfl | rfl | rfl | rfl | rfl | rfl
    all_goals
      simp only [Try.f6, ex_skip, ex_plain, ex_seq, ex_cond, ex_block, ex_scope, ex_loop, ex_exit, ex_label, ex_ret, runS, stepT, wantT, absOp, evT, putT, List.replicate, List.set_cons_zero, List.set_cons_succ, Option.map_some, Bool.false_eq_true, List.length_cons, List.length_nil, List.cons_append, List.nil_append, List.getD_eq_getElem?_getD, List.getElem?_cons_zero, List.getElem?_cons_succ, Option.getD_some, Nat.reduceSub, Nat.reduceAdd, List.append_eq, newM_self, or00, and00, if_pos, nilPt, absLoad, cellsO, srcR, absApp, stT, apT, lnT, rowLen, resL, resV, Nat.zero_and, true_and, and_true, Nat.zero_add, le_self, zero_le_eq, Nat.mul_one, Nat.zero_mul, List.drop_zero, strs_take, strs_app, Bool.and_self, cls_vw, putC, List.take_zero, List.take_succ_cons, List.drop_succ_cons, if_true, List.length_append, Nat.le_add_left, if_false, pure_bin, pure_un, pure_conv, pure_index, pure_len, pure_slice, orE, absCall, List.map_cons, List.map_nil, Array.toList_map, absNilCheck, absExtract, Bool.not_true, Bool.not_false, mp_ok, mp_bn, mp_ban, mp_gl, List.getElem?_toArray, Option.bind_some, beq_self_eq_true, bne_self_eq_false, eq_ft, eq_tf, int00, toNat0, bin_rem _ _ _ _ _ _ _ _ (show (3 : Int) ≠ 0 by decide), b2_eql_3, e0, bs_27_7, ok_7, hc]
      rfl
  · have h1 : runO Try.prog Mp T0 1000000 hz 6 [iT a] [] [some false] = some (iT (mnI (mxI a (-1099511627776)) 1099511627776), [], [(.lf (.bool (a.tmod 3 == 0)), false)]) := by kernel_rfl
    unfold numF
    rw [if_neg h]
    exact Cn_o (n + 1) (hB.1 6 _ _ (by decide)) rfl (T0_le _) h1 (obl_cons (by have : (a.tmod 3 == 0) = false := by simpa using h
                                                                               rw [this]) obl_nil)
end
end Go.Eng
end
