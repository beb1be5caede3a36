/-
  The evaluator's operations by the machine: all operations that the statement asks.
-/
import Derived.Test.YtbmjdelpgkilcaaY4
set_option linter.unusedVariables false
section
set_option linter.unusedVariables false
set_option linter.unusedSimpArgs false
set_option maxRecDepth 20000
namespace Go.Eng
open Go.Proofs
section
variable {bz2 : EnvT}
theorem truth_any (hB : Bas bz2) (n : Nat) (b : Bool) : Cn bz2 (n + 1) 67 [.lf (.bool b)] [] = some (vT 1 (cond b 1 0), []) := by
  have h1 : runO Try.prog Mp T0 1000000 hz 67 [.lf (.bool true)] [] [] = some (vT 1 1, [], []) := by kernel_rfl
  have h2 : runO Try.prog Mp T0 1000000 hz 67 [.lf (.bool false)] [] [] = some (vT 1 0, [], []) := by kernel_rfl
  cases b
  · exact Cn_o n (hB.1 67 _ _ (by decide)) rfl (T0_le _) h2 obl_nil
  · exact Cn_o n (hB.1 67 _ _ (by decide)) rfl (T0_le _) h1 obl_nil
theorem istrue_any (hB : Bas bz2) (n : Nat) (k x : Int) : Cn bz2 (n + 1) 68 [vT k x] [] = some (.lf (.bool (x != 0)), []) := by
  have h : runO Try.prog Mp T0 1000000 hz 68 [vT k x] [] [] = some (.lf (.bool (x != 0)), [], []) := by kernel_rfl
  exact Cn_o n (hB.1 68 _ _ (by decide)) rfl (T0_le _) h obl_nil
theorem number_any (hB : Bas bz2) (n : Nat) (x : Int) : Cn bz2 (n + 1) 70 [iT x] [] = some (vT 0 x, []) := by
  have h : runO Try.prog Mp T0 1000000 hz 70 [iT x] [] [] = some (vT 0 x, [], []) := by kernel_rfl
  exact Cn_o n (hB.1 70 _ _ (by decide)) rfl (T0_le _) h obl_nil
theorem ok_45 : okL Try.prog 45 = true := by kernel_rfl
theorem ok_46 : okL Try.prog 46 = true := by kernel_rfl
abbrev calcT : TV := .ag [.fn 90 [] [], .fn 91 [] [], .fn 92 [] [], .fn 93 [] [], .fn 94 [] []]
theorem calc_any (hB : Bas bz2) (n : Nat) : Cn bz2 (n + 1) 71 [] [] = some (calcT, []) := by
  have h : runO Try.prog Mp T0 1000000 hz 71 [] [] [] = some (calcT, [], []) := by kernel_rfl
  exact Cn_o n (hB.1 71 _ _ (by decide)) rfl (T0_le _) h obl_nil
theorem copy_any (hB : Bas bz2) (n : Nat) (k x : Int) : Cn bz2 (n + 1) 45 [vT k x] [] = some (vT k x, []) := by
  have h : runO Try.prog Mp T0 1000000 hz 45 [vT k x] [] [] = some (vT k x, [], []) := by kernel_rfl
  exact Cn_o n (hB.1 45 _ _ (by decide)) rfl (T0_le _) h obl_nil
def T46 : EnvT := fun f args objs => match f, args, objs with
  | 71, [], [] => some (calcT, [])
  | 90, [.lf (.int .i64 a), .lf (.int .i64 b)], [] => some (iT (addR a b), [])
  | 92, [.lf (.int .i64 a), .lf (.int .i64 b)], [] => some (iT (mulF a b), [])
  | 93, [.lf (.int .i64 a), .lf (.int .i64 b)], [] => some (iT (divR a b), [])
  | 94, [.lf (.int .i64 a), .lf (.int .i64 b)], [] => some (iT (remR a b), [])
  | 70, [.lf (.int .i64 a)], [] => some (vT 0 a, [])
  | 67, [.lf (.bool b)], [] => some (vT 1 (cond b 1 0), [])
  | 68, [.ag [.lf (.int .i64 k), .lf (.int .i64 x), .lf (.slice none 0 0)]], [] => some (.lf (.bool (x != 0)), [])
  | 58, [.ag [.lf (.int .i64 k), .lf (.int .i64 x), .lf (.slice none 0 0)], .ag [.lf (.int .i64 k'), .lf (.int .i64 x'), .lf (.slice none 0 0)]], [] => some (iT (cmpV k x k' x'), [])
  | _, _, _ => none
theorem T46_le (hB : Bas bz2) (n : Nat) : EnvLe T46 (En bz2 (n + 3)) := fun f args objs r h => by
  unfold T46 at h
  split at h <;> cases h
  all_goals rw [En_in _ rfl]
  · exact calc_any hB (n + 2)
  · exact add_any hB (n + 1) _ _
  · exact mul_any hB (n + 1) _ _
  · exact div_any hB (n + 2) _ _
  · exact rem_any hB (n + 1) _ _
  · exact number_any hB (n + 2) _
  · exact truth_any hB (n + 2) _
  · exact istrue_any hB (n + 2) _ _
  · exact vcmp_any hB n _ _ _ _
def opV (o : Nat) (k x k' x' : Int) : Int × Int := match o with
  | 0 => (0, addR x x')
  | 2 => (0, mulF x x')
  | 3 => (0, divR x x')
  | 4 => (0, remR x x')
  | 6 => (1, cond (cmpV k x k' x' == 0) 1 0)
  | 7 => (1, cond (x != 0 && x' != 0) 1 0)
  | _ => (1, cond (x != 0 || x' != 0) 1 0)
theorem oper_any (hB : Bas bz2) (n : Nat) (o : Nat) (ho : o = 0 ∨ o = 2 ∨ o = 3 ∨ o = 4 ∨ o = 6 ∨ o = 7 ∨ o = 8) (k x k' x' : Int) : Cn bz2 (n + 4) 46 [iT (o : Int), vR k x k' x'] [] = some (vT (opV o k x k' x').1 (opV o k x k' x').2, []) := by
  have e : ∀ {o : Nat} {os : Ora} {r : TV} {l : Obl}, runO Try.prog Mp T46 1000000 hz 46 [iT (o : Int), vR k x k' x'] [] os = some (r, [], l) → OblOk l → Cn bz2 (n + 4) 46 [iT (o : Int), vR k x k' x'] [] = some (r, []) := fun h hl => Cn_o (n + 3) (hB.1 46 _ _ (by decide)) rfl (T46_le hB n) h hl
  rcases ho with rfl | rfl | rfl | rfl | rfl | rfl | rfl
  · exact e (os := []) (l := []) (by kernel_rfl) obl_nil
  · exact e (os := []) (l := []) (by kernel_rfl) obl_nil
  · exact e (os := []) (l := []) (by kernel_rfl) obl_nil
  · exact e (os := []) (l := []) (by kernel_rfl) obl_nil
  · exact e (os := []) (l := []) (by kernel_rfl) obl_nil
  · cases hx : (x != 0)
    · have h : runO Try.prog Mp T46 1000000 hz 46 [iT ((7 : Nat) : Int), vR k x k' x'] [] [none, none, none, some false, some false, some false, some false, some false] = some (vT 1 (cond false 1 0), [], [(.lf (.bool (x != 0)), false), (.lf (.bool (x != 0)), false), (.lf (.bool (x != 0)), false), (.lf (.bool (x != 0)), false), (.lf (.bool (x != 0)), false)]) := by kernel_rfl
      have h2 := e h (obl_cons (by rw [hx]) (obl_cons (by rw [hx]) (obl_cons (by rw [hx]) (obl_cons (by rw [hx]) (obl_cons (by rw [hx]) obl_nil)))))
      simp only [opV, hx, Bool.false_and, Bool.true_and, Bool.false_or, Bool.true_or]
      exact h2
    · have h : runO Try.prog Mp T46 1000000 hz 46 [iT ((7 : Nat) : Int), vR k x k' x'] [] [none, none, none, some true, some true, some true, some true, some true] = some (vT 1 (cond (x' != 0) 1 0), [], [(.lf (.bool (x != 0)), true), (.lf (.bool (x != 0)), true), (.lf (.bool (x != 0)), true), (.lf (.bool (x != 0)), true), (.lf (.bool (x != 0)), true)]) := by kernel_rfl
      have h2 := e h (obl_cons (by rw [hx]) (obl_cons (by rw [hx]) (obl_cons (by rw [hx]) (obl_cons (by rw [hx]) (obl_cons (by rw [hx]) obl_nil)))))
      simp only [opV, hx, Bool.false_and, Bool.true_and, Bool.false_or, Bool.true_or]
      exact h2
  · cases hx : (x != 0)
    · have h : runO Try.prog Mp T46 1000000 hz 46 [iT ((8 : Nat) : Int), vR k x k' x'] [] [none, none, none, none, some false, some false, some false, some false, some false] = some (vT 1 (cond (x' != 0) 1 0), [], [(.lf (.bool (x != 0)), false), (.lf (.bool (x != 0)), false), (.lf (.bool (x != 0)), false), (.lf (.bool (x != 0)), false), (.lf (.bool (x != 0)), false)]) := by kernel_rfl
      have h2 := e h (obl_cons (by rw [hx]) (obl_cons (by rw [hx]) (obl_cons (by rw [hx]) (obl_cons (by rw [hx]) (obl_cons (by rw [hx]) obl_nil)))))
      simp only [opV, hx, Bool.false_and, Bool.true_and, Bool.false_or, Bool.true_or]
      exact h2
    · have h : runO Try.prog Mp T46 1000000 hz 46 [iT ((8 : Nat) : Int), vR k x k' x'] [] [none, none, none, none, some true, some true, some true, some true, some true] = some (vT 1 (cond true 1 0), [], [(.lf (.bool (x != 0)), true), (.lf (.bool (x != 0)), true), (.lf (.bool (x != 0)), true), (.lf (.bool (x != 0)), true), (.lf (.bool (x != 0)), true)]) := by kernel_rfl
      have h2 := e h (obl_cons (by rw [hx]) (obl_cons (by rw [hx]) (obl_cons (by rw [hx]) (obl_cons (by rw [hx]) (obl_cons (by rw [hx]) obl_nil)))))
      simp only [opV, hx, Bool.false_and, Bool.true_and, Bool.false_or, Bool.true_or]
      exact h2
theorem f19_any (hB : Bas bz2) (n : Nat) (o : Nat) (ho : o = 0 ∨ o = 2 ∨ o = 3 ∨ o = 4 ∨ o = 6 ∨ o = 7 ∨ o = 8) (k x k' x' : Int) : Cn bz2 (n + 5) 19 [iT (o : Int), vR k x k' x'] [] = some (vT (opV o k x k' x').1 (opV o k x k' x').2, []) := by
  have c1 : ∀ bn hp, absCallF (En bz2 (n + 4)) bn hp 46 [iT (o : Int), vR k x k' x'] = some (vT (opV o k x k' x').1 (opV o k x k' x').2, hp, 0, 0) := fun bn hp => call_leaf _ _ _ _ _ _ rfl (fun _ => rfl) (fun _ => rfl) (by rw [En_in _ rfl]; exact oper_any hB n o ho k x k' x')
  have c2 : ∀ a b bn hp, absCallF (En bz2 (n + 4)) bn hp 45 [vT a b] = some (vT a b, hp, 0, 0) := fun a b bn hp => call_leaf _ _ _ _ _ _ rfl (fun _ => rfl) (fun _ => rfl) (by rw [En_in _ rfl]; exact copy_any hB (n + 3) a b)
  generalize (opV o k x k' x').1 = a at c1 ⊢
  generalize (opV o k x k' x').2 = b at c1 ⊢
  generalize iT (o : Int) = t0 at c1 ⊢
  have hfn : Try.prog.funcs[19]? = some Try.f19 := by kernel_rfl
  obtain ⟨c, hc⟩ : ∃ c, c = Try.f19.body.getD .skip := ⟨_, rfl⟩
  have hb : Try.f19.body = some c := by rw [hc]; rfl
  have d1 : ∀ env, deferAt Try.prog Mp env 1000000 0 (hz 19) (flat (Try.f19.body.getD .skip)) (args0 Try.f19 [t0, vR k x k' x']) [] = some ([t0, vR k x k' x', .lf undef, .lf undef, .pt 0 0, .fn 44 [] [.pt 0 0], .lf undef, .lf undef, .lf undef, .lf undef], [.vr 25 [iT 0, iT 0, nilT]], (44, [.pt 0 0]), (flat (Try.f19.body.getD .skip)).drop 2) := fun env => by kernel_rfl
  have d2 : exL Try.prog Mp (En bz2 (n + 4)) 1000000 1 (hz 19) ((flat (Try.f19.body.getD .skip)).drop 2) [t0, vR k x k' x', .lf undef, .lf undef, .pt 0 0, .fn 44 [] [.pt 0 0], .lf undef, .lf undef, .lf undef, .lf undef] [.vr 25 [iT 0, iT 0, nilT]] = some (.ret, [t0, vR k x k' x', .lf undef, .lf undef, .pt 0 0, .fn 44 [] [.pt 0 0], t0, vR k x k' x', vT a b, vT a b], [.vr 25 [iT a, iT b, nilT]]) := by
    simp only [Try.f19, flat, Option.getD_some, List.cons_append, List.nil_append, List.drop_succ_cons, List.drop_zero, exL]
    simp only [ex_skip, ex_plain, ex_seq, ex_cond, ex_block, ex_scope, ex_loop, ex_exit, ex_label, ex_ret, runS, stepT, wantT, absOp, evT, putT, List.replicate, List.set_cons_zero, List.set_cons_succ, Option.map_some, Bool.false_eq_true, List.length_cons, List.length_nil, List.cons_append, List.nil_append, List.getD_eq_getElem?_getD, List.getElem?_cons_zero, List.getElem?_cons_succ, Option.getD_some, Nat.reduceSub, Nat.reduceAdd, List.append_eq, newM_self, or00, and00, if_pos, nilPt, absLoad, cellsO, srcR, absApp, stT, apT, lnT, rowLen, resL, resV, Nat.zero_and, true_and, and_true, Nat.zero_add, le_self, zero_le_eq, Nat.mul_one, Nat.zero_mul, List.drop_zero, strs_take, strs_app, Bool.and_self, cls_vw, putC, List.take_zero, List.take_succ_cons, List.drop_succ_cons, if_true, List.length_append, Nat.le_add_left, if_false, pure_bin, pure_un, pure_conv, pure_index, pure_len, pure_slice, orE, absCall, List.map_cons, List.map_nil, Array.toList_map, absNilCheck, absExtract, Bool.not_true, Bool.not_false, mp_ok, mp_bn, mp_ban, mp_gl, List.getElem?_toArray, Option.bind_some, beq_self_eq_true, bne_self_eq_false, eq_ft, eq_tf, int00, toNat0, ok_46, c1, ok_45, c2, st_25]
    rfl
  have d3 : ∀ env, absCallF (runR Try.prog Mp env 1000000 hz none) (Mp.bn 44) [.vr 25 [iT a, iT b, nilT]] 44 [.pt 0 0] = some (.tu [], [.vr 25 [iT a, iT b, nilT]], 1, 1) := fun env => by kernel_rfl
  unfold Cn
  simp only [hB.1 19 _ _ (by decide)]
  rw [if_pos (show dfy 19 = true from rfl)]
  unfold runDf
  simp only [hfn, hb, List.length_nil, mp_with]
  rw [hc, d1]
  simp only [behD, List.length_cons, List.length_nil, Nat.zero_add]
  have d2' := d2
  unfold En at d2'
  simp only [d2']
  rw [d3]
  change _ = _
  kernel_rfl
theorem f9_any (hB : Bas bz2) (n : Nat) (o : Nat) (ho : o = 0 ∨ o = 2 ∨ o = 3 ∨ o = 4 ∨ o = 6 ∨ o = 7 ∨ o = 8) (k x k' x' : Int) : Cn bz2 (n + 6) 9 [iT (o : Int), vR k x k' x'] [] = some (vT (opV o k x k' x').1 (opV o k x k' x').2, []) := by
  have c1 : ∀ bn hp, absCallF (En bz2 (n + 5)) bn hp 19 [iT (o : Int), vR k x k' x'] = some (vT (opV o k x k' x').1 (opV o k x k' x').2, hp, 0, 0) := fun bn hp => call_leaf _ _ _ _ _ _ rfl (fun _ => rfl) (fun _ => rfl) (by rw [En_in _ rfl]; exact f19_any hB n o ho k x k' x')
  have hfn : Try.prog.funcs[9]? = some Try.f9 := by kernel_rfl
  have ok_19 : okL Try.prog 19 = true := by kernel_rfl
  generalize (opV o k x k' x').1 = a at c1 ⊢
  generalize (opV o k x k' x').2 = b at c1 ⊢
  generalize iT (o : Int) = t0 at c1 ⊢
  rw [Cn_fn (n + 5) (hB.1 9 _ _ (by decide)) hfn rfl rfl]
  simp only [Try.f9, ex_skip, ex_plain, ex_seq, ex_cond, ex_block, ex_scope, ex_loop, ex_exit, ex_label, ex_ret, runS, stepT, wantT, absOp, evT, putT, List.replicate, List.set_cons_zero, List.set_cons_succ, Option.map_some, Bool.false_eq_true, List.length_cons, List.length_nil, List.cons_append, List.nil_append, List.getD_eq_getElem?_getD, List.getElem?_cons_zero, List.getElem?_cons_succ, Option.getD_some, Nat.reduceSub, Nat.reduceAdd, List.append_eq, newM_self, or00, and00, if_pos, nilPt, absLoad, cellsO, srcR, absApp, stT, apT, lnT, rowLen, resL, resV, Nat.zero_and, true_and, and_true, Nat.zero_add, le_self, zero_le_eq, Nat.mul_one, Nat.zero_mul, List.drop_zero, strs_take, strs_app, Bool.and_self, cls_vw, putC, List.take_zero, List.take_succ_cons, List.drop_succ_cons, if_true, List.length_append, Nat.le_add_left, if_false, pure_bin, pure_un, pure_conv, pure_index, pure_len, pure_slice, orE, absCall, List.map_cons, List.map_nil, Array.toList_map, absNilCheck, absExtract, Bool.not_true, Bool.not_false, mp_ok, mp_bn, mp_ban, mp_gl, List.getElem?_toArray, Option.bind_some, beq_self_eq_true, bne_self_eq_false, eq_ft, eq_tf, int00, toNat0, ok_19, c1, al_25, st_25, ldT_25]
  rfl
theorem f9_row (hB : Bas bz2) (n : Nat) (o : Nat) (ho : o = 0 ∨ o = 2 ∨ o = 3 ∨ o = 4 ∨ o = 6 ∨ o = 7 ∨ o = 8) (k x k' x' : Int) : En bz2 (n + 6) 9 [iT (o : Int), .vw 0 3 0 2 false] [.ro 25 3 2 [iT k, iT x, nilT, iT k', iT x', nilT] 0] = some (vT (opV o k x k' x').1 (opV o k x k' x').2, [.ro 25 3 2 [iT k, iT x, nilT, iT k', iT x', nilT] 2]) := by
  have hf : frA (fun _ => []) 60 [[], []] [.ro 25 3 2 [iT k, iT x, nilT, iT k', iT x', nilT] 0] [iT (o : Int), .vw 0 3 0 2 false] = some ([iT (o : Int), vR k x k' x'], [.ro 25 3 2 [iT k, iT x, nilT, iT k', iT x', nilT] 2]) := by kernel_rfl
  have h := f9_any hB n o ho k x k' x'
  rw [En_zz (n + 6) rfl hf, call_leaf _ _ _ _ _ _ rfl (fun _ => rfl) (fun _ => rfl) h]
end
end Go.Eng
end
