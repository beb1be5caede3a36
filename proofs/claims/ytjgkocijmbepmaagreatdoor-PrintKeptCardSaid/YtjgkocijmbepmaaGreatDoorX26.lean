/- Part of the engine that runs the program by evaluation (X26). No condition of its own. -/
import Derived.Test.YtjgkocijmbepmaaGreatDoorX13
set_option linter.unusedVariables false
section
set_option linter.unusedVariables false
set_option linter.unusedSimpArgs false
namespace Go.Eng
open Go.Proofs
theorem fn_3 : Tryz.prog.funcs[3]? = some Tryz.f3 := by kernel_rfl
theorem ok_8 : okL Tryz.prog 8 = true := by kernel_rfl
theorem wrap_rng (x : Int) : -9223372036854775808 ≤ IntKind.i64.wrap x ∧ IntKind.i64.wrap x ≤ 9223372036854775807 := by
  have e : IntKind.i64.wrap x = if x % 18446744073709551616 ≥ 9223372036854775808 then x % 18446744073709551616 - 18446744073709551616 else x % 18446744073709551616 := by
    unfold IntKind.wrap
    simp [IntKind.signed, IntKind.bits]
  rw [e]
  split <;> omega
def H3 (B C X D E : List ByteArray) (fx fd fe : Nat) : List Ob := [.ro 9 1 X.length (strs X) fx, .ro 22 1 5 [.fr 1 (rowS B) false, .fr 1 (rowS C) false, .vw 2 1 0 D.length false, .lf (.slice none 0 0), .vw 3 1 0 E.length false] 0, .ro 9 1 D.length (strs D) fd, .ro 9 1 E.length (strs E) fe]
theorem k_0 : layC [[], [2, 3], [], []] [true, true, true, true] [0] = some [0] := by kernel_rfl
theorem k_02 : layC [[], [2, 3], [], []] [true, true, true, true] [0, 2] = some [0, 2] := by kernel_rfl
theorem k_03 : layC [[], [2, 3], [], []] [true, true, true, true] [0, 3] = some [0, 3] := by kernel_rfl
theorem frz_fr (hp : List Ob) (l : List ByteArray) : frV (fun _ => []) 60 hp [1] (.fr 1 (rowS l) false) = some (.fr 1 (rowS l) false, hp) := rfl
theorem frz_nil (hp : List Ob) : frV (fun _ => []) 60 hp [1] (.lf (.slice none 0 0)) = some (.fr 1 (rowS []) false, hp) := rfl
theorem frz_vw (hp : List Ob) (id fz : Nat) (l : List ByteArray) (h : hp[id]? = some (.ro 9 1 l.length (strs l) fz)) : frV (fun _ => []) 60 hp [1] (.vw id 1 0 l.length false) = some (.fr 1 (rowS l) false, hp.set id (.ro 9 1 l.length (strs l) (max fz l.length))) := by
  have := frC_row 58 hp id fz false l h
  simpa [frV] using this
section
variable {bz2 : EnvT} (hB : Bas bz2)
theorem En_row (m f : Nat) (B C X Y : List ByteArray) (hf : argz f = some [[1], [1], [1]]) (K : List ByteArray) (hK : Cn bz2 m f [.fr 1 (rowS X) false, .fr 1 (rowS B) false, .fr 1 (rowS Y) false] [] = some (.fr 1 (rowS K) false, [])) (objs objs1 : List Ob) (x y : TV) (ha : frA (fun _ => []) 60 [[1], [1], [1]] objs [x, .fr 1 (rowS B) false, y] = some ([.fr 1 (rowS X) false, .fr 1 (rowS B) false, .fr 1 (rowS Y) false], objs1)) : En bz2 m f [x, .fr 1 (rowS B) false, y] objs = some (.fr 1 (rowS K) false, objs1) := by
  rw [En_zz m hf ha, call_leaf _ _ _ _ _ _ rfl (fun _ => by simp only [renL, ren]) (fun _ => by simp only [ren]) hK]
theorem c_fr (m f : Nat) (B C X D E l : List ByteArray) (fx fd fe : Nat) (hf : argz f = some [[1], [1], [1]]) (K : List ByteArray) (hK : Cn bz2 m f [.fr 1 (rowS X) false, .fr 1 (rowS B) false, .fr 1 (rowS l) false] [] = some (.fr 1 (rowS K) false, [])) : absCallF (En bz2 m) (Mp.bn f) (H3 B C X D E fx fd fe) f [.vw 0 1 0 X.length false, .fr 1 (rowS B) false, .fr 1 (rowS l) false] = some (.fr 1 (rowS K) false, H3 B C X D E (max fx X.length) fd fe, 1, 1) := by
  have h := En_row m f B C X l hf K hK [.ro 9 1 X.length (strs X) fx] [.ro 9 1 X.length (strs X) (max fx X.length)] (.vw 0 1 0 X.length false) (.fr 1 (rowS l) false) (by
    simp only [frA, frz_fr, frz_vw [.ro 9 1 X.length (strs X) fx] 0 fx X rfl, List.set_cons_zero])
  unfold H3
  simp only [call_n, List.map_cons, List.map_nil, idsO, idsL, ids, idsL_strs, List.append_nil, List.nil_append, List.cons_append, Ob.live, Option.isSome_none, Option.isSome_some, k_0]
  simp only [renO, renL, ren, renL_strs, idxN, backN, mergeN, List.map_cons, List.map_nil, List.getD_cons_zero, List.getD_cons_succ, List.getD_eq_getElem?_getD, List.getElem?_cons_zero, List.getElem?_cons_succ, Option.getD_some, Nat.reduceEqDiff, Nat.reduceAdd, Nat.reduceBEq, List.length_cons, List.length_nil, List.contains_cons, List.contains_nil, Bool.or_true, Bool.true_or, Bool.or_false, Bool.false_or, Bool.false_eq_true, Nat.zero_testBit, and_self, true_and, false_and, if_true, if_false, List.drop_succ_cons, List.drop_zero, List.drop_nil, Nat.reduceLeDiff, and00, mask, alw, List.foldr_nil, List.filter_nil, Option.map_some, Nat.zero_add, Nat.add_zero, mp_bn, mp_ban, h, mp_bn]
  rfl
theorem c_nil (m f : Nat) (B C X D E : List ByteArray) (fx fd fe : Nat) (hf : argz f = some [[1], [1], [1]]) (K : List ByteArray) (hK : Cn bz2 m f [.fr 1 (rowS X) false, .fr 1 (rowS B) false, .fr 1 (rowS []) false] [] = some (.fr 1 (rowS K) false, [])) : absCallF (En bz2 m) (Mp.bn f) (H3 B C X D E fx fd fe) f [.vw 0 1 0 X.length false, .fr 1 (rowS B) false, .lf (.slice none 0 0)] = some (.fr 1 (rowS K) false, H3 B C X D E (max fx X.length) fd fe, 1, 1) := by
  have h := En_row m f B C X [] hf K hK [.ro 9 1 X.length (strs X) fx] [.ro 9 1 X.length (strs X) (max fx X.length)] (.vw 0 1 0 X.length false) (.lf (.slice none 0 0)) (by
    simp only [frA, frz_fr, frz_nil, frz_vw [.ro 9 1 X.length (strs X) fx] 0 fx X rfl, List.set_cons_zero])
  unfold H3
  simp only [call_n, List.map_cons, List.map_nil, idsO, idsL, ids, idsL_strs, List.append_nil, List.nil_append, List.cons_append, Ob.live, Option.isSome_none, Option.isSome_some, k_0]
  simp only [renO, renL, ren, renL_strs, idxN, backN, mergeN, List.map_cons, List.map_nil, List.getD_cons_zero, List.getD_cons_succ, List.getD_eq_getElem?_getD, List.getElem?_cons_zero, List.getElem?_cons_succ, Option.getD_some, Nat.reduceEqDiff, Nat.reduceAdd, Nat.reduceBEq, List.length_cons, List.length_nil, List.contains_cons, List.contains_nil, Bool.or_true, Bool.true_or, Bool.or_false, Bool.false_or, Bool.false_eq_true, Nat.zero_testBit, and_self, true_and, false_and, if_true, if_false, List.drop_succ_cons, List.drop_zero, List.drop_nil, Nat.reduceLeDiff, and00, mask, alw, List.foldr_nil, List.filter_nil, Option.map_some, Nat.zero_add, Nat.add_zero, mp_bn, mp_ban, h, mp_bn]
  rfl
theorem c_D (m f : Nat) (B C X D E : List ByteArray) (fx fd fe : Nat) (hf : argz f = some [[1], [1], [1]]) (K : List ByteArray) (hK : Cn bz2 m f [.fr 1 (rowS X) false, .fr 1 (rowS B) false, .fr 1 (rowS D) false] [] = some (.fr 1 (rowS K) false, [])) : absCallF (En bz2 m) (Mp.bn f) (H3 B C X D E fx fd fe) f [.vw 0 1 0 X.length false, .fr 1 (rowS B) false, .vw 2 1 0 D.length false] = some (.fr 1 (rowS K) false, H3 B C X D E (max fx X.length) (max fd D.length) fe, 5, 5) := by
  have h := En_row m f B C X D hf K hK [.ro 9 1 X.length (strs X) fx, .ro 9 1 D.length (strs D) fd] [.ro 9 1 X.length (strs X) (max fx X.length), .ro 9 1 D.length (strs D) (max fd D.length)] (.vw 0 1 0 X.length false) (.vw 1 1 0 D.length false) (by
    simp only [frA, frz_fr, frz_vw [.ro 9 1 X.length (strs X) fx, .ro 9 1 D.length (strs D) fd] 0 fx X rfl, List.set_cons_zero, frz_vw [.ro 9 1 X.length (strs X) (max fx X.length), .ro 9 1 D.length (strs D) fd] 1 fd D rfl, List.set_cons_succ])
  unfold H3
  simp only [call_n, List.map_cons, List.map_nil, idsO, idsL, ids, idsL_strs, List.append_nil, List.nil_append, List.cons_append, Ob.live, Option.isSome_none, Option.isSome_some, k_02]
  simp only [renO, renL, ren, renL_strs, idxN, backN, mergeN, List.map_cons, List.map_nil, List.getD_cons_zero, List.getD_cons_succ, List.getD_eq_getElem?_getD, List.getElem?_cons_zero, List.getElem?_cons_succ, Option.getD_some, Nat.reduceEqDiff, Nat.reduceAdd, Nat.reduceBEq, List.length_cons, List.length_nil, List.contains_cons, List.contains_nil, Bool.or_true, Bool.true_or, Bool.or_false, Bool.false_or, Bool.false_eq_true, Nat.zero_testBit, and_self, true_and, false_and, if_true, if_false, List.drop_succ_cons, List.drop_zero, List.drop_nil, Nat.reduceLeDiff, and00, mask, alw, List.foldr_nil, List.filter_nil, Option.map_some, Nat.zero_add, Nat.add_zero, mp_bn, mp_ban, h, mp_bn]
  rfl
theorem c_E (m f : Nat) (B C X D E : List ByteArray) (fx fd fe : Nat) (hf : argz f = some [[1], [1], [1]]) (K : List ByteArray) (hK : Cn bz2 m f [.fr 1 (rowS X) false, .fr 1 (rowS B) false, .fr 1 (rowS E) false] [] = some (.fr 1 (rowS K) false, [])) : absCallF (En bz2 m) (Mp.bn f) (H3 B C X D E fx fd fe) f [.vw 0 1 0 X.length false, .fr 1 (rowS B) false, .vw 3 1 0 E.length false] = some (.fr 1 (rowS K) false, H3 B C X D E (max fx X.length) fd (max fe E.length), 9, 9) := by
  have h := En_row m f B C X E hf K hK [.ro 9 1 X.length (strs X) fx, .ro 9 1 E.length (strs E) fe] [.ro 9 1 X.length (strs X) (max fx X.length), .ro 9 1 E.length (strs E) (max fe E.length)] (.vw 0 1 0 X.length false) (.vw 1 1 0 E.length false) (by
    simp only [frA, frz_fr, frz_vw [.ro 9 1 X.length (strs X) fx, .ro 9 1 E.length (strs E) fe] 0 fx X rfl, List.set_cons_zero, frz_vw [.ro 9 1 X.length (strs X) (max fx X.length), .ro 9 1 E.length (strs E) fe] 1 fe E rfl, List.set_cons_succ])
  unfold H3
  simp only [call_n, List.map_cons, List.map_nil, idsO, idsL, ids, idsL_strs, List.append_nil, List.nil_append, List.cons_append, Ob.live, Option.isSome_none, Option.isSome_some, k_03]
  simp only [renO, renL, ren, renL_strs, idxN, backN, mergeN, List.map_cons, List.map_nil, List.getD_cons_zero, List.getD_cons_succ, List.getD_eq_getElem?_getD, List.getElem?_cons_zero, List.getElem?_cons_succ, Option.getD_some, Nat.reduceEqDiff, Nat.reduceAdd, Nat.reduceBEq, List.length_cons, List.length_nil, List.contains_cons, List.contains_nil, Bool.or_true, Bool.true_or, Bool.or_false, Bool.false_or, Bool.false_eq_true, Nat.zero_testBit, and_self, true_and, false_and, if_true, if_false, List.drop_succ_cons, List.drop_zero, List.drop_nil, Nat.reduceLeDiff, and00, mask, alw, List.foldr_nil, List.filter_nil, Option.map_some, Nat.zero_add, Nat.add_zero, mp_bn, mp_ban, h, mp_bn]
  rfl
theorem same_call (hB : Bas bz2) (n : Nat) (a b : List ByteArray) (ha : a.length ≤ 100000) (hb : b.length ≤ 100000) (bn : Nat → Nat) (hp : List Ob) : absCallF (En bz2 (n + 1)) bn hp 4 [.fr 1 (rowS a) false, .fr 1 (rowS b) false] = some (.lf (.bool (decide (a = b))), hp, 0, 0) := call_leaf _ _ _ _ _ _ rfl (fun _ => by simp only [renL, ren]) (fun _ => by simp only [ren]) (sameTexts_en hB n a b ha hb)
theorem around_call (hB : Bas bz2) (n : Nat) (a : Int) (m : Nat) (hm : 0 < m) (ha : -9223372036854775808 ≤ a ∧ a ≤ 9223372036854775807) (bn : Nat → Nat) (hp : List Ob) : absCallF (En bz2 (n + 1)) bn hp 7 [.lf (.int .i64 a), .lf (.int .i64 (m : Int))] = some (.lf (.int .i64 (arnd a m : Int)), hp, 0, 0) := call_leaf _ _ _ _ _ _ rfl (fun _ => by simp only [renL, ren]) (fun _ => by simp only [ren]) (by rw [En_in _ rfl]; exact (around_any hB n a m hm ha).1)
theorem lives_call (hB : Bas bz2) (n : Nat) (bn : Nat → Nat) (hp : List Ob) : absCallF (En bz2 (n + 1)) bn hp 8 [] = some (.lf (.bool true), hp, 0, 0) := call_leaf _ _ _ _ _ _ rfl (fun _ => by simp only [renL]) (fun _ => by simp only [ren]) (by
  rw [En_in _ rfl]
  unfold Cn callF
  simp only [hB.2])
theorem kept5 (hB : Bas bz2) (n : Nat) (L O N : List ByteArray) (hO : O.length ≤ 10000) (hN : N.length ≤ 10000) (hL : L.length ≤ 10000) : Cn bz2 (n + 3) 5 [.fr 1 (rowS L) false, .fr 1 (rowS O) false, .fr 1 (rowS N) false] [] = some (.fr 1 (rowS (keptR L O N)) false, []) := by rw [keptP_any hB n L O N hO hN, kept_eq]
theorem keptR_len (L O N : List ByteArray) (hN : N.length ≤ 10000) : (keptR L O N).length ≤ 100000 := by
  unfold keptR
  split
  · rw [keR_len]; omega
  · simp
end
end Go.Eng
end
