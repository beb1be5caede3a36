/- Part of the engine that runs the program by evaluation (X12). No condition of its own. -/
import Derived.Test.YtjgkocijmbepmaaGreatDoorX11
set_option linter.unusedVariables false
section
set_option linter.unusedVariables false
set_option linter.unusedSimpArgs false
namespace Go.Eng
open Go.Proofs
theorem fn_5 : Tryz.prog.funcs[5]? = some Tryz.f5 := by kernel_rfl
theorem ok_5 : okL Tryz.prog 5 = true := by kernel_rfl
theorem call_new (env : EnvT) (bn : Nat → Nat) (hp : List Ob) (f : FuncId) (args : List TV) (k m : Nat) (cs : List ByteArray) (ha : idsL args = []) (hr : ∀ g : Nat → Nat, renL g args = args) (h : env f args [] = some (.vw 0 1 0 k false, [.ro 9 1 m (strs cs) 0])) : absCallF env bn hp f args = some (.vw hp.length 1 0 k false, hp ++ [.ro 9 1 m (strs cs) 0], 0, 0) := by
  have h1 : ∀ (g : List (List Nat)) (l : List Bool), layC g l [] = some [] := fun g l => by
    unfold layC
    simp [reachG, closedG]
  rw [call_n, ha, h1]
  simp only [hr, List.map_nil, h]
  have hm : ∀ (n i : Nat) (hp : List Ob), mergeN [] (bn 0) [.ro 9 1 m (strs cs) 0] n i hp = hp ++ [.ro 9 1 m (strs cs) 0] := fun n i hp => by
    induction hp generalizing i with
    | nil => simp [mergeN, renO, renL_strs]
    | cons ob hp ih => simp [mergeN, ih]
  simp only [List.length_nil, Nat.zero_le, if_true, mask, alw, List.foldr_nil, List.filter_nil, hm, ren, backN, Nat.add_zero, Nat.sub_zero]
def ovr (U : List ByteArray) (off : Nat) (Y : List ByteArray) : List ByteArray := U.take off ++ Y ++ U.drop (off + Y.length)
theorem cp_row (hp : List Ob) (id off len n : Nat) (U Y : List ByteArray) (f g : Bool) (h : hp[id]? = some (.ro 9 1 n (strs U) 0)) (hn : off + len ≤ n) (hy : Y.length ≤ len) : absCopy Tryz.prog hp #[22, 22] (.vw id 1 off len f) (.fr 1 (rowS Y) g) = some (.lf (.int .i64 (Y.length : Int)), hp.set id (.ro 9 1 n (strs (ovr U off Y)) 0), 0, 2 ^ id) := by
  rw [cp_22]
  unfold cpT
  simp only [srcR, if_true, rowS_len, flatD_rowS, h]
  have hm : Nat.min Y.length len = Y.length := Nat.min_eq_left hy
  rw [if_pos ⟨⟨trivial, trivial⟩, hn, Nat.zero_le _⟩, hm]
  have e : putC (strs U) off ((strs Y).take Y.length) = strs (ovr U off Y) := by
    rw [strs_take]
    unfold putC ovr strs
    simp
  rw [e]
section
variable {bz2 : EnvT} (hB : Bas bz2)
theorem fits_call (hB : Bas bz2) (n : Nat) (L O : List ByteArray) (hO : O.length ≤ 100000) (bn : Nat → Nat) (hp : List Ob) : absCallF (En bz2 (n + 1)) bn hp 9 [.fr 1 (rowS L) false, .fr 1 (rowS O) false] = some (.lf (.bool ((L.length : Int) == ((O.length + 1 : Nat) : Int))), hp, 0, 0) := call_leaf _ _ _ _ _ _ rfl (fun _ => by simp only [renL, ren]) (fun _ => by simp only [ren]) (by rw [En_in _ rfl]; exact fits_any hB n L O hO)
theorem usual_call (hB : Bas bz2) (n : Nat) (N : List ByteArray) (hl : N.length ≤ 10000) (bn : Nat → Nat) (hp : List Ob) : absCallF (En bz2 (n + 2)) bn hp 13 [.fr 1 (rowS N) false] = some (.vw hp.length 1 0 (N.length + 1) false, hp ++ [.ro 9 1 (N.length + 1) (strs (usual N)) 0], 0, 0) := call_new _ _ _ _ _ _ _ _ rfl (fun _ => by simp only [renL, ren]) (by rw [En_in _ rfl]; exact usual_any hB n N hl)
theorem call_vON (env : EnvT) (O N : List ByteArray) (m g k : Nat) (h : env 10 [.lf (.int .i64 (m : Int)), .fn g [] [.pt 0 0, .pt 1 0]] (vON O N) = some (.lf (.int .i64 (k : Int)), vON O N)) (bn : Nat → Nat) (hb : bn 2 = 0) : absCallF env bn (vON O N) 10 [.lf (.int .i64 (m : Int)), .fn g [] [.pt 0 0, .pt 1 0]] = some (.lf (.int .i64 (k : Int)), vON O N, 3, 3) := by
  unfold vON at h ⊢
  simp only [call_n, List.map_cons, List.map_nil, idsO, idsL, ids, idsL_strs, List.append_nil, List.nil_append, List.cons_append, Ob.live, Option.isSome_none, Option.isSome_some, k2]
  simp only [renO, renL, ren, renL_strs, idxN, backN, mergeN, List.map_cons, List.map_nil, List.getD_cons_zero, List.getD_cons_succ, List.getD_eq_getElem?_getD, List.getElem?_cons_zero, List.getElem?_cons_succ, Option.getD_some, Nat.reduceEqDiff, Nat.reduceAdd, Nat.reduceBEq, List.length_cons, List.length_nil, List.contains_cons, List.contains_nil, Bool.or_true, Bool.true_or, Bool.or_false, Bool.false_or, Bool.false_eq_true, Nat.zero_testBit, and_self, true_and, false_and, if_true, if_false, List.drop_succ_cons, List.drop_zero, List.drop_nil, Nat.reduceLeDiff, and00, mask, alw, List.foldr_nil, List.filter_nil, Option.map_some, Nat.zero_add, Nat.add_zero, mp_bn, mp_ban, h, hb]
  rfl
theorem bef_call (hB : Bas bz2) (n : Nat) (O N : List ByteArray) (hO : O.length ≤ 10000) (hN : N.length ≤ 10000) : absCallF (En bz2 (n + 2)) (Mp.bn 10) (vON O N) 10 [.lf (.int .i64 ((min O.length N.length : Nat) : Int)), .fn 11 [] [.pt 0 0, .pt 1 0]] = some (.lf (.int .i64 (bef O N : Int)), vON O N, 3, 3) := by
  refine call_vON _ O N _ _ _ ?_ _ (mp_bn 10 2)
  rw [En_in _ rfl]
  refine agreeing_any hB (n + 1) 11 ok_11 O N _ (by omega) (pF O N) fun i hi => ?_
  rw [En_in _ rfl]
  refine same1_any hB n O N i _ _ ?_ ?_
  · rw [List.getElem?_eq_getElem (show i < O.length by omega), List.getD_eq_getElem?_getD, List.getElem?_eq_getElem (show i < O.length by omega)]; rfl
  · rw [List.getElem?_eq_getElem (show i < N.length by omega), List.getD_eq_getElem?_getD, List.getElem?_eq_getElem (show i < N.length by omega)]; rfl
theorem beh_call (hB : Bas bz2) (n : Nat) (O N : List ByteArray) (hO : O.length ≤ 10000) (hN : N.length ≤ 10000) : absCallF (En bz2 (n + 2)) (Mp.bn 10) (vON O N) 10 [.lf (.int .i64 ((min O.length N.length - bef O N : Nat) : Int)), .fn 12 [] [.pt 0 0, .pt 1 0]] = some (.lf (.int .i64 (beh O N : Int)), vON O N, 3, 3) := by
  refine call_vON _ O N _ _ _ ?_ _ (mp_bn 10 2)
  rw [En_in _ rfl]
  refine agreeing_any hB (n + 1) 12 ok_12 O N _ (by omega) (pB O N) fun i hi => ?_
  rw [En_in _ rfl]
  refine same2_any hB n O N i _ _ (by omega) (by omega) (by omega) (by omega) ?_ ?_
  · rw [List.getElem?_eq_getElem (show O.length - 1 - i < O.length by omega), List.getD_eq_getElem?_getD, List.getElem?_eq_getElem (show O.length - 1 - i < O.length by omega)]; rfl
  · rw [List.getElem?_eq_getElem (show N.length - 1 - i < N.length by omega), List.getD_eq_getElem?_getD, List.getElem?_eq_getElem (show N.length - 1 - i < N.length by omega)]; rfl
end
end Go.Eng
end
