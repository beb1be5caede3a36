/- Part of the engine that runs the program by evaluation (X15). No condition of its own. -/
import Derived.Test.YtjgkocijmbepmaaGreatDoorX27
set_option linter.unusedVariables false
section
set_option linter.unusedVariables false
set_option linter.unusedSimpArgs false
namespace Go.Eng
open Go.Proofs
theorem bs0 (hp : List Ob) : bsF 9 1 0 [.lf (.string ⟨#[]⟩)] [] hp = some (.vw hp.length 1 0 0 false, hp ++ [.ro 9 1 0 [] 0], 0, 0) := by kernel_rfl
theorem bs5 (hp : List Ob) (xs ys : List (List Dt)) (f g : Bool) (i n k m : Nat) : bsF 22 1 5 [.lf (.slice none 0 0)] [(0, .fr 1 xs f), (1, .fr 1 ys g), (2, .vw i 1 0 n false), (3, .lf (.slice none 0 0)), (4, .vw k 1 0 m false)] hp = some (.vw hp.length 1 0 5 false, hp ++ [.ro 22 1 5 [.fr 1 xs f, .fr 1 ys g, .vw i 1 0 n false, .lf (.slice none 0 0), .vw k 1 0 m false] 0], 0, 0) := by kernel_rfl
theorem ap_row (hp : List Ob) (id : Nat) (Z Y : List ByteArray) (g : Bool) (h : hp[id]? = some (.ro 9 1 Z.length (strs Z) 0)) (hl : Z.length + Y.length ≤ 1000000) : absAppend Tryz.prog hp #[22, 22] (.vw id 1 0 Z.length false) (.fr 1 (rowS Y) g) = some (.vw hp.length 1 0 (Z.length + Y.length) false, hp.set id (.ot none) ++ [.ro 9 1 (Z.length + Y.length) (strs (Z ++ Y)) 0], 0, 2 ^ id) := by
  rw [ap_22]
  simp only [apT, srcR, if_true, rowS_len, flatD_rowS, absApp, h]
  rw [if_pos ⟨⟨trivial, trivial, trivial, trivial⟩, Nat.le_refl _, Nat.zero_le _, fits_ok _ hl⟩, Nat.mul_one, strs_take, strs_app]
theorem st_at (hp : List Ob) (id m fz i : Nat) (l : List ByteArray) (s : ByteArray) (h : hp[id]? = some (.ro 9 1 m (strs l) fz)) (hi : i < l.length) (hf : fz ≤ i) : absStore Tryz.prog hp 9 (.lf (.string s)) (.pt id i) = some (.lf undef, hp.set id (.ro 9 1 m (strs (l.set i s)) fz), 0, 2 ^ id) := by
  rw [st_9]
  unfold stT
  have hc : cls (.lf (.string s)) = some [.lf (.string s)] := rfl
  simp only [h, hc, List.length_singleton, strs_len, Nat.mul_one]
  rw [if_pos ⟨trivial, by omega, hf⟩, putS l i s hi]
theorem l12 : lay 0 [[], [], []] [1, 2] = some [1, 2] := by kernel_rfl
theorem l15 : lay 0 [[], [], [], [], [], [0, 4]] [1, 5] = some [1, 5, 0, 4] := by kernel_rfl
section
variable {bz2 : EnvT} (hB : Bas bz2)
theorem rnd_3be (n : Nat) (B X : List ByteArray) (hp : List Ob) : ∃ tm, rnd (clean 0 (hz 3 2)) (be3 (bz2 := bz2) n) (te3 B X 5) hp = some (.ext 2, tm, hp) ∧ tm.length = 108 := by
  have hd : decide (((5 : Nat) : Int) < ((5 : Nat) : Int)) = false := by decide
  unfold be3 te3 rnd bod
  simp only [Tryz.f3, Option.getD_some, loop1, loop2]
  simp only [ex_skip, ex_plain, ex_seq, ex_cond, ex_block, ex_scope, ex_loop, ex_exit, ex_label, ex_ret, runS, stepT, wantT, absOp, evT, putT, List.replicate, List.set_cons_zero, List.set_cons_succ, Option.map_some, Bool.false_eq_true, List.length_cons, List.length_nil, List.cons_append, List.nil_append, List.getD_eq_getElem?_getD, List.getElem?_cons_zero, List.getElem?_cons_succ, Option.getD_some, Nat.reduceSub, Nat.reduceAdd, List.append_eq, newM_self, or00, and00, if_pos, nilPt, absLoad, cellsO, srcR, absApp, stT, apT, lnT, rowLen, resL, resV, Nat.zero_and, true_and, and_true, Nat.zero_add, le_self, zero_le_eq, Nat.mul_one, Nat.zero_mul, List.drop_zero, strs_take, strs_app, Bool.and_self, cls_vw, putC, List.take_zero, List.take_succ_cons, List.drop_succ_cons, if_true, List.length_append, Nat.le_add_left, if_false, pure_bin, pure_un, pure_conv, pure_index, pure_len, pure_slice, orE, absCall, List.map_cons, List.map_nil, Array.toList_map, absNilCheck, absExtract, Bool.not_true, Bool.not_false, mp_ok, mp_bn, mp_ban, mp_gl, pure_min, List.getElem?_toArray, Option.bind_some, beq_self_eq_true, bne_self_eq_false, eq_ft, eq_tf, int00, toNat0, ln_26, b2_lss_3, hd]
  exact ⟨_, rfl, rfl⟩
theorem loop_3b (hB : Bas bz2) (n : Nat) (B C X D : List ByteArray) (hb : B.length ≤ 1000) (hc : C.length ≤ 1000) (hx : X.length ≤ 2000) (hdl : D.length ≤ 1000) (fu : Nat) : ∃ tm fx fd fe, itc (clean 0 (hz 3 2)) (be3 (bz2 := bz2) (n + 3)) (fu + 6) (te3 B X 0) (H3 B C X D (B ++ C) 0 0 0) = some (.ext 2, tm, H3 B C X D (B ++ C) fx fd fe) ∧ tm.length = 108 := by
  have hE : (B ++ C).length ≤ 2000 := by rw [List.length_append]; omega
  have h5 := fun (l : List ByteArray) (hl : l.length ≤ 2000) => kept5 hB n X B l (by omega) (by omega) (by omega)
  have h6 := fun (l : List ByteArray) (hl : l.length ≤ 2000) => keptR_any hB (n + 1) X B l (by omega) (by omega) (by omega)
  have hk := fun (l : List ByteArray) (hl : l.length ≤ 2000) => keptR_len X B l (by omega)
  have a5 : argz 5 = some [[1], [1], [1]] := rfl
  have a6 : argz 6 = some [[1], [1], [1]] := rfl
  have r0 := rnd_3b hB (n + 2) B C X D (B ++ C) (keptR X B B) 0 1 _ _ _ _ _ _ _ _ _ _ (by omega) rfl rfl (hk B (by omega)) (c_fr (n + 3) 5 B C X D (B ++ C) B 0 0 0 a5 _ (h5 B (by omega))) (c_fr (n + 3) 6 B C X D (B ++ C) B _ _ _ a6 _ (h6 B (by omega)))
  have r1 := rnd_3b hB (n + 2) B C X D (B ++ C) (keptR X B C) 1 1 _ _ _ _ _ _ _ _ _ _ (by omega) rfl rfl (hk C (by omega)) (c_fr (n + 3) 5 B C X D (B ++ C) C (max (max 0 X.length) X.length) 0 0 a5 _ (h5 C (by omega))) (c_fr (n + 3) 6 B C X D (B ++ C) C _ _ _ a6 _ (h6 C (by omega)))
  have r2 := fun fx fd fe => rnd_3b hB (n + 2) B C X D (B ++ C) (keptR X B D) 2 5 _ _ _ _ _ _ _ _ _ _ (by omega) rfl rfl (hk D (by omega)) (c_D (n + 3) 5 B C X D (B ++ C) fx fd fe a5 _ (h5 D (by omega))) (c_D (n + 3) 6 B C X D (B ++ C) _ _ _ a6 _ (h6 D (by omega)))
  have r3 := fun fx fd fe => rnd_3b hB (n + 2) B C X D (B ++ C) (keptR X B []) 3 1 _ _ _ _ _ _ _ _ _ _ (by omega) rfl rfl (hk [] (by simp)) (c_nil (n + 3) 5 B C X D (B ++ C) fx fd fe a5 _ (h5 [] (by simp))) (c_nil (n + 3) 6 B C X D (B ++ C) _ _ _ a6 _ (h6 [] (by simp)))
  have r4 := fun fx fd fe => rnd_3b hB (n + 2) B C X D (B ++ C) (keptR X B (B ++ C)) 4 9 _ _ _ _ _ _ _ _ _ _ (by omega) rfl rfl (hk (B ++ C) hE) (c_E (n + 3) 5 B C X D (B ++ C) fx fd fe a5 _ (h5 (B ++ C) hE)) (c_E (n + 3) 6 B C X D (B ++ C) _ _ _ a6 _ (h6 (B ++ C) hE))
  rw [itc_nor r0, itc_nor r1, itc_nor (r2 _ _ _), itc_nor (r3 _ _ _), itc_nor (r4 _ _ _)]
  obtain ⟨tm, h1, h2⟩ := rnd_3be (bz2 := bz2) (n + 3) B X (H3 B C X D (B ++ C) _ _ _)
  exact ⟨tm, _, _, _, itc_ext h1, h2⟩
end
end Go.Eng
end
