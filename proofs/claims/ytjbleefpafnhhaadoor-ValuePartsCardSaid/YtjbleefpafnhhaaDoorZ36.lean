import Derived.Test.YtjbleefpafnhhaaDoorZ33
import Derived.Test.YtjbleefpafnhhaaDoorZ35

/-
  ValueParts: its regions that read and call.
-/
set_option linter.unusedVariables false
set_option linter.unusedSimpArgs false
namespace Go.Proofs.YtjbleefpafnhhaaDoor
open Go.RowKit


/-! ### Region 10. -/
def vpf10 (gP gD gv gs os gx ox k i sn sc xl xc : Nat) (mv dv : Value) (C Tc Xc : List Value) (xk xn : Int) (P : List Df) (ty : Ty) (x : Tr) : Nat → Value → World → Prop
  | 0, v, w => v = .agg #[mv, dv]
  | 1, v, w => v = .pointer (some ⟨gD, 8, none⟩)
  | 2, v, w => v = .slice (some ⟨gs, os, none⟩) sn sc
  | 3, v, w => v = .int .i64 (k : Int)
  | 4, v, w => v = .pointer (some ⟨gs, os + k * 11, none⟩)
  | 5, v, w => v = .pointer (some ⟨gs, os + k * 11 + 4, none⟩)
  | 6, v, w => v = .agg Tc.toArray
  | 7, v, w => v = .pointer (some ⟨gv, 2, none⟩)
  | 8, v, w => v = .slice (some ⟨gx, ox, none⟩) xl xc
  | 9, v, w => v = .int .i64 (i : Int)
  | 10, v, w => v = .pointer (some ⟨gx, ox + i * 3, none⟩)
  | 11, v, w => v = .agg Xc.toArray
  | 12, v, w => v = .bool true
  | _, _, _ => True
theorem vpf10_ext (gP gD gv gs os gx ox k i sn sc xl xc : Nat) (mv dv : Value) (C Tc Xc : List Value) (xk xn : Int) (P : List Df) (ty : Ty) (x : Tr) (S : Nat) : ∀ j v w w', j < 13 → (Ext S w w' ∨ (j ≠ 999 ∧ Never w w')) → vpf10 gP gD gv gs os gx ox k i sn sc xl xc mv dv C Tc Xc xk xn P ty x j v w → vpf10 gP gD gv gs os gx ox k i sn sc xl xc mv dv C Tc Xc xk xn P ty x j v w' := by
  intro j v w w' hj he h
  match j, hj, he, h with
  | 0, _, he, h => exact h
  | 1, _, he, h => exact h
  | 2, _, he, h => exact h
  | 3, _, he, h => exact h
  | 4, _, he, h => exact h
  | 5, _, he, h => exact h
  | 6, _, he, h => exact h
  | 7, _, he, h => exact h
  | 8, _, he, h => exact h
  | 9, _, he, h => exact h
  | 10, _, he, h => exact h
  | 11, _, he, h => exact h
  | 12, _, he, h => exact h
  | n + 13, hn, _, _ => exact absurd hn (by omega)
def vpD10 : List Nat := [50, 51, 52, 53, 54, 55, 56, 57, 58, 59, 60, 61, 62]
def vpd10 (k : Nat) : Nat := [50, 51, 52, 53, 54, 55, 56, 57, 58, 59, 60, 61, 62].getD k 0
theorem vpd10_mem : ∀ k, k < 13 → vpd10 k < 127 ∧ vpd10 k ∈ vpD10 := by decide
theorem vpd10_inj : ∀ i, i < 13 → ∀ k, k < 13 → k ≠ i → vpd10 i ≠ vpd10 k := by decide

set_option maxHeartbeats 4000000 in
set_option maxRecDepth 100000 in
theorem vpreg10 {Q : Exit → Act → World → Prop} {id : Nat} {ops : Array Oper} (hops : ops = ((Tryd.f9.body).bind (opsOf 10)).getD #[]) (a0 : Act) (w0 : World) (gP gD gv gs os gx ox k i sn sc xl xc : Nat) (mv dv : Value) (C Tc Xc : List Value) (xk xn : Int) (P : List Df) (ty : Ty) (x : Tr) (hsz : a0.tmps.size = 127)
    (h9 : ag a0 9 = .pointer (some ⟨gP, 0, none⟩)) (h10 : ag a0 10 = .pointer (some ⟨gD, 0, none⟩)) (h11 : ag a0 11 = .pointer (some ⟨gv, 0, none⟩)) (h12 : ag a0 12 = .int .i64 (i : Int)) (h13 : ag a0 13 = .int .i64 (k : Int)) (hP : Arr w0 gP 2 26 [mv, dv]) (hPr : PrAt w0 P (.agg #[mv, dv])) (hK : Kv w0) (hD : Arr w0 gD 31 46 C) (hC8 : C[8]? = some (.slice (some ⟨gs, os, none⟩) sn sc))
    (hT : w0.rangeAt gs (os + k * 11 + 4) Tc) (hTl : Tc.length = 5) (hTy : TyAt w0 ty (.agg Tc.toArray)) (hv : Arr w0 gv 3 53 [.int .i64 xk, .int .i64 xn, .slice (some ⟨gx, ox, none⟩) xl xc])
    (hX : w0.rangeAt gx (ox + i * 3) Xc) (hXl : Xc.length = 3) (hXt : TrAt w0 x (.agg Xc.toArray)) (hkn : (k : Int) < (sn : Int)) (hk0 : (0 : Int) ≤ (k : Int)) (hin : (i : Int) < (xl : Int)) (hi0 : (0 : Int) ≤ (i : Int)) (hpv : (pv P x ty 24 0).1 = true)
    (hQ : ∀ (vs : Nat → Value) (w' : World), vs 63 = .bool false → Below w0.heap.size w0 w' → ∀ a', a' = (vpD10 ++ [63]).foldl (fun b s => b.put (some s) (vs s)) a0 → Q .normal a' w') :
    (Code.region id ops true).wp Tryd.prog Q a0 w0 := by
  have hg0 : Below w0.heap.size w0 w0.drew := below_drewN (Below.refl _ _) 1
  have hlt : ∀ k, k < 13 → vpd10 k < a0.tmps.size := fun k hk => by have := (vpd10_mem k hk).1; omega
  refine wp_region_factsE 13 999 vpD10 vpd10 (vpf10 gP gD gv gs os gx ox k i sn sc xl xc mv dv C Tc Xc xk xn P ty x) (fun w => Below w0.heap.size w0 w) w0.heap.size Never (fun k => k) (by kernel_rfl) (by subst hops; kernel_rfl) (by subst hops; kernel_rfl) (by subst hops; kernel_rfl) (vpf10_ext gP gD gv gs os gx ox k i sn sc xl xc mv dv C Tc Xc xk xn P ty x w0.heap.size) hg0 ?_ ?_
  · intro j a w hj ho hg hd
    have hgs := hg.size
    match j, hj, hd with
    | 0, hk, hd =>
      have s : (ops[0]?).map sig = some (some 50, .load 26 (.tmp 9), 26, none) := by subst hops; kernel_rfl
      have hgd : GdOk ops a none := trivial
      have e0 : ag a 9 = .pointer (some ⟨gP, 0, none⟩) := (ho.off 9 (by decide)).trans h9
      refine op_loadg s hgd gP 0 e0 [mv, dv] _ ((hP.later hg).range) Tryd.underlying26 rfl info_prog ?_
      exact PostE.put (i := 0) ho (vpd10_mem 0 hk).2 (hlt 0 hk) (fun k hk2 hne _ => vpd10_inj 0 hk k hk2 hne) (.inl (Ext.refl _ _)) rfl hg
    | 1, hk, hd =>
      have s : (ops[1]?).map sig = some (some 51, .fieldAddr 46 (.tmp 10) 4, 0, none) := by subst hops; kernel_rfl
      have hgd : GdOk ops a none := trivial
      have e0 : ag a 10 = .pointer (some ⟨gD, 0, none⟩) := (ho.off 10 (by decide)).trans h10
      refine op_valg s hgd (w' := w) (v := .pointer (some ⟨gD, 8, none⟩)) ?_ ?_
      · simp only [execOp, eval_tmp, e0]
        go_simp
      · exact PostE.put (i := 1) ho (vpd10_mem 1 hk).2 (hlt 1 hk) (fun k hk2 hne _ => vpd10_inj 1 hk k hk2 hne) (.inl (Ext.refl _ _)) rfl hg
    | 2, hk, hd =>
      have s : (ops[2]?).map sig = some (some 52, .load 40 (.tmp 51), 40, none) := by subst hops; kernel_rfl
      have hgd : GdOk ops a none := trivial
      have d1 := hd 1 (by decide) (by subst hops; kernel_rfl)
      have e0 : ag a 51 = .pointer (some ⟨gD, 8, none⟩) := d1
      have hc := (hD.later hg).cell (j := 8) hC8
      refine op_valg s hgd (w' := w) (v := .slice (some ⟨gs, os, none⟩) sn sc) ?_ ?_
      · simp only [execOp, eval_tmp, e0]
        go_simp
      · exact PostE.put (i := 2) ho (vpd10_mem 2 hk).2 (hlt 2 hk) (fun k hk2 hne _ => vpd10_inj 2 hk k hk2 hne) (.inl (Ext.refl _ _)) rfl hg
    | 3, hk, hd =>
      have s : (ops[3]?).map sig = some (some 53, .move (.tmp 13), 3, none) := by subst hops; kernel_rfl
      have hgd : GdOk ops a none := trivial
      have e0 : ag a 13 = .int .i64 (k : Int) := (ho.off 13 (by decide)).trans h13
      refine op_valg s hgd (w' := w) (v := .int .i64 (k : Int)) ?_ ?_
      · exact congrArg (fun x => Result.ok (Next.value x) w) e0
      · exact PostE.put (i := 3) ho (vpd10_mem 3 hk).2 (hlt 3 hk) (fun k hk2 hne _ => vpd10_inj 3 hk k hk2 hne) (.inl (Ext.refl _ _)) rfl hg
    | 4, hk, hd =>
      have s : (ops[4]?).map sig = some (some 54, .indexAddr 40 (.tmp 52) (.tmp 53), 0, none) := by subst hops; kernel_rfl
      have hgd : GdOk ops a none := trivial
      have d2 := hd 2 (by decide) (by subst hops; kernel_rfl)
      have d3 := hd 3 (by decide) (by subst hops; kernel_rfl)
      have e0 : ag a 52 = .slice (some ⟨gs, os, none⟩) sn sc := d2
      have e1 : ag a 53 = .int .i64 (k : Int) := d3
      refine op_valg s hgd (w' := w) (v := .pointer (some ⟨gs, os + k * 11, none⟩)) ?_ ?_
      · simp only [execOp, eval_tmp, e0, e1]
        go_simp
      · exact PostE.put (i := 4) ho (vpd10_mem 4 hk).2 (hlt 4 hk) (fun k hk2 hne _ => vpd10_inj 4 hk k hk2 hne) (.inl (Ext.refl _ _)) rfl hg
    | 5, hk, hd =>
      have s : (ops[5]?).map sig = some (some 55, .fieldAddr 66 (.tmp 54) 2, 0, none) := by subst hops; kernel_rfl
      have hgd : GdOk ops a none := trivial
      have d4 := hd 4 (by decide) (by subst hops; kernel_rfl)
      have e0 : ag a 54 = .pointer (some ⟨gs, os + k * 11, none⟩) := d4
      refine op_valg s hgd (w' := w) (v := .pointer (some ⟨gs, os + k * 11 + 4, none⟩)) ?_ ?_
      · simp only [execOp, eval_tmp, e0]
        go_simp
      · exact PostE.put (i := 5) ho (vpd10_mem 5 hk).2 (hlt 5 hk) (fun k hk2 hne _ => vpd10_inj 5 hk k hk2 hne) (.inl (Ext.refl _ _)) rfl hg
    | 6, hk, hd =>
      have s : (ops[6]?).map sig = some (some 56, .load 31 (.tmp 55), 31, none) := by subst hops; kernel_rfl
      have hgd : GdOk ops a none := trivial
      have d5 := hd 5 (by decide) (by subst hops; kernel_rfl)
      have e0 : ag a 55 = .pointer (some ⟨gs, os + k * 11 + 4, none⟩) := d5
      refine op_loadg s hgd gs (os + k * 11 + 4) e0 Tc _ (range_below hT hg) Tryd.underlying31 rfl (by rw [hTl]; exact info_typesz) ?_
      exact PostE.put (i := 6) ho (vpd10_mem 6 hk).2 (hlt 6 hk) (fun k hk2 hne _ => vpd10_inj 6 hk k hk2 hne) (.inl (Ext.refl _ _)) rfl hg
    | 7, hk, hd =>
      have s : (ops[7]?).map sig = some (some 57, .fieldAddr 53 (.tmp 11) 2, 0, none) := by subst hops; kernel_rfl
      have hgd : GdOk ops a none := trivial
      have e0 : ag a 11 = .pointer (some ⟨gv, 0, none⟩) := (ho.off 11 (by decide)).trans h11
      refine op_valg s hgd (w' := w) (v := .pointer (some ⟨gv, 2, none⟩)) ?_ ?_
      · simp only [execOp, eval_tmp, e0]
        go_simp
      · exact PostE.put (i := 7) ho (vpd10_mem 7 hk).2 (hlt 7 hk) (fun k hk2 hne _ => vpd10_inj 7 hk k hk2 hne) (.inl (Ext.refl _ _)) rfl hg
    | 8, hk, hd =>
      have s : (ops[8]?).map sig = some (some 58, .load 51 (.tmp 57), 51, none) := by subst hops; kernel_rfl
      have hgd : GdOk ops a none := trivial
      have d7 := hd 7 (by decide) (by subst hops; kernel_rfl)
      have e0 : ag a 57 = .pointer (some ⟨gv, 2, none⟩) := d7
      have hc := (hv.later hg).cell (j := 2) (v := .slice (some ⟨gx, ox, none⟩) xl xc) rfl
      refine op_valg s hgd (w' := w) (v := .slice (some ⟨gx, ox, none⟩) xl xc) ?_ ?_
      · simp only [execOp, eval_tmp, e0]
        go_simp
      · exact PostE.put (i := 8) ho (vpd10_mem 8 hk).2 (hlt 8 hk) (fun k hk2 hne _ => vpd10_inj 8 hk k hk2 hne) (.inl (Ext.refl _ _)) rfl hg
    | 9, hk, hd =>
      have s : (ops[9]?).map sig = some (some 59, .move (.tmp 12), 3, none) := by subst hops; kernel_rfl
      have hgd : GdOk ops a none := trivial
      have e0 : ag a 12 = .int .i64 (i : Int) := (ho.off 12 (by decide)).trans h12
      refine op_valg s hgd (w' := w) (v := .int .i64 (i : Int)) ?_ ?_
      · exact congrArg (fun x => Result.ok (Next.value x) w) e0
      · exact PostE.put (i := 9) ho (vpd10_mem 9 hk).2 (hlt 9 hk) (fun k hk2 hne _ => vpd10_inj 9 hk k hk2 hne) (.inl (Ext.refl _ _)) rfl hg
    | 10, hk, hd =>
      have s : (ops[10]?).map sig = some (some 60, .indexAddr 51 (.tmp 58) (.tmp 59), 0, none) := by subst hops; kernel_rfl
      have hgd : GdOk ops a none := trivial
      have d8 := hd 8 (by decide) (by subst hops; kernel_rfl)
      have d9 := hd 9 (by decide) (by subst hops; kernel_rfl)
      have e0 : ag a 58 = .slice (some ⟨gx, ox, none⟩) xl xc := d8
      have e1 : ag a 59 = .int .i64 (i : Int) := d9
      refine op_valg s hgd (w' := w) (v := .pointer (some ⟨gx, ox + i * 3, none⟩)) ?_ ?_
      · simp only [execOp, eval_tmp, e0, e1]
        go_simp
      · exact PostE.put (i := 10) ho (vpd10_mem 10 hk).2 (hlt 10 hk) (fun k hk2 hne _ => vpd10_inj 10 hk k hk2 hne) (.inl (Ext.refl _ _)) rfl hg
    | 11, hk, hd =>
      have s : (ops[11]?).map sig = some (some 61, .load 53 (.tmp 60), 53, none) := by subst hops; kernel_rfl
      have hgd : GdOk ops a none := trivial
      have d10 := hd 10 (by decide) (by subst hops; kernel_rfl)
      have e0 : ag a 60 = .pointer (some ⟨gx, ox + i * 3, none⟩) := d10
      refine op_loadg s hgd gx (ox + i * 3) e0 Xc _ (range_below hX hg) Tryd.underlying53 rfl (by rw [hXl]; exact info_val) ?_
      exact PostE.put (i := 11) ho (vpd10_mem 11 hk).2 (hlt 11 hk) (fun k hk2 hne _ => vpd10_inj 11 hk k hk2 hne) (.inl (Ext.refl _ _)) rfl hg
    | 12, hk, hd =>
      have s : (ops[12]?).map sig = some (some 62, .call { callee := .value (.func 25), args := #[.tmp 50, .tmp 56, .tmp 61], argTypes := #[26, 31, 53] }, 4, none) := by subst hops; kernel_rfl
      have hgd : GdOk ops a none := trivial
      have d0 := hd 0 (by decide) (by subst hops; kernel_rfl)
      have d6 := hd 6 (by decide) (by subst hops; kernel_rfl)
      have d11 := hd 11 (by decide) (by subst hops; kernel_rfl)
      have e0 : ag a 50 = .agg #[mv, dv] := d0
      have e1 : ag a 56 = .agg Tc.toArray := d6
      have e2 : ag a 61 = .agg Xc.toArray := d11
      refine op_callg s hgd (w' := w) (f := 25) (args := #[.agg #[mv, dv], .agg Tc.toArray, .agg Xc.toArray]) ?_ ?_
      · simp only [execOp]
        go_simp
        refine ⟨by simpa [ag] using e0, by simpa [ag] using e1, by simpa [ag] using e2⟩
      · refine ((show Calls Tryd.prog _ _ w (BRes true w) from hpv ▸ valid_any P ty x w _ _ _ (hPr.later hg) (hTy.later hg) (hXt.later hg) (hK.later hg))).mono ?_
        rintro e w' ⟨rfl, hb⟩
        exact ⟨_, rfl, PostE.put (i := 12) ho (vpd10_mem 12 hk).2 (hlt 12 hk) (fun k hk2 hne _ => vpd10_inj 12 hk k hk2 hne) (.inl (Ext.of hb)) rfl (later hg hb)⟩
    | n + 13, hn, _ => exact absurd hn (by omega)
  · intro a w ho hg hf
    have s : (ops[13]?).map sig = some (some 63, .unOp .not 4 (.tmp 62), 4, none) := by subst hops; kernel_rfl
    have hgd : GdOk ops a none := trivial
    have d12 := hf 12 (by decide)
    have e0 : ag a 62 = .bool true := d12
    refine op_valg s hgd (w' := w) (v := .bool false) ?_ ?_
    · simp only [execOp, eval_tmp, e0]
      go_simp
    · have ho2 : Off (vpD10 ++ [63]) a0 (a.put (some 63) (.bool false)) := (ho.mono (fun s hs => List.mem_append_left _ hs)).put (by decide)
      exact hQ (ag (a.put (some 63) (.bool false))) w (ag_put (by rw [ho.size, hsz]; decide)) hg _ (ho2.eq (fun s hs => by rw [hsz]; revert s; decide))

/-! ### Region 15. -/
def vpf15 (gP gL g15 gv N : Nat) (mv dv : Value) (Lc C15 Xc : List Value) (P : List Df) (ty : Ty) (x x2 : Tr) (b : Bool) : Nat → Value → World → Prop
  | 0, v, w => v = .agg #[mv, dv]
  | 1, v, w => v = .agg Lc.toArray
  | 2, v, w => v = .agg C15.toArray
  | 3, v, w => v = .bool b
  | 4, v, w => v = .agg Xc.toArray
  | 5, v, w => v = .int .i64 (N : Int)
  | 6, v, w => v = .int .i64 (2 * (N : Int))
  | 7, v, w => v = .int .i64 (2 * (N : Int) + 1)
  | 8, v, w => v = .bool b
  | 9, v, w => v = .bool true
  | _, _, _ => True
theorem vpf15_ext (gP gL g15 gv N : Nat) (mv dv : Value) (Lc C15 Xc : List Value) (P : List Df) (ty : Ty) (x x2 : Tr) (b : Bool) (S : Nat) : ∀ j v w w', j < 10 → (Ext S w w' ∨ (j ≠ 999 ∧ Never w w')) → vpf15 gP gL g15 gv N mv dv Lc C15 Xc P ty x x2 b j v w → vpf15 gP gL g15 gv N mv dv Lc C15 Xc P ty x x2 b j v w' := by
  intro j v w w' hj he h
  match j, hj, he, h with
  | 0, _, he, h => exact h
  | 1, _, he, h => exact h
  | 2, _, he, h => exact h
  | 3, _, he, h => exact h
  | 4, _, he, h => exact h
  | 5, _, he, h => exact h
  | 6, _, he, h => exact h
  | 7, _, he, h => exact h
  | 8, _, he, h => exact h
  | 9, _, he, h => exact h
  | n + 10, hn, _, _ => exact absurd hn (by omega)
def vpD15 : List Nat := [75, 76, 77, 78, 79, 80, 81, 82, 83, 84]
def vpd15 (k : Nat) : Nat := [75, 76, 77, 78, 79, 80, 81, 82, 83, 84].getD k 0
theorem vpd15_mem : ∀ k, k < 10 → vpd15 k < 127 ∧ vpd15 k ∈ vpD15 := by decide
theorem vpd15_inj : ∀ i, i < 10 → ∀ k, k < 10 → k ≠ i → vpd15 i ≠ vpd15 k := by decide

set_option maxHeartbeats 4000000 in
set_option maxRecDepth 100000 in
theorem vpreg15 {Q : Exit → Act → World → Prop} {id : Nat} {ops : Array Oper} (hops : ops = ((Tryd.f9.body).bind (opsOf 15)).getD #[]) (a0 : Act) (w0 : World) (gP gL g15 gv N : Nat) (mv dv : Value) (Lc C15 Xc : List Value) (P : List Df) (ty : Ty) (x x2 : Tr) (b : Bool) (hsz : a0.tmps.size = 127)
    (h9 : ag a0 9 = .pointer (some ⟨gP, 0, none⟩)) (h11 : ag a0 11 = .pointer (some ⟨gv, 0, none⟩)) (h14 : ag a0 14 = .pointer (some ⟨gL, 0, none⟩)) (h15 : ag a0 15 = .pointer (some ⟨g15, 0, none⟩)) (hP : Arr w0 gP 2 26 [mv, dv]) (hPr : PrAt w0 P (.agg #[mv, dv])) (hK : Kv w0) (hL : w0.rangeAt gL 0 Lc) (hLl : Lc.length = 5) (hLt : TyAt w0 ty (.agg Lc.toArray))
    (v15 : VarAt w0 g15 x2 C15) (v11 : VarAt w0 gv x Xc) (hpv : (pv P x2 ty 24 0).1 = b) (hN : x.sz = (N : Int)) (hN2 : N ≤ 256) (hxn : x.nodes ≤ 1000) (hb : decide (2 * (N : Int) + 1 ≤ 256) = b)
    (hQ : ∀ (vs : Nat → Value) (w' : World), vs 17 = .bool true → Below w0.heap.size w0 w' → ∀ a', a' = (vpD15 ++ [17]).foldl (fun b s => b.put (some s) (vs s)) a0 → Q .normal a' w') :
    (Code.region id ops true).wp Tryd.prog Q a0 w0 := by
  have hg0 : Below w0.heap.size w0 w0.drew := below_drewN (Below.refl _ _) 1
  have hlt : ∀ k, k < 10 → vpd15 k < a0.tmps.size := fun k hk => by have := (vpd15_mem k hk).1; omega
  refine wp_region_factsE 10 999 vpD15 vpd15 (vpf15 gP gL g15 gv N mv dv Lc C15 Xc P ty x x2 b) (fun w => Below w0.heap.size w0 w) w0.heap.size Never (fun k => k) (by kernel_rfl) (by subst hops; kernel_rfl) (by subst hops; kernel_rfl) (by subst hops; kernel_rfl) (vpf15_ext gP gL g15 gv N mv dv Lc C15 Xc P ty x x2 b w0.heap.size) hg0 ?_ ?_
  · intro j a w hj ho hg hd
    have hgs := hg.size
    match j, hj, hd with
    | 0, hk, hd =>
      have s : (ops[0]?).map sig = some (some 75, .load 26 (.tmp 9), 26, none) := by subst hops; kernel_rfl
      have hgd : GdOk ops a none := trivial
      have e0 : ag a 9 = .pointer (some ⟨gP, 0, none⟩) := (ho.off 9 (by decide)).trans h9
      refine op_loadg s hgd gP 0 e0 [mv, dv] _ ((hP.later hg).range) Tryd.underlying26 rfl info_prog ?_
      exact PostE.put (i := 0) ho (vpd15_mem 0 hk).2 (hlt 0 hk) (fun k hk2 hne _ => vpd15_inj 0 hk k hk2 hne) (.inl (Ext.refl _ _)) rfl hg
    | 1, hk, hd =>
      have s : (ops[1]?).map sig = some (some 76, .load 31 (.tmp 14), 31, none) := by subst hops; kernel_rfl
      have hgd : GdOk ops a none := trivial
      have e0 : ag a 14 = .pointer (some ⟨gL, 0, none⟩) := (ho.off 14 (by decide)).trans h14
      refine op_loadg s hgd gL 0 e0 Lc _ (range_below hL hg) Tryd.underlying31 rfl (by rw [hLl]; exact info_typesz) ?_
      exact PostE.put (i := 1) ho (vpd15_mem 1 hk).2 (hlt 1 hk) (fun k hk2 hne _ => vpd15_inj 1 hk k hk2 hne) (.inl (Ext.refl _ _)) rfl hg
    | 2, hk, hd =>
      have s : (ops[2]?).map sig = some (some 77, .load 53 (.tmp 15), 53, none) := by subst hops; kernel_rfl
      have hgd : GdOk ops a none := trivial
      have e0 : ag a 15 = .pointer (some ⟨g15, 0, none⟩) := (ho.off 15 (by decide)).trans h15
      refine op_loadg s hgd g15 0 e0 C15 _ (range_below v15.rg hg) Tryd.underlying53 rfl (by rw [v15.ln]; exact info_val) ?_
      exact PostE.put (i := 2) ho (vpd15_mem 2 hk).2 (hlt 2 hk) (fun k hk2 hne _ => vpd15_inj 2 hk k hk2 hne) (.inl (Ext.refl _ _)) rfl hg
    | 3, hk, hd =>
      have s : (ops[3]?).map sig = some (some 78, .call { callee := .value (.func 25), args := #[.tmp 75, .tmp 76, .tmp 77], argTypes := #[26, 31, 53] }, 4, none) := by subst hops; kernel_rfl
      have hgd : GdOk ops a none := trivial
      have d0 := hd 0 (by decide) (by subst hops; kernel_rfl)
      have d1 := hd 1 (by decide) (by subst hops; kernel_rfl)
      have d2 := hd 2 (by decide) (by subst hops; kernel_rfl)
      have e0 : ag a 75 = .agg #[mv, dv] := d0
      have e1 : ag a 76 = .agg Lc.toArray := d1
      have e2 : ag a 77 = .agg C15.toArray := d2
      refine op_callg s hgd (w' := w) (f := 25) (args := #[.agg #[mv, dv], .agg Lc.toArray, .agg C15.toArray]) ?_ ?_
      · simp only [execOp]
        go_simp
        refine ⟨by simpa [ag] using e0, by simpa [ag] using e1, by simpa [ag] using e2⟩
      · refine ((show Calls Tryd.prog _ _ w (BRes b w) from hpv ▸ valid_any P ty x2 w _ _ _ (hPr.later hg) (hLt.later hg) (v15.later hg).tr (hK.later hg))).mono ?_
        rintro e w' ⟨rfl, hb⟩
        exact ⟨_, rfl, PostE.put (i := 3) ho (vpd15_mem 3 hk).2 (hlt 3 hk) (fun k hk2 hne _ => vpd15_inj 3 hk k hk2 hne) (.inl (Ext.of hb)) rfl (later hg hb)⟩
    | 4, hk, hd =>
      have s : (ops[4]?).map sig = some (some 79, .load 53 (.tmp 11), 53, none) := by subst hops; kernel_rfl
      have hgd : GdOk ops a none := trivial
      have e0 : ag a 11 = .pointer (some ⟨gv, 0, none⟩) := (ho.off 11 (by decide)).trans h11
      refine op_loadg s hgd gv 0 e0 Xc _ (range_below v11.rg hg) Tryd.underlying53 rfl (by rw [v11.ln]; exact info_val) ?_
      exact PostE.put (i := 4) ho (vpd15_mem 4 hk).2 (hlt 4 hk) (fun k hk2 hne _ => vpd15_inj 4 hk k hk2 hne) (.inl (Ext.refl _ _)) rfl hg
    | 5, hk, hd =>
      have s : (ops[5]?).map sig = some (some 80, .call { callee := .value (.func 28), args := #[.tmp 79], argTypes := #[53] }, 3, none) := by subst hops; kernel_rfl
      have hgd : GdOk ops a none := trivial
      have d4 := hd 4 (by decide) (by subst hops; kernel_rfl)
      have e0 : ag a 79 = .agg Xc.toArray := d4
      refine op_callg s hgd (w' := w) (f := 28) (args := #[.agg Xc.toArray]) ?_ ?_
      · simp only [execOp]
        go_simp
        simpa [ag] using e0
      · refine ((show Calls Tryd.prog _ _ w (NumRes (N : Int) w) from hN ▸ size_any 1000 x hxn w _ (v11.later hg).tr)).mono ?_
        rintro e w' ⟨rfl, hb⟩
        exact ⟨_, rfl, PostE.put (i := 5) ho (vpd15_mem 5 hk).2 (hlt 5 hk) (fun k hk2 hne _ => vpd15_inj 5 hk k hk2 hne) (.inl (Ext.of hb)) rfl (later hg hb)⟩
    | 6, hk, hd =>
      have s : (ops[6]?).map sig = some (some 81, .binOp .mul 3 (.const (.int .i64 2)) (.tmp 80) 3, 3, none) := by subst hops; kernel_rfl
      have hgd : GdOk ops a none := trivial
      have d5 := hd 5 (by decide) (by subst hops; kernel_rfl)
      have e0 : ag a 80 = .int .i64 (N : Int) := d5
      refine op_valg s hgd (w' := w) (v := .int .i64 (2 * (N : Int))) ?_ ?_
      · simp only [execOp, eval_tmp, e0]
        have hw : IntKind.i64.wrap (2 * (N : Int)) = 2 * (N : Int) := IntWalk.i64_in _ (by omega)
        go_simp
      · exact PostE.put (i := 6) ho (vpd15_mem 6 hk).2 (hlt 6 hk) (fun k hk2 hne _ => vpd15_inj 6 hk k hk2 hne) (.inl (Ext.refl _ _)) rfl hg
    | 7, hk, hd =>
      have s : (ops[7]?).map sig = some (some 82, .binOp .add 3 (.tmp 81) (.const (.int .i64 1)) 3, 3, none) := by subst hops; kernel_rfl
      have hgd : GdOk ops a none := trivial
      have d6 := hd 6 (by decide) (by subst hops; kernel_rfl)
      have e0 : ag a 81 = .int .i64 (2 * (N : Int)) := d6
      refine op_valg s hgd (w' := w) (v := .int .i64 (2 * (N : Int) + 1)) ?_ ?_
      · simp only [execOp, eval_tmp, e0]
        have hw : IntKind.i64.wrap (2 * (N : Int) + 1) = 2 * (N : Int) + 1 := IntWalk.i64_in _ (by omega)
        go_simp
      · exact PostE.put (i := 7) ho (vpd15_mem 7 hk).2 (hlt 7 hk) (fun k hk2 hne _ => vpd15_inj 7 hk k hk2 hne) (.inl (Ext.refl _ _)) rfl hg
    | 8, hk, hd =>
      have s : (ops[8]?).map sig = some (some 83, .binOp .leq 3 (.tmp 82) (.const (.int .i64 256)) 3, 4, none) := by subst hops; kernel_rfl
      have hgd : GdOk ops a none := trivial
      have d7 := hd 7 (by decide) (by subst hops; kernel_rfl)
      have e0 : ag a 82 = .int .i64 (2 * (N : Int) + 1) := d7
      refine op_valg s hgd (w' := w) (v := .bool b) ?_ ?_
      · simp only [execOp, eval_tmp, e0]
        go_simp
      · exact PostE.put (i := 8) ho (vpd15_mem 8 hk).2 (hlt 8 hk) (fun k hk2 hne _ => vpd15_inj 8 hk k hk2 hne) (.inl (Ext.refl _ _)) rfl hg
    | 9, hk, hd =>
      have s : (ops[9]?).map sig = some (some 84, .binOp .eql 4 (.tmp 78) (.tmp 83) 4, 4, none) := by subst hops; kernel_rfl
      have hgd : GdOk ops a none := trivial
      have d3 := hd 3 (by decide) (by subst hops; kernel_rfl)
      have d8 := hd 8 (by decide) (by subst hops; kernel_rfl)
      have e0 : ag a 78 = .bool b := d3
      have e1 : ag a 83 = .bool b := d8
      refine op_valg s hgd (w' := w) (v := .bool true) ?_ ?_
      · simp only [execOp, eval_tmp, e0, e1]
        go_simp
      · exact PostE.put (i := 9) ho (vpd15_mem 9 hk).2 (hlt 9 hk) (fun k hk2 hne _ => vpd15_inj 9 hk k hk2 hne) (.inl (Ext.refl _ _)) rfl hg
    | n + 10, hn, _ => exact absurd hn (by omega)
  · intro a w ho hg hf
    have s : (ops[10]?).map sig = some (some 17, .assign (.tmp 84), 4, none) := by subst hops; kernel_rfl
    have hgd : GdOk ops a none := trivial
    have d9 := hf 9 (by decide)
    have e0 : ag a 84 = .bool true := d9
    refine op_valg s hgd (w' := w) (v := .bool true) ?_ ?_
    · exact congrArg (fun x => Result.ok (Next.value x) w) e0
    · have ho2 : Off (vpD15 ++ [17]) a0 (a.put (some 17) (.bool true)) := (ho.mono (fun s hs => List.mem_append_left _ hs)).put (by decide)
      exact hQ (ag (a.put (some 17) (.bool true))) w (ag_put (by rw [ho.size, hsz]; decide)) hg _ (ho2.eq (fun s hs => by rw [hsz]; revert s; decide))

/-! ### Region 17. -/
def vpf17 (gP : Nat) (mv dv : Value) (P : List Df) (n : Int) (b : Bool) : Nat → Value → World → Prop
  | 0, v, w => v = .agg #[mv, dv]
  | 1, v, w => v = .agg #[.int .i64 0, .int .i64 0, .int .i64 0, .int .i64 0, .slice none 0 0]
  | 2, v, w => v = .int .i64 n
  | 3, v, w => v = .agg #[.int .i64 0, .int .i64 n, .slice none 0 0]
  | 4, v, w => v = .bool b
  | 5, v, w => v = .int .i64 n
  | 6, v, w => v = .bool b
  | 7, v, w => v = .bool true
  | 8, v, w => v = .bool true
  | 9, v, w => v = .agg #[mv, dv]
  | 10, v, w => v = .agg #[.int .i64 0, .int .i64 0, .int .i64 0, .int .i64 0, .slice none 0 0]
  | 11, v, w => v = .int .i64 n
  | 12, v, w => v = .int .i64 (-n)
  | 13, v, w => v = .agg #[.int .i64 0, .int .i64 (-n), .slice none 0 0]
  | 14, v, w => v = .bool b
  | 15, v, w => v = .int .i64 n
  | 16, v, w => v = .bool b
  | 17, v, w => v = .bool true
  | 18, v, w => v = .bool true
  | _, _, _ => True
theorem vpf17_ext (gP : Nat) (mv dv : Value) (P : List Df) (n : Int) (b : Bool) (S : Nat) : ∀ j v w w', j < 19 → (Ext S w w' ∨ (j ≠ 999 ∧ Never w w')) → vpf17 gP mv dv P n b j v w → vpf17 gP mv dv P n b j v w' := by
  intro j v w w' hj he h
  match j, hj, he, h with
  | 0, _, he, h => exact h
  | 1, _, he, h => exact h
  | 2, _, he, h => exact h
  | 3, _, he, h => exact h
  | 4, _, he, h => exact h
  | 5, _, he, h => exact h
  | 6, _, he, h => exact h
  | 7, _, he, h => exact h
  | 8, _, he, h => exact h
  | 9, _, he, h => exact h
  | 10, _, he, h => exact h
  | 11, _, he, h => exact h
  | 12, _, he, h => exact h
  | 13, _, he, h => exact h
  | 14, _, he, h => exact h
  | 15, _, he, h => exact h
  | 16, _, he, h => exact h
  | 17, _, he, h => exact h
  | 18, _, he, h => exact h
  | n + 19, hn, _, _ => exact absurd hn (by omega)
def vpD17 : List Nat := [88, 89, 90, 91, 92, 93, 94, 95, 96, 97, 98, 99, 100, 101, 102, 103, 104, 105, 106]
def vpd17 (k : Nat) : Nat := [88, 89, 90, 91, 92, 93, 94, 95, 96, 97, 98, 99, 100, 101, 102, 103, 104, 105, 106].getD k 0
theorem vpd17_mem : ∀ k, k < 19 → vpd17 k < 127 ∧ vpd17 k ∈ vpD17 := by decide
theorem vpd17_inj : ∀ i, i < 19 → ∀ k, k < 19 → k ≠ i → vpd17 i ≠ vpd17 k := by decide

set_option maxHeartbeats 4000000 in
set_option maxRecDepth 100000 in
theorem vpreg17 {Q : Exit → Act → World → Prop} {id : Nat} {ops : Array Oper} (hops : ops = ((Tryd.f9.body).bind (opsOf 17)).getD #[]) (a0 : Act) (w0 : World) (gP : Nat) (mv dv : Value) (P : List Df) (n : Int) (b : Bool) (hsz : a0.tmps.size = 127)
    (h9 : ag a0 9 = .pointer (some ⟨gP, 0, none⟩)) (h18 : ag a0 18 = .int .i64 n) (hP : Arr w0 gP 2 26 [mv, dv]) (hPr : PrAt w0 P (.agg #[mv, dv])) (hK : Kv w0) (hn0 : 1099511627775 ≤ n) (hn1 : n ≤ 1099511627778) (hb : decide (n ≤ 1099511627776) = b)
    (hp1 : (pv P (lf n) tI 24 0).1 = b) (hp2 : (pv P (lf (-n)) tI 24 0).1 = b)
    (hQ : ∀ (vs : Nat → Value) (w' : World), vs 19 = .bool true → Below w0.heap.size w0 w' → ∀ a', a' = (vpD17 ++ [19]).foldl (fun b s => b.put (some s) (vs s)) a0 → Q .normal a' w') :
    (Code.region id ops true).wp Tryd.prog Q a0 w0 := by
  have hg0 : Below w0.heap.size w0 w0.drew := below_drewN (Below.refl _ _) 1
  have hlt : ∀ k, k < 19 → vpd17 k < a0.tmps.size := fun k hk => by have := (vpd17_mem k hk).1; omega
  refine wp_region_factsE 19 999 vpD17 vpd17 (vpf17 gP mv dv P n b) (fun w => Below w0.heap.size w0 w) w0.heap.size Never (fun k => k) (by kernel_rfl) (by subst hops; kernel_rfl) (by subst hops; kernel_rfl) (by subst hops; kernel_rfl) (vpf17_ext gP mv dv P n b w0.heap.size) hg0 ?_ ?_
  · intro j a w hj ho hg hd
    have hgs := hg.size
    match j, hj, hd with
    | 0, hk, hd =>
      have s : (ops[0]?).map sig = some (some 88, .load 26 (.tmp 9), 26, none) := by subst hops; kernel_rfl
      have hgd : GdOk ops a none := trivial
      have e0 : ag a 9 = .pointer (some ⟨gP, 0, none⟩) := (ho.off 9 (by decide)).trans h9
      refine op_loadg s hgd gP 0 e0 [mv, dv] _ ((hP.later hg).range) Tryd.underlying26 rfl info_prog ?_
      exact PostE.put (i := 0) ho (vpd17_mem 0 hk).2 (hlt 0 hk) (fun k hk2 hne _ => vpd17_inj 0 hk k hk2 hne) (.inl (Ext.refl _ _)) rfl hg
    | 1, hk, hd =>
      have s : (ops[1]?).map sig = some (some 89, .build 31 #[], 31, none) := by subst hops; kernel_rfl
      have hgd : GdOk ops a none := trivial
      have hb : (Instr.build 31 #[]).run Tryd.prog w = .ok (.agg #[.int .i64 0, .int .i64 0, .int .i64 0, .int .i64 0, .slice none 0 0]) w := run_build w _ _ _ (by kernel_rfl)
      refine op_valg s hgd (w' := w) (v := .agg #[.int .i64 0, .int .i64 0, .int .i64 0, .int .i64 0, .slice none 0 0]) ?_ ?_
      · simp only [execOp, List.map_toArray, List.map_cons, List.map_nil, Sem.run_bind, hb]
        rfl
      · exact PostE.put (i := 1) ho (vpd17_mem 1 hk).2 (hlt 1 hk) (fun k hk2 hne _ => vpd17_inj 1 hk k hk2 hne) (.inl (Ext.refl _ _)) rfl hg
    | 2, hk, hd =>
      have s : (ops[2]?).map sig = some (some 90, .move (.tmp 18), 3, none) := by subst hops; kernel_rfl
      have hgd : GdOk ops a none := trivial
      have e0 : ag a 18 = .int .i64 n := (ho.off 18 (by decide)).trans h18
      refine op_valg s hgd (w' := w) (v := .int .i64 n) ?_ ?_
      · exact congrArg (fun x => Result.ok (Next.value x) w) e0
      · exact PostE.put (i := 2) ho (vpd17_mem 2 hk).2 (hlt 2 hk) (fun k hk2 hne _ => vpd17_inj 2 hk k hk2 hne) (.inl (Ext.refl _ _)) rfl hg
    | 3, hk, hd =>
      have s : (ops[3]?).map sig = some (some 91, .call { callee := .value (.func 27), args := #[.tmp 90], argTypes := #[3] }, 53, none) := by subst hops; kernel_rfl
      have hgd : GdOk ops a none := trivial
      have d2 := hd 2 (by decide) (by subst hops; kernel_rfl)
      have e0 : ag a 90 = .int .i64 n := d2
      refine op_callg s hgd (w' := w) (f := 27) (args := #[.int .i64 n]) ?_ ?_
      · simp only [execOp]
        go_simp
        simpa [ag] using e0
      · refine (num_any n w).mono ?_
        rintro e w' ⟨rfl, hb⟩
        exact ⟨_, rfl, PostE.put (i := 3) ho (vpd17_mem 3 hk).2 (hlt 3 hk) (fun k hk2 hne _ => vpd17_inj 3 hk k hk2 hne) (.inl (Ext.of hb)) rfl (later hg hb)⟩
    | 4, hk, hd =>
      have s : (ops[4]?).map sig = some (some 92, .call { callee := .value (.func 25), args := #[.tmp 88, .tmp 89, .tmp 91], argTypes := #[26, 31, 53] }, 4, none) := by subst hops; kernel_rfl
      have hgd : GdOk ops a none := trivial
      have d0 := hd 0 (by decide) (by subst hops; kernel_rfl)
      have d1 := hd 1 (by decide) (by subst hops; kernel_rfl)
      have d3 := hd 3 (by decide) (by subst hops; kernel_rfl)
      have e0 : ag a 88 = .agg #[mv, dv] := d0
      have e1 : ag a 89 = .agg #[.int .i64 0, .int .i64 0, .int .i64 0, .int .i64 0, .slice none 0 0] := d1
      have e2 : ag a 91 = .agg #[.int .i64 0, .int .i64 n, .slice none 0 0] := d3
      refine op_callg s hgd (w' := w) (f := 25) (args := #[.agg #[mv, dv], .agg #[.int .i64 0, .int .i64 0, .int .i64 0, .int .i64 0, .slice none 0 0], .agg #[.int .i64 0, .int .i64 n, .slice none 0 0]]) ?_ ?_
      · simp only [execOp]
        go_simp
        refine ⟨by simpa [ag] using e0, by simpa [ag] using e1, by simpa [ag] using e2⟩
      · refine ((show Calls Tryd.prog _ _ w (BRes b w) from hp1 ▸ valid_any P tI (lf n) w _ _ _ (hPr.later hg) (ty_now 0 0 0 0 (by unfold i64r; omega) (by unfold i64r; omega) (by unfold i64r; omega) (by unfold i64r; omega) w) (lf_node (by unfold i64r; omega)) (hK.later hg))).mono ?_
        rintro e w' ⟨rfl, hb⟩
        exact ⟨_, rfl, PostE.put (i := 4) ho (vpd17_mem 4 hk).2 (hlt 4 hk) (fun k hk2 hne _ => vpd17_inj 4 hk k hk2 hne) (.inl (Ext.of hb)) rfl (later hg hb)⟩
    | 5, hk, hd =>
      have s : (ops[5]?).map sig = some (some 93, .move (.tmp 18), 3, none) := by subst hops; kernel_rfl
      have hgd : GdOk ops a none := trivial
      have e0 : ag a 18 = .int .i64 n := (ho.off 18 (by decide)).trans h18
      refine op_valg s hgd (w' := w) (v := .int .i64 n) ?_ ?_
      · exact congrArg (fun x => Result.ok (Next.value x) w) e0
      · exact PostE.put (i := 5) ho (vpd17_mem 5 hk).2 (hlt 5 hk) (fun k hk2 hne _ => vpd17_inj 5 hk k hk2 hne) (.inl (Ext.refl _ _)) rfl hg
    | 6, hk, hd =>
      have s : (ops[6]?).map sig = some (some 94, .binOp .leq 3 (.tmp 93) (.const (.int .i64 1099511627776)) 3, 4, none) := by subst hops; kernel_rfl
      have hgd : GdOk ops a none := trivial
      have d5 := hd 5 (by decide) (by subst hops; kernel_rfl)
      have e0 : ag a 93 = .int .i64 n := d5
      refine op_valg s hgd (w' := w) (v := .bool b) ?_ ?_
      · simp only [execOp, eval_tmp, e0]
        go_simp
      · exact PostE.put (i := 6) ho (vpd17_mem 6 hk).2 (hlt 6 hk) (fun k hk2 hne _ => vpd17_inj 6 hk k hk2 hne) (.inl (Ext.refl _ _)) rfl hg
    | 7, hk, hd =>
      have s : (ops[7]?).map sig = some (some 95, .binOp .eql 4 (.tmp 92) (.tmp 94) 4, 4, none) := by subst hops; kernel_rfl
      have hgd : GdOk ops a none := trivial
      have d4 := hd 4 (by decide) (by subst hops; kernel_rfl)
      have d6 := hd 6 (by decide) (by subst hops; kernel_rfl)
      have e0 : ag a 92 = .bool b := d4
      have e1 : ag a 94 = .bool b := d6
      refine op_valg s hgd (w' := w) (v := .bool true) ?_ ?_
      · simp only [execOp, eval_tmp, e0, e1]
        go_simp
      · exact PostE.put (i := 7) ho (vpd17_mem 7 hk).2 (hlt 7 hk) (fun k hk2 hne _ => vpd17_inj 7 hk k hk2 hne) (.inl (Ext.refl _ _)) rfl hg
    | 8, hk, hd =>
      have s : (ops[8]?).map sig = some (some 96, .move (.tmp 95), 4, none) := by subst hops; kernel_rfl
      have hgd : GdOk ops a none := trivial
      have d7 := hd 7 (by decide) (by subst hops; kernel_rfl)
      have e0 : ag a 95 = .bool true := d7
      refine op_valg s hgd (w' := w) (v := .bool true) ?_ ?_
      · exact congrArg (fun x => Result.ok (Next.value x) w) e0
      · exact PostE.put (i := 8) ho (vpd17_mem 8 hk).2 (hlt 8 hk) (fun k hk2 hne _ => vpd17_inj 8 hk k hk2 hne) (.inl (Ext.refl _ _)) rfl hg
    | 9, hk, hd =>
      have s : (ops[9]?).map sig = some (some 97, .load 26 (.tmp 9), 26, some (8, true)) := by subst hops; kernel_rfl
      have hgd : GdOk ops a (some (8, true)) := yielded_of (d := 96) (by subst hops; kernel_rfl) (hd 8 (by decide) (by subst hops; kernel_rfl))
      have e0 : ag a 9 = .pointer (some ⟨gP, 0, none⟩) := (ho.off 9 (by decide)).trans h9
      refine op_loadg s hgd gP 0 e0 [mv, dv] _ ((hP.later hg).range) Tryd.underlying26 rfl info_prog ?_
      exact PostE.put (i := 9) ho (vpd17_mem 9 hk).2 (hlt 9 hk) (fun k hk2 hne _ => vpd17_inj 9 hk k hk2 hne) (.inl (Ext.refl _ _)) rfl hg
    | 10, hk, hd =>
      have s : (ops[10]?).map sig = some (some 98, .build 31 #[], 31, some (8, true)) := by subst hops; kernel_rfl
      have hgd : GdOk ops a (some (8, true)) := yielded_of (d := 96) (by subst hops; kernel_rfl) (hd 8 (by decide) (by subst hops; kernel_rfl))
      have hb : (Instr.build 31 #[]).run Tryd.prog w = .ok (.agg #[.int .i64 0, .int .i64 0, .int .i64 0, .int .i64 0, .slice none 0 0]) w := run_build w _ _ _ (by kernel_rfl)
      refine op_valg s hgd (w' := w) (v := .agg #[.int .i64 0, .int .i64 0, .int .i64 0, .int .i64 0, .slice none 0 0]) ?_ ?_
      · simp only [execOp, List.map_toArray, List.map_cons, List.map_nil, Sem.run_bind, hb]
        rfl
      · exact PostE.put (i := 10) ho (vpd17_mem 10 hk).2 (hlt 10 hk) (fun k hk2 hne _ => vpd17_inj 10 hk k hk2 hne) (.inl (Ext.refl _ _)) rfl hg
    | 11, hk, hd =>
      have s : (ops[11]?).map sig = some (some 99, .move (.tmp 18), 3, some (8, true)) := by subst hops; kernel_rfl
      have hgd : GdOk ops a (some (8, true)) := yielded_of (d := 96) (by subst hops; kernel_rfl) (hd 8 (by decide) (by subst hops; kernel_rfl))
      have e0 : ag a 18 = .int .i64 n := (ho.off 18 (by decide)).trans h18
      refine op_valg s hgd (w' := w) (v := .int .i64 n) ?_ ?_
      · exact congrArg (fun x => Result.ok (Next.value x) w) e0
      · exact PostE.put (i := 11) ho (vpd17_mem 11 hk).2 (hlt 11 hk) (fun k hk2 hne _ => vpd17_inj 11 hk k hk2 hne) (.inl (Ext.refl _ _)) rfl hg
    | 12, hk, hd =>
      have s : (ops[12]?).map sig = some (some 100, .unOp .neg 3 (.tmp 99), 3, some (8, true)) := by subst hops; kernel_rfl
      have hgd : GdOk ops a (some (8, true)) := yielded_of (d := 96) (by subst hops; kernel_rfl) (hd 8 (by decide) (by subst hops; kernel_rfl))
      have d11 := hd 11 (by decide) (by subst hops; kernel_rfl)
      have e0 : ag a 99 = .int .i64 n := d11
      refine op_valg s hgd (w' := w) (v := .int .i64 (-n)) ?_ ?_
      · simp only [execOp, eval_tmp, e0]
        have hw : IntKind.i64.wrap (-n) = -n := IntWalk.i64_in _ (by omega)
        go_simp
      · exact PostE.put (i := 12) ho (vpd17_mem 12 hk).2 (hlt 12 hk) (fun k hk2 hne _ => vpd17_inj 12 hk k hk2 hne) (.inl (Ext.refl _ _)) rfl hg
    | 13, hk, hd =>
      have s : (ops[13]?).map sig = some (some 101, .call { callee := .value (.func 27), args := #[.tmp 100], argTypes := #[3] }, 53, some (8, true)) := by subst hops; kernel_rfl
      have hgd : GdOk ops a (some (8, true)) := yielded_of (d := 96) (by subst hops; kernel_rfl) (hd 8 (by decide) (by subst hops; kernel_rfl))
      have d12 := hd 12 (by decide) (by subst hops; kernel_rfl)
      have e0 : ag a 100 = .int .i64 (-n) := d12
      refine op_callg s hgd (w' := w) (f := 27) (args := #[.int .i64 (-n)]) ?_ ?_
      · simp only [execOp]
        go_simp
        simpa [ag] using e0
      · refine (num_any (-n) w).mono ?_
        rintro e w' ⟨rfl, hb⟩
        exact ⟨_, rfl, PostE.put (i := 13) ho (vpd17_mem 13 hk).2 (hlt 13 hk) (fun k hk2 hne _ => vpd17_inj 13 hk k hk2 hne) (.inl (Ext.of hb)) rfl (later hg hb)⟩
    | 14, hk, hd =>
      have s : (ops[14]?).map sig = some (some 102, .call { callee := .value (.func 25), args := #[.tmp 97, .tmp 98, .tmp 101], argTypes := #[26, 31, 53] }, 4, some (8, true)) := by subst hops; kernel_rfl
      have hgd : GdOk ops a (some (8, true)) := yielded_of (d := 96) (by subst hops; kernel_rfl) (hd 8 (by decide) (by subst hops; kernel_rfl))
      have d9 := hd 9 (by decide) (by subst hops; kernel_rfl)
      have d10 := hd 10 (by decide) (by subst hops; kernel_rfl)
      have d13 := hd 13 (by decide) (by subst hops; kernel_rfl)
      have e0 : ag a 97 = .agg #[mv, dv] := d9
      have e1 : ag a 98 = .agg #[.int .i64 0, .int .i64 0, .int .i64 0, .int .i64 0, .slice none 0 0] := d10
      have e2 : ag a 101 = .agg #[.int .i64 0, .int .i64 (-n), .slice none 0 0] := d13
      refine op_callg s hgd (w' := w) (f := 25) (args := #[.agg #[mv, dv], .agg #[.int .i64 0, .int .i64 0, .int .i64 0, .int .i64 0, .slice none 0 0], .agg #[.int .i64 0, .int .i64 (-n), .slice none 0 0]]) ?_ ?_
      · simp only [execOp]
        go_simp
        refine ⟨by simpa [ag] using e0, by simpa [ag] using e1, by simpa [ag] using e2⟩
      · refine ((show Calls Tryd.prog _ _ w (BRes b w) from hp2 ▸ valid_any P tI (lf (-n)) w _ _ _ (hPr.later hg) (ty_now 0 0 0 0 (by unfold i64r; omega) (by unfold i64r; omega) (by unfold i64r; omega) (by unfold i64r; omega) w) (lf_node (by unfold i64r; omega)) (hK.later hg))).mono ?_
        rintro e w' ⟨rfl, hb⟩
        exact ⟨_, rfl, PostE.put (i := 14) ho (vpd17_mem 14 hk).2 (hlt 14 hk) (fun k hk2 hne _ => vpd17_inj 14 hk k hk2 hne) (.inl (Ext.of hb)) rfl (later hg hb)⟩
    | 15, hk, hd =>
      have s : (ops[15]?).map sig = some (some 103, .move (.tmp 18), 3, some (8, true)) := by subst hops; kernel_rfl
      have hgd : GdOk ops a (some (8, true)) := yielded_of (d := 96) (by subst hops; kernel_rfl) (hd 8 (by decide) (by subst hops; kernel_rfl))
      have e0 : ag a 18 = .int .i64 n := (ho.off 18 (by decide)).trans h18
      refine op_valg s hgd (w' := w) (v := .int .i64 n) ?_ ?_
      · exact congrArg (fun x => Result.ok (Next.value x) w) e0
      · exact PostE.put (i := 15) ho (vpd17_mem 15 hk).2 (hlt 15 hk) (fun k hk2 hne _ => vpd17_inj 15 hk k hk2 hne) (.inl (Ext.refl _ _)) rfl hg
    | 16, hk, hd =>
      have s : (ops[16]?).map sig = some (some 104, .binOp .leq 3 (.tmp 103) (.const (.int .i64 1099511627776)) 3, 4, some (8, true)) := by subst hops; kernel_rfl
      have hgd : GdOk ops a (some (8, true)) := yielded_of (d := 96) (by subst hops; kernel_rfl) (hd 8 (by decide) (by subst hops; kernel_rfl))
      have d15 := hd 15 (by decide) (by subst hops; kernel_rfl)
      have e0 : ag a 103 = .int .i64 n := d15
      refine op_valg s hgd (w' := w) (v := .bool b) ?_ ?_
      · simp only [execOp, eval_tmp, e0]
        go_simp
      · exact PostE.put (i := 16) ho (vpd17_mem 16 hk).2 (hlt 16 hk) (fun k hk2 hne _ => vpd17_inj 16 hk k hk2 hne) (.inl (Ext.refl _ _)) rfl hg
    | 17, hk, hd =>
      have s : (ops[17]?).map sig = some (some 105, .binOp .eql 4 (.tmp 102) (.tmp 104) 4, 4, some (8, true)) := by subst hops; kernel_rfl
      have hgd : GdOk ops a (some (8, true)) := yielded_of (d := 96) (by subst hops; kernel_rfl) (hd 8 (by decide) (by subst hops; kernel_rfl))
      have d14 := hd 14 (by decide) (by subst hops; kernel_rfl)
      have d16 := hd 16 (by decide) (by subst hops; kernel_rfl)
      have e0 : ag a 102 = .bool b := d14
      have e1 : ag a 104 = .bool b := d16
      refine op_valg s hgd (w' := w) (v := .bool true) ?_ ?_
      · simp only [execOp, eval_tmp, e0, e1]
        go_simp
      · exact PostE.put (i := 17) ho (vpd17_mem 17 hk).2 (hlt 17 hk) (fun k hk2 hne _ => vpd17_inj 17 hk k hk2 hne) (.inl (Ext.refl _ _)) rfl hg
    | 18, hk, hd =>
      have s : (ops[18]?).map sig = some (some 106, .pick (.tmp 96) (.tmp 105) (.const (.bool false)), 4, none) := by subst hops; kernel_rfl
      have hgd : GdOk ops a none := trivial
      have d8 := hd 8 (by decide) (by subst hops; kernel_rfl)
      have d17 := hd 17 (by decide) (by subst hops; kernel_rfl)
      have e0 : ag a 96 = .bool true := d8
      have e1 : ag a 105 = .bool true := d17
      refine op_valg s hgd (w' := w) (v := .bool true) ?_ ?_
      · simp only [execOp, eval_tmp, e0, e1]
        go_simp
      · exact PostE.put (i := 18) ho (vpd17_mem 18 hk).2 (hlt 18 hk) (fun k hk2 hne _ => vpd17_inj 18 hk k hk2 hne) (.inl (Ext.refl _ _)) rfl hg
    | n + 19, hn, _ => exact absurd hn (by omega)
  · intro a w ho hg hf
    have s : (ops[19]?).map sig = some (some 19, .assign (.tmp 106), 4, none) := by subst hops; kernel_rfl
    have hgd : GdOk ops a none := trivial
    have d18 := hf 18 (by decide)
    have e0 : ag a 106 = .bool true := d18
    refine op_valg s hgd (w' := w) (v := .bool true) ?_ ?_
    · exact congrArg (fun x => Result.ok (Next.value x) w) e0
    · have ho2 : Off (vpD17 ++ [19]) a0 (a.put (some 19) (.bool true)) := (ho.mono (fun s hs => List.mem_append_left _ hs)).put (by decide)
      exact hQ (ag (a.put (some 19) (.bool true))) w (ag_put (by rw [ho.size, hsz]; decide)) hg _ (ho2.eq (fun s hs => by rw [hsz]; revert s; decide))

/-! ### Region 18. -/
def vptf18 (gP gL g15 g16 : Nat) (mv dv : Value) (Lc C15 C16 : List Value) (P : List Df) (ty : Ty) (x1 x2 : Tr) : Nat → Value → World → Prop
  | 0, v, w => v = .bool true
  | 1, v, w => v = .bool true
  | 2, v, w => v = .bool true
  | 3, v, w => v = .bool true
  | 4, v, w => v = .bool true
  | 5, v, w => v = .agg #[mv, dv]
  | 6, v, w => v = .agg Lc.toArray
  | 7, v, w => v = .agg C15.toArray
  | 8, v, w => v = .bool true
  | 9, v, w => v = .bool false
  | 10, v, w => v = .bool false
  | 11, v, w => v = .agg #[mv, dv]
  | 12, v, w => v = .agg Lc.toArray
  | 13, v, w => v = .agg C16.toArray
  | 14, v, w => v = .bool true
  | 15, v, w => v = .bool true
  | 16, v, w => v = .bool true
  | 17, v, w => v = .bool true
  | 18, v, w => v = .bool true
  | 19, v, w => v = .bool true
  | _, _, _ => True
theorem vptf18_ext (gP gL g15 g16 : Nat) (mv dv : Value) (Lc C15 C16 : List Value) (P : List Df) (ty : Ty) (x1 x2 : Tr) (S : Nat) : ∀ j v w w', j < 20 → (Ext S w w' ∨ (j ≠ 999 ∧ Never w w')) → vptf18 gP gL g15 g16 mv dv Lc C15 C16 P ty x1 x2 j v w → vptf18 gP gL g15 g16 mv dv Lc C15 C16 P ty x1 x2 j v w' := by
  intro j v w w' hj he h
  match j, hj, he, h with
  | 0, _, he, h => exact h
  | 1, _, he, h => exact h
  | 2, _, he, h => exact h
  | 3, _, he, h => exact h
  | 4, _, he, h => exact h
  | 5, _, he, h => exact h
  | 6, _, he, h => exact h
  | 7, _, he, h => exact h
  | 8, _, he, h => exact h
  | 9, _, he, h => exact h
  | 10, _, he, h => exact h
  | 11, _, he, h => exact h
  | 12, _, he, h => exact h
  | 13, _, he, h => exact h
  | 14, _, he, h => exact h
  | 15, _, he, h => exact h
  | 16, _, he, h => exact h
  | 17, _, he, h => exact h
  | 18, _, he, h => exact h
  | 19, _, he, h => exact h
  | n + 20, hn, _, _ => exact absurd hn (by omega)
def vptD18 : List Nat := [107, 108, 109, 110, 111, 112, 113, 114, 115, 116, 117, 118, 119, 120, 121, 122, 123, 124, 125, 126]
def vptd18 (k : Nat) : Nat := [107, 108, 109, 110, 111, 112, 113, 114, 115, 116, 117, 118, 119, 120, 121, 122, 123, 124, 125, 126].getD k 0
theorem vptd18_mem : ∀ k, k < 20 → vptd18 k < 127 ∧ vptd18 k ∈ vptD18 := by decide
theorem vptd18_inj : ∀ i, i < 20 → ∀ k, k < 20 → k ≠ i → vptd18 i ≠ vptd18 k := by decide

set_option maxHeartbeats 4000000 in
set_option maxRecDepth 100000 in
theorem vptreg18 {Q : Exit → Act → World → Prop} {id : Nat} {ops : Array Oper} (hops : ops = ((Tryd.f9.body).bind (opsOf 18)).getD #[]) (a0 : Act) (w0 : World) (gP gL g15 g16 : Nat) (mv dv : Value) (Lc C15 C16 : List Value) (P : List Df) (ty : Ty) (x1 x2 : Tr) (hsz : a0.tmps.size = 127)
    (h9 : ag a0 9 = .pointer (some ⟨gP, 0, none⟩)) (h14 : ag a0 14 = .pointer (some ⟨gL, 0, none⟩)) (h15 : ag a0 15 = .pointer (some ⟨g15, 0, none⟩)) (h16 : ag a0 16 = .pointer (some ⟨g16, 0, none⟩)) (h17 : ag a0 17 = .bool true) (h19 : ag a0 19 = .bool true) (hP : Arr w0 gP 2 26 [mv, dv]) (hPr : PrAt w0 P (.agg #[mv, dv])) (hK : Kv w0) (hL : w0.rangeAt gL 0 Lc) (hLl : Lc.length = 5) (hLt : TyAt w0 ty (.agg Lc.toArray))
    (v15 : VarAt w0 g15 x2 C15) (v16 : VarAt w0 g16 x1 C16) (hpv : (pv P x2 ty 24 0).1 = true) (hpv1 : (pv P x1 ty 24 0).1 = true)
    (hQ : ∀ (vs : Nat → Value) (w' : World), vs 8 = .bool true → Below w0.heap.size w0 w' → ∀ a', a' = (vptD18 ++ [8]).foldl (fun b s => b.put (some s) (vs s)) a0 → Q .normal a' w') :
    (Code.region id ops false).wp Tryd.prog Q a0 w0 := by
  have hg0 : Below w0.heap.size w0 w0 := Below.refl _ _
  have hlt : ∀ k, k < 20 → vptd18 k < a0.tmps.size := fun k hk => by have := (vptd18_mem k hk).1; omega
  refine wp_region_seqE 20 999 vptD18 vptd18 (vptf18 gP gL g15 g16 mv dv Lc C15 C16 P ty x1 x2) (fun w => Below w0.heap.size w0 w) w0.heap.size Never (by subst hops; kernel_rfl) (by subst hops; kernel_rfl) (vptf18_ext gP gL g15 g16 mv dv Lc C15 C16 P ty x1 x2 w0.heap.size) hg0 ?_ ?_
  · intro j a w hj ho hg hd
    have hgs := hg.size
    match j, hj, hd with
    | 0, hk, hd =>
      have s : (ops[0]?).map sig = some (some 107, .move (.tmp 17), 4, none) := by subst hops; kernel_rfl
      have hgd : GdOk ops a none := trivial
      have e0 : ag a 17 = .bool true := (ho.off 17 (by decide)).trans h17
      refine op_valg s hgd (w' := w) (v := .bool true) ?_ ?_
      · exact congrArg (fun x => Result.ok (Next.value x) w) e0
      · exact PostE.put (i := 0) ho (vptd18_mem 0 hk).2 (hlt 0 hk) (fun k hk2 hne _ => vptd18_inj 0 hk k hk2 hne) (.inl (Ext.refl _ _)) rfl hg
    | 1, hk, hd =>
      have s : (ops[1]?).map sig = some (some 108, .move (.tmp 107), 4, none) := by subst hops; kernel_rfl
      have hgd : GdOk ops a none := trivial
      have d0 := hd 0 (by decide) (by subst hops; kernel_rfl)
      have e0 : ag a 107 = .bool true := d0
      refine op_valg s hgd (w' := w) (v := .bool true) ?_ ?_
      · exact congrArg (fun x => Result.ok (Next.value x) w) e0
      · exact PostE.put (i := 1) ho (vptd18_mem 1 hk).2 (hlt 1 hk) (fun k hk2 hne _ => vptd18_inj 1 hk k hk2 hne) (.inl (Ext.refl _ _)) rfl hg
    | 2, hk, hd =>
      have s : (ops[2]?).map sig = some (some 109, .move (.tmp 19), 4, some (1, true)) := by subst hops; kernel_rfl
      have hgd : GdOk ops a (some (1, true)) := yielded_of (d := 108) (by subst hops; kernel_rfl) (hd 1 (by decide) (by subst hops; kernel_rfl))
      have e0 : ag a 19 = .bool true := (ho.off 19 (by decide)).trans h19
      refine op_valg s hgd (w' := w) (v := .bool true) ?_ ?_
      · exact congrArg (fun x => Result.ok (Next.value x) w) e0
      · exact PostE.put (i := 2) ho (vptd18_mem 2 hk).2 (hlt 2 hk) (fun k hk2 hne _ => vptd18_inj 2 hk k hk2 hne) (.inl (Ext.refl _ _)) rfl hg
    | 3, hk, hd =>
      have s : (ops[3]?).map sig = some (some 110, .pick (.tmp 108) (.tmp 109) (.const (.bool false)), 4, none) := by subst hops; kernel_rfl
      have hgd : GdOk ops a none := trivial
      have d1 := hd 1 (by decide) (by subst hops; kernel_rfl)
      have d2 := hd 2 (by decide) (by subst hops; kernel_rfl)
      have e0 : ag a 108 = .bool true := d1
      have e1 : ag a 109 = .bool true := d2
      refine op_valg s hgd (w' := w) (v := .bool true) ?_ ?_
      · simp only [execOp, eval_tmp, e0, e1]
        go_simp
      · exact PostE.put (i := 3) ho (vptd18_mem 3 hk).2 (hlt 3 hk) (fun k hk2 hne _ => vptd18_inj 3 hk k hk2 hne) (.inl (Ext.refl _ _)) rfl hg
    | 4, hk, hd =>
      have s : (ops[4]?).map sig = some (some 111, .move (.tmp 110), 4, none) := by subst hops; kernel_rfl
      have hgd : GdOk ops a none := trivial
      have d3 := hd 3 (by decide) (by subst hops; kernel_rfl)
      have e0 : ag a 110 = .bool true := d3
      refine op_valg s hgd (w' := w) (v := .bool true) ?_ ?_
      · exact congrArg (fun x => Result.ok (Next.value x) w) e0
      · exact PostE.put (i := 4) ho (vptd18_mem 4 hk).2 (hlt 4 hk) (fun k hk2 hne _ => vptd18_inj 4 hk k hk2 hne) (.inl (Ext.refl _ _)) rfl hg
    | 5, hk, hd =>
      have s : (ops[5]?).map sig = some (some 112, .load 26 (.tmp 9), 26, some (4, true)) := by subst hops; kernel_rfl
      have hgd : GdOk ops a (some (4, true)) := yielded_of (d := 111) (by subst hops; kernel_rfl) (hd 4 (by decide) (by subst hops; kernel_rfl))
      have e0 : ag a 9 = .pointer (some ⟨gP, 0, none⟩) := (ho.off 9 (by decide)).trans h9
      refine op_loadg s hgd gP 0 e0 [mv, dv] _ ((hP.later hg).range) Tryd.underlying26 rfl info_prog ?_
      exact PostE.put (i := 5) ho (vptd18_mem 5 hk).2 (hlt 5 hk) (fun k hk2 hne _ => vptd18_inj 5 hk k hk2 hne) (.inl (Ext.refl _ _)) rfl hg
    | 6, hk, hd =>
      have s : (ops[6]?).map sig = some (some 113, .load 31 (.tmp 14), 31, some (4, true)) := by subst hops; kernel_rfl
      have hgd : GdOk ops a (some (4, true)) := yielded_of (d := 111) (by subst hops; kernel_rfl) (hd 4 (by decide) (by subst hops; kernel_rfl))
      have e0 : ag a 14 = .pointer (some ⟨gL, 0, none⟩) := (ho.off 14 (by decide)).trans h14
      refine op_loadg s hgd gL 0 e0 Lc _ (range_below hL hg) Tryd.underlying31 rfl (by rw [hLl]; exact info_typesz) ?_
      exact PostE.put (i := 6) ho (vptd18_mem 6 hk).2 (hlt 6 hk) (fun k hk2 hne _ => vptd18_inj 6 hk k hk2 hne) (.inl (Ext.refl _ _)) rfl hg
    | 7, hk, hd =>
      have s : (ops[7]?).map sig = some (some 114, .load 53 (.tmp 15), 53, some (4, true)) := by subst hops; kernel_rfl
      have hgd : GdOk ops a (some (4, true)) := yielded_of (d := 111) (by subst hops; kernel_rfl) (hd 4 (by decide) (by subst hops; kernel_rfl))
      have e0 : ag a 15 = .pointer (some ⟨g15, 0, none⟩) := (ho.off 15 (by decide)).trans h15
      refine op_loadg s hgd g15 0 e0 C15 _ (range_below v15.rg hg) Tryd.underlying53 rfl (by rw [v15.ln]; exact info_val) ?_
      exact PostE.put (i := 7) ho (vptd18_mem 7 hk).2 (hlt 7 hk) (fun k hk2 hne _ => vptd18_inj 7 hk k hk2 hne) (.inl (Ext.refl _ _)) rfl hg
    | 8, hk, hd =>
      have s : (ops[8]?).map sig = some (some 115, .call { callee := .value (.func 25), args := #[.tmp 112, .tmp 113, .tmp 114], argTypes := #[26, 31, 53] }, 4, some (4, true)) := by subst hops; kernel_rfl
      have hgd : GdOk ops a (some (4, true)) := yielded_of (d := 111) (by subst hops; kernel_rfl) (hd 4 (by decide) (by subst hops; kernel_rfl))
      have d5 := hd 5 (by decide) (by subst hops; kernel_rfl)
      have d6 := hd 6 (by decide) (by subst hops; kernel_rfl)
      have d7 := hd 7 (by decide) (by subst hops; kernel_rfl)
      have e0 : ag a 112 = .agg #[mv, dv] := d5
      have e1 : ag a 113 = .agg Lc.toArray := d6
      have e2 : ag a 114 = .agg C15.toArray := d7
      refine op_callg s hgd (w' := w) (f := 25) (args := #[.agg #[mv, dv], .agg Lc.toArray, .agg C15.toArray]) ?_ ?_
      · simp only [execOp]
        go_simp
        refine ⟨by simpa [ag] using e0, by simpa [ag] using e1, by simpa [ag] using e2⟩
      · refine ((show Calls Tryd.prog _ _ w (BRes true w) from hpv ▸ valid_any P ty x2 w _ _ _ (hPr.later hg) (hLt.later hg) (v15.later hg).tr (hK.later hg))).mono ?_
        rintro e w' ⟨rfl, hb⟩
        exact ⟨_, rfl, PostE.put (i := 8) ho (vptd18_mem 8 hk).2 (hlt 8 hk) (fun k hk2 hne _ => vptd18_inj 8 hk k hk2 hne) (.inl (Ext.of hb)) rfl (later hg hb)⟩
    | 9, hk, hd =>
      have s : (ops[9]?).map sig = some (some 116, .unOp .not 4 (.tmp 115), 4, some (4, true)) := by subst hops; kernel_rfl
      have hgd : GdOk ops a (some (4, true)) := yielded_of (d := 111) (by subst hops; kernel_rfl) (hd 4 (by decide) (by subst hops; kernel_rfl))
      have d8 := hd 8 (by decide) (by subst hops; kernel_rfl)
      have e0 : ag a 115 = .bool true := d8
      refine op_valg s hgd (w' := w) (v := .bool false) ?_ ?_
      · simp only [execOp, eval_tmp, e0]
        go_simp
      · exact PostE.put (i := 9) ho (vptd18_mem 9 hk).2 (hlt 9 hk) (fun k hk2 hne _ => vptd18_inj 9 hk k hk2 hne) (.inl (Ext.refl _ _)) rfl hg
    | 10, hk, hd =>
      have s : (ops[10]?).map sig = some (some 117, .move (.tmp 116), 4, some (4, true)) := by subst hops; kernel_rfl
      have hgd : GdOk ops a (some (4, true)) := yielded_of (d := 111) (by subst hops; kernel_rfl) (hd 4 (by decide) (by subst hops; kernel_rfl))
      have d9 := hd 9 (by decide) (by subst hops; kernel_rfl)
      have e0 : ag a 116 = .bool false := d9
      refine op_valg s hgd (w' := w) (v := .bool false) ?_ ?_
      · exact congrArg (fun x => Result.ok (Next.value x) w) e0
      · exact PostE.put (i := 10) ho (vptd18_mem 10 hk).2 (hlt 10 hk) (fun k hk2 hne _ => vptd18_inj 10 hk k hk2 hne) (.inl (Ext.refl _ _)) rfl hg
    | 11, hk, hd =>
      have s : (ops[11]?).map sig = some (some 118, .load 26 (.tmp 9), 26, some (10, false)) := by subst hops; kernel_rfl
      have hgd : GdOk ops a (some (10, false)) := yielded_of (d := 117) (by subst hops; kernel_rfl) (hd 10 (by decide) (by subst hops; kernel_rfl))
      have e0 : ag a 9 = .pointer (some ⟨gP, 0, none⟩) := (ho.off 9 (by decide)).trans h9
      refine op_loadg s hgd gP 0 e0 [mv, dv] _ ((hP.later hg).range) Tryd.underlying26 rfl info_prog ?_
      exact PostE.put (i := 11) ho (vptd18_mem 11 hk).2 (hlt 11 hk) (fun k hk2 hne _ => vptd18_inj 11 hk k hk2 hne) (.inl (Ext.refl _ _)) rfl hg
    | 12, hk, hd =>
      have s : (ops[12]?).map sig = some (some 119, .load 31 (.tmp 14), 31, some (10, false)) := by subst hops; kernel_rfl
      have hgd : GdOk ops a (some (10, false)) := yielded_of (d := 117) (by subst hops; kernel_rfl) (hd 10 (by decide) (by subst hops; kernel_rfl))
      have e0 : ag a 14 = .pointer (some ⟨gL, 0, none⟩) := (ho.off 14 (by decide)).trans h14
      refine op_loadg s hgd gL 0 e0 Lc _ (range_below hL hg) Tryd.underlying31 rfl (by rw [hLl]; exact info_typesz) ?_
      exact PostE.put (i := 12) ho (vptd18_mem 12 hk).2 (hlt 12 hk) (fun k hk2 hne _ => vptd18_inj 12 hk k hk2 hne) (.inl (Ext.refl _ _)) rfl hg
    | 13, hk, hd =>
      have s : (ops[13]?).map sig = some (some 120, .load 53 (.tmp 16), 53, some (10, false)) := by subst hops; kernel_rfl
      have hgd : GdOk ops a (some (10, false)) := yielded_of (d := 117) (by subst hops; kernel_rfl) (hd 10 (by decide) (by subst hops; kernel_rfl))
      have e0 : ag a 16 = .pointer (some ⟨g16, 0, none⟩) := (ho.off 16 (by decide)).trans h16
      refine op_loadg s hgd g16 0 e0 C16 _ (range_below v16.rg hg) Tryd.underlying53 rfl (by rw [v16.ln]; exact info_val) ?_
      exact PostE.put (i := 13) ho (vptd18_mem 13 hk).2 (hlt 13 hk) (fun k hk2 hne _ => vptd18_inj 13 hk k hk2 hne) (.inl (Ext.refl _ _)) rfl hg
    | 14, hk, hd =>
      have s : (ops[14]?).map sig = some (some 121, .call { callee := .value (.func 25), args := #[.tmp 118, .tmp 119, .tmp 120], argTypes := #[26, 31, 53] }, 4, some (10, false)) := by subst hops; kernel_rfl
      have hgd : GdOk ops a (some (10, false)) := yielded_of (d := 117) (by subst hops; kernel_rfl) (hd 10 (by decide) (by subst hops; kernel_rfl))
      have d11 := hd 11 (by decide) (by subst hops; kernel_rfl)
      have d12 := hd 12 (by decide) (by subst hops; kernel_rfl)
      have d13 := hd 13 (by decide) (by subst hops; kernel_rfl)
      have e0 : ag a 118 = .agg #[mv, dv] := d11
      have e1 : ag a 119 = .agg Lc.toArray := d12
      have e2 : ag a 120 = .agg C16.toArray := d13
      refine op_callg s hgd (w' := w) (f := 25) (args := #[.agg #[mv, dv], .agg Lc.toArray, .agg C16.toArray]) ?_ ?_
      · simp only [execOp]
        go_simp
        refine ⟨by simpa [ag] using e0, by simpa [ag] using e1, by simpa [ag] using e2⟩
      · refine ((show Calls Tryd.prog _ _ w (BRes true w) from hpv1 ▸ valid_any P ty x1 w _ _ _ (hPr.later hg) (hLt.later hg) (v16.later hg).tr (hK.later hg))).mono ?_
        rintro e w' ⟨rfl, hb⟩
        exact ⟨_, rfl, PostE.put (i := 14) ho (vptd18_mem 14 hk).2 (hlt 14 hk) (fun k hk2 hne _ => vptd18_inj 14 hk k hk2 hne) (.inl (Ext.of hb)) rfl (later hg hb)⟩
    | 15, hk, hd =>
      have s : (ops[15]?).map sig = some (some 122, .pick (.tmp 117) (.const (.bool true)) (.tmp 121), 4, some (4, true)) := by subst hops; kernel_rfl
      have hgd : GdOk ops a (some (4, true)) := yielded_of (d := 111) (by subst hops; kernel_rfl) (hd 4 (by decide) (by subst hops; kernel_rfl))
      have d10 := hd 10 (by decide) (by subst hops; kernel_rfl)
      have d14 := hd 14 (by decide) (by subst hops; kernel_rfl)
      have e0 : ag a 117 = .bool false := d10
      have e1 : ag a 121 = .bool true := d14
      refine op_valg s hgd (w' := w) (v := .bool true) ?_ ?_
      · simp only [execOp, eval_tmp, e0, e1]
        go_simp
      · exact PostE.put (i := 15) ho (vptd18_mem 15 hk).2 (hlt 15 hk) (fun k hk2 hne _ => vptd18_inj 15 hk k hk2 hne) (.inl (Ext.refl _ _)) rfl hg
    | 16, hk, hd =>
      have s : (ops[16]?).map sig = some (some 123, .pick (.tmp 111) (.tmp 122) (.const (.bool false)), 4, none) := by subst hops; kernel_rfl
      have hgd : GdOk ops a none := trivial
      have d4 := hd 4 (by decide) (by subst hops; kernel_rfl)
      have d15 := hd 15 (by decide) (by subst hops; kernel_rfl)
      have e0 : ag a 111 = .bool true := d4
      have e1 : ag a 122 = .bool true := d15
      refine op_valg s hgd (w' := w) (v := .bool true) ?_ ?_
      · simp only [execOp, eval_tmp, e0, e1]
        go_simp
      · exact PostE.put (i := 16) ho (vptd18_mem 16 hk).2 (hlt 16 hk) (fun k hk2 hne _ => vptd18_inj 16 hk k hk2 hne) (.inl (Ext.refl _ _)) rfl hg
    | 17, hk, hd =>
      have s : (ops[17]?).map sig = some (some 124, .move (.tmp 123), 4, none) := by subst hops; kernel_rfl
      have hgd : GdOk ops a none := trivial
      have d16 := hd 16 (by decide) (by subst hops; kernel_rfl)
      have e0 : ag a 123 = .bool true := d16
      refine op_valg s hgd (w' := w) (v := .bool true) ?_ ?_
      · exact congrArg (fun x => Result.ok (Next.value x) w) e0
      · exact PostE.put (i := 17) ho (vptd18_mem 17 hk).2 (hlt 17 hk) (fun k hk2 hne _ => vptd18_inj 17 hk k hk2 hne) (.inl (Ext.refl _ _)) rfl hg
    | 18, hk, hd =>
      have s : (ops[18]?).map sig = some (some 125, .call { callee := .value (.func 22), args := #[], argTypes := #[] }, 4, some (17, true)) := by subst hops; kernel_rfl
      have hgd : GdOk ops a (some (17, true)) := yielded_of (d := 124) (by subst hops; kernel_rfl) (hd 17 (by decide) (by subst hops; kernel_rfl))
      refine op_callg s hgd (w' := w) (f := 22) (args := #[]) ?_ ?_
      · simp only [execOp]
        go_simp
      · refine (lives_any w (hK.later hg)).mono ?_
        rintro e w' ⟨rfl, hb⟩
        exact ⟨_, rfl, PostE.put (i := 18) ho (vptd18_mem 18 hk).2 (hlt 18 hk) (fun k hk2 hne _ => vptd18_inj 18 hk k hk2 hne) (.inl (Ext.of hb)) rfl (later hg hb)⟩
    | 19, hk, hd =>
      have s : (ops[19]?).map sig = some (some 126, .pick (.tmp 124) (.tmp 125) (.const (.bool false)), 4, none) := by subst hops; kernel_rfl
      have hgd : GdOk ops a none := trivial
      have d17 := hd 17 (by decide) (by subst hops; kernel_rfl)
      have d18 := hd 18 (by decide) (by subst hops; kernel_rfl)
      have e0 : ag a 124 = .bool true := d17
      have e1 : ag a 125 = .bool true := d18
      refine op_valg s hgd (w' := w) (v := .bool true) ?_ ?_
      · simp only [execOp, eval_tmp, e0, e1]
        go_simp
      · exact PostE.put (i := 19) ho (vptd18_mem 19 hk).2 (hlt 19 hk) (fun k hk2 hne _ => vptd18_inj 19 hk k hk2 hne) (.inl (Ext.refl _ _)) rfl hg
    | n + 20, hn, _ => exact absurd hn (by omega)
  · intro a w ho hg hf
    have s : (ops[20]?).map sig = some (some 8, .assign (.tmp 126), 4, none) := by subst hops; kernel_rfl
    have hgd : GdOk ops a none := trivial
    have d19 := hf 19 (by decide)
    have e0 : ag a 126 = .bool true := d19
    refine op_valg s hgd (w' := w) (v := .bool true) ?_ ?_
    · exact congrArg (fun x => Result.ok (Next.value x) w) e0
    · have ho2 : Off (vptD18 ++ [8]) a0 (a.put (some 8) (.bool true)) := (ho.mono (fun s hs => List.mem_append_left _ hs)).put (by decide)
      exact hQ (ag (a.put (some 8) (.bool true))) w (ag_put (by rw [ho.size, hsz]; decide)) hg _ (ho2.eq (fun s hs => by rw [hsz]; revert s; decide))

/-! ### Region 18. -/
def vpff18 (gP gL g15 g16 : Nat) (mv dv : Value) (Lc C15 C16 : List Value) (P : List Df) (ty : Ty) (x1 x2 : Tr) : Nat → Value → World → Prop
  | 0, v, w => v = .bool true
  | 1, v, w => v = .bool true
  | 2, v, w => v = .bool true
  | 3, v, w => v = .bool true
  | 4, v, w => v = .bool true
  | 5, v, w => v = .agg #[mv, dv]
  | 6, v, w => v = .agg Lc.toArray
  | 7, v, w => v = .agg C15.toArray
  | 8, v, w => v = .bool false
  | 9, v, w => v = .bool true
  | 10, v, w => v = .bool true
  | 11, v, w => v = undef
  | 12, v, w => v = undef
  | 13, v, w => v = undef
  | 14, v, w => v = undef
  | 15, v, w => v = .bool true
  | 16, v, w => v = .bool true
  | 17, v, w => v = .bool true
  | 18, v, w => v = .bool true
  | 19, v, w => v = .bool true
  | _, _, _ => True
theorem vpff18_ext (gP gL g15 g16 : Nat) (mv dv : Value) (Lc C15 C16 : List Value) (P : List Df) (ty : Ty) (x1 x2 : Tr) (S : Nat) : ∀ j v w w', j < 20 → (Ext S w w' ∨ (j ≠ 999 ∧ Never w w')) → vpff18 gP gL g15 g16 mv dv Lc C15 C16 P ty x1 x2 j v w → vpff18 gP gL g15 g16 mv dv Lc C15 C16 P ty x1 x2 j v w' := by
  intro j v w w' hj he h
  match j, hj, he, h with
  | 0, _, he, h => exact h
  | 1, _, he, h => exact h
  | 2, _, he, h => exact h
  | 3, _, he, h => exact h
  | 4, _, he, h => exact h
  | 5, _, he, h => exact h
  | 6, _, he, h => exact h
  | 7, _, he, h => exact h
  | 8, _, he, h => exact h
  | 9, _, he, h => exact h
  | 10, _, he, h => exact h
  | 11, _, he, h => exact h
  | 12, _, he, h => exact h
  | 13, _, he, h => exact h
  | 14, _, he, h => exact h
  | 15, _, he, h => exact h
  | 16, _, he, h => exact h
  | 17, _, he, h => exact h
  | 18, _, he, h => exact h
  | 19, _, he, h => exact h
  | n + 20, hn, _, _ => exact absurd hn (by omega)
def vpfD18 : List Nat := [107, 108, 109, 110, 111, 112, 113, 114, 115, 116, 117, 118, 119, 120, 121, 122, 123, 124, 125, 126]
def vpfd18 (k : Nat) : Nat := [107, 108, 109, 110, 111, 112, 113, 114, 115, 116, 117, 118, 119, 120, 121, 122, 123, 124, 125, 126].getD k 0
theorem vpfd18_mem : ∀ k, k < 20 → vpfd18 k < 127 ∧ vpfd18 k ∈ vpfD18 := by decide
theorem vpfd18_inj : ∀ i, i < 20 → ∀ k, k < 20 → k ≠ i → vpfd18 i ≠ vpfd18 k := by decide

set_option maxHeartbeats 4000000 in
set_option maxRecDepth 100000 in
theorem vpfreg18 {Q : Exit → Act → World → Prop} {id : Nat} {ops : Array Oper} (hops : ops = ((Tryd.f9.body).bind (opsOf 18)).getD #[]) (a0 : Act) (w0 : World) (gP gL g15 g16 : Nat) (mv dv : Value) (Lc C15 C16 : List Value) (P : List Df) (ty : Ty) (x1 x2 : Tr) (hsz : a0.tmps.size = 127)
    (h9 : ag a0 9 = .pointer (some ⟨gP, 0, none⟩)) (h14 : ag a0 14 = .pointer (some ⟨gL, 0, none⟩)) (h15 : ag a0 15 = .pointer (some ⟨g15, 0, none⟩)) (h16 : ag a0 16 = .pointer (some ⟨g16, 0, none⟩)) (h17 : ag a0 17 = .bool true) (h19 : ag a0 19 = .bool true) (hP : Arr w0 gP 2 26 [mv, dv]) (hPr : PrAt w0 P (.agg #[mv, dv])) (hK : Kv w0) (hL : w0.rangeAt gL 0 Lc) (hLl : Lc.length = 5) (hLt : TyAt w0 ty (.agg Lc.toArray))
    (v15 : VarAt w0 g15 x2 C15) (v16 : VarAt w0 g16 x1 C16) (hpv : (pv P x2 ty 24 0).1 = false) 
    (hQ : ∀ (vs : Nat → Value) (w' : World), vs 8 = .bool true → Below w0.heap.size w0 w' → ∀ a', a' = (vpfD18 ++ [8]).foldl (fun b s => b.put (some s) (vs s)) a0 → Q .normal a' w') :
    (Code.region id ops false).wp Tryd.prog Q a0 w0 := by
  have hg0 : Below w0.heap.size w0 w0 := Below.refl _ _
  have hlt : ∀ k, k < 20 → vpfd18 k < a0.tmps.size := fun k hk => by have := (vpfd18_mem k hk).1; omega
  refine wp_region_seqE 20 999 vpfD18 vpfd18 (vpff18 gP gL g15 g16 mv dv Lc C15 C16 P ty x1 x2) (fun w => Below w0.heap.size w0 w) w0.heap.size Never (by subst hops; kernel_rfl) (by subst hops; kernel_rfl) (vpff18_ext gP gL g15 g16 mv dv Lc C15 C16 P ty x1 x2 w0.heap.size) hg0 ?_ ?_
  · intro j a w hj ho hg hd
    have hgs := hg.size
    match j, hj, hd with
    | 0, hk, hd =>
      have s : (ops[0]?).map sig = some (some 107, .move (.tmp 17), 4, none) := by subst hops; kernel_rfl
      have hgd : GdOk ops a none := trivial
      have e0 : ag a 17 = .bool true := (ho.off 17 (by decide)).trans h17
      refine op_valg s hgd (w' := w) (v := .bool true) ?_ ?_
      · exact congrArg (fun x => Result.ok (Next.value x) w) e0
      · exact PostE.put (i := 0) ho (vpfd18_mem 0 hk).2 (hlt 0 hk) (fun k hk2 hne _ => vpfd18_inj 0 hk k hk2 hne) (.inl (Ext.refl _ _)) rfl hg
    | 1, hk, hd =>
      have s : (ops[1]?).map sig = some (some 108, .move (.tmp 107), 4, none) := by subst hops; kernel_rfl
      have hgd : GdOk ops a none := trivial
      have d0 := hd 0 (by decide) (by subst hops; kernel_rfl)
      have e0 : ag a 107 = .bool true := d0
      refine op_valg s hgd (w' := w) (v := .bool true) ?_ ?_
      · exact congrArg (fun x => Result.ok (Next.value x) w) e0
      · exact PostE.put (i := 1) ho (vpfd18_mem 1 hk).2 (hlt 1 hk) (fun k hk2 hne _ => vpfd18_inj 1 hk k hk2 hne) (.inl (Ext.refl _ _)) rfl hg
    | 2, hk, hd =>
      have s : (ops[2]?).map sig = some (some 109, .move (.tmp 19), 4, some (1, true)) := by subst hops; kernel_rfl
      have hgd : GdOk ops a (some (1, true)) := yielded_of (d := 108) (by subst hops; kernel_rfl) (hd 1 (by decide) (by subst hops; kernel_rfl))
      have e0 : ag a 19 = .bool true := (ho.off 19 (by decide)).trans h19
      refine op_valg s hgd (w' := w) (v := .bool true) ?_ ?_
      · exact congrArg (fun x => Result.ok (Next.value x) w) e0
      · exact PostE.put (i := 2) ho (vpfd18_mem 2 hk).2 (hlt 2 hk) (fun k hk2 hne _ => vpfd18_inj 2 hk k hk2 hne) (.inl (Ext.refl _ _)) rfl hg
    | 3, hk, hd =>
      have s : (ops[3]?).map sig = some (some 110, .pick (.tmp 108) (.tmp 109) (.const (.bool false)), 4, none) := by subst hops; kernel_rfl
      have hgd : GdOk ops a none := trivial
      have d1 := hd 1 (by decide) (by subst hops; kernel_rfl)
      have d2 := hd 2 (by decide) (by subst hops; kernel_rfl)
      have e0 : ag a 108 = .bool true := d1
      have e1 : ag a 109 = .bool true := d2
      refine op_valg s hgd (w' := w) (v := .bool true) ?_ ?_
      · simp only [execOp, eval_tmp, e0, e1]
        go_simp
      · exact PostE.put (i := 3) ho (vpfd18_mem 3 hk).2 (hlt 3 hk) (fun k hk2 hne _ => vpfd18_inj 3 hk k hk2 hne) (.inl (Ext.refl _ _)) rfl hg
    | 4, hk, hd =>
      have s : (ops[4]?).map sig = some (some 111, .move (.tmp 110), 4, none) := by subst hops; kernel_rfl
      have hgd : GdOk ops a none := trivial
      have d3 := hd 3 (by decide) (by subst hops; kernel_rfl)
      have e0 : ag a 110 = .bool true := d3
      refine op_valg s hgd (w' := w) (v := .bool true) ?_ ?_
      · exact congrArg (fun x => Result.ok (Next.value x) w) e0
      · exact PostE.put (i := 4) ho (vpfd18_mem 4 hk).2 (hlt 4 hk) (fun k hk2 hne _ => vpfd18_inj 4 hk k hk2 hne) (.inl (Ext.refl _ _)) rfl hg
    | 5, hk, hd =>
      have s : (ops[5]?).map sig = some (some 112, .load 26 (.tmp 9), 26, some (4, true)) := by subst hops; kernel_rfl
      have hgd : GdOk ops a (some (4, true)) := yielded_of (d := 111) (by subst hops; kernel_rfl) (hd 4 (by decide) (by subst hops; kernel_rfl))
      have e0 : ag a 9 = .pointer (some ⟨gP, 0, none⟩) := (ho.off 9 (by decide)).trans h9
      refine op_loadg s hgd gP 0 e0 [mv, dv] _ ((hP.later hg).range) Tryd.underlying26 rfl info_prog ?_
      exact PostE.put (i := 5) ho (vpfd18_mem 5 hk).2 (hlt 5 hk) (fun k hk2 hne _ => vpfd18_inj 5 hk k hk2 hne) (.inl (Ext.refl _ _)) rfl hg
    | 6, hk, hd =>
      have s : (ops[6]?).map sig = some (some 113, .load 31 (.tmp 14), 31, some (4, true)) := by subst hops; kernel_rfl
      have hgd : GdOk ops a (some (4, true)) := yielded_of (d := 111) (by subst hops; kernel_rfl) (hd 4 (by decide) (by subst hops; kernel_rfl))
      have e0 : ag a 14 = .pointer (some ⟨gL, 0, none⟩) := (ho.off 14 (by decide)).trans h14
      refine op_loadg s hgd gL 0 e0 Lc _ (range_below hL hg) Tryd.underlying31 rfl (by rw [hLl]; exact info_typesz) ?_
      exact PostE.put (i := 6) ho (vpfd18_mem 6 hk).2 (hlt 6 hk) (fun k hk2 hne _ => vpfd18_inj 6 hk k hk2 hne) (.inl (Ext.refl _ _)) rfl hg
    | 7, hk, hd =>
      have s : (ops[7]?).map sig = some (some 114, .load 53 (.tmp 15), 53, some (4, true)) := by subst hops; kernel_rfl
      have hgd : GdOk ops a (some (4, true)) := yielded_of (d := 111) (by subst hops; kernel_rfl) (hd 4 (by decide) (by subst hops; kernel_rfl))
      have e0 : ag a 15 = .pointer (some ⟨g15, 0, none⟩) := (ho.off 15 (by decide)).trans h15
      refine op_loadg s hgd g15 0 e0 C15 _ (range_below v15.rg hg) Tryd.underlying53 rfl (by rw [v15.ln]; exact info_val) ?_
      exact PostE.put (i := 7) ho (vpfd18_mem 7 hk).2 (hlt 7 hk) (fun k hk2 hne _ => vpfd18_inj 7 hk k hk2 hne) (.inl (Ext.refl _ _)) rfl hg
    | 8, hk, hd =>
      have s : (ops[8]?).map sig = some (some 115, .call { callee := .value (.func 25), args := #[.tmp 112, .tmp 113, .tmp 114], argTypes := #[26, 31, 53] }, 4, some (4, true)) := by subst hops; kernel_rfl
      have hgd : GdOk ops a (some (4, true)) := yielded_of (d := 111) (by subst hops; kernel_rfl) (hd 4 (by decide) (by subst hops; kernel_rfl))
      have d5 := hd 5 (by decide) (by subst hops; kernel_rfl)
      have d6 := hd 6 (by decide) (by subst hops; kernel_rfl)
      have d7 := hd 7 (by decide) (by subst hops; kernel_rfl)
      have e0 : ag a 112 = .agg #[mv, dv] := d5
      have e1 : ag a 113 = .agg Lc.toArray := d6
      have e2 : ag a 114 = .agg C15.toArray := d7
      refine op_callg s hgd (w' := w) (f := 25) (args := #[.agg #[mv, dv], .agg Lc.toArray, .agg C15.toArray]) ?_ ?_
      · simp only [execOp]
        go_simp
        refine ⟨by simpa [ag] using e0, by simpa [ag] using e1, by simpa [ag] using e2⟩
      · refine ((show Calls Tryd.prog _ _ w (BRes false w) from hpv ▸ valid_any P ty x2 w _ _ _ (hPr.later hg) (hLt.later hg) (v15.later hg).tr (hK.later hg))).mono ?_
        rintro e w' ⟨rfl, hb⟩
        exact ⟨_, rfl, PostE.put (i := 8) ho (vpfd18_mem 8 hk).2 (hlt 8 hk) (fun k hk2 hne _ => vpfd18_inj 8 hk k hk2 hne) (.inl (Ext.of hb)) rfl (later hg hb)⟩
    | 9, hk, hd =>
      have s : (ops[9]?).map sig = some (some 116, .unOp .not 4 (.tmp 115), 4, some (4, true)) := by subst hops; kernel_rfl
      have hgd : GdOk ops a (some (4, true)) := yielded_of (d := 111) (by subst hops; kernel_rfl) (hd 4 (by decide) (by subst hops; kernel_rfl))
      have d8 := hd 8 (by decide) (by subst hops; kernel_rfl)
      have e0 : ag a 115 = .bool false := d8
      refine op_valg s hgd (w' := w) (v := .bool true) ?_ ?_
      · simp only [execOp, eval_tmp, e0]
        go_simp
      · exact PostE.put (i := 9) ho (vpfd18_mem 9 hk).2 (hlt 9 hk) (fun k hk2 hne _ => vpfd18_inj 9 hk k hk2 hne) (.inl (Ext.refl _ _)) rfl hg
    | 10, hk, hd =>
      have s : (ops[10]?).map sig = some (some 117, .move (.tmp 116), 4, some (4, true)) := by subst hops; kernel_rfl
      have hgd : GdOk ops a (some (4, true)) := yielded_of (d := 111) (by subst hops; kernel_rfl) (hd 4 (by decide) (by subst hops; kernel_rfl))
      have d9 := hd 9 (by decide) (by subst hops; kernel_rfl)
      have e0 : ag a 116 = .bool true := d9
      refine op_valg s hgd (w' := w) (v := .bool true) ?_ ?_
      · exact congrArg (fun x => Result.ok (Next.value x) w) e0
      · exact PostE.put (i := 10) ho (vpfd18_mem 10 hk).2 (hlt 10 hk) (fun k hk2 hne _ => vpfd18_inj 10 hk k hk2 hne) (.inl (Ext.refl _ _)) rfl hg
    | 11, hk, hd =>
      have s : (ops[11]?).map sig = some (some 118, .load 26 (.tmp 9), 26, some (10, false)) := by subst hops; kernel_rfl
      have hy : yielded ops a.tmps 10 = some true := yielded_of (d := 117) (by subst hops; kernel_rfl) (hd 10 (by decide) (by subst hops; kernel_rfl))
      refine opg_skip s hy (by decide) ?_
      exact PostE.put (i := 11) ho (vpfd18_mem 11 hk).2 (hlt 11 hk) (fun k hk2 hne _ => vpfd18_inj 11 hk k hk2 hne) (.inl (Ext.refl _ _)) rfl hg
    | 12, hk, hd =>
      have s : (ops[12]?).map sig = some (some 119, .load 31 (.tmp 14), 31, some (10, false)) := by subst hops; kernel_rfl
      have hy : yielded ops a.tmps 10 = some true := yielded_of (d := 117) (by subst hops; kernel_rfl) (hd 10 (by decide) (by subst hops; kernel_rfl))
      refine opg_skip s hy (by decide) ?_
      exact PostE.put (i := 12) ho (vpfd18_mem 12 hk).2 (hlt 12 hk) (fun k hk2 hne _ => vpfd18_inj 12 hk k hk2 hne) (.inl (Ext.refl _ _)) rfl hg
    | 13, hk, hd =>
      have s : (ops[13]?).map sig = some (some 120, .load 53 (.tmp 16), 53, some (10, false)) := by subst hops; kernel_rfl
      have hy : yielded ops a.tmps 10 = some true := yielded_of (d := 117) (by subst hops; kernel_rfl) (hd 10 (by decide) (by subst hops; kernel_rfl))
      refine opg_skip s hy (by decide) ?_
      exact PostE.put (i := 13) ho (vpfd18_mem 13 hk).2 (hlt 13 hk) (fun k hk2 hne _ => vpfd18_inj 13 hk k hk2 hne) (.inl (Ext.refl _ _)) rfl hg
    | 14, hk, hd =>
      have s : (ops[14]?).map sig = some (some 121, .call { callee := .value (.func 25), args := #[.tmp 118, .tmp 119, .tmp 120], argTypes := #[26, 31, 53] }, 4, some (10, false)) := by subst hops; kernel_rfl
      have hy : yielded ops a.tmps 10 = some true := yielded_of (d := 117) (by subst hops; kernel_rfl) (hd 10 (by decide) (by subst hops; kernel_rfl))
      refine opg_skip s hy (by decide) ?_
      exact PostE.put (i := 14) ho (vpfd18_mem 14 hk).2 (hlt 14 hk) (fun k hk2 hne _ => vpfd18_inj 14 hk k hk2 hne) (.inl (Ext.refl _ _)) rfl hg
    | 15, hk, hd =>
      have s : (ops[15]?).map sig = some (some 122, .pick (.tmp 117) (.const (.bool true)) (.tmp 121), 4, some (4, true)) := by subst hops; kernel_rfl
      have hgd : GdOk ops a (some (4, true)) := yielded_of (d := 111) (by subst hops; kernel_rfl) (hd 4 (by decide) (by subst hops; kernel_rfl))
      have d10 := hd 10 (by decide) (by subst hops; kernel_rfl)
      have d14 := hd 14 (by decide) (by subst hops; kernel_rfl)
      have e0 : ag a 117 = .bool true := d10
      have e1 : ag a 121 = undef := d14
      refine op_valg s hgd (w' := w) (v := .bool true) ?_ ?_
      · simp only [execOp, eval_tmp, e0, e1]
        go_simp
      · exact PostE.put (i := 15) ho (vpfd18_mem 15 hk).2 (hlt 15 hk) (fun k hk2 hne _ => vpfd18_inj 15 hk k hk2 hne) (.inl (Ext.refl _ _)) rfl hg
    | 16, hk, hd =>
      have s : (ops[16]?).map sig = some (some 123, .pick (.tmp 111) (.tmp 122) (.const (.bool false)), 4, none) := by subst hops; kernel_rfl
      have hgd : GdOk ops a none := trivial
      have d4 := hd 4 (by decide) (by subst hops; kernel_rfl)
      have d15 := hd 15 (by decide) (by subst hops; kernel_rfl)
      have e0 : ag a 111 = .bool true := d4
      have e1 : ag a 122 = .bool true := d15
      refine op_valg s hgd (w' := w) (v := .bool true) ?_ ?_
      · simp only [execOp, eval_tmp, e0, e1]
        go_simp
      · exact PostE.put (i := 16) ho (vpfd18_mem 16 hk).2 (hlt 16 hk) (fun k hk2 hne _ => vpfd18_inj 16 hk k hk2 hne) (.inl (Ext.refl _ _)) rfl hg
    | 17, hk, hd =>
      have s : (ops[17]?).map sig = some (some 124, .move (.tmp 123), 4, none) := by subst hops; kernel_rfl
      have hgd : GdOk ops a none := trivial
      have d16 := hd 16 (by decide) (by subst hops; kernel_rfl)
      have e0 : ag a 123 = .bool true := d16
      refine op_valg s hgd (w' := w) (v := .bool true) ?_ ?_
      · exact congrArg (fun x => Result.ok (Next.value x) w) e0
      · exact PostE.put (i := 17) ho (vpfd18_mem 17 hk).2 (hlt 17 hk) (fun k hk2 hne _ => vpfd18_inj 17 hk k hk2 hne) (.inl (Ext.refl _ _)) rfl hg
    | 18, hk, hd =>
      have s : (ops[18]?).map sig = some (some 125, .call { callee := .value (.func 22), args := #[], argTypes := #[] }, 4, some (17, true)) := by subst hops; kernel_rfl
      have hgd : GdOk ops a (some (17, true)) := yielded_of (d := 124) (by subst hops; kernel_rfl) (hd 17 (by decide) (by subst hops; kernel_rfl))
      refine op_callg s hgd (w' := w) (f := 22) (args := #[]) ?_ ?_
      · simp only [execOp]
        go_simp
      · refine (lives_any w (hK.later hg)).mono ?_
        rintro e w' ⟨rfl, hb⟩
        exact ⟨_, rfl, PostE.put (i := 18) ho (vpfd18_mem 18 hk).2 (hlt 18 hk) (fun k hk2 hne _ => vpfd18_inj 18 hk k hk2 hne) (.inl (Ext.of hb)) rfl (later hg hb)⟩
    | 19, hk, hd =>
      have s : (ops[19]?).map sig = some (some 126, .pick (.tmp 124) (.tmp 125) (.const (.bool false)), 4, none) := by subst hops; kernel_rfl
      have hgd : GdOk ops a none := trivial
      have d17 := hd 17 (by decide) (by subst hops; kernel_rfl)
      have d18 := hd 18 (by decide) (by subst hops; kernel_rfl)
      have e0 : ag a 124 = .bool true := d17
      have e1 : ag a 125 = .bool true := d18
      refine op_valg s hgd (w' := w) (v := .bool true) ?_ ?_
      · simp only [execOp, eval_tmp, e0, e1]
        go_simp
      · exact PostE.put (i := 19) ho (vpfd18_mem 19 hk).2 (hlt 19 hk) (fun k hk2 hne _ => vpfd18_inj 19 hk k hk2 hne) (.inl (Ext.refl _ _)) rfl hg
    | n + 20, hn, _ => exact absurd hn (by omega)
  · intro a w ho hg hf
    have s : (ops[20]?).map sig = some (some 8, .assign (.tmp 126), 4, none) := by subst hops; kernel_rfl
    have hgd : GdOk ops a none := trivial
    have d19 := hf 19 (by decide)
    have e0 : ag a 126 = .bool true := d19
    refine op_valg s hgd (w' := w) (v := .bool true) ?_ ?_
    · exact congrArg (fun x => Result.ok (Next.value x) w) e0
    · have ho2 : Off (vpfD18 ++ [8]) a0 (a.put (some 8) (.bool true)) := (ho.mono (fun s hs => List.mem_append_left _ hs)).put (by decide)
      exact hQ (ag (a.put (some 8) (.bool true))) w (ag_put (by rw [ho.size, hsz]; decide)) hg _ (ho2.eq (fun s hs => by rw [hsz]; revert s; decide))
end Go.Proofs.YtjbleefpafnhhaaDoor
