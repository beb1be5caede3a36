import Derived.Test.YtjbleefpafnhhaaDoorX05
import Derived.Test.YtjbleefpafnhhaaDoorX23
import Derived.Test.YtjbleefpafnhhaaDoorX29
import Derived.Test.YtjbleefpafnhhaaDoorX32
import Derived.Test.YtjbleefpafnhhaaDoorX33
import Derived.Test.YtjbleefpafnhhaaDoorX35

set_option linter.unusedVariables false
set_option linter.unusedSimpArgs false
namespace Go.Proofs.YtjbleefpafnhhaaDoor
open Go.RowKit
def vof7 (h i : Nat) (Ci : List Value) (X : Tr) : Nat → Value → World → Prop
  | 0, v, w => v = .slice (some ⟨h, 0, none⟩) 5 5
  | 1, v, w => v = .int .i64 (i : Int)
  | 2, v, w => v = .pointer (some ⟨h, i * 3, none⟩)
  | 3, v, w => v = .agg Ci.toArray
  | 4, v, w => v = .int .i64 X.sz
  | 5, v, w => v = .slice (some ⟨h, 0, none⟩) 5 5
  | 6, v, w => v = .int .i64 (i : Int)
  | 7, v, w => v = .pointer (some ⟨h, i * 3, none⟩)
  | 8, v, w => v = .agg Ci.toArray
  | 9, v, w => v = .int .i64 X.sz
  | 10, v, w => v = .bool false
  | 11, v, w => v = .bool false
  | 12, v, w => v = .slice (some ⟨h, 0, none⟩) 5 5
  | 13, v, w => v = .int .i64 (i : Int)
  | 14, v, w => v = .pointer (some ⟨h, i * 3, none⟩)
  | 15, v, w => v = .agg Ci.toArray
  | 16, v, w => v = .int .i64 X.wt
  | 17, v, w => v = .slice (some ⟨h, 0, none⟩) 5 5
  | 18, v, w => v = .int .i64 (i : Int)
  | 19, v, w => v = .pointer (some ⟨h, i * 3, none⟩)
  | 20, v, w => v = .agg Ci.toArray
  | 21, v, w => v = .int .i64 X.wt
  | 22, v, w => v = .bool false
  | 23, v, w => v = .bool false
  | 24, v, w => v = .bool false
  | 25, v, w => v = .slice (some ⟨h, 0, none⟩) 5 5
  | 26, v, w => v = .int .i64 (i : Int)
  | 27, v, w => v = .pointer (some ⟨h, i * 3, none⟩)
  | 28, v, w => v = .agg Ci.toArray
  | 29, v, w => v = .slice (some ⟨h, 0, none⟩) 5 5
  | 30, v, w => v = .int .i64 (i : Int)
  | 31, v, w => v = .pointer (some ⟨h, i * 3, none⟩)
  | 32, v, w => v = .agg Ci.toArray
  | 33, v, w => v = .int .i64 0
  | 34, v, w => v = .bool false
  | _, _, _ => True
theorem vof7_ext (h i : Nat) (Ci : List Value) (X : Tr) (S : Nat) : ∀ j v w w', j < 35 → (Ext S w w' ∨ (j ≠ 999 ∧ Never w w')) → vof7 h i Ci X j v w → vof7 h i Ci X j v w' := by
  intro j v w w' hj he h
  match j, hj, he, h with
  | 0, _, he, h => exact h
  | 1, _, he, h => exact h
  | 2, _, he, h => exact h
  | 3, _, he, h => exact h
  | 4, _, he, h => exact h
  | 5, _, he, h => exact h
  | 6, _, he, h => exact h
  | 7, _, he, h => exact h
  | 8, _, he, h => exact h
  | 9, _, he, h => exact h
  | 10, _, he, h => exact h
  | 11, _, he, h => exact h
  | 12, _, he, h => exact h
  | 13, _, he, h => exact h
  | 14, _, he, h => exact h
  | 15, _, he, h => exact h
  | 16, _, he, h => exact h
  | 17, _, he, h => exact h
  | 18, _, he, h => exact h
  | 19, _, he, h => exact h
  | 20, _, he, h => exact h
  | 21, _, he, h => exact h
  | 22, _, he, h => exact h
  | 23, _, he, h => exact h
  | 24, _, he, h => exact h
  | 25, _, he, h => exact h
  | 26, _, he, h => exact h
  | 27, _, he, h => exact h
  | 28, _, he, h => exact h
  | 29, _, he, h => exact h
  | 30, _, he, h => exact h
  | 31, _, he, h => exact h
  | 32, _, he, h => exact h
  | 33, _, he, h => exact h
  | 34, _, he, h => exact h
  | n + 35, hn, _, _ => exact absurd hn (by omega)
def voD7 : List Nat := [50, 51, 52, 53, 54, 55, 56, 57, 58, 59, 60, 61, 62, 63, 64, 65, 66, 67, 68, 69, 70, 71, 72, 73, 74, 75, 76, 77, 78, 79, 80, 81, 82, 83, 84]
def vod7 (k : Nat) : Nat := [50, 51, 52, 53, 54, 55, 56, 57, 58, 59, 60, 61, 62, 63, 64, 65, 66, 67, 68, 69, 70, 71, 72, 73, 74, 75, 76, 77, 78, 79, 80, 81, 82, 83, 84].getD k 0
theorem vod7_mem : ∀ k, k < 35 → vod7 k < 155 ∧ vod7 k ∈ voD7 := by decide
theorem vod7_inj : ∀ i, i < 35 → ∀ k, k < 35 → k ≠ i → vod7 i ≠ vod7 k := by decide
set_option maxHeartbeats 4000000 in
set_option maxRecDepth 100000 in
theorem voreg7 {Q : Exit → Act → World → Prop} {id : Nat} {ops : Array Oper} (hops : ops = ((Tryd.f5.body).bind (opsOf 7)).getD #[]) (a0 : Act) (w0 : World) (h i : Nat) (Ci : List Value) (X : Tr) (hsz : a0.tmps.size = 155)
    (h13 : ag a0 13 = .slice (some ⟨h, 0, none⟩) 5 5) (h14 : ag a0 14 = .int .i64 (i : Int)) (hCi : w0.rangeAt h (i * 3) Ci) (lCi : Ci.length = 3) (tX : TrAt w0 X (.agg Ci.toArray)) (hii : (i : Int) < 5) (hoi : (0 : Int) ≤ (i : Int)) (hc : X.cp X = 0)
    (hQ : ∀ (vs : Nat → Value) (w' : World), vs 85 = .bool false → Below w0.heap.size w0 w' → ∀ a', a' = (voD7 ++ [85]).foldl (fun b s => b.put (some s) (vs s)) a0 → Q .normal a' w') :
    (Code.region id ops true).wp Tryd.prog Q a0 w0 := by
  have hg0 : Below w0.heap.size w0 w0.drew := below_drewN (Below.refl _ _) 1
  have hlt : ∀ k, k < 35 → vod7 k < a0.tmps.size := fun k hk => by have := (vod7_mem k hk).1; omega
  refine wp_region_factsE 35 999 voD7 vod7 (vof7 h i Ci X) (fun w => Below w0.heap.size w0 w) w0.heap.size Never (fun k => k) (by kernel_rfl) (by subst hops; kernel_rfl) (by subst hops; kernel_rfl) (by subst hops; kernel_rfl) (vof7_ext h i Ci X w0.heap.size) hg0 ?_ ?_
  · intro j a w hj ho hg hd
    have hgs := hg.size
    match j, hj, hd with
    | 0, hk, hd =>
      have s : (ops[0]?).map sig = some (some 50, .move (.tmp 13), 51, none) := by subst hops; kernel_rfl
      have hgd : GdOk ops a none := trivial
      have e0 : ag a 13 = .slice (some ⟨h, 0, none⟩) 5 5 := (ho.off 13 (by decide)).trans h13
      refine op_valg s hgd (w' := w) (v := .slice (some ⟨h, 0, none⟩) 5 5) ?_ ?_
      · exact congrArg (fun x => Result.ok (Next.value x) w) e0
      · exact PostE.put (i := 0) ho (vod7_mem 0 hk).2 (hlt 0 hk) (fun k hk2 hne _ => vod7_inj 0 hk k hk2 hne) (.inl (Ext.refl _ _)) rfl hg
    | 1, hk, hd =>
      have s : (ops[1]?).map sig = some (some 51, .move (.tmp 14), 3, none) := by subst hops; kernel_rfl
      have hgd : GdOk ops a none := trivial
      have e0 : ag a 14 = .int .i64 (i : Int) := (ho.off 14 (by decide)).trans h14
      refine op_valg s hgd (w' := w) (v := .int .i64 (i : Int)) ?_ ?_
      · exact congrArg (fun x => Result.ok (Next.value x) w) e0
      · exact PostE.put (i := 1) ho (vod7_mem 1 hk).2 (hlt 1 hk) (fun k hk2 hne _ => vod7_inj 1 hk k hk2 hne) (.inl (Ext.refl _ _)) rfl hg
    | 2, hk, hd =>
      have s : (ops[2]?).map sig = some (some 52, .indexAddr 51 (.tmp 50) (.tmp 51), 0, none) := by subst hops; kernel_rfl
      have hgd : GdOk ops a none := trivial
      have d0 := hd 0 (by decide) (by subst hops; kernel_rfl)
      have d1 := hd 1 (by decide) (by subst hops; kernel_rfl)
      have e0 : ag a 50 = .slice (some ⟨h, 0, none⟩) 5 5 := d0
      have e1 : ag a 51 = .int .i64 (i : Int) := d1
      refine op_valg s hgd (w' := w) (v := .pointer (some ⟨h, i * 3, none⟩)) ?_ ?_
      · simp only [execOp, eval_tmp, e0, e1]
        go_simp
      · exact PostE.put (i := 2) ho (vod7_mem 2 hk).2 (hlt 2 hk) (fun k hk2 hne _ => vod7_inj 2 hk k hk2 hne) (.inl (Ext.refl _ _)) rfl hg
    | 3, hk, hd =>
      have s : (ops[3]?).map sig = some (some 53, .load 53 (.tmp 52), 53, none) := by subst hops; kernel_rfl
      have hgd : GdOk ops a none := trivial
      have d2 := hd 2 (by decide) (by subst hops; kernel_rfl)
      have e0 : ag a 52 = .pointer (some ⟨h, i * 3, none⟩) := d2
      refine op_loadg s hgd h (i * 3) e0 Ci _ (range_below hCi hg) Tryd.underlying53 rfl (by rw [lCi]; exact info_val) ?_
      exact PostE.put (i := 3) ho (vod7_mem 3 hk).2 (hlt 3 hk) (fun k hk2 hne _ => vod7_inj 3 hk k hk2 hne) (.inl (Ext.refl _ _)) rfl hg
    | 4, hk, hd =>
      have s : (ops[4]?).map sig = some (some 54, .call { callee := .value (.func 28), args := #[.tmp 53], argTypes := #[53] }, 3, none) := by subst hops; kernel_rfl
      have hgd : GdOk ops a none := trivial
      have d3 := hd 3 (by decide) (by subst hops; kernel_rfl)
      have e0 : ag a 53 = .agg Ci.toArray := d3
      refine op_callg s hgd (w' := w) (f := 28) (args := #[.agg Ci.toArray]) ?_ ?_
      · simp only [execOp]
        go_simp
        simpa [ag] using e0
      · refine (size_any X.nodes X (Nat.le_refl _) w _ (tX.later hg)).mono ?_
        rintro e w' ⟨rfl, hb⟩
        exact ⟨_, rfl, PostE.put (i := 4) ho (vod7_mem 4 hk).2 (hlt 4 hk) (fun k hk2 hne _ => vod7_inj 4 hk k hk2 hne) (.inl (Ext.of hb)) rfl (later hg hb)⟩
    | 5, hk, hd =>
      have s : (ops[5]?).map sig = some (some 55, .move (.tmp 13), 51, none) := by subst hops; kernel_rfl
      have hgd : GdOk ops a none := trivial
      have e0 : ag a 13 = .slice (some ⟨h, 0, none⟩) 5 5 := (ho.off 13 (by decide)).trans h13
      refine op_valg s hgd (w' := w) (v := .slice (some ⟨h, 0, none⟩) 5 5) ?_ ?_
      · exact congrArg (fun x => Result.ok (Next.value x) w) e0
      · exact PostE.put (i := 5) ho (vod7_mem 5 hk).2 (hlt 5 hk) (fun k hk2 hne _ => vod7_inj 5 hk k hk2 hne) (.inl (Ext.refl _ _)) rfl hg
    | 6, hk, hd =>
      have s : (ops[6]?).map sig = some (some 56, .move (.tmp 14), 3, none) := by subst hops; kernel_rfl
      have hgd : GdOk ops a none := trivial
      have e0 : ag a 14 = .int .i64 (i : Int) := (ho.off 14 (by decide)).trans h14
      refine op_valg s hgd (w' := w) (v := .int .i64 (i : Int)) ?_ ?_
      · exact congrArg (fun x => Result.ok (Next.value x) w) e0
      · exact PostE.put (i := 6) ho (vod7_mem 6 hk).2 (hlt 6 hk) (fun k hk2 hne _ => vod7_inj 6 hk k hk2 hne) (.inl (Ext.refl _ _)) rfl hg
    | 7, hk, hd =>
      have s : (ops[7]?).map sig = some (some 57, .indexAddr 51 (.tmp 55) (.tmp 56), 0, none) := by subst hops; kernel_rfl
      have hgd : GdOk ops a none := trivial
      have d5 := hd 5 (by decide) (by subst hops; kernel_rfl)
      have d6 := hd 6 (by decide) (by subst hops; kernel_rfl)
      have e0 : ag a 55 = .slice (some ⟨h, 0, none⟩) 5 5 := d5
      have e1 : ag a 56 = .int .i64 (i : Int) := d6
      refine op_valg s hgd (w' := w) (v := .pointer (some ⟨h, i * 3, none⟩)) ?_ ?_
      · simp only [execOp, eval_tmp, e0, e1]
        go_simp
      · exact PostE.put (i := 7) ho (vod7_mem 7 hk).2 (hlt 7 hk) (fun k hk2 hne _ => vod7_inj 7 hk k hk2 hne) (.inl (Ext.refl _ _)) rfl hg
    | 8, hk, hd =>
      have s : (ops[8]?).map sig = some (some 58, .load 53 (.tmp 57), 53, none) := by subst hops; kernel_rfl
      have hgd : GdOk ops a none := trivial
      have d7 := hd 7 (by decide) (by subst hops; kernel_rfl)
      have e0 : ag a 57 = .pointer (some ⟨h, i * 3, none⟩) := d7
      refine op_loadg s hgd h (i * 3) e0 Ci _ (range_below hCi hg) Tryd.underlying53 rfl (by rw [lCi]; exact info_val) ?_
      exact PostE.put (i := 8) ho (vod7_mem 8 hk).2 (hlt 8 hk) (fun k hk2 hne _ => vod7_inj 8 hk k hk2 hne) (.inl (Ext.refl _ _)) rfl hg
    | 9, hk, hd =>
      have s : (ops[9]?).map sig = some (some 59, .call { callee := .value (.func 29), args := #[.tmp 58], argTypes := #[53] }, 3, none) := by subst hops; kernel_rfl
      have hgd : GdOk ops a none := trivial
      have d8 := hd 8 (by decide) (by subst hops; kernel_rfl)
      have e0 : ag a 58 = .agg Ci.toArray := d8
      refine op_callg s hgd (w' := w) (f := 29) (args := #[.agg Ci.toArray]) ?_ ?_
      · simp only [execOp]
        go_simp
        simpa [ag] using e0
      · refine (rsize_any X.nodes X (Nat.le_refl _) w _ (tX.later hg)).mono ?_
        rintro e w' ⟨rfl, hb⟩
        exact ⟨_, rfl, PostE.put (i := 9) ho (vod7_mem 9 hk).2 (hlt 9 hk) (fun k hk2 hne _ => vod7_inj 9 hk k hk2 hne) (.inl (Ext.of hb)) rfl (later hg hb)⟩
    | 10, hk, hd =>
      have s : (ops[10]?).map sig = some (some 60, .binOp .neq 3 (.tmp 54) (.tmp 59) 3, 4, none) := by subst hops; kernel_rfl
      have hgd : GdOk ops a none := trivial
      have d4 := hd 4 (by decide) (by subst hops; kernel_rfl)
      have d9 := hd 9 (by decide) (by subst hops; kernel_rfl)
      have e0 : ag a 54 = .int .i64 X.sz := d4
      have e1 : ag a 59 = .int .i64 X.sz := d9
      refine op_valg s hgd (w' := w) (v := .bool false) ?_ ?_
      · simp only [execOp, eval_tmp, e0, e1]
        go_simp
      · exact PostE.put (i := 10) ho (vod7_mem 10 hk).2 (hlt 10 hk) (fun k hk2 hne _ => vod7_inj 10 hk k hk2 hne) (.inl (Ext.refl _ _)) rfl hg
    | 11, hk, hd =>
      have s : (ops[11]?).map sig = some (some 61, .move (.tmp 60), 4, none) := by subst hops; kernel_rfl
      have hgd : GdOk ops a none := trivial
      have d10 := hd 10 (by decide) (by subst hops; kernel_rfl)
      have e0 : ag a 60 = .bool false := d10
      refine op_valg s hgd (w' := w) (v := .bool false) ?_ ?_
      · exact congrArg (fun x => Result.ok (Next.value x) w) e0
      · exact PostE.put (i := 11) ho (vod7_mem 11 hk).2 (hlt 11 hk) (fun k hk2 hne _ => vod7_inj 11 hk k hk2 hne) (.inl (Ext.refl _ _)) rfl hg
    | 12, hk, hd =>
      have s : (ops[12]?).map sig = some (some 62, .move (.tmp 13), 51, some (11, false)) := by subst hops; kernel_rfl
      have hgd : GdOk ops a (some (11, false)) := yielded_of (d := 61) (by subst hops; kernel_rfl) (hd 11 (by decide) (by subst hops; kernel_rfl))
      have e0 : ag a 13 = .slice (some ⟨h, 0, none⟩) 5 5 := (ho.off 13 (by decide)).trans h13
      refine op_valg s hgd (w' := w) (v := .slice (some ⟨h, 0, none⟩) 5 5) ?_ ?_
      · exact congrArg (fun x => Result.ok (Next.value x) w) e0
      · exact PostE.put (i := 12) ho (vod7_mem 12 hk).2 (hlt 12 hk) (fun k hk2 hne _ => vod7_inj 12 hk k hk2 hne) (.inl (Ext.refl _ _)) rfl hg
    | 13, hk, hd =>
      have s : (ops[13]?).map sig = some (some 63, .move (.tmp 14), 3, some (11, false)) := by subst hops; kernel_rfl
      have hgd : GdOk ops a (some (11, false)) := yielded_of (d := 61) (by subst hops; kernel_rfl) (hd 11 (by decide) (by subst hops; kernel_rfl))
      have e0 : ag a 14 = .int .i64 (i : Int) := (ho.off 14 (by decide)).trans h14
      refine op_valg s hgd (w' := w) (v := .int .i64 (i : Int)) ?_ ?_
      · exact congrArg (fun x => Result.ok (Next.value x) w) e0
      · exact PostE.put (i := 13) ho (vod7_mem 13 hk).2 (hlt 13 hk) (fun k hk2 hne _ => vod7_inj 13 hk k hk2 hne) (.inl (Ext.refl _ _)) rfl hg
    | 14, hk, hd =>
      have s : (ops[14]?).map sig = some (some 64, .indexAddr 51 (.tmp 62) (.tmp 63), 0, some (11, false)) := by subst hops; kernel_rfl
      have hgd : GdOk ops a (some (11, false)) := yielded_of (d := 61) (by subst hops; kernel_rfl) (hd 11 (by decide) (by subst hops; kernel_rfl))
      have d12 := hd 12 (by decide) (by subst hops; kernel_rfl)
      have d13 := hd 13 (by decide) (by subst hops; kernel_rfl)
      have e0 : ag a 62 = .slice (some ⟨h, 0, none⟩) 5 5 := d12
      have e1 : ag a 63 = .int .i64 (i : Int) := d13
      refine op_valg s hgd (w' := w) (v := .pointer (some ⟨h, i * 3, none⟩)) ?_ ?_
      · simp only [execOp, eval_tmp, e0, e1]
        go_simp
      · exact PostE.put (i := 14) ho (vod7_mem 14 hk).2 (hlt 14 hk) (fun k hk2 hne _ => vod7_inj 14 hk k hk2 hne) (.inl (Ext.refl _ _)) rfl hg
    | 15, hk, hd =>
      have s : (ops[15]?).map sig = some (some 65, .load 53 (.tmp 64), 53, some (11, false)) := by subst hops; kernel_rfl
      have hgd : GdOk ops a (some (11, false)) := yielded_of (d := 61) (by subst hops; kernel_rfl) (hd 11 (by decide) (by subst hops; kernel_rfl))
      have d14 := hd 14 (by decide) (by subst hops; kernel_rfl)
      have e0 : ag a 64 = .pointer (some ⟨h, i * 3, none⟩) := d14
      refine op_loadg s hgd h (i * 3) e0 Ci _ (range_below hCi hg) Tryd.underlying53 rfl (by rw [lCi]; exact info_val) ?_
      exact PostE.put (i := 15) ho (vod7_mem 15 hk).2 (hlt 15 hk) (fun k hk2 hne _ => vod7_inj 15 hk k hk2 hne) (.inl (Ext.refl _ _)) rfl hg
    | 16, hk, hd =>
      have s : (ops[16]?).map sig = some (some 66, .call { callee := .value (.func 30), args := #[.tmp 65], argTypes := #[53] }, 3, some (11, false)) := by subst hops; kernel_rfl
      have hgd : GdOk ops a (some (11, false)) := yielded_of (d := 61) (by subst hops; kernel_rfl) (hd 11 (by decide) (by subst hops; kernel_rfl))
      have d15 := hd 15 (by decide) (by subst hops; kernel_rfl)
      have e0 : ag a 65 = .agg Ci.toArray := d15
      refine op_callg s hgd (w' := w) (f := 30) (args := #[.agg Ci.toArray]) ?_ ?_
      · simp only [execOp]
        go_simp
        simpa [ag] using e0
      · refine (weight_any X.nodes X (Nat.le_refl _) w _ (tX.later hg)).mono ?_
        rintro e w' ⟨rfl, hb⟩
        exact ⟨_, rfl, PostE.put (i := 16) ho (vod7_mem 16 hk).2 (hlt 16 hk) (fun k hk2 hne _ => vod7_inj 16 hk k hk2 hne) (.inl (Ext.of hb)) rfl (later hg hb)⟩
    | 17, hk, hd =>
      have s : (ops[17]?).map sig = some (some 67, .move (.tmp 13), 51, some (11, false)) := by subst hops; kernel_rfl
      have hgd : GdOk ops a (some (11, false)) := yielded_of (d := 61) (by subst hops; kernel_rfl) (hd 11 (by decide) (by subst hops; kernel_rfl))
      have e0 : ag a 13 = .slice (some ⟨h, 0, none⟩) 5 5 := (ho.off 13 (by decide)).trans h13
      refine op_valg s hgd (w' := w) (v := .slice (some ⟨h, 0, none⟩) 5 5) ?_ ?_
      · exact congrArg (fun x => Result.ok (Next.value x) w) e0
      · exact PostE.put (i := 17) ho (vod7_mem 17 hk).2 (hlt 17 hk) (fun k hk2 hne _ => vod7_inj 17 hk k hk2 hne) (.inl (Ext.refl _ _)) rfl hg
    | 18, hk, hd =>
      have s : (ops[18]?).map sig = some (some 68, .move (.tmp 14), 3, some (11, false)) := by subst hops; kernel_rfl
      have hgd : GdOk ops a (some (11, false)) := yielded_of (d := 61) (by subst hops; kernel_rfl) (hd 11 (by decide) (by subst hops; kernel_rfl))
      have e0 : ag a 14 = .int .i64 (i : Int) := (ho.off 14 (by decide)).trans h14
      refine op_valg s hgd (w' := w) (v := .int .i64 (i : Int)) ?_ ?_
      · exact congrArg (fun x => Result.ok (Next.value x) w) e0
      · exact PostE.put (i := 18) ho (vod7_mem 18 hk).2 (hlt 18 hk) (fun k hk2 hne _ => vod7_inj 18 hk k hk2 hne) (.inl (Ext.refl _ _)) rfl hg
    | 19, hk, hd =>
      have s : (ops[19]?).map sig = some (some 69, .indexAddr 51 (.tmp 67) (.tmp 68), 0, some (11, false)) := by subst hops; kernel_rfl
      have hgd : GdOk ops a (some (11, false)) := yielded_of (d := 61) (by subst hops; kernel_rfl) (hd 11 (by decide) (by subst hops; kernel_rfl))
      have d17 := hd 17 (by decide) (by subst hops; kernel_rfl)
      have d18 := hd 18 (by decide) (by subst hops; kernel_rfl)
      have e0 : ag a 67 = .slice (some ⟨h, 0, none⟩) 5 5 := d17
      have e1 : ag a 68 = .int .i64 (i : Int) := d18
      refine op_valg s hgd (w' := w) (v := .pointer (some ⟨h, i * 3, none⟩)) ?_ ?_
      · simp only [execOp, eval_tmp, e0, e1]
        go_simp
      · exact PostE.put (i := 19) ho (vod7_mem 19 hk).2 (hlt 19 hk) (fun k hk2 hne _ => vod7_inj 19 hk k hk2 hne) (.inl (Ext.refl _ _)) rfl hg
    | 20, hk, hd =>
      have s : (ops[20]?).map sig = some (some 70, .load 53 (.tmp 69), 53, some (11, false)) := by subst hops; kernel_rfl
      have hgd : GdOk ops a (some (11, false)) := yielded_of (d := 61) (by subst hops; kernel_rfl) (hd 11 (by decide) (by subst hops; kernel_rfl))
      have d19 := hd 19 (by decide) (by subst hops; kernel_rfl)
      have e0 : ag a 69 = .pointer (some ⟨h, i * 3, none⟩) := d19
      refine op_loadg s hgd h (i * 3) e0 Ci _ (range_below hCi hg) Tryd.underlying53 rfl (by rw [lCi]; exact info_val) ?_
      exact PostE.put (i := 20) ho (vod7_mem 20 hk).2 (hlt 20 hk) (fun k hk2 hne _ => vod7_inj 20 hk k hk2 hne) (.inl (Ext.refl _ _)) rfl hg
    | 21, hk, hd =>
      have s : (ops[21]?).map sig = some (some 71, .call { callee := .value (.func 31), args := #[.tmp 70], argTypes := #[53] }, 3, some (11, false)) := by subst hops; kernel_rfl
      have hgd : GdOk ops a (some (11, false)) := yielded_of (d := 61) (by subst hops; kernel_rfl) (hd 11 (by decide) (by subst hops; kernel_rfl))
      have d20 := hd 20 (by decide) (by subst hops; kernel_rfl)
      have e0 : ag a 70 = .agg Ci.toArray := d20
      refine op_callg s hgd (w' := w) (f := 31) (args := #[.agg Ci.toArray]) ?_ ?_
      · simp only [execOp]
        go_simp
        simpa [ag] using e0
      · refine (rweight_any X.nodes X (Nat.le_refl _) w _ (tX.later hg)).mono ?_
        rintro e w' ⟨rfl, hb⟩
        exact ⟨_, rfl, PostE.put (i := 21) ho (vod7_mem 21 hk).2 (hlt 21 hk) (fun k hk2 hne _ => vod7_inj 21 hk k hk2 hne) (.inl (Ext.of hb)) rfl (later hg hb)⟩
    | 22, hk, hd =>
      have s : (ops[22]?).map sig = some (some 72, .binOp .neq 3 (.tmp 66) (.tmp 71) 3, 4, some (11, false)) := by subst hops; kernel_rfl
      have hgd : GdOk ops a (some (11, false)) := yielded_of (d := 61) (by subst hops; kernel_rfl) (hd 11 (by decide) (by subst hops; kernel_rfl))
      have d16 := hd 16 (by decide) (by subst hops; kernel_rfl)
      have d21 := hd 21 (by decide) (by subst hops; kernel_rfl)
      have e0 : ag a 66 = .int .i64 X.wt := d16
      have e1 : ag a 71 = .int .i64 X.wt := d21
      refine op_valg s hgd (w' := w) (v := .bool false) ?_ ?_
      · simp only [execOp, eval_tmp, e0, e1]
        go_simp
      · exact PostE.put (i := 22) ho (vod7_mem 22 hk).2 (hlt 22 hk) (fun k hk2 hne _ => vod7_inj 22 hk k hk2 hne) (.inl (Ext.refl _ _)) rfl hg
    | 23, hk, hd =>
      have s : (ops[23]?).map sig = some (some 73, .pick (.tmp 61) (.const (.bool true)) (.tmp 72), 4, none) := by subst hops; kernel_rfl
      have hgd : GdOk ops a none := trivial
      have d11 := hd 11 (by decide) (by subst hops; kernel_rfl)
      have d22 := hd 22 (by decide) (by subst hops; kernel_rfl)
      have e0 : ag a 61 = .bool false := d11
      have e1 : ag a 72 = .bool false := d22
      refine op_valg s hgd (w' := w) (v := .bool false) ?_ ?_
      · simp only [execOp, eval_tmp, e0, e1]
        go_simp
      · exact PostE.put (i := 23) ho (vod7_mem 23 hk).2 (hlt 23 hk) (fun k hk2 hne _ => vod7_inj 23 hk k hk2 hne) (.inl (Ext.refl _ _)) rfl hg
    | 24, hk, hd =>
      have s : (ops[24]?).map sig = some (some 74, .move (.tmp 73), 4, none) := by subst hops; kernel_rfl
      have hgd : GdOk ops a none := trivial
      have d23 := hd 23 (by decide) (by subst hops; kernel_rfl)
      have e0 : ag a 73 = .bool false := d23
      refine op_valg s hgd (w' := w) (v := .bool false) ?_ ?_
      · exact congrArg (fun x => Result.ok (Next.value x) w) e0
      · exact PostE.put (i := 24) ho (vod7_mem 24 hk).2 (hlt 24 hk) (fun k hk2 hne _ => vod7_inj 24 hk k hk2 hne) (.inl (Ext.refl _ _)) rfl hg
    | 25, hk, hd =>
      have s : (ops[25]?).map sig = some (some 75, .move (.tmp 13), 51, some (24, false)) := by subst hops; kernel_rfl
      have hgd : GdOk ops a (some (24, false)) := yielded_of (d := 74) (by subst hops; kernel_rfl) (hd 24 (by decide) (by subst hops; kernel_rfl))
      have e0 : ag a 13 = .slice (some ⟨h, 0, none⟩) 5 5 := (ho.off 13 (by decide)).trans h13
      refine op_valg s hgd (w' := w) (v := .slice (some ⟨h, 0, none⟩) 5 5) ?_ ?_
      · exact congrArg (fun x => Result.ok (Next.value x) w) e0
      · exact PostE.put (i := 25) ho (vod7_mem 25 hk).2 (hlt 25 hk) (fun k hk2 hne _ => vod7_inj 25 hk k hk2 hne) (.inl (Ext.refl _ _)) rfl hg
    | 26, hk, hd =>
      have s : (ops[26]?).map sig = some (some 76, .move (.tmp 14), 3, some (24, false)) := by subst hops; kernel_rfl
      have hgd : GdOk ops a (some (24, false)) := yielded_of (d := 74) (by subst hops; kernel_rfl) (hd 24 (by decide) (by subst hops; kernel_rfl))
      have e0 : ag a 14 = .int .i64 (i : Int) := (ho.off 14 (by decide)).trans h14
      refine op_valg s hgd (w' := w) (v := .int .i64 (i : Int)) ?_ ?_
      · exact congrArg (fun x => Result.ok (Next.value x) w) e0
      · exact PostE.put (i := 26) ho (vod7_mem 26 hk).2 (hlt 26 hk) (fun k hk2 hne _ => vod7_inj 26 hk k hk2 hne) (.inl (Ext.refl _ _)) rfl hg
    | 27, hk, hd =>
      have s : (ops[27]?).map sig = some (some 77, .indexAddr 51 (.tmp 75) (.tmp 76), 0, some (24, false)) := by subst hops; kernel_rfl
      have hgd : GdOk ops a (some (24, false)) := yielded_of (d := 74) (by subst hops; kernel_rfl) (hd 24 (by decide) (by subst hops; kernel_rfl))
      have d25 := hd 25 (by decide) (by subst hops; kernel_rfl)
      have d26 := hd 26 (by decide) (by subst hops; kernel_rfl)
      have e0 : ag a 75 = .slice (some ⟨h, 0, none⟩) 5 5 := d25
      have e1 : ag a 76 = .int .i64 (i : Int) := d26
      refine op_valg s hgd (w' := w) (v := .pointer (some ⟨h, i * 3, none⟩)) ?_ ?_
      · simp only [execOp, eval_tmp, e0, e1]
        go_simp
      · exact PostE.put (i := 27) ho (vod7_mem 27 hk).2 (hlt 27 hk) (fun k hk2 hne _ => vod7_inj 27 hk k hk2 hne) (.inl (Ext.refl _ _)) rfl hg
    | 28, hk, hd =>
      have s : (ops[28]?).map sig = some (some 78, .load 53 (.tmp 77), 53, some (24, false)) := by subst hops; kernel_rfl
      have hgd : GdOk ops a (some (24, false)) := yielded_of (d := 74) (by subst hops; kernel_rfl) (hd 24 (by decide) (by subst hops; kernel_rfl))
      have d27 := hd 27 (by decide) (by subst hops; kernel_rfl)
      have e0 : ag a 77 = .pointer (some ⟨h, i * 3, none⟩) := d27
      refine op_loadg s hgd h (i * 3) e0 Ci _ (range_below hCi hg) Tryd.underlying53 rfl (by rw [lCi]; exact info_val) ?_
      exact PostE.put (i := 28) ho (vod7_mem 28 hk).2 (hlt 28 hk) (fun k hk2 hne _ => vod7_inj 28 hk k hk2 hne) (.inl (Ext.refl _ _)) rfl hg
    | 29, hk, hd =>
      have s : (ops[29]?).map sig = some (some 79, .move (.tmp 13), 51, some (24, false)) := by subst hops; kernel_rfl
      have hgd : GdOk ops a (some (24, false)) := yielded_of (d := 74) (by subst hops; kernel_rfl) (hd 24 (by decide) (by subst hops; kernel_rfl))
      have e0 : ag a 13 = .slice (some ⟨h, 0, none⟩) 5 5 := (ho.off 13 (by decide)).trans h13
      refine op_valg s hgd (w' := w) (v := .slice (some ⟨h, 0, none⟩) 5 5) ?_ ?_
      · exact congrArg (fun x => Result.ok (Next.value x) w) e0
      · exact PostE.put (i := 29) ho (vod7_mem 29 hk).2 (hlt 29 hk) (fun k hk2 hne _ => vod7_inj 29 hk k hk2 hne) (.inl (Ext.refl _ _)) rfl hg
    | 30, hk, hd =>
      have s : (ops[30]?).map sig = some (some 80, .move (.tmp 14), 3, some (24, false)) := by subst hops; kernel_rfl
      have hgd : GdOk ops a (some (24, false)) := yielded_of (d := 74) (by subst hops; kernel_rfl) (hd 24 (by decide) (by subst hops; kernel_rfl))
      have e0 : ag a 14 = .int .i64 (i : Int) := (ho.off 14 (by decide)).trans h14
      refine op_valg s hgd (w' := w) (v := .int .i64 (i : Int)) ?_ ?_
      · exact congrArg (fun x => Result.ok (Next.value x) w) e0
      · exact PostE.put (i := 30) ho (vod7_mem 30 hk).2 (hlt 30 hk) (fun k hk2 hne _ => vod7_inj 30 hk k hk2 hne) (.inl (Ext.refl _ _)) rfl hg
    | 31, hk, hd =>
      have s : (ops[31]?).map sig = some (some 81, .indexAddr 51 (.tmp 79) (.tmp 80), 0, some (24, false)) := by subst hops; kernel_rfl
      have hgd : GdOk ops a (some (24, false)) := yielded_of (d := 74) (by subst hops; kernel_rfl) (hd 24 (by decide) (by subst hops; kernel_rfl))
      have d29 := hd 29 (by decide) (by subst hops; kernel_rfl)
      have d30 := hd 30 (by decide) (by subst hops; kernel_rfl)
      have e0 : ag a 79 = .slice (some ⟨h, 0, none⟩) 5 5 := d29
      have e1 : ag a 80 = .int .i64 (i : Int) := d30
      refine op_valg s hgd (w' := w) (v := .pointer (some ⟨h, i * 3, none⟩)) ?_ ?_
      · simp only [execOp, eval_tmp, e0, e1]
        go_simp
      · exact PostE.put (i := 31) ho (vod7_mem 31 hk).2 (hlt 31 hk) (fun k hk2 hne _ => vod7_inj 31 hk k hk2 hne) (.inl (Ext.refl _ _)) rfl hg
    | 32, hk, hd =>
      have s : (ops[32]?).map sig = some (some 82, .load 53 (.tmp 81), 53, some (24, false)) := by subst hops; kernel_rfl
      have hgd : GdOk ops a (some (24, false)) := yielded_of (d := 74) (by subst hops; kernel_rfl) (hd 24 (by decide) (by subst hops; kernel_rfl))
      have d31 := hd 31 (by decide) (by subst hops; kernel_rfl)
      have e0 : ag a 81 = .pointer (some ⟨h, i * 3, none⟩) := d31
      refine op_loadg s hgd h (i * 3) e0 Ci _ (range_below hCi hg) Tryd.underlying53 rfl (by rw [lCi]; exact info_val) ?_
      exact PostE.put (i := 32) ho (vod7_mem 32 hk).2 (hlt 32 hk) (fun k hk2 hne _ => vod7_inj 32 hk k hk2 hne) (.inl (Ext.refl _ _)) rfl hg
    | 33, hk, hd =>
      have s : (ops[33]?).map sig = some (some 83, .call { callee := .value (.func 32), args := #[.tmp 78, .tmp 82], argTypes := #[53, 53] }, 3, some (24, false)) := by subst hops; kernel_rfl
      have hgd : GdOk ops a (some (24, false)) := yielded_of (d := 74) (by subst hops; kernel_rfl) (hd 24 (by decide) (by subst hops; kernel_rfl))
      have d28 := hd 28 (by decide) (by subst hops; kernel_rfl)
      have d32 := hd 32 (by decide) (by subst hops; kernel_rfl)
      have e0 : ag a 78 = .agg Ci.toArray := d28
      have e1 : ag a 82 = .agg Ci.toArray := d32
      refine op_callg s hgd (w' := w) (f := 32) (args := #[.agg Ci.toArray, .agg Ci.toArray]) ?_ ?_
      · simp only [execOp]
        go_simp
        refine ⟨by simpa [ag] using e0, by simpa [ag] using e1⟩
      · refine ((show Calls Tryd.prog _ _ w (NumRes 0 w) from hc ▸ compare_any X.nodes X (Nat.le_refl _) X w _ _ (tX.later hg) (tX.later hg))).mono ?_
        rintro e w' ⟨rfl, hb⟩
        exact ⟨_, rfl, PostE.put (i := 33) ho (vod7_mem 33 hk).2 (hlt 33 hk) (fun k hk2 hne _ => vod7_inj 33 hk k hk2 hne) (.inl (Ext.of hb)) rfl (later hg hb)⟩
    | 34, hk, hd =>
      have s : (ops[34]?).map sig = some (some 84, .binOp .neq 3 (.tmp 83) (.const (.int .i64 0)) 3, 4, some (24, false)) := by subst hops; kernel_rfl
      have hgd : GdOk ops a (some (24, false)) := yielded_of (d := 74) (by subst hops; kernel_rfl) (hd 24 (by decide) (by subst hops; kernel_rfl))
      have d33 := hd 33 (by decide) (by subst hops; kernel_rfl)
      have e0 : ag a 83 = .int .i64 0 := d33
      refine op_valg s hgd (w' := w) (v := .bool false) ?_ ?_
      · simp only [execOp, eval_tmp, e0]
        go_simp
      · exact PostE.put (i := 34) ho (vod7_mem 34 hk).2 (hlt 34 hk) (fun k hk2 hne _ => vod7_inj 34 hk k hk2 hne) (.inl (Ext.refl _ _)) rfl hg
    | n + 35, hn, _ => exact absurd hn (by omega)
  · intro a w ho hg hf
    have s : (ops[35]?).map sig = some (some 85, .pick (.tmp 74) (.const (.bool true)) (.tmp 84), 4, none) := by subst hops; kernel_rfl
    have hgd : GdOk ops a none := trivial
    have d24 := hf 24 (by decide)
    have d34 := hf 34 (by decide)
    have e0 : ag a 74 = .bool false := d24
    have e1 : ag a 84 = .bool false := d34
    refine op_valg s hgd (w' := w) (v := .bool false) ?_ ?_
    · simp only [execOp, eval_tmp, e0, e1]
      go_simp
    · have ho2 : Off (voD7 ++ [85]) a0 (a.put (some 85) (.bool false)) := (ho.mono (fun s hs => List.mem_append_left _ hs)).put (by decide)
      exact hQ (ag (a.put (some 85) (.bool false))) w (ag_put (by rw [ho.size, hsz]; decide)) hg _ (ho2.eq (fun s hs => by rw [hsz]; revert s; decide))
def vof12 (h i k : Nat) (Ci Ck : List Value) (X Y : Tr) (c : Int) : Nat → Value → World → Prop
  | 0, v, w => v = .slice (some ⟨h, 0, none⟩) 5 5
  | 1, v, w => v = .int .i64 (i : Int)
  | 2, v, w => v = .pointer (some ⟨h, i * 3, none⟩)
  | 3, v, w => v = .agg Ci.toArray
  | 4, v, w => v = .slice (some ⟨h, 0, none⟩) 5 5
  | 5, v, w => v = .int .i64 (k : Int)
  | 6, v, w => v = .pointer (some ⟨h, k * 3, none⟩)
  | 7, v, w => v = .agg Ck.toArray
  | 8, v, w => v = .int .i64 c
  | _, _, _ => True
theorem vof12_ext (h i k : Nat) (Ci Ck : List Value) (X Y : Tr) (c : Int) (S : Nat) : ∀ j v w w', j < 9 → (Ext S w w' ∨ (j ≠ 999 ∧ Never w w')) → vof12 h i k Ci Ck X Y c j v w → vof12 h i k Ci Ck X Y c j v w' := by
  intro j v w w' hj he h
  match j, hj, he, h with
  | 0, _, he, h => exact h
  | 1, _, he, h => exact h
  | 2, _, he, h => exact h
  | 3, _, he, h => exact h
  | 4, _, he, h => exact h
  | 5, _, he, h => exact h
  | 6, _, he, h => exact h
  | 7, _, he, h => exact h
  | 8, _, he, h => exact h
  | n + 9, hn, _, _ => exact absurd hn (by omega)
def voD12 : List Nat := [90, 91, 92, 93, 94, 95, 96, 97, 98]
def vod12 (k : Nat) : Nat := [90, 91, 92, 93, 94, 95, 96, 97, 98].getD k 0
theorem vod12_mem : ∀ k, k < 9 → vod12 k < 155 ∧ vod12 k ∈ voD12 := by decide
theorem vod12_inj : ∀ i, i < 9 → ∀ k, k < 9 → k ≠ i → vod12 i ≠ vod12 k := by decide
set_option maxHeartbeats 4000000 in
set_option maxRecDepth 100000 in
theorem voreg12 {Q : Exit → Act → World → Prop} {id : Nat} {ops : Array Oper} (hops : ops = ((Tryd.f5.body).bind (opsOf 12)).getD #[]) (a0 : Act) (w0 : World) (h i k : Nat) (Ci Ck : List Value) (X Y : Tr) (c : Int) (hsz : a0.tmps.size = 155)
    (h13 : ag a0 13 = .slice (some ⟨h, 0, none⟩) 5 5) (h14 : ag a0 14 = .int .i64 (i : Int)) (h15 : ag a0 15 = .int .i64 (k : Int)) (hCi : w0.rangeAt h (i * 3) Ci) (lCi : Ci.length = 3) (tX : TrAt w0 X (.agg Ci.toArray)) (hii : (i : Int) < 5) (hoi : (0 : Int) ≤ (i : Int)) (hCk : w0.rangeAt h (k * 3) Ck) (lCk : Ck.length = 3) (tY : TrAt w0 Y (.agg Ck.toArray)) (hik : (k : Int) < 5) (hok : (0 : Int) ≤ (k : Int)) (hc : X.cp Y = c)
    (hQ : ∀ (vs : Nat → Value) (w' : World), vs 16 = .int .i64 c → Below w0.heap.size w0 w' → ∀ a', a' = (voD12 ++ [16]).foldl (fun b s => b.put (some s) (vs s)) a0 → Q .normal a' w') :
    (Code.region id ops true).wp Tryd.prog Q a0 w0 := by
  have hg0 : Below w0.heap.size w0 w0.drew := below_drewN (Below.refl _ _) 1
  have hlt : ∀ k, k < 9 → vod12 k < a0.tmps.size := fun k hk => by have := (vod12_mem k hk).1; omega
  refine wp_region_factsE 9 999 voD12 vod12 (vof12 h i k Ci Ck X Y c) (fun w => Below w0.heap.size w0 w) w0.heap.size Never (fun k => k) (by kernel_rfl) (by subst hops; kernel_rfl) (by subst hops; kernel_rfl) (by subst hops; kernel_rfl) (vof12_ext h i k Ci Ck X Y c w0.heap.size) hg0 ?_ ?_
  · intro j a w hj ho hg hd
    have hgs := hg.size
    match j, hj, hd with
    | 0, hk, hd =>
      have s : (ops[0]?).map sig = some (some 90, .move (.tmp 13), 51, none) := by subst hops; kernel_rfl
      have hgd : GdOk ops a none := trivial
      have e0 : ag a 13 = .slice (some ⟨h, 0, none⟩) 5 5 := (ho.off 13 (by decide)).trans h13
      refine op_valg s hgd (w' := w) (v := .slice (some ⟨h, 0, none⟩) 5 5) ?_ ?_
      · exact congrArg (fun x => Result.ok (Next.value x) w) e0
      · exact PostE.put (i := 0) ho (vod12_mem 0 hk).2 (hlt 0 hk) (fun k hk2 hne _ => vod12_inj 0 hk k hk2 hne) (.inl (Ext.refl _ _)) rfl hg
    | 1, hk, hd =>
      have s : (ops[1]?).map sig = some (some 91, .move (.tmp 14), 3, none) := by subst hops; kernel_rfl
      have hgd : GdOk ops a none := trivial
      have e0 : ag a 14 = .int .i64 (i : Int) := (ho.off 14 (by decide)).trans h14
      refine op_valg s hgd (w' := w) (v := .int .i64 (i : Int)) ?_ ?_
      · exact congrArg (fun x => Result.ok (Next.value x) w) e0
      · exact PostE.put (i := 1) ho (vod12_mem 1 hk).2 (hlt 1 hk) (fun k hk2 hne _ => vod12_inj 1 hk k hk2 hne) (.inl (Ext.refl _ _)) rfl hg
    | 2, hk, hd =>
      have s : (ops[2]?).map sig = some (some 92, .indexAddr 51 (.tmp 90) (.tmp 91), 0, none) := by subst hops; kernel_rfl
      have hgd : GdOk ops a none := trivial
      have d0 := hd 0 (by decide) (by subst hops; kernel_rfl)
      have d1 := hd 1 (by decide) (by subst hops; kernel_rfl)
      have e0 : ag a 90 = .slice (some ⟨h, 0, none⟩) 5 5 := d0
      have e1 : ag a 91 = .int .i64 (i : Int) := d1
      refine op_valg s hgd (w' := w) (v := .pointer (some ⟨h, i * 3, none⟩)) ?_ ?_
      · simp only [execOp, eval_tmp, e0, e1]
        go_simp
      · exact PostE.put (i := 2) ho (vod12_mem 2 hk).2 (hlt 2 hk) (fun k hk2 hne _ => vod12_inj 2 hk k hk2 hne) (.inl (Ext.refl _ _)) rfl hg
    | 3, hk, hd =>
      have s : (ops[3]?).map sig = some (some 93, .load 53 (.tmp 92), 53, none) := by subst hops; kernel_rfl
      have hgd : GdOk ops a none := trivial
      have d2 := hd 2 (by decide) (by subst hops; kernel_rfl)
      have e0 : ag a 92 = .pointer (some ⟨h, i * 3, none⟩) := d2
      refine op_loadg s hgd h (i * 3) e0 Ci _ (range_below hCi hg) Tryd.underlying53 rfl (by rw [lCi]; exact info_val) ?_
      exact PostE.put (i := 3) ho (vod12_mem 3 hk).2 (hlt 3 hk) (fun k hk2 hne _ => vod12_inj 3 hk k hk2 hne) (.inl (Ext.refl _ _)) rfl hg
    | 4, hk, hd =>
      have s : (ops[4]?).map sig = some (some 94, .move (.tmp 13), 51, none) := by subst hops; kernel_rfl
      have hgd : GdOk ops a none := trivial
      have e0 : ag a 13 = .slice (some ⟨h, 0, none⟩) 5 5 := (ho.off 13 (by decide)).trans h13
      refine op_valg s hgd (w' := w) (v := .slice (some ⟨h, 0, none⟩) 5 5) ?_ ?_
      · exact congrArg (fun x => Result.ok (Next.value x) w) e0
      · exact PostE.put (i := 4) ho (vod12_mem 4 hk).2 (hlt 4 hk) (fun k hk2 hne _ => vod12_inj 4 hk k hk2 hne) (.inl (Ext.refl _ _)) rfl hg
    | 5, hk, hd =>
      have s : (ops[5]?).map sig = some (some 95, .move (.tmp 15), 3, none) := by subst hops; kernel_rfl
      have hgd : GdOk ops a none := trivial
      have e0 : ag a 15 = .int .i64 (k : Int) := (ho.off 15 (by decide)).trans h15
      refine op_valg s hgd (w' := w) (v := .int .i64 (k : Int)) ?_ ?_
      · exact congrArg (fun x => Result.ok (Next.value x) w) e0
      · exact PostE.put (i := 5) ho (vod12_mem 5 hk).2 (hlt 5 hk) (fun k hk2 hne _ => vod12_inj 5 hk k hk2 hne) (.inl (Ext.refl _ _)) rfl hg
    | 6, hk, hd =>
      have s : (ops[6]?).map sig = some (some 96, .indexAddr 51 (.tmp 94) (.tmp 95), 0, none) := by subst hops; kernel_rfl
      have hgd : GdOk ops a none := trivial
      have d4 := hd 4 (by decide) (by subst hops; kernel_rfl)
      have d5 := hd 5 (by decide) (by subst hops; kernel_rfl)
      have e0 : ag a 94 = .slice (some ⟨h, 0, none⟩) 5 5 := d4
      have e1 : ag a 95 = .int .i64 (k : Int) := d5
      refine op_valg s hgd (w' := w) (v := .pointer (some ⟨h, k * 3, none⟩)) ?_ ?_
      · simp only [execOp, eval_tmp, e0, e1]
        go_simp
      · exact PostE.put (i := 6) ho (vod12_mem 6 hk).2 (hlt 6 hk) (fun k hk2 hne _ => vod12_inj 6 hk k hk2 hne) (.inl (Ext.refl _ _)) rfl hg
    | 7, hk, hd =>
      have s : (ops[7]?).map sig = some (some 97, .load 53 (.tmp 96), 53, none) := by subst hops; kernel_rfl
      have hgd : GdOk ops a none := trivial
      have d6 := hd 6 (by decide) (by subst hops; kernel_rfl)
      have e0 : ag a 96 = .pointer (some ⟨h, k * 3, none⟩) := d6
      refine op_loadg s hgd h (k * 3) e0 Ck _ (range_below hCk hg) Tryd.underlying53 rfl (by rw [lCk]; exact info_val) ?_
      exact PostE.put (i := 7) ho (vod12_mem 7 hk).2 (hlt 7 hk) (fun k hk2 hne _ => vod12_inj 7 hk k hk2 hne) (.inl (Ext.refl _ _)) rfl hg
    | 8, hk, hd =>
      have s : (ops[8]?).map sig = some (some 98, .call { callee := .value (.func 32), args := #[.tmp 93, .tmp 97], argTypes := #[53, 53] }, 3, none) := by subst hops; kernel_rfl
      have hgd : GdOk ops a none := trivial
      have d3 := hd 3 (by decide) (by subst hops; kernel_rfl)
      have d7 := hd 7 (by decide) (by subst hops; kernel_rfl)
      have e0 : ag a 93 = .agg Ci.toArray := d3
      have e1 : ag a 97 = .agg Ck.toArray := d7
      refine op_callg s hgd (w' := w) (f := 32) (args := #[.agg Ci.toArray, .agg Ck.toArray]) ?_ ?_
      · simp only [execOp]
        go_simp
        refine ⟨by simpa [ag] using e0, by simpa [ag] using e1⟩
      · refine ((show Calls Tryd.prog _ _ w (NumRes c w) from hc ▸ compare_any X.nodes X (Nat.le_refl _) Y w _ _ (tX.later hg) (tY.later hg))).mono ?_
        rintro e w' ⟨rfl, hb⟩
        exact ⟨_, rfl, PostE.put (i := 8) ho (vod12_mem 8 hk).2 (hlt 8 hk) (fun k hk2 hne _ => vod12_inj 8 hk k hk2 hne) (.inl (Ext.of hb)) rfl (later hg hb)⟩
    | n + 9, hn, _ => exact absurd hn (by omega)
  · intro a w ho hg hf
    have s : (ops[9]?).map sig = some (some 16, .assign (.tmp 98), 3, none) := by subst hops; kernel_rfl
    have hgd : GdOk ops a none := trivial
    have d8 := hf 8 (by decide)
    have e0 : ag a 98 = .int .i64 c := d8
    refine op_valg s hgd (w' := w) (v := .int .i64 c) ?_ ?_
    · exact congrArg (fun x => Result.ok (Next.value x) w) e0
    · have ho2 : Off (voD12 ++ [16]) a0 (a.put (some 16) (.int .i64 c)) := (ho.mono (fun s hs => List.mem_append_left _ hs)).put (by decide)
      exact hQ (ag (a.put (some 16) (.int .i64 c))) w (ag_put (by rw [ho.size, hsz]; decide)) hg _ (ho2.eq (fun s hs => by rw [hsz]; revert s; decide))
def vof13 (h i k : Nat) (Ci Ck : List Value) (X Y : Tr) (c : Int) (c' : Int) : Nat → Value → World → Prop
  | 0, v, w => v = .int .i64 c
  | 1, v, w => v = .slice (some ⟨h, 0, none⟩) 5 5
  | 2, v, w => v = .int .i64 (i : Int)
  | 3, v, w => v = .pointer (some ⟨h, i * 3, none⟩)
  | 4, v, w => v = .agg Ci.toArray
  | 5, v, w => v = .slice (some ⟨h, 0, none⟩) 5 5
  | 6, v, w => v = .int .i64 (k : Int)
  | 7, v, w => v = .pointer (some ⟨h, k * 3, none⟩)
  | 8, v, w => v = .agg Ck.toArray
  | 9, v, w => v = .int .i64 c
  | 10, v, w => v = .bool false
  | 11, v, w => v = .bool false
  | 12, v, w => v = .int .i64 c
  | 13, v, w => v = .slice (some ⟨h, 0, none⟩) 5 5
  | 14, v, w => v = .int .i64 (k : Int)
  | 15, v, w => v = .pointer (some ⟨h, k * 3, none⟩)
  | 16, v, w => v = .agg Ck.toArray
  | 17, v, w => v = .slice (some ⟨h, 0, none⟩) 5 5
  | 18, v, w => v = .int .i64 (i : Int)
  | 19, v, w => v = .pointer (some ⟨h, i * 3, none⟩)
  | 20, v, w => v = .agg Ci.toArray
  | 21, v, w => v = .int .i64 c'
  | 22, v, w => v = .int .i64 c
  | 23, v, w => v = .bool false
  | _, _, _ => True
theorem vof13_ext (h i k : Nat) (Ci Ck : List Value) (X Y : Tr) (c : Int) (c' : Int) (S : Nat) : ∀ j v w w', j < 24 → (Ext S w w' ∨ (j ≠ 999 ∧ Never w w')) → vof13 h i k Ci Ck X Y c c' j v w → vof13 h i k Ci Ck X Y c c' j v w' := by
  intro j v w w' hj he h
  match j, hj, he, h with
  | 0, _, he, h => exact h
  | 1, _, he, h => exact h
  | 2, _, he, h => exact h
  | 3, _, he, h => exact h
  | 4, _, he, h => exact h
  | 5, _, he, h => exact h
  | 6, _, he, h => exact h
  | 7, _, he, h => exact h
  | 8, _, he, h => exact h
  | 9, _, he, h => exact h
  | 10, _, he, h => exact h
  | 11, _, he, h => exact h
  | 12, _, he, h => exact h
  | 13, _, he, h => exact h
  | 14, _, he, h => exact h
  | 15, _, he, h => exact h
  | 16, _, he, h => exact h
  | 17, _, he, h => exact h
  | 18, _, he, h => exact h
  | 19, _, he, h => exact h
  | 20, _, he, h => exact h
  | 21, _, he, h => exact h
  | 22, _, he, h => exact h
  | 23, _, he, h => exact h
  | n + 24, hn, _, _ => exact absurd hn (by omega)
def voD13 : List Nat := [99, 100, 101, 102, 103, 104, 105, 106, 107, 108, 109, 110, 111, 112, 113, 114, 115, 116, 117, 118, 119, 120, 121, 122]
def vod13 (k : Nat) : Nat := [99, 100, 101, 102, 103, 104, 105, 106, 107, 108, 109, 110, 111, 112, 113, 114, 115, 116, 117, 118, 119, 120, 121, 122].getD k 0
theorem vod13_mem : ∀ k, k < 24 → vod13 k < 155 ∧ vod13 k ∈ voD13 := by decide
theorem vod13_inj : ∀ i, i < 24 → ∀ k, k < 24 → k ≠ i → vod13 i ≠ vod13 k := by decide
set_option maxHeartbeats 4000000 in
set_option maxRecDepth 100000 in
theorem voreg13 {Q : Exit → Act → World → Prop} {id : Nat} {ops : Array Oper} (hops : ops = ((Tryd.f5.body).bind (opsOf 13)).getD #[]) (a0 : Act) (w0 : World) (h i k : Nat) (Ci Ck : List Value) (X Y : Tr) (c : Int) (c' : Int) (hsz : a0.tmps.size = 155)
    (h13 : ag a0 13 = .slice (some ⟨h, 0, none⟩) 5 5) (h14 : ag a0 14 = .int .i64 (i : Int)) (h15 : ag a0 15 = .int .i64 (k : Int)) (h16 : ag a0 16 = .int .i64 c) (hCi : w0.rangeAt h (i * 3) Ci) (lCi : Ci.length = 3) (tX : TrAt w0 X (.agg Ci.toArray)) (hii : (i : Int) < 5) (hoi : (0 : Int) ≤ (i : Int)) (hCk : w0.rangeAt h (k * 3) Ck) (lCk : Ck.length = 3) (tY : TrAt w0 Y (.agg Ck.toArray)) (hik : (k : Int) < 5) (hok : (0 : Int) ≤ (k : Int)) (hc : X.cp Y = c) (hc' : Y.cp X = c') (hn : -c' = c) (hr : -1 ≤ c' ∧ c' ≤ 1)
    (hQ : ∀ (vs : Nat → Value) (w' : World), vs 123 = .bool false → Below w0.heap.size w0 w' → ∀ a', a' = (voD13 ++ [123]).foldl (fun b s => b.put (some s) (vs s)) a0 → Q .normal a' w') :
    (Code.region id ops true).wp Tryd.prog Q a0 w0 := by
  have hg0 : Below w0.heap.size w0 w0.drew := below_drewN (Below.refl _ _) 1
  have hlt : ∀ k, k < 24 → vod13 k < a0.tmps.size := fun k hk => by have := (vod13_mem k hk).1; omega
  refine wp_region_factsE 24 999 voD13 vod13 (vof13 h i k Ci Ck X Y c c') (fun w => Below w0.heap.size w0 w) w0.heap.size Never (fun k => k) (by kernel_rfl) (by subst hops; kernel_rfl) (by subst hops; kernel_rfl) (by subst hops; kernel_rfl) (vof13_ext h i k Ci Ck X Y c c' w0.heap.size) hg0 ?_ ?_
  · intro j a w hj ho hg hd
    have hgs := hg.size
    match j, hj, hd with
    | 0, hk, hd =>
      have s : (ops[0]?).map sig = some (some 99, .move (.tmp 16), 3, none) := by subst hops; kernel_rfl
      have hgd : GdOk ops a none := trivial
      have e0 : ag a 16 = .int .i64 c := (ho.off 16 (by decide)).trans h16
      refine op_valg s hgd (w' := w) (v := .int .i64 c) ?_ ?_
      · exact congrArg (fun x => Result.ok (Next.value x) w) e0
      · exact PostE.put (i := 0) ho (vod13_mem 0 hk).2 (hlt 0 hk) (fun k hk2 hne _ => vod13_inj 0 hk k hk2 hne) (.inl (Ext.refl _ _)) rfl hg
    | 1, hk, hd =>
      have s : (ops[1]?).map sig = some (some 100, .move (.tmp 13), 51, none) := by subst hops; kernel_rfl
      have hgd : GdOk ops a none := trivial
      have e0 : ag a 13 = .slice (some ⟨h, 0, none⟩) 5 5 := (ho.off 13 (by decide)).trans h13
      refine op_valg s hgd (w' := w) (v := .slice (some ⟨h, 0, none⟩) 5 5) ?_ ?_
      · exact congrArg (fun x => Result.ok (Next.value x) w) e0
      · exact PostE.put (i := 1) ho (vod13_mem 1 hk).2 (hlt 1 hk) (fun k hk2 hne _ => vod13_inj 1 hk k hk2 hne) (.inl (Ext.refl _ _)) rfl hg
    | 2, hk, hd =>
      have s : (ops[2]?).map sig = some (some 101, .move (.tmp 14), 3, none) := by subst hops; kernel_rfl
      have hgd : GdOk ops a none := trivial
      have e0 : ag a 14 = .int .i64 (i : Int) := (ho.off 14 (by decide)).trans h14
      refine op_valg s hgd (w' := w) (v := .int .i64 (i : Int)) ?_ ?_
      · exact congrArg (fun x => Result.ok (Next.value x) w) e0
      · exact PostE.put (i := 2) ho (vod13_mem 2 hk).2 (hlt 2 hk) (fun k hk2 hne _ => vod13_inj 2 hk k hk2 hne) (.inl (Ext.refl _ _)) rfl hg
    | 3, hk, hd =>
      have s : (ops[3]?).map sig = some (some 102, .indexAddr 51 (.tmp 100) (.tmp 101), 0, none) := by subst hops; kernel_rfl
      have hgd : GdOk ops a none := trivial
      have d1 := hd 1 (by decide) (by subst hops; kernel_rfl)
      have d2 := hd 2 (by decide) (by subst hops; kernel_rfl)
      have e0 : ag a 100 = .slice (some ⟨h, 0, none⟩) 5 5 := d1
      have e1 : ag a 101 = .int .i64 (i : Int) := d2
      refine op_valg s hgd (w' := w) (v := .pointer (some ⟨h, i * 3, none⟩)) ?_ ?_
      · simp only [execOp, eval_tmp, e0, e1]
        go_simp
      · exact PostE.put (i := 3) ho (vod13_mem 3 hk).2 (hlt 3 hk) (fun k hk2 hne _ => vod13_inj 3 hk k hk2 hne) (.inl (Ext.refl _ _)) rfl hg
    | 4, hk, hd =>
      have s : (ops[4]?).map sig = some (some 103, .load 53 (.tmp 102), 53, none) := by subst hops; kernel_rfl
      have hgd : GdOk ops a none := trivial
      have d3 := hd 3 (by decide) (by subst hops; kernel_rfl)
      have e0 : ag a 102 = .pointer (some ⟨h, i * 3, none⟩) := d3
      refine op_loadg s hgd h (i * 3) e0 Ci _ (range_below hCi hg) Tryd.underlying53 rfl (by rw [lCi]; exact info_val) ?_
      exact PostE.put (i := 4) ho (vod13_mem 4 hk).2 (hlt 4 hk) (fun k hk2 hne _ => vod13_inj 4 hk k hk2 hne) (.inl (Ext.refl _ _)) rfl hg
    | 5, hk, hd =>
      have s : (ops[5]?).map sig = some (some 104, .move (.tmp 13), 51, none) := by subst hops; kernel_rfl
      have hgd : GdOk ops a none := trivial
      have e0 : ag a 13 = .slice (some ⟨h, 0, none⟩) 5 5 := (ho.off 13 (by decide)).trans h13
      refine op_valg s hgd (w' := w) (v := .slice (some ⟨h, 0, none⟩) 5 5) ?_ ?_
      · exact congrArg (fun x => Result.ok (Next.value x) w) e0
      · exact PostE.put (i := 5) ho (vod13_mem 5 hk).2 (hlt 5 hk) (fun k hk2 hne _ => vod13_inj 5 hk k hk2 hne) (.inl (Ext.refl _ _)) rfl hg
    | 6, hk, hd =>
      have s : (ops[6]?).map sig = some (some 105, .move (.tmp 15), 3, none) := by subst hops; kernel_rfl
      have hgd : GdOk ops a none := trivial
      have e0 : ag a 15 = .int .i64 (k : Int) := (ho.off 15 (by decide)).trans h15
      refine op_valg s hgd (w' := w) (v := .int .i64 (k : Int)) ?_ ?_
      · exact congrArg (fun x => Result.ok (Next.value x) w) e0
      · exact PostE.put (i := 6) ho (vod13_mem 6 hk).2 (hlt 6 hk) (fun k hk2 hne _ => vod13_inj 6 hk k hk2 hne) (.inl (Ext.refl _ _)) rfl hg
    | 7, hk, hd =>
      have s : (ops[7]?).map sig = some (some 106, .indexAddr 51 (.tmp 104) (.tmp 105), 0, none) := by subst hops; kernel_rfl
      have hgd : GdOk ops a none := trivial
      have d5 := hd 5 (by decide) (by subst hops; kernel_rfl)
      have d6 := hd 6 (by decide) (by subst hops; kernel_rfl)
      have e0 : ag a 104 = .slice (some ⟨h, 0, none⟩) 5 5 := d5
      have e1 : ag a 105 = .int .i64 (k : Int) := d6
      refine op_valg s hgd (w' := w) (v := .pointer (some ⟨h, k * 3, none⟩)) ?_ ?_
      · simp only [execOp, eval_tmp, e0, e1]
        go_simp
      · exact PostE.put (i := 7) ho (vod13_mem 7 hk).2 (hlt 7 hk) (fun k hk2 hne _ => vod13_inj 7 hk k hk2 hne) (.inl (Ext.refl _ _)) rfl hg
    | 8, hk, hd =>
      have s : (ops[8]?).map sig = some (some 107, .load 53 (.tmp 106), 53, none) := by subst hops; kernel_rfl
      have hgd : GdOk ops a none := trivial
      have d7 := hd 7 (by decide) (by subst hops; kernel_rfl)
      have e0 : ag a 106 = .pointer (some ⟨h, k * 3, none⟩) := d7
      refine op_loadg s hgd h (k * 3) e0 Ck _ (range_below hCk hg) Tryd.underlying53 rfl (by rw [lCk]; exact info_val) ?_
      exact PostE.put (i := 8) ho (vod13_mem 8 hk).2 (hlt 8 hk) (fun k hk2 hne _ => vod13_inj 8 hk k hk2 hne) (.inl (Ext.refl _ _)) rfl hg
    | 9, hk, hd =>
      have s : (ops[9]?).map sig = some (some 108, .call { callee := .value (.func 33), args := #[.tmp 103, .tmp 107], argTypes := #[53, 53] }, 3, none) := by subst hops; kernel_rfl
      have hgd : GdOk ops a none := trivial
      have d4 := hd 4 (by decide) (by subst hops; kernel_rfl)
      have d8 := hd 8 (by decide) (by subst hops; kernel_rfl)
      have e0 : ag a 103 = .agg Ci.toArray := d4
      have e1 : ag a 107 = .agg Ck.toArray := d8
      refine op_callg s hgd (w' := w) (f := 33) (args := #[.agg Ci.toArray, .agg Ck.toArray]) ?_ ?_
      · simp only [execOp]
        go_simp
        refine ⟨by simpa [ag] using e0, by simpa [ag] using e1⟩
      · refine ((show Calls Tryd.prog _ _ w (NumRes c w) from hc ▸ rcompare_any X.nodes X (Nat.le_refl _) Y w _ _ (tX.later hg) (tY.later hg))).mono ?_
        rintro e w' ⟨rfl, hb⟩
        exact ⟨_, rfl, PostE.put (i := 9) ho (vod13_mem 9 hk).2 (hlt 9 hk) (fun k hk2 hne _ => vod13_inj 9 hk k hk2 hne) (.inl (Ext.of hb)) rfl (later hg hb)⟩
    | 10, hk, hd =>
      have s : (ops[10]?).map sig = some (some 109, .binOp .neq 3 (.tmp 99) (.tmp 108) 3, 4, none) := by subst hops; kernel_rfl
      have hgd : GdOk ops a none := trivial
      have d0 := hd 0 (by decide) (by subst hops; kernel_rfl)
      have d9 := hd 9 (by decide) (by subst hops; kernel_rfl)
      have e0 : ag a 99 = .int .i64 c := d0
      have e1 : ag a 108 = .int .i64 c := d9
      refine op_valg s hgd (w' := w) (v := .bool false) ?_ ?_
      · simp only [execOp, eval_tmp, e0, e1]
        go_simp
      · exact PostE.put (i := 10) ho (vod13_mem 10 hk).2 (hlt 10 hk) (fun k hk2 hne _ => vod13_inj 10 hk k hk2 hne) (.inl (Ext.refl _ _)) rfl hg
    | 11, hk, hd =>
      have s : (ops[11]?).map sig = some (some 110, .move (.tmp 109), 4, none) := by subst hops; kernel_rfl
      have hgd : GdOk ops a none := trivial
      have d10 := hd 10 (by decide) (by subst hops; kernel_rfl)
      have e0 : ag a 109 = .bool false := d10
      refine op_valg s hgd (w' := w) (v := .bool false) ?_ ?_
      · exact congrArg (fun x => Result.ok (Next.value x) w) e0
      · exact PostE.put (i := 11) ho (vod13_mem 11 hk).2 (hlt 11 hk) (fun k hk2 hne _ => vod13_inj 11 hk k hk2 hne) (.inl (Ext.refl _ _)) rfl hg
    | 12, hk, hd =>
      have s : (ops[12]?).map sig = some (some 111, .move (.tmp 16), 3, some (11, false)) := by subst hops; kernel_rfl
      have hgd : GdOk ops a (some (11, false)) := yielded_of (d := 110) (by subst hops; kernel_rfl) (hd 11 (by decide) (by subst hops; kernel_rfl))
      have e0 : ag a 16 = .int .i64 c := (ho.off 16 (by decide)).trans h16
      refine op_valg s hgd (w' := w) (v := .int .i64 c) ?_ ?_
      · exact congrArg (fun x => Result.ok (Next.value x) w) e0
      · exact PostE.put (i := 12) ho (vod13_mem 12 hk).2 (hlt 12 hk) (fun k hk2 hne _ => vod13_inj 12 hk k hk2 hne) (.inl (Ext.refl _ _)) rfl hg
    | 13, hk, hd =>
      have s : (ops[13]?).map sig = some (some 112, .move (.tmp 13), 51, some (11, false)) := by subst hops; kernel_rfl
      have hgd : GdOk ops a (some (11, false)) := yielded_of (d := 110) (by subst hops; kernel_rfl) (hd 11 (by decide) (by subst hops; kernel_rfl))
      have e0 : ag a 13 = .slice (some ⟨h, 0, none⟩) 5 5 := (ho.off 13 (by decide)).trans h13
      refine op_valg s hgd (w' := w) (v := .slice (some ⟨h, 0, none⟩) 5 5) ?_ ?_
      · exact congrArg (fun x => Result.ok (Next.value x) w) e0
      · exact PostE.put (i := 13) ho (vod13_mem 13 hk).2 (hlt 13 hk) (fun k hk2 hne _ => vod13_inj 13 hk k hk2 hne) (.inl (Ext.refl _ _)) rfl hg
    | 14, hk, hd =>
      have s : (ops[14]?).map sig = some (some 113, .move (.tmp 15), 3, some (11, false)) := by subst hops; kernel_rfl
      have hgd : GdOk ops a (some (11, false)) := yielded_of (d := 110) (by subst hops; kernel_rfl) (hd 11 (by decide) (by subst hops; kernel_rfl))
      have e0 : ag a 15 = .int .i64 (k : Int) := (ho.off 15 (by decide)).trans h15
      refine op_valg s hgd (w' := w) (v := .int .i64 (k : Int)) ?_ ?_
      · exact congrArg (fun x => Result.ok (Next.value x) w) e0
      · exact PostE.put (i := 14) ho (vod13_mem 14 hk).2 (hlt 14 hk) (fun k hk2 hne _ => vod13_inj 14 hk k hk2 hne) (.inl (Ext.refl _ _)) rfl hg
    | 15, hk, hd =>
      have s : (ops[15]?).map sig = some (some 114, .indexAddr 51 (.tmp 112) (.tmp 113), 0, some (11, false)) := by subst hops; kernel_rfl
      have hgd : GdOk ops a (some (11, false)) := yielded_of (d := 110) (by subst hops; kernel_rfl) (hd 11 (by decide) (by subst hops; kernel_rfl))
      have d13 := hd 13 (by decide) (by subst hops; kernel_rfl)
      have d14 := hd 14 (by decide) (by subst hops; kernel_rfl)
      have e0 : ag a 112 = .slice (some ⟨h, 0, none⟩) 5 5 := d13
      have e1 : ag a 113 = .int .i64 (k : Int) := d14
      refine op_valg s hgd (w' := w) (v := .pointer (some ⟨h, k * 3, none⟩)) ?_ ?_
      · simp only [execOp, eval_tmp, e0, e1]
        go_simp
      · exact PostE.put (i := 15) ho (vod13_mem 15 hk).2 (hlt 15 hk) (fun k hk2 hne _ => vod13_inj 15 hk k hk2 hne) (.inl (Ext.refl _ _)) rfl hg
    | 16, hk, hd =>
      have s : (ops[16]?).map sig = some (some 115, .load 53 (.tmp 114), 53, some (11, false)) := by subst hops; kernel_rfl
      have hgd : GdOk ops a (some (11, false)) := yielded_of (d := 110) (by subst hops; kernel_rfl) (hd 11 (by decide) (by subst hops; kernel_rfl))
      have d15 := hd 15 (by decide) (by subst hops; kernel_rfl)
      have e0 : ag a 114 = .pointer (some ⟨h, k * 3, none⟩) := d15
      refine op_loadg s hgd h (k * 3) e0 Ck _ (range_below hCk hg) Tryd.underlying53 rfl (by rw [lCk]; exact info_val) ?_
      exact PostE.put (i := 16) ho (vod13_mem 16 hk).2 (hlt 16 hk) (fun k hk2 hne _ => vod13_inj 16 hk k hk2 hne) (.inl (Ext.refl _ _)) rfl hg
    | 17, hk, hd =>
      have s : (ops[17]?).map sig = some (some 116, .move (.tmp 13), 51, some (11, false)) := by subst hops; kernel_rfl
      have hgd : GdOk ops a (some (11, false)) := yielded_of (d := 110) (by subst hops; kernel_rfl) (hd 11 (by decide) (by subst hops; kernel_rfl))
      have e0 : ag a 13 = .slice (some ⟨h, 0, none⟩) 5 5 := (ho.off 13 (by decide)).trans h13
      refine op_valg s hgd (w' := w) (v := .slice (some ⟨h, 0, none⟩) 5 5) ?_ ?_
      · exact congrArg (fun x => Result.ok (Next.value x) w) e0
      · exact PostE.put (i := 17) ho (vod13_mem 17 hk).2 (hlt 17 hk) (fun k hk2 hne _ => vod13_inj 17 hk k hk2 hne) (.inl (Ext.refl _ _)) rfl hg
    | 18, hk, hd =>
      have s : (ops[18]?).map sig = some (some 117, .move (.tmp 14), 3, some (11, false)) := by subst hops; kernel_rfl
      have hgd : GdOk ops a (some (11, false)) := yielded_of (d := 110) (by subst hops; kernel_rfl) (hd 11 (by decide) (by subst hops; kernel_rfl))
      have e0 : ag a 14 = .int .i64 (i : Int) := (ho.off 14 (by decide)).trans h14
      refine op_valg s hgd (w' := w) (v := .int .i64 (i : Int)) ?_ ?_
      · exact congrArg (fun x => Result.ok (Next.value x) w) e0
      · exact PostE.put (i := 18) ho (vod13_mem 18 hk).2 (hlt 18 hk) (fun k hk2 hne _ => vod13_inj 18 hk k hk2 hne) (.inl (Ext.refl _ _)) rfl hg
    | 19, hk, hd =>
      have s : (ops[19]?).map sig = some (some 118, .indexAddr 51 (.tmp 116) (.tmp 117), 0, some (11, false)) := by subst hops; kernel_rfl
      have hgd : GdOk ops a (some (11, false)) := yielded_of (d := 110) (by subst hops; kernel_rfl) (hd 11 (by decide) (by subst hops; kernel_rfl))
      have d17 := hd 17 (by decide) (by subst hops; kernel_rfl)
      have d18 := hd 18 (by decide) (by subst hops; kernel_rfl)
      have e0 : ag a 116 = .slice (some ⟨h, 0, none⟩) 5 5 := d17
      have e1 : ag a 117 = .int .i64 (i : Int) := d18
      refine op_valg s hgd (w' := w) (v := .pointer (some ⟨h, i * 3, none⟩)) ?_ ?_
      · simp only [execOp, eval_tmp, e0, e1]
        go_simp
      · exact PostE.put (i := 19) ho (vod13_mem 19 hk).2 (hlt 19 hk) (fun k hk2 hne _ => vod13_inj 19 hk k hk2 hne) (.inl (Ext.refl _ _)) rfl hg
    | 20, hk, hd =>
      have s : (ops[20]?).map sig = some (some 119, .load 53 (.tmp 118), 53, some (11, false)) := by subst hops; kernel_rfl
      have hgd : GdOk ops a (some (11, false)) := yielded_of (d := 110) (by subst hops; kernel_rfl) (hd 11 (by decide) (by subst hops; kernel_rfl))
      have d19 := hd 19 (by decide) (by subst hops; kernel_rfl)
      have e0 : ag a 118 = .pointer (some ⟨h, i * 3, none⟩) := d19
      refine op_loadg s hgd h (i * 3) e0 Ci _ (range_below hCi hg) Tryd.underlying53 rfl (by rw [lCi]; exact info_val) ?_
      exact PostE.put (i := 20) ho (vod13_mem 20 hk).2 (hlt 20 hk) (fun k hk2 hne _ => vod13_inj 20 hk k hk2 hne) (.inl (Ext.refl _ _)) rfl hg
    | 21, hk, hd =>
      have s : (ops[21]?).map sig = some (some 120, .call { callee := .value (.func 32), args := #[.tmp 115, .tmp 119], argTypes := #[53, 53] }, 3, some (11, false)) := by subst hops; kernel_rfl
      have hgd : GdOk ops a (some (11, false)) := yielded_of (d := 110) (by subst hops; kernel_rfl) (hd 11 (by decide) (by subst hops; kernel_rfl))
      have d16 := hd 16 (by decide) (by subst hops; kernel_rfl)
      have d20 := hd 20 (by decide) (by subst hops; kernel_rfl)
      have e0 : ag a 115 = .agg Ck.toArray := d16
      have e1 : ag a 119 = .agg Ci.toArray := d20
      refine op_callg s hgd (w' := w) (f := 32) (args := #[.agg Ck.toArray, .agg Ci.toArray]) ?_ ?_
      · simp only [execOp]
        go_simp
        refine ⟨by simpa [ag] using e0, by simpa [ag] using e1⟩
      · refine ((show Calls Tryd.prog _ _ w (NumRes c' w) from hc' ▸ compare_any Y.nodes Y (Nat.le_refl _) X w _ _ (tY.later hg) (tX.later hg))).mono ?_
        rintro e w' ⟨rfl, hb⟩
        exact ⟨_, rfl, PostE.put (i := 21) ho (vod13_mem 21 hk).2 (hlt 21 hk) (fun k hk2 hne _ => vod13_inj 21 hk k hk2 hne) (.inl (Ext.of hb)) rfl (later hg hb)⟩
    | 22, hk, hd =>
      have s : (ops[22]?).map sig = some (some 121, .unOp .neg 3 (.tmp 120), 3, some (11, false)) := by subst hops; kernel_rfl
      have hgd : GdOk ops a (some (11, false)) := yielded_of (d := 110) (by subst hops; kernel_rfl) (hd 11 (by decide) (by subst hops; kernel_rfl))
      have d21 := hd 21 (by decide) (by subst hops; kernel_rfl)
      have e0 : ag a 120 = .int .i64 c' := d21
      refine op_valg s hgd (w' := w) (v := .int .i64 c) ?_ ?_
      · simp only [execOp, eval_tmp, e0]
        have hw : IntKind.i64.wrap (-c') = c := by rw [IntWalk.i64_in _ (by omega)]; exact hn
        clear hn hc hc'
        go_simp
      · exact PostE.put (i := 22) ho (vod13_mem 22 hk).2 (hlt 22 hk) (fun k hk2 hne _ => vod13_inj 22 hk k hk2 hne) (.inl (Ext.refl _ _)) rfl hg
    | 23, hk, hd =>
      have s : (ops[23]?).map sig = some (some 122, .binOp .neq 3 (.tmp 111) (.tmp 121) 3, 4, some (11, false)) := by subst hops; kernel_rfl
      have hgd : GdOk ops a (some (11, false)) := yielded_of (d := 110) (by subst hops; kernel_rfl) (hd 11 (by decide) (by subst hops; kernel_rfl))
      have d12 := hd 12 (by decide) (by subst hops; kernel_rfl)
      have d22 := hd 22 (by decide) (by subst hops; kernel_rfl)
      have e0 : ag a 111 = .int .i64 c := d12
      have e1 : ag a 121 = .int .i64 c := d22
      refine op_valg s hgd (w' := w) (v := .bool false) ?_ ?_
      · simp only [execOp, eval_tmp, e0, e1]
        go_simp
      · exact PostE.put (i := 23) ho (vod13_mem 23 hk).2 (hlt 23 hk) (fun k hk2 hne _ => vod13_inj 23 hk k hk2 hne) (.inl (Ext.refl _ _)) rfl hg
    | n + 24, hn, _ => exact absurd hn (by omega)
  · intro a w ho hg hf
    have s : (ops[24]?).map sig = some (some 123, .pick (.tmp 110) (.const (.bool true)) (.tmp 122), 4, none) := by subst hops; kernel_rfl
    have hgd : GdOk ops a none := trivial
    have d11 := hf 11 (by decide)
    have d23 := hf 23 (by decide)
    have e0 : ag a 110 = .bool false := d11
    have e1 : ag a 122 = .bool false := d23
    refine op_valg s hgd (w' := w) (v := .bool false) ?_ ?_
    · simp only [execOp, eval_tmp, e0, e1]
      go_simp
    · have ho2 : Off (voD13 ++ [123]) a0 (a.put (some 123) (.bool false)) := (ho.mono (fun s hs => List.mem_append_left _ hs)).put (by decide)
      exact hQ (ag (a.put (some 123) (.bool false))) w (ag_put (by rw [ho.size, hsz]; decide)) hg _ (ho2.eq (fun s hs => by rw [hsz]; revert s; decide))
end Go.Proofs.YtjbleefpafnhhaaDoor

