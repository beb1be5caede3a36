import Derived.Test.YtjbleefpafnhhaaDoorX05
import Derived.Test.YtjbleefpafnhhaaDoorX23
import Derived.Test.YtjbleefpafnhhaaDoorX29
import Derived.Test.YtjbleefpafnhhaaDoorX32
import Derived.Test.YtjbleefpafnhhaaDoorX33
import Derived.Test.YtjbleefpafnhhaaDoorX35
import Derived.Test.YtjbleefpafnhhaaDoorX36

set_option linter.unusedVariables false
set_option linter.unusedSimpArgs false
namespace Go.Proofs.YtjbleefpafnhhaaDoor
open Go.RowKit
def voaf18 (c : Int) : Nat → Value → World → Prop
  | 0, v, w => v = .int .i64 c
  | 1, v, w => v = .bool false
  | 2, v, w => v = .bool false
  | 3, v, w => v = undef
  | 4, v, w => v = undef
  | 5, v, w => v = undef
  | 6, v, w => v = undef
  | 7, v, w => v = undef
  | 8, v, w => v = undef
  | 9, v, w => v = undef
  | 10, v, w => v = undef
  | 11, v, w => v = undef
  | 12, v, w => v = undef
  | 13, v, w => v = .bool false
  | 14, v, w => v = .bool false
  | 15, v, w => v = undef
  | 16, v, w => v = undef
  | 17, v, w => v = undef
  | 18, v, w => v = undef
  | 19, v, w => v = undef
  | 20, v, w => v = undef
  | 21, v, w => v = undef
  | 22, v, w => v = undef
  | 23, v, w => v = undef
  | 24, v, w => v = undef
  | _, _, _ => True
theorem voaf18_ext (c : Int) (S : Nat) : ∀ j v w w', j < 25 → (Ext S w w' ∨ (j ≠ 999 ∧ Never w w')) → voaf18 c j v w → voaf18 c j v w' := by
  intro j v w w' hj he h
  match j, hj, he, h with
  | 0, _, he, h => exact h
  | 1, _, he, h => exact h
  | 2, _, he, h => exact h
  | 3, _, he, h => exact h
  | 4, _, he, h => exact h
  | 5, _, he, h => exact h
  | 6, _, he, h => exact h
  | 7, _, he, h => exact h
  | 8, _, he, h => exact h
  | 9, _, he, h => exact h
  | 10, _, he, h => exact h
  | 11, _, he, h => exact h
  | 12, _, he, h => exact h
  | 13, _, he, h => exact h
  | 14, _, he, h => exact h
  | 15, _, he, h => exact h
  | 16, _, he, h => exact h
  | 17, _, he, h => exact h
  | 18, _, he, h => exact h
  | 19, _, he, h => exact h
  | 20, _, he, h => exact h
  | 21, _, he, h => exact h
  | 22, _, he, h => exact h
  | 23, _, he, h => exact h
  | 24, _, he, h => exact h
  | n + 25, hn, _, _ => exact absurd hn (by omega)
def voaD18 : List Nat := [128, 129, 130, 131, 132, 133, 134, 135, 136, 137, 138, 139, 140, 141, 142, 143, 144, 145, 146, 147, 148, 149, 150, 151, 152]
def voad18 (k : Nat) : Nat := [128, 129, 130, 131, 132, 133, 134, 135, 136, 137, 138, 139, 140, 141, 142, 143, 144, 145, 146, 147, 148, 149, 150, 151, 152].getD k 0
theorem voad18_mem : ∀ k, k < 25 → voad18 k < 155 ∧ voad18 k ∈ voaD18 := by decide
theorem voad18_inj : ∀ i, i < 25 → ∀ k, k < 25 → k ≠ i → voad18 i ≠ voad18 k := by decide
set_option maxHeartbeats 4000000 in
set_option maxRecDepth 100000 in
theorem voareg18 {Q : Exit → Act → World → Prop} {id : Nat} {ops : Array Oper} (hops : ops = ((Tryd.f5.body).bind (opsOf 18)).getD #[]) (a0 : Act) (w0 : World) (c : Int) (hsz : a0.tmps.size = 155)
    (h16 : ag a0 16 = .int .i64 c) (hh1 : decide (c ≤ 0) = false)
    (hQ : ∀ (vs : Nat → Value) (w' : World), vs 153 = .bool false → Below w0.heap.size w0 w' → ∀ a', a' = (voaD18 ++ [153]).foldl (fun b s => b.put (some s) (vs s)) a0 → Q .normal a' w') :
    (Code.region id ops true).wp Tryd.prog Q a0 w0 := by
  have hg0 : Below w0.heap.size w0 w0.drew := below_drewN (Below.refl _ _) 1
  have hlt : ∀ k, k < 25 → voad18 k < a0.tmps.size := fun k hk => by have := (voad18_mem k hk).1; omega
  refine wp_region_factsE 25 999 voaD18 voad18 (voaf18 c) (fun w => Below w0.heap.size w0 w) w0.heap.size Never (fun k => k) (by kernel_rfl) (by subst hops; kernel_rfl) (by subst hops; kernel_rfl) (by subst hops; kernel_rfl) (voaf18_ext c w0.heap.size) hg0 ?_ ?_
  · intro j a w hj ho hg hd
    have hgs := hg.size
    match j, hj, hd with
    | 0, hk, hd =>
      have s : (ops[0]?).map sig = some (some 128, .move (.tmp 16), 3, none) := by subst hops; kernel_rfl
      have hgd : GdOk ops a none := trivial
      have e0 : ag a 16 = .int .i64 c := (ho.off 16 (by decide)).trans h16
      refine op_valg s hgd (w' := w) (v := .int .i64 c) ?_ ?_
      · exact congrArg (fun x => Result.ok (Next.value x) w) e0
      · exact PostE.put (i := 0) ho (voad18_mem 0 hk).2 (hlt 0 hk) (fun k hk2 hne _ => voad18_inj 0 hk k hk2 hne) (.inl (Ext.refl _ _)) rfl hg
    | 1, hk, hd =>
      have s : (ops[1]?).map sig = some (some 129, .binOp .leq 3 (.tmp 128) (.const (.int .i64 0)) 3, 4, none) := by subst hops; kernel_rfl
      have hgd : GdOk ops a none := trivial
      have d0 := hd 0 (by decide) (by subst hops; kernel_rfl)
      have e0 : ag a 128 = .int .i64 c := d0
      refine op_valg s hgd (w' := w) (v := .bool false) ?_ ?_
      · simp only [execOp, eval_tmp, e0]
        go_simp
      · exact PostE.put (i := 1) ho (voad18_mem 1 hk).2 (hlt 1 hk) (fun k hk2 hne _ => voad18_inj 1 hk k hk2 hne) (.inl (Ext.refl _ _)) rfl hg
    | 2, hk, hd =>
      have s : (ops[2]?).map sig = some (some 130, .move (.tmp 129), 4, none) := by subst hops; kernel_rfl
      have hgd : GdOk ops a none := trivial
      have d1 := hd 1 (by decide) (by subst hops; kernel_rfl)
      have e0 : ag a 129 = .bool false := d1
      refine op_valg s hgd (w' := w) (v := .bool false) ?_ ?_
      · exact congrArg (fun x => Result.ok (Next.value x) w) e0
      · exact PostE.put (i := 2) ho (voad18_mem 2 hk).2 (hlt 2 hk) (fun k hk2 hne _ => voad18_inj 2 hk k hk2 hne) (.inl (Ext.refl _ _)) rfl hg
    | 3, hk, hd =>
      have s : (ops[3]?).map sig = some (some 131, .move (.tmp 13), 51, some (2, true)) := by subst hops; kernel_rfl
      have hy : yielded ops a.tmps 2 = some false := yielded_of (d := 130) (by subst hops; kernel_rfl) (hd 2 (by decide) (by subst hops; kernel_rfl))
      refine opg_skip s hy (by decide) ?_
      exact PostE.put (i := 3) ho (voad18_mem 3 hk).2 (hlt 3 hk) (fun k hk2 hne _ => voad18_inj 3 hk k hk2 hne) (.inl (Ext.refl _ _)) rfl hg
    | 4, hk, hd =>
      have s : (ops[4]?).map sig = some (some 132, .move (.tmp 15), 3, some (2, true)) := by subst hops; kernel_rfl
      have hy : yielded ops a.tmps 2 = some false := yielded_of (d := 130) (by subst hops; kernel_rfl) (hd 2 (by decide) (by subst hops; kernel_rfl))
      refine opg_skip s hy (by decide) ?_
      exact PostE.put (i := 4) ho (voad18_mem 4 hk).2 (hlt 4 hk) (fun k hk2 hne _ => voad18_inj 4 hk k hk2 hne) (.inl (Ext.refl _ _)) rfl hg
    | 5, hk, hd =>
      have s : (ops[5]?).map sig = some (some 133, .indexAddr 51 (.tmp 131) (.tmp 132), 0, some (2, true)) := by subst hops; kernel_rfl
      have hy : yielded ops a.tmps 2 = some false := yielded_of (d := 130) (by subst hops; kernel_rfl) (hd 2 (by decide) (by subst hops; kernel_rfl))
      refine opg_skip s hy (by decide) ?_
      exact PostE.put (i := 5) ho (voad18_mem 5 hk).2 (hlt 5 hk) (fun k hk2 hne _ => voad18_inj 5 hk k hk2 hne) (.inl (Ext.refl _ _)) rfl hg
    | 6, hk, hd =>
      have s : (ops[6]?).map sig = some (some 134, .load 53 (.tmp 133), 53, some (2, true)) := by subst hops; kernel_rfl
      have hy : yielded ops a.tmps 2 = some false := yielded_of (d := 130) (by subst hops; kernel_rfl) (hd 2 (by decide) (by subst hops; kernel_rfl))
      refine opg_skip s hy (by decide) ?_
      exact PostE.put (i := 6) ho (voad18_mem 6 hk).2 (hlt 6 hk) (fun k hk2 hne _ => voad18_inj 6 hk k hk2 hne) (.inl (Ext.refl _ _)) rfl hg
    | 7, hk, hd =>
      have s : (ops[7]?).map sig = some (some 135, .move (.tmp 13), 51, some (2, true)) := by subst hops; kernel_rfl
      have hy : yielded ops a.tmps 2 = some false := yielded_of (d := 130) (by subst hops; kernel_rfl) (hd 2 (by decide) (by subst hops; kernel_rfl))
      refine opg_skip s hy (by decide) ?_
      exact PostE.put (i := 7) ho (voad18_mem 7 hk).2 (hlt 7 hk) (fun k hk2 hne _ => voad18_inj 7 hk k hk2 hne) (.inl (Ext.refl _ _)) rfl hg
    | 8, hk, hd =>
      have s : (ops[8]?).map sig = some (some 136, .move (.tmp 17), 3, some (2, true)) := by subst hops; kernel_rfl
      have hy : yielded ops a.tmps 2 = some false := yielded_of (d := 130) (by subst hops; kernel_rfl) (hd 2 (by decide) (by subst hops; kernel_rfl))
      refine opg_skip s hy (by decide) ?_
      exact PostE.put (i := 8) ho (voad18_mem 8 hk).2 (hlt 8 hk) (fun k hk2 hne _ => voad18_inj 8 hk k hk2 hne) (.inl (Ext.refl _ _)) rfl hg
    | 9, hk, hd =>
      have s : (ops[9]?).map sig = some (some 137, .indexAddr 51 (.tmp 135) (.tmp 136), 0, some (2, true)) := by subst hops; kernel_rfl
      have hy : yielded ops a.tmps 2 = some false := yielded_of (d := 130) (by subst hops; kernel_rfl) (hd 2 (by decide) (by subst hops; kernel_rfl))
      refine opg_skip s hy (by decide) ?_
      exact PostE.put (i := 9) ho (voad18_mem 9 hk).2 (hlt 9 hk) (fun k hk2 hne _ => voad18_inj 9 hk k hk2 hne) (.inl (Ext.refl _ _)) rfl hg
    | 10, hk, hd =>
      have s : (ops[10]?).map sig = some (some 138, .load 53 (.tmp 137), 53, some (2, true)) := by subst hops; kernel_rfl
      have hy : yielded ops a.tmps 2 = some false := yielded_of (d := 130) (by subst hops; kernel_rfl) (hd 2 (by decide) (by subst hops; kernel_rfl))
      refine opg_skip s hy (by decide) ?_
      exact PostE.put (i := 10) ho (voad18_mem 10 hk).2 (hlt 10 hk) (fun k hk2 hne _ => voad18_inj 10 hk k hk2 hne) (.inl (Ext.refl _ _)) rfl hg
    | 11, hk, hd =>
      have s : (ops[11]?).map sig = some (some 139, .call { callee := .value (.func 32), args := #[.tmp 134, .tmp 138], argTypes := #[53, 53] }, 3, some (2, true)) := by subst hops; kernel_rfl
      have hy : yielded ops a.tmps 2 = some false := yielded_of (d := 130) (by subst hops; kernel_rfl) (hd 2 (by decide) (by subst hops; kernel_rfl))
      refine opg_skip s hy (by decide) ?_
      exact PostE.put (i := 11) ho (voad18_mem 11 hk).2 (hlt 11 hk) (fun k hk2 hne _ => voad18_inj 11 hk k hk2 hne) (.inl (Ext.refl _ _)) rfl hg
    | 12, hk, hd =>
      have s : (ops[12]?).map sig = some (some 140, .binOp .leq 3 (.tmp 139) (.const (.int .i64 0)) 3, 4, some (2, true)) := by subst hops; kernel_rfl
      have hy : yielded ops a.tmps 2 = some false := yielded_of (d := 130) (by subst hops; kernel_rfl) (hd 2 (by decide) (by subst hops; kernel_rfl))
      refine opg_skip s hy (by decide) ?_
      exact PostE.put (i := 12) ho (voad18_mem 12 hk).2 (hlt 12 hk) (fun k hk2 hne _ => voad18_inj 12 hk k hk2 hne) (.inl (Ext.refl _ _)) rfl hg
    | 13, hk, hd =>
      have s : (ops[13]?).map sig = some (some 141, .pick (.tmp 130) (.tmp 140) (.const (.bool false)), 4, none) := by subst hops; kernel_rfl
      have hgd : GdOk ops a none := trivial
      have d2 := hd 2 (by decide) (by subst hops; kernel_rfl)
      have d12 := hd 12 (by decide) (by subst hops; kernel_rfl)
      have e0 : ag a 130 = .bool false := d2
      have e1 : ag a 140 = undef := d12
      refine op_valg s hgd (w' := w) (v := .bool false) ?_ ?_
      · simp only [execOp, eval_tmp, e0, e1]
        go_simp
      · exact PostE.put (i := 13) ho (voad18_mem 13 hk).2 (hlt 13 hk) (fun k hk2 hne _ => voad18_inj 13 hk k hk2 hne) (.inl (Ext.refl _ _)) rfl hg
    | 14, hk, hd =>
      have s : (ops[14]?).map sig = some (some 142, .move (.tmp 141), 4, none) := by subst hops; kernel_rfl
      have hgd : GdOk ops a none := trivial
      have d13 := hd 13 (by decide) (by subst hops; kernel_rfl)
      have e0 : ag a 141 = .bool false := d13
      refine op_valg s hgd (w' := w) (v := .bool false) ?_ ?_
      · exact congrArg (fun x => Result.ok (Next.value x) w) e0
      · exact PostE.put (i := 14) ho (voad18_mem 14 hk).2 (hlt 14 hk) (fun k hk2 hne _ => voad18_inj 14 hk k hk2 hne) (.inl (Ext.refl _ _)) rfl hg
    | 15, hk, hd =>
      have s : (ops[15]?).map sig = some (some 143, .move (.tmp 13), 51, some (14, true)) := by subst hops; kernel_rfl
      have hy : yielded ops a.tmps 14 = some false := yielded_of (d := 142) (by subst hops; kernel_rfl) (hd 14 (by decide) (by subst hops; kernel_rfl))
      refine opg_skip s hy (by decide) ?_
      exact PostE.put (i := 15) ho (voad18_mem 15 hk).2 (hlt 15 hk) (fun k hk2 hne _ => voad18_inj 15 hk k hk2 hne) (.inl (Ext.refl _ _)) rfl hg
    | 16, hk, hd =>
      have s : (ops[16]?).map sig = some (some 144, .move (.tmp 14), 3, some (14, true)) := by subst hops; kernel_rfl
      have hy : yielded ops a.tmps 14 = some false := yielded_of (d := 142) (by subst hops; kernel_rfl) (hd 14 (by decide) (by subst hops; kernel_rfl))
      refine opg_skip s hy (by decide) ?_
      exact PostE.put (i := 16) ho (voad18_mem 16 hk).2 (hlt 16 hk) (fun k hk2 hne _ => voad18_inj 16 hk k hk2 hne) (.inl (Ext.refl _ _)) rfl hg
    | 17, hk, hd =>
      have s : (ops[17]?).map sig = some (some 145, .indexAddr 51 (.tmp 143) (.tmp 144), 0, some (14, true)) := by subst hops; kernel_rfl
      have hy : yielded ops a.tmps 14 = some false := yielded_of (d := 142) (by subst hops; kernel_rfl) (hd 14 (by decide) (by subst hops; kernel_rfl))
      refine opg_skip s hy (by decide) ?_
      exact PostE.put (i := 17) ho (voad18_mem 17 hk).2 (hlt 17 hk) (fun k hk2 hne _ => voad18_inj 17 hk k hk2 hne) (.inl (Ext.refl _ _)) rfl hg
    | 18, hk, hd =>
      have s : (ops[18]?).map sig = some (some 146, .load 53 (.tmp 145), 53, some (14, true)) := by subst hops; kernel_rfl
      have hy : yielded ops a.tmps 14 = some false := yielded_of (d := 142) (by subst hops; kernel_rfl) (hd 14 (by decide) (by subst hops; kernel_rfl))
      refine opg_skip s hy (by decide) ?_
      exact PostE.put (i := 18) ho (voad18_mem 18 hk).2 (hlt 18 hk) (fun k hk2 hne _ => voad18_inj 18 hk k hk2 hne) (.inl (Ext.refl _ _)) rfl hg
    | 19, hk, hd =>
      have s : (ops[19]?).map sig = some (some 147, .move (.tmp 13), 51, some (14, true)) := by subst hops; kernel_rfl
      have hy : yielded ops a.tmps 14 = some false := yielded_of (d := 142) (by subst hops; kernel_rfl) (hd 14 (by decide) (by subst hops; kernel_rfl))
      refine opg_skip s hy (by decide) ?_
      exact PostE.put (i := 19) ho (voad18_mem 19 hk).2 (hlt 19 hk) (fun k hk2 hne _ => voad18_inj 19 hk k hk2 hne) (.inl (Ext.refl _ _)) rfl hg
    | 20, hk, hd =>
      have s : (ops[20]?).map sig = some (some 148, .move (.tmp 17), 3, some (14, true)) := by subst hops; kernel_rfl
      have hy : yielded ops a.tmps 14 = some false := yielded_of (d := 142) (by subst hops; kernel_rfl) (hd 14 (by decide) (by subst hops; kernel_rfl))
      refine opg_skip s hy (by decide) ?_
      exact PostE.put (i := 20) ho (voad18_mem 20 hk).2 (hlt 20 hk) (fun k hk2 hne _ => voad18_inj 20 hk k hk2 hne) (.inl (Ext.refl _ _)) rfl hg
    | 21, hk, hd =>
      have s : (ops[21]?).map sig = some (some 149, .indexAddr 51 (.tmp 147) (.tmp 148), 0, some (14, true)) := by subst hops; kernel_rfl
      have hy : yielded ops a.tmps 14 = some false := yielded_of (d := 142) (by subst hops; kernel_rfl) (hd 14 (by decide) (by subst hops; kernel_rfl))
      refine opg_skip s hy (by decide) ?_
      exact PostE.put (i := 21) ho (voad18_mem 21 hk).2 (hlt 21 hk) (fun k hk2 hne _ => voad18_inj 21 hk k hk2 hne) (.inl (Ext.refl _ _)) rfl hg
    | 22, hk, hd =>
      have s : (ops[22]?).map sig = some (some 150, .load 53 (.tmp 149), 53, some (14, true)) := by subst hops; kernel_rfl
      have hy : yielded ops a.tmps 14 = some false := yielded_of (d := 142) (by subst hops; kernel_rfl) (hd 14 (by decide) (by subst hops; kernel_rfl))
      refine opg_skip s hy (by decide) ?_
      exact PostE.put (i := 22) ho (voad18_mem 22 hk).2 (hlt 22 hk) (fun k hk2 hne _ => voad18_inj 22 hk k hk2 hne) (.inl (Ext.refl _ _)) rfl hg
    | 23, hk, hd =>
      have s : (ops[23]?).map sig = some (some 151, .call { callee := .value (.func 32), args := #[.tmp 146, .tmp 150], argTypes := #[53, 53] }, 3, some (14, true)) := by subst hops; kernel_rfl
      have hy : yielded ops a.tmps 14 = some false := yielded_of (d := 142) (by subst hops; kernel_rfl) (hd 14 (by decide) (by subst hops; kernel_rfl))
      refine opg_skip s hy (by decide) ?_
      exact PostE.put (i := 23) ho (voad18_mem 23 hk).2 (hlt 23 hk) (fun k hk2 hne _ => voad18_inj 23 hk k hk2 hne) (.inl (Ext.refl _ _)) rfl hg
    | 24, hk, hd =>
      have s : (ops[24]?).map sig = some (some 152, .binOp .gtr 3 (.tmp 151) (.const (.int .i64 0)) 3, 4, some (14, true)) := by subst hops; kernel_rfl
      have hy : yielded ops a.tmps 14 = some false := yielded_of (d := 142) (by subst hops; kernel_rfl) (hd 14 (by decide) (by subst hops; kernel_rfl))
      refine opg_skip s hy (by decide) ?_
      exact PostE.put (i := 24) ho (voad18_mem 24 hk).2 (hlt 24 hk) (fun k hk2 hne _ => voad18_inj 24 hk k hk2 hne) (.inl (Ext.refl _ _)) rfl hg
    | n + 25, hn, _ => exact absurd hn (by omega)
  · intro a w ho hg hf
    have s : (ops[25]?).map sig = some (some 153, .pick (.tmp 142) (.tmp 152) (.const (.bool false)), 4, none) := by subst hops; kernel_rfl
    have hgd : GdOk ops a none := trivial
    have d14 := hf 14 (by decide)
    have d24 := hf 24 (by decide)
    have e0 : ag a 142 = .bool false := d14
    have e1 : ag a 152 = undef := d24
    refine op_valg s hgd (w' := w) (v := .bool false) ?_ ?_
    · simp only [execOp, eval_tmp, e0, e1]
      go_simp
    · have ho2 : Off (voaD18 ++ [153]) a0 (a.put (some 153) (.bool false)) := (ho.mono (fun s hs => List.mem_append_left _ hs)).put (by decide)
      exact hQ (ag (a.put (some 153) (.bool false))) w (ag_put (by rw [ho.size, hsz]; decide)) hg _ (ho2.eq (fun s hs => by rw [hsz]; revert s; decide))
def vobf18 (h k jj : Nat) (Ck Cj : List Value) (Y Z : Tr) (c d : Int) : Nat → Value → World → Prop
  | 0, v, w => v = .int .i64 c
  | 1, v, w => v = .bool true
  | 2, v, w => v = .bool true
  | 3, v, w => v = .slice (some ⟨h, 0, none⟩) 5 5
  | 4, v, w => v = .int .i64 (k : Int)
  | 5, v, w => v = .pointer (some ⟨h, k * 3, none⟩)
  | 6, v, w => v = .agg Ck.toArray
  | 7, v, w => v = .slice (some ⟨h, 0, none⟩) 5 5
  | 8, v, w => v = .int .i64 (jj : Int)
  | 9, v, w => v = .pointer (some ⟨h, jj * 3, none⟩)
  | 10, v, w => v = .agg Cj.toArray
  | 11, v, w => v = .int .i64 d
  | 12, v, w => v = .bool false
  | 13, v, w => v = .bool false
  | 14, v, w => v = .bool false
  | 15, v, w => v = undef
  | 16, v, w => v = undef
  | 17, v, w => v = undef
  | 18, v, w => v = undef
  | 19, v, w => v = undef
  | 20, v, w => v = undef
  | 21, v, w => v = undef
  | 22, v, w => v = undef
  | 23, v, w => v = undef
  | 24, v, w => v = undef
  | _, _, _ => True
theorem vobf18_ext (h k jj : Nat) (Ck Cj : List Value) (Y Z : Tr) (c d : Int) (S : Nat) : ∀ j v w w', j < 25 → (Ext S w w' ∨ (j ≠ 999 ∧ Never w w')) → vobf18 h k jj Ck Cj Y Z c d j v w → vobf18 h k jj Ck Cj Y Z c d j v w' := by
  intro j v w w' hj he h
  match j, hj, he, h with
  | 0, _, he, h => exact h
  | 1, _, he, h => exact h
  | 2, _, he, h => exact h
  | 3, _, he, h => exact h
  | 4, _, he, h => exact h
  | 5, _, he, h => exact h
  | 6, _, he, h => exact h
  | 7, _, he, h => exact h
  | 8, _, he, h => exact h
  | 9, _, he, h => exact h
  | 10, _, he, h => exact h
  | 11, _, he, h => exact h
  | 12, _, he, h => exact h
  | 13, _, he, h => exact h
  | 14, _, he, h => exact h
  | 15, _, he, h => exact h
  | 16, _, he, h => exact h
  | 17, _, he, h => exact h
  | 18, _, he, h => exact h
  | 19, _, he, h => exact h
  | 20, _, he, h => exact h
  | 21, _, he, h => exact h
  | 22, _, he, h => exact h
  | 23, _, he, h => exact h
  | 24, _, he, h => exact h
  | n + 25, hn, _, _ => exact absurd hn (by omega)
def vobD18 : List Nat := [128, 129, 130, 131, 132, 133, 134, 135, 136, 137, 138, 139, 140, 141, 142, 143, 144, 145, 146, 147, 148, 149, 150, 151, 152]
def vobd18 (k : Nat) : Nat := [128, 129, 130, 131, 132, 133, 134, 135, 136, 137, 138, 139, 140, 141, 142, 143, 144, 145, 146, 147, 148, 149, 150, 151, 152].getD k 0
theorem vobd18_mem : ∀ k, k < 25 → vobd18 k < 155 ∧ vobd18 k ∈ vobD18 := by decide
theorem vobd18_inj : ∀ i, i < 25 → ∀ k, k < 25 → k ≠ i → vobd18 i ≠ vobd18 k := by decide
set_option maxHeartbeats 4000000 in
set_option maxRecDepth 100000 in
theorem vobreg18 {Q : Exit → Act → World → Prop} {id : Nat} {ops : Array Oper} (hops : ops = ((Tryd.f5.body).bind (opsOf 18)).getD #[]) (a0 : Act) (w0 : World) (h k jj : Nat) (Ck Cj : List Value) (Y Z : Tr) (c d : Int) (hsz : a0.tmps.size = 155)
    (h13 : ag a0 13 = .slice (some ⟨h, 0, none⟩) 5 5) (h15 : ag a0 15 = .int .i64 (k : Int)) (h16 : ag a0 16 = .int .i64 c) (h17 : ag a0 17 = .int .i64 (jj : Int)) (hh1 : decide (c ≤ 0) = true) (hCk : w0.rangeAt h (k * 3) Ck) (lCk : Ck.length = 3) (tY : TrAt w0 Y (.agg Ck.toArray)) (hik : (k : Int) < 5) (hok : (0 : Int) ≤ (k : Int)) (hCj : w0.rangeAt h (jj * 3) Cj) (lCj : Cj.length = 3) (tZ : TrAt w0 Z (.agg Cj.toArray)) (hijj : (jj : Int) < 5) (hojj : (0 : Int) ≤ (jj : Int)) (hd2 : Y.cp Z = d) (hh2 : decide (d ≤ 0) = false)
    (hQ : ∀ (vs : Nat → Value) (w' : World), vs 153 = .bool false → Below w0.heap.size w0 w' → ∀ a', a' = (vobD18 ++ [153]).foldl (fun b s => b.put (some s) (vs s)) a0 → Q .normal a' w') :
    (Code.region id ops true).wp Tryd.prog Q a0 w0 := by
  have hg0 : Below w0.heap.size w0 w0.drew := below_drewN (Below.refl _ _) 1
  have hlt : ∀ k, k < 25 → vobd18 k < a0.tmps.size := fun k hk => by have := (vobd18_mem k hk).1; omega
  refine wp_region_factsE 25 999 vobD18 vobd18 (vobf18 h k jj Ck Cj Y Z c d) (fun w => Below w0.heap.size w0 w) w0.heap.size Never (fun k => k) (by kernel_rfl) (by subst hops; kernel_rfl) (by subst hops; kernel_rfl) (by subst hops; kernel_rfl) (vobf18_ext h k jj Ck Cj Y Z c d w0.heap.size) hg0 ?_ ?_
  · intro j a w hj ho hg hd
    have hgs := hg.size
    match j, hj, hd with
    | 0, hk, hd =>
      have s : (ops[0]?).map sig = some (some 128, .move (.tmp 16), 3, none) := by subst hops; kernel_rfl
      have hgd : GdOk ops a none := trivial
      have e0 : ag a 16 = .int .i64 c := (ho.off 16 (by decide)).trans h16
      refine op_valg s hgd (w' := w) (v := .int .i64 c) ?_ ?_
      · exact congrArg (fun x => Result.ok (Next.value x) w) e0
      · exact PostE.put (i := 0) ho (vobd18_mem 0 hk).2 (hlt 0 hk) (fun k hk2 hne _ => vobd18_inj 0 hk k hk2 hne) (.inl (Ext.refl _ _)) rfl hg
    | 1, hk, hd =>
      have s : (ops[1]?).map sig = some (some 129, .binOp .leq 3 (.tmp 128) (.const (.int .i64 0)) 3, 4, none) := by subst hops; kernel_rfl
      have hgd : GdOk ops a none := trivial
      have d0 := hd 0 (by decide) (by subst hops; kernel_rfl)
      have e0 : ag a 128 = .int .i64 c := d0
      refine op_valg s hgd (w' := w) (v := .bool true) ?_ ?_
      · simp only [execOp, eval_tmp, e0]
        go_simp
      · exact PostE.put (i := 1) ho (vobd18_mem 1 hk).2 (hlt 1 hk) (fun k hk2 hne _ => vobd18_inj 1 hk k hk2 hne) (.inl (Ext.refl _ _)) rfl hg
    | 2, hk, hd =>
      have s : (ops[2]?).map sig = some (some 130, .move (.tmp 129), 4, none) := by subst hops; kernel_rfl
      have hgd : GdOk ops a none := trivial
      have d1 := hd 1 (by decide) (by subst hops; kernel_rfl)
      have e0 : ag a 129 = .bool true := d1
      refine op_valg s hgd (w' := w) (v := .bool true) ?_ ?_
      · exact congrArg (fun x => Result.ok (Next.value x) w) e0
      · exact PostE.put (i := 2) ho (vobd18_mem 2 hk).2 (hlt 2 hk) (fun k hk2 hne _ => vobd18_inj 2 hk k hk2 hne) (.inl (Ext.refl _ _)) rfl hg
    | 3, hk, hd =>
      have s : (ops[3]?).map sig = some (some 131, .move (.tmp 13), 51, some (2, true)) := by subst hops; kernel_rfl
      have hgd : GdOk ops a (some (2, true)) := yielded_of (d := 130) (by subst hops; kernel_rfl) (hd 2 (by decide) (by subst hops; kernel_rfl))
      have e0 : ag a 13 = .slice (some ⟨h, 0, none⟩) 5 5 := (ho.off 13 (by decide)).trans h13
      refine op_valg s hgd (w' := w) (v := .slice (some ⟨h, 0, none⟩) 5 5) ?_ ?_
      · exact congrArg (fun x => Result.ok (Next.value x) w) e0
      · exact PostE.put (i := 3) ho (vobd18_mem 3 hk).2 (hlt 3 hk) (fun k hk2 hne _ => vobd18_inj 3 hk k hk2 hne) (.inl (Ext.refl _ _)) rfl hg
    | 4, hk, hd =>
      have s : (ops[4]?).map sig = some (some 132, .move (.tmp 15), 3, some (2, true)) := by subst hops; kernel_rfl
      have hgd : GdOk ops a (some (2, true)) := yielded_of (d := 130) (by subst hops; kernel_rfl) (hd 2 (by decide) (by subst hops; kernel_rfl))
      have e0 : ag a 15 = .int .i64 (k : Int) := (ho.off 15 (by decide)).trans h15
      refine op_valg s hgd (w' := w) (v := .int .i64 (k : Int)) ?_ ?_
      · exact congrArg (fun x => Result.ok (Next.value x) w) e0
      · exact PostE.put (i := 4) ho (vobd18_mem 4 hk).2 (hlt 4 hk) (fun k hk2 hne _ => vobd18_inj 4 hk k hk2 hne) (.inl (Ext.refl _ _)) rfl hg
    | 5, hk, hd =>
      have s : (ops[5]?).map sig = some (some 133, .indexAddr 51 (.tmp 131) (.tmp 132), 0, some (2, true)) := by subst hops; kernel_rfl
      have hgd : GdOk ops a (some (2, true)) := yielded_of (d := 130) (by subst hops; kernel_rfl) (hd 2 (by decide) (by subst hops; kernel_rfl))
      have d3 := hd 3 (by decide) (by subst hops; kernel_rfl)
      have d4 := hd 4 (by decide) (by subst hops; kernel_rfl)
      have e0 : ag a 131 = .slice (some ⟨h, 0, none⟩) 5 5 := d3
      have e1 : ag a 132 = .int .i64 (k : Int) := d4
      refine op_valg s hgd (w' := w) (v := .pointer (some ⟨h, k * 3, none⟩)) ?_ ?_
      · simp only [execOp, eval_tmp, e0, e1]
        go_simp
      · exact PostE.put (i := 5) ho (vobd18_mem 5 hk).2 (hlt 5 hk) (fun k hk2 hne _ => vobd18_inj 5 hk k hk2 hne) (.inl (Ext.refl _ _)) rfl hg
    | 6, hk, hd =>
      have s : (ops[6]?).map sig = some (some 134, .load 53 (.tmp 133), 53, some (2, true)) := by subst hops; kernel_rfl
      have hgd : GdOk ops a (some (2, true)) := yielded_of (d := 130) (by subst hops; kernel_rfl) (hd 2 (by decide) (by subst hops; kernel_rfl))
      have d5 := hd 5 (by decide) (by subst hops; kernel_rfl)
      have e0 : ag a 133 = .pointer (some ⟨h, k * 3, none⟩) := d5
      refine op_loadg s hgd h (k * 3) e0 Ck _ (range_below hCk hg) Tryd.underlying53 rfl (by rw [lCk]; exact info_val) ?_
      exact PostE.put (i := 6) ho (vobd18_mem 6 hk).2 (hlt 6 hk) (fun k hk2 hne _ => vobd18_inj 6 hk k hk2 hne) (.inl (Ext.refl _ _)) rfl hg
    | 7, hk, hd =>
      have s : (ops[7]?).map sig = some (some 135, .move (.tmp 13), 51, some (2, true)) := by subst hops; kernel_rfl
      have hgd : GdOk ops a (some (2, true)) := yielded_of (d := 130) (by subst hops; kernel_rfl) (hd 2 (by decide) (by subst hops; kernel_rfl))
      have e0 : ag a 13 = .slice (some ⟨h, 0, none⟩) 5 5 := (ho.off 13 (by decide)).trans h13
      refine op_valg s hgd (w' := w) (v := .slice (some ⟨h, 0, none⟩) 5 5) ?_ ?_
      · exact congrArg (fun x => Result.ok (Next.value x) w) e0
      · exact PostE.put (i := 7) ho (vobd18_mem 7 hk).2 (hlt 7 hk) (fun k hk2 hne _ => vobd18_inj 7 hk k hk2 hne) (.inl (Ext.refl _ _)) rfl hg
    | 8, hk, hd =>
      have s : (ops[8]?).map sig = some (some 136, .move (.tmp 17), 3, some (2, true)) := by subst hops; kernel_rfl
      have hgd : GdOk ops a (some (2, true)) := yielded_of (d := 130) (by subst hops; kernel_rfl) (hd 2 (by decide) (by subst hops; kernel_rfl))
      have e0 : ag a 17 = .int .i64 (jj : Int) := (ho.off 17 (by decide)).trans h17
      refine op_valg s hgd (w' := w) (v := .int .i64 (jj : Int)) ?_ ?_
      · exact congrArg (fun x => Result.ok (Next.value x) w) e0
      · exact PostE.put (i := 8) ho (vobd18_mem 8 hk).2 (hlt 8 hk) (fun k hk2 hne _ => vobd18_inj 8 hk k hk2 hne) (.inl (Ext.refl _ _)) rfl hg
    | 9, hk, hd =>
      have s : (ops[9]?).map sig = some (some 137, .indexAddr 51 (.tmp 135) (.tmp 136), 0, some (2, true)) := by subst hops; kernel_rfl
      have hgd : GdOk ops a (some (2, true)) := yielded_of (d := 130) (by subst hops; kernel_rfl) (hd 2 (by decide) (by subst hops; kernel_rfl))
      have d7 := hd 7 (by decide) (by subst hops; kernel_rfl)
      have d8 := hd 8 (by decide) (by subst hops; kernel_rfl)
      have e0 : ag a 135 = .slice (some ⟨h, 0, none⟩) 5 5 := d7
      have e1 : ag a 136 = .int .i64 (jj : Int) := d8
      refine op_valg s hgd (w' := w) (v := .pointer (some ⟨h, jj * 3, none⟩)) ?_ ?_
      · simp only [execOp, eval_tmp, e0, e1]
        go_simp
      · exact PostE.put (i := 9) ho (vobd18_mem 9 hk).2 (hlt 9 hk) (fun k hk2 hne _ => vobd18_inj 9 hk k hk2 hne) (.inl (Ext.refl _ _)) rfl hg
    | 10, hk, hd =>
      have s : (ops[10]?).map sig = some (some 138, .load 53 (.tmp 137), 53, some (2, true)) := by subst hops; kernel_rfl
      have hgd : GdOk ops a (some (2, true)) := yielded_of (d := 130) (by subst hops; kernel_rfl) (hd 2 (by decide) (by subst hops; kernel_rfl))
      have d9 := hd 9 (by decide) (by subst hops; kernel_rfl)
      have e0 : ag a 137 = .pointer (some ⟨h, jj * 3, none⟩) := d9
      refine op_loadg s hgd h (jj * 3) e0 Cj _ (range_below hCj hg) Tryd.underlying53 rfl (by rw [lCj]; exact info_val) ?_
      exact PostE.put (i := 10) ho (vobd18_mem 10 hk).2 (hlt 10 hk) (fun k hk2 hne _ => vobd18_inj 10 hk k hk2 hne) (.inl (Ext.refl _ _)) rfl hg
    | 11, hk, hd =>
      have s : (ops[11]?).map sig = some (some 139, .call { callee := .value (.func 32), args := #[.tmp 134, .tmp 138], argTypes := #[53, 53] }, 3, some (2, true)) := by subst hops; kernel_rfl
      have hgd : GdOk ops a (some (2, true)) := yielded_of (d := 130) (by subst hops; kernel_rfl) (hd 2 (by decide) (by subst hops; kernel_rfl))
      have d6 := hd 6 (by decide) (by subst hops; kernel_rfl)
      have d10 := hd 10 (by decide) (by subst hops; kernel_rfl)
      have e0 : ag a 134 = .agg Ck.toArray := d6
      have e1 : ag a 138 = .agg Cj.toArray := d10
      refine op_callg s hgd (w' := w) (f := 32) (args := #[.agg Ck.toArray, .agg Cj.toArray]) ?_ ?_
      · simp only [execOp]
        go_simp
        refine ⟨by simpa [ag] using e0, by simpa [ag] using e1⟩
      · refine ((show Calls Tryd.prog _ _ w (NumRes d w) from hd2 ▸ compare_any Y.nodes Y (Nat.le_refl _) Z w _ _ (tY.later hg) (tZ.later hg))).mono ?_
        rintro e w' ⟨rfl, hb⟩
        exact ⟨_, rfl, PostE.put (i := 11) ho (vobd18_mem 11 hk).2 (hlt 11 hk) (fun k hk2 hne _ => vobd18_inj 11 hk k hk2 hne) (.inl (Ext.of hb)) rfl (later hg hb)⟩
    | 12, hk, hd =>
      have s : (ops[12]?).map sig = some (some 140, .binOp .leq 3 (.tmp 139) (.const (.int .i64 0)) 3, 4, some (2, true)) := by subst hops; kernel_rfl
      have hgd : GdOk ops a (some (2, true)) := yielded_of (d := 130) (by subst hops; kernel_rfl) (hd 2 (by decide) (by subst hops; kernel_rfl))
      have d11 := hd 11 (by decide) (by subst hops; kernel_rfl)
      have e0 : ag a 139 = .int .i64 d := d11
      refine op_valg s hgd (w' := w) (v := .bool false) ?_ ?_
      · simp only [execOp, eval_tmp, e0]
        go_simp
      · exact PostE.put (i := 12) ho (vobd18_mem 12 hk).2 (hlt 12 hk) (fun k hk2 hne _ => vobd18_inj 12 hk k hk2 hne) (.inl (Ext.refl _ _)) rfl hg
    | 13, hk, hd =>
      have s : (ops[13]?).map sig = some (some 141, .pick (.tmp 130) (.tmp 140) (.const (.bool false)), 4, none) := by subst hops; kernel_rfl
      have hgd : GdOk ops a none := trivial
      have d2 := hd 2 (by decide) (by subst hops; kernel_rfl)
      have d12 := hd 12 (by decide) (by subst hops; kernel_rfl)
      have e0 : ag a 130 = .bool true := d2
      have e1 : ag a 140 = .bool false := d12
      refine op_valg s hgd (w' := w) (v := .bool false) ?_ ?_
      · simp only [execOp, eval_tmp, e0, e1]
        go_simp
      · exact PostE.put (i := 13) ho (vobd18_mem 13 hk).2 (hlt 13 hk) (fun k hk2 hne _ => vobd18_inj 13 hk k hk2 hne) (.inl (Ext.refl _ _)) rfl hg
    | 14, hk, hd =>
      have s : (ops[14]?).map sig = some (some 142, .move (.tmp 141), 4, none) := by subst hops; kernel_rfl
      have hgd : GdOk ops a none := trivial
      have d13 := hd 13 (by decide) (by subst hops; kernel_rfl)
      have e0 : ag a 141 = .bool false := d13
      refine op_valg s hgd (w' := w) (v := .bool false) ?_ ?_
      · exact congrArg (fun x => Result.ok (Next.value x) w) e0
      · exact PostE.put (i := 14) ho (vobd18_mem 14 hk).2 (hlt 14 hk) (fun k hk2 hne _ => vobd18_inj 14 hk k hk2 hne) (.inl (Ext.refl _ _)) rfl hg
    | 15, hk, hd =>
      have s : (ops[15]?).map sig = some (some 143, .move (.tmp 13), 51, some (14, true)) := by subst hops; kernel_rfl
      have hy : yielded ops a.tmps 14 = some false := yielded_of (d := 142) (by subst hops; kernel_rfl) (hd 14 (by decide) (by subst hops; kernel_rfl))
      refine opg_skip s hy (by decide) ?_
      exact PostE.put (i := 15) ho (vobd18_mem 15 hk).2 (hlt 15 hk) (fun k hk2 hne _ => vobd18_inj 15 hk k hk2 hne) (.inl (Ext.refl _ _)) rfl hg
    | 16, hk, hd =>
      have s : (ops[16]?).map sig = some (some 144, .move (.tmp 14), 3, some (14, true)) := by subst hops; kernel_rfl
      have hy : yielded ops a.tmps 14 = some false := yielded_of (d := 142) (by subst hops; kernel_rfl) (hd 14 (by decide) (by subst hops; kernel_rfl))
      refine opg_skip s hy (by decide) ?_
      exact PostE.put (i := 16) ho (vobd18_mem 16 hk).2 (hlt 16 hk) (fun k hk2 hne _ => vobd18_inj 16 hk k hk2 hne) (.inl (Ext.refl _ _)) rfl hg
    | 17, hk, hd =>
      have s : (ops[17]?).map sig = some (some 145, .indexAddr 51 (.tmp 143) (.tmp 144), 0, some (14, true)) := by subst hops; kernel_rfl
      have hy : yielded ops a.tmps 14 = some false := yielded_of (d := 142) (by subst hops; kernel_rfl) (hd 14 (by decide) (by subst hops; kernel_rfl))
      refine opg_skip s hy (by decide) ?_
      exact PostE.put (i := 17) ho (vobd18_mem 17 hk).2 (hlt 17 hk) (fun k hk2 hne _ => vobd18_inj 17 hk k hk2 hne) (.inl (Ext.refl _ _)) rfl hg
    | 18, hk, hd =>
      have s : (ops[18]?).map sig = some (some 146, .load 53 (.tmp 145), 53, some (14, true)) := by subst hops; kernel_rfl
      have hy : yielded ops a.tmps 14 = some false := yielded_of (d := 142) (by subst hops; kernel_rfl) (hd 14 (by decide) (by subst hops; kernel_rfl))
      refine opg_skip s hy (by decide) ?_
      exact PostE.put (i := 18) ho (vobd18_mem 18 hk).2 (hlt 18 hk) (fun k hk2 hne _ => vobd18_inj 18 hk k hk2 hne) (.inl (Ext.refl _ _)) rfl hg
    | 19, hk, hd =>
      have s : (ops[19]?).map sig = some (some 147, .move (.tmp 13), 51, some (14, true)) := by subst hops; kernel_rfl
      have hy : yielded ops a.tmps 14 = some false := yielded_of (d := 142) (by subst hops; kernel_rfl) (hd 14 (by decide) (by subst hops; kernel_rfl))
      refine opg_skip s hy (by decide) ?_
      exact PostE.put (i := 19) ho (vobd18_mem 19 hk).2 (hlt 19 hk) (fun k hk2 hne _ => vobd18_inj 19 hk k hk2 hne) (.inl (Ext.refl _ _)) rfl hg
    | 20, hk, hd =>
      have s : (ops[20]?).map sig = some (some 148, .move (.tmp 17), 3, some (14, true)) := by subst hops; kernel_rfl
      have hy : yielded ops a.tmps 14 = some false := yielded_of (d := 142) (by subst hops; kernel_rfl) (hd 14 (by decide) (by subst hops; kernel_rfl))
      refine opg_skip s hy (by decide) ?_
      exact PostE.put (i := 20) ho (vobd18_mem 20 hk).2 (hlt 20 hk) (fun k hk2 hne _ => vobd18_inj 20 hk k hk2 hne) (.inl (Ext.refl _ _)) rfl hg
    | 21, hk, hd =>
      have s : (ops[21]?).map sig = some (some 149, .indexAddr 51 (.tmp 147) (.tmp 148), 0, some (14, true)) := by subst hops; kernel_rfl
      have hy : yielded ops a.tmps 14 = some false := yielded_of (d := 142) (by subst hops; kernel_rfl) (hd 14 (by decide) (by subst hops; kernel_rfl))
      refine opg_skip s hy (by decide) ?_
      exact PostE.put (i := 21) ho (vobd18_mem 21 hk).2 (hlt 21 hk) (fun k hk2 hne _ => vobd18_inj 21 hk k hk2 hne) (.inl (Ext.refl _ _)) rfl hg
    | 22, hk, hd =>
      have s : (ops[22]?).map sig = some (some 150, .load 53 (.tmp 149), 53, some (14, true)) := by subst hops; kernel_rfl
      have hy : yielded ops a.tmps 14 = some false := yielded_of (d := 142) (by subst hops; kernel_rfl) (hd 14 (by decide) (by subst hops; kernel_rfl))
      refine opg_skip s hy (by decide) ?_
      exact PostE.put (i := 22) ho (vobd18_mem 22 hk).2 (hlt 22 hk) (fun k hk2 hne _ => vobd18_inj 22 hk k hk2 hne) (.inl (Ext.refl _ _)) rfl hg
    | 23, hk, hd =>
      have s : (ops[23]?).map sig = some (some 151, .call { callee := .value (.func 32), args := #[.tmp 146, .tmp 150], argTypes := #[53, 53] }, 3, some (14, true)) := by subst hops; kernel_rfl
      have hy : yielded ops a.tmps 14 = some false := yielded_of (d := 142) (by subst hops; kernel_rfl) (hd 14 (by decide) (by subst hops; kernel_rfl))
      refine opg_skip s hy (by decide) ?_
      exact PostE.put (i := 23) ho (vobd18_mem 23 hk).2 (hlt 23 hk) (fun k hk2 hne _ => vobd18_inj 23 hk k hk2 hne) (.inl (Ext.refl _ _)) rfl hg
    | 24, hk, hd =>
      have s : (ops[24]?).map sig = some (some 152, .binOp .gtr 3 (.tmp 151) (.const (.int .i64 0)) 3, 4, some (14, true)) := by subst hops; kernel_rfl
      have hy : yielded ops a.tmps 14 = some false := yielded_of (d := 142) (by subst hops; kernel_rfl) (hd 14 (by decide) (by subst hops; kernel_rfl))
      refine opg_skip s hy (by decide) ?_
      exact PostE.put (i := 24) ho (vobd18_mem 24 hk).2 (hlt 24 hk) (fun k hk2 hne _ => vobd18_inj 24 hk k hk2 hne) (.inl (Ext.refl _ _)) rfl hg
    | n + 25, hn, _ => exact absurd hn (by omega)
  · intro a w ho hg hf
    have s : (ops[25]?).map sig = some (some 153, .pick (.tmp 142) (.tmp 152) (.const (.bool false)), 4, none) := by subst hops; kernel_rfl
    have hgd : GdOk ops a none := trivial
    have d14 := hf 14 (by decide)
    have d24 := hf 24 (by decide)
    have e0 : ag a 142 = .bool false := d14
    have e1 : ag a 152 = undef := d24
    refine op_valg s hgd (w' := w) (v := .bool false) ?_ ?_
    · simp only [execOp, eval_tmp, e0, e1]
      go_simp
    · have ho2 : Off (vobD18 ++ [153]) a0 (a.put (some 153) (.bool false)) := (ho.mono (fun s hs => List.mem_append_left _ hs)).put (by decide)
      exact hQ (ag (a.put (some 153) (.bool false))) w (ag_put (by rw [ho.size, hsz]; decide)) hg _ (ho2.eq (fun s hs => by rw [hsz]; revert s; decide))
def vocf18 (h i k jj : Nat) (Ci Ck Cj : List Value) (X Y Z : Tr) (c d e : Int) : Nat → Value → World → Prop
  | 0, v, w => v = .int .i64 c
  | 1, v, w => v = .bool true
  | 2, v, w => v = .bool true
  | 3, v, w => v = .slice (some ⟨h, 0, none⟩) 5 5
  | 4, v, w => v = .int .i64 (k : Int)
  | 5, v, w => v = .pointer (some ⟨h, k * 3, none⟩)
  | 6, v, w => v = .agg Ck.toArray
  | 7, v, w => v = .slice (some ⟨h, 0, none⟩) 5 5
  | 8, v, w => v = .int .i64 (jj : Int)
  | 9, v, w => v = .pointer (some ⟨h, jj * 3, none⟩)
  | 10, v, w => v = .agg Cj.toArray
  | 11, v, w => v = .int .i64 d
  | 12, v, w => v = .bool true
  | 13, v, w => v = .bool true
  | 14, v, w => v = .bool true
  | 15, v, w => v = .slice (some ⟨h, 0, none⟩) 5 5
  | 16, v, w => v = .int .i64 (i : Int)
  | 17, v, w => v = .pointer (some ⟨h, i * 3, none⟩)
  | 18, v, w => v = .agg Ci.toArray
  | 19, v, w => v = .slice (some ⟨h, 0, none⟩) 5 5
  | 20, v, w => v = .int .i64 (jj : Int)
  | 21, v, w => v = .pointer (some ⟨h, jj * 3, none⟩)
  | 22, v, w => v = .agg Cj.toArray
  | 23, v, w => v = .int .i64 e
  | 24, v, w => v = .bool false
  | _, _, _ => True
theorem vocf18_ext (h i k jj : Nat) (Ci Ck Cj : List Value) (X Y Z : Tr) (c d e : Int) (S : Nat) : ∀ j v w w', j < 25 → (Ext S w w' ∨ (j ≠ 999 ∧ Never w w')) → vocf18 h i k jj Ci Ck Cj X Y Z c d e j v w → vocf18 h i k jj Ci Ck Cj X Y Z c d e j v w' := by
  intro j v w w' hj he h
  match j, hj, he, h with
  | 0, _, he, h => exact h
  | 1, _, he, h => exact h
  | 2, _, he, h => exact h
  | 3, _, he, h => exact h
  | 4, _, he, h => exact h
  | 5, _, he, h => exact h
  | 6, _, he, h => exact h
  | 7, _, he, h => exact h
  | 8, _, he, h => exact h
  | 9, _, he, h => exact h
  | 10, _, he, h => exact h
  | 11, _, he, h => exact h
  | 12, _, he, h => exact h
  | 13, _, he, h => exact h
  | 14, _, he, h => exact h
  | 15, _, he, h => exact h
  | 16, _, he, h => exact h
  | 17, _, he, h => exact h
  | 18, _, he, h => exact h
  | 19, _, he, h => exact h
  | 20, _, he, h => exact h
  | 21, _, he, h => exact h
  | 22, _, he, h => exact h
  | 23, _, he, h => exact h
  | 24, _, he, h => exact h
  | n + 25, hn, _, _ => exact absurd hn (by omega)
def vocD18 : List Nat := [128, 129, 130, 131, 132, 133, 134, 135, 136, 137, 138, 139, 140, 141, 142, 143, 144, 145, 146, 147, 148, 149, 150, 151, 152]
def vocd18 (k : Nat) : Nat := [128, 129, 130, 131, 132, 133, 134, 135, 136, 137, 138, 139, 140, 141, 142, 143, 144, 145, 146, 147, 148, 149, 150, 151, 152].getD k 0
theorem vocd18_mem : ∀ k, k < 25 → vocd18 k < 155 ∧ vocd18 k ∈ vocD18 := by decide
theorem vocd18_inj : ∀ i, i < 25 → ∀ k, k < 25 → k ≠ i → vocd18 i ≠ vocd18 k := by decide
set_option maxHeartbeats 4000000 in
set_option maxRecDepth 100000 in
theorem vocreg18 {Q : Exit → Act → World → Prop} {id : Nat} {ops : Array Oper} (hops : ops = ((Tryd.f5.body).bind (opsOf 18)).getD #[]) (a0 : Act) (w0 : World) (h i k jj : Nat) (Ci Ck Cj : List Value) (X Y Z : Tr) (c d e : Int) (hsz : a0.tmps.size = 155)
    (h13 : ag a0 13 = .slice (some ⟨h, 0, none⟩) 5 5) (h15 : ag a0 15 = .int .i64 (k : Int)) (h16 : ag a0 16 = .int .i64 c) (h17 : ag a0 17 = .int .i64 (jj : Int)) (h14 : ag a0 14 = .int .i64 (i : Int)) (hh1 : decide (c ≤ 0) = true) (hCk : w0.rangeAt h (k * 3) Ck) (lCk : Ck.length = 3) (tY : TrAt w0 Y (.agg Ck.toArray)) (hik : (k : Int) < 5) (hok : (0 : Int) ≤ (k : Int)) (hCj : w0.rangeAt h (jj * 3) Cj) (lCj : Cj.length = 3) (tZ : TrAt w0 Z (.agg Cj.toArray)) (hijj : (jj : Int) < 5) (hojj : (0 : Int) ≤ (jj : Int)) (hd2 : Y.cp Z = d) (hh2 : decide (d ≤ 0) = true) (hCi : w0.rangeAt h (i * 3) Ci) (lCi : Ci.length = 3) (tX : TrAt w0 X (.agg Ci.toArray)) (hii : (i : Int) < 5) (hoi : (0 : Int) ≤ (i : Int)) (he2 : X.cp Z = e) (hh3 : decide (0 < e) = false)
    (hQ : ∀ (vs : Nat → Value) (w' : World), vs 153 = .bool false → Below w0.heap.size w0 w' → ∀ a', a' = (vocD18 ++ [153]).foldl (fun b s => b.put (some s) (vs s)) a0 → Q .normal a' w') :
    (Code.region id ops true).wp Tryd.prog Q a0 w0 := by
  have hg0 : Below w0.heap.size w0 w0.drew := below_drewN (Below.refl _ _) 1
  have hlt : ∀ k, k < 25 → vocd18 k < a0.tmps.size := fun k hk => by have := (vocd18_mem k hk).1; omega
  refine wp_region_factsE 25 999 vocD18 vocd18 (vocf18 h i k jj Ci Ck Cj X Y Z c d e) (fun w => Below w0.heap.size w0 w) w0.heap.size Never (fun k => k) (by kernel_rfl) (by subst hops; kernel_rfl) (by subst hops; kernel_rfl) (by subst hops; kernel_rfl) (vocf18_ext h i k jj Ci Ck Cj X Y Z c d e w0.heap.size) hg0 ?_ ?_
  · intro j a w hj ho hg hd
    have hgs := hg.size
    match j, hj, hd with
    | 0, hk, hd =>
      have s : (ops[0]?).map sig = some (some 128, .move (.tmp 16), 3, none) := by subst hops; kernel_rfl
      have hgd : GdOk ops a none := trivial
      have e0 : ag a 16 = .int .i64 c := (ho.off 16 (by decide)).trans h16
      refine op_valg s hgd (w' := w) (v := .int .i64 c) ?_ ?_
      · exact congrArg (fun x => Result.ok (Next.value x) w) e0
      · exact PostE.put (i := 0) ho (vocd18_mem 0 hk).2 (hlt 0 hk) (fun k hk2 hne _ => vocd18_inj 0 hk k hk2 hne) (.inl (Ext.refl _ _)) rfl hg
    | 1, hk, hd =>
      have s : (ops[1]?).map sig = some (some 129, .binOp .leq 3 (.tmp 128) (.const (.int .i64 0)) 3, 4, none) := by subst hops; kernel_rfl
      have hgd : GdOk ops a none := trivial
      have d0 := hd 0 (by decide) (by subst hops; kernel_rfl)
      have e0 : ag a 128 = .int .i64 c := d0
      refine op_valg s hgd (w' := w) (v := .bool true) ?_ ?_
      · simp only [execOp, eval_tmp, e0]
        go_simp
      · exact PostE.put (i := 1) ho (vocd18_mem 1 hk).2 (hlt 1 hk) (fun k hk2 hne _ => vocd18_inj 1 hk k hk2 hne) (.inl (Ext.refl _ _)) rfl hg
    | 2, hk, hd =>
      have s : (ops[2]?).map sig = some (some 130, .move (.tmp 129), 4, none) := by subst hops; kernel_rfl
      have hgd : GdOk ops a none := trivial
      have d1 := hd 1 (by decide) (by subst hops; kernel_rfl)
      have e0 : ag a 129 = .bool true := d1
      refine op_valg s hgd (w' := w) (v := .bool true) ?_ ?_
      · exact congrArg (fun x => Result.ok (Next.value x) w) e0
      · exact PostE.put (i := 2) ho (vocd18_mem 2 hk).2 (hlt 2 hk) (fun k hk2 hne _ => vocd18_inj 2 hk k hk2 hne) (.inl (Ext.refl _ _)) rfl hg
    | 3, hk, hd =>
      have s : (ops[3]?).map sig = some (some 131, .move (.tmp 13), 51, some (2, true)) := by subst hops; kernel_rfl
      have hgd : GdOk ops a (some (2, true)) := yielded_of (d := 130) (by subst hops; kernel_rfl) (hd 2 (by decide) (by subst hops; kernel_rfl))
      have e0 : ag a 13 = .slice (some ⟨h, 0, none⟩) 5 5 := (ho.off 13 (by decide)).trans h13
      refine op_valg s hgd (w' := w) (v := .slice (some ⟨h, 0, none⟩) 5 5) ?_ ?_
      · exact congrArg (fun x => Result.ok (Next.value x) w) e0
      · exact PostE.put (i := 3) ho (vocd18_mem 3 hk).2 (hlt 3 hk) (fun k hk2 hne _ => vocd18_inj 3 hk k hk2 hne) (.inl (Ext.refl _ _)) rfl hg
    | 4, hk, hd =>
      have s : (ops[4]?).map sig = some (some 132, .move (.tmp 15), 3, some (2, true)) := by subst hops; kernel_rfl
      have hgd : GdOk ops a (some (2, true)) := yielded_of (d := 130) (by subst hops; kernel_rfl) (hd 2 (by decide) (by subst hops; kernel_rfl))
      have e0 : ag a 15 = .int .i64 (k : Int) := (ho.off 15 (by decide)).trans h15
      refine op_valg s hgd (w' := w) (v := .int .i64 (k : Int)) ?_ ?_
      · exact congrArg (fun x => Result.ok (Next.value x) w) e0
      · exact PostE.put (i := 4) ho (vocd18_mem 4 hk).2 (hlt 4 hk) (fun k hk2 hne _ => vocd18_inj 4 hk k hk2 hne) (.inl (Ext.refl _ _)) rfl hg
    | 5, hk, hd =>
      have s : (ops[5]?).map sig = some (some 133, .indexAddr 51 (.tmp 131) (.tmp 132), 0, some (2, true)) := by subst hops; kernel_rfl
      have hgd : GdOk ops a (some (2, true)) := yielded_of (d := 130) (by subst hops; kernel_rfl) (hd 2 (by decide) (by subst hops; kernel_rfl))
      have d3 := hd 3 (by decide) (by subst hops; kernel_rfl)
      have d4 := hd 4 (by decide) (by subst hops; kernel_rfl)
      have e0 : ag a 131 = .slice (some ⟨h, 0, none⟩) 5 5 := d3
      have e1 : ag a 132 = .int .i64 (k : Int) := d4
      refine op_valg s hgd (w' := w) (v := .pointer (some ⟨h, k * 3, none⟩)) ?_ ?_
      · simp only [execOp, eval_tmp, e0, e1]
        go_simp
      · exact PostE.put (i := 5) ho (vocd18_mem 5 hk).2 (hlt 5 hk) (fun k hk2 hne _ => vocd18_inj 5 hk k hk2 hne) (.inl (Ext.refl _ _)) rfl hg
    | 6, hk, hd =>
      have s : (ops[6]?).map sig = some (some 134, .load 53 (.tmp 133), 53, some (2, true)) := by subst hops; kernel_rfl
      have hgd : GdOk ops a (some (2, true)) := yielded_of (d := 130) (by subst hops; kernel_rfl) (hd 2 (by decide) (by subst hops; kernel_rfl))
      have d5 := hd 5 (by decide) (by subst hops; kernel_rfl)
      have e0 : ag a 133 = .pointer (some ⟨h, k * 3, none⟩) := d5
      refine op_loadg s hgd h (k * 3) e0 Ck _ (range_below hCk hg) Tryd.underlying53 rfl (by rw [lCk]; exact info_val) ?_
      exact PostE.put (i := 6) ho (vocd18_mem 6 hk).2 (hlt 6 hk) (fun k hk2 hne _ => vocd18_inj 6 hk k hk2 hne) (.inl (Ext.refl _ _)) rfl hg
    | 7, hk, hd =>
      have s : (ops[7]?).map sig = some (some 135, .move (.tmp 13), 51, some (2, true)) := by subst hops; kernel_rfl
      have hgd : GdOk ops a (some (2, true)) := yielded_of (d := 130) (by subst hops; kernel_rfl) (hd 2 (by decide) (by subst hops; kernel_rfl))
      have e0 : ag a 13 = .slice (some ⟨h, 0, none⟩) 5 5 := (ho.off 13 (by decide)).trans h13
      refine op_valg s hgd (w' := w) (v := .slice (some ⟨h, 0, none⟩) 5 5) ?_ ?_
      · exact congrArg (fun x => Result.ok (Next.value x) w) e0
      · exact PostE.put (i := 7) ho (vocd18_mem 7 hk).2 (hlt 7 hk) (fun k hk2 hne _ => vocd18_inj 7 hk k hk2 hne) (.inl (Ext.refl _ _)) rfl hg
    | 8, hk, hd =>
      have s : (ops[8]?).map sig = some (some 136, .move (.tmp 17), 3, some (2, true)) := by subst hops; kernel_rfl
      have hgd : GdOk ops a (some (2, true)) := yielded_of (d := 130) (by subst hops; kernel_rfl) (hd 2 (by decide) (by subst hops; kernel_rfl))
      have e0 : ag a 17 = .int .i64 (jj : Int) := (ho.off 17 (by decide)).trans h17
      refine op_valg s hgd (w' := w) (v := .int .i64 (jj : Int)) ?_ ?_
      · exact congrArg (fun x => Result.ok (Next.value x) w) e0
      · exact PostE.put (i := 8) ho (vocd18_mem 8 hk).2 (hlt 8 hk) (fun k hk2 hne _ => vocd18_inj 8 hk k hk2 hne) (.inl (Ext.refl _ _)) rfl hg
    | 9, hk, hd =>
      have s : (ops[9]?).map sig = some (some 137, .indexAddr 51 (.tmp 135) (.tmp 136), 0, some (2, true)) := by subst hops; kernel_rfl
      have hgd : GdOk ops a (some (2, true)) := yielded_of (d := 130) (by subst hops; kernel_rfl) (hd 2 (by decide) (by subst hops; kernel_rfl))
      have d7 := hd 7 (by decide) (by subst hops; kernel_rfl)
      have d8 := hd 8 (by decide) (by subst hops; kernel_rfl)
      have e0 : ag a 135 = .slice (some ⟨h, 0, none⟩) 5 5 := d7
      have e1 : ag a 136 = .int .i64 (jj : Int) := d8
      refine op_valg s hgd (w' := w) (v := .pointer (some ⟨h, jj * 3, none⟩)) ?_ ?_
      · simp only [execOp, eval_tmp, e0, e1]
        go_simp
      · exact PostE.put (i := 9) ho (vocd18_mem 9 hk).2 (hlt 9 hk) (fun k hk2 hne _ => vocd18_inj 9 hk k hk2 hne) (.inl (Ext.refl _ _)) rfl hg
    | 10, hk, hd =>
      have s : (ops[10]?).map sig = some (some 138, .load 53 (.tmp 137), 53, some (2, true)) := by subst hops; kernel_rfl
      have hgd : GdOk ops a (some (2, true)) := yielded_of (d := 130) (by subst hops; kernel_rfl) (hd 2 (by decide) (by subst hops; kernel_rfl))
      have d9 := hd 9 (by decide) (by subst hops; kernel_rfl)
      have e0 : ag a 137 = .pointer (some ⟨h, jj * 3, none⟩) := d9
      refine op_loadg s hgd h (jj * 3) e0 Cj _ (range_below hCj hg) Tryd.underlying53 rfl (by rw [lCj]; exact info_val) ?_
      exact PostE.put (i := 10) ho (vocd18_mem 10 hk).2 (hlt 10 hk) (fun k hk2 hne _ => vocd18_inj 10 hk k hk2 hne) (.inl (Ext.refl _ _)) rfl hg
    | 11, hk, hd =>
      have s : (ops[11]?).map sig = some (some 139, .call { callee := .value (.func 32), args := #[.tmp 134, .tmp 138], argTypes := #[53, 53] }, 3, some (2, true)) := by subst hops; kernel_rfl
      have hgd : GdOk ops a (some (2, true)) := yielded_of (d := 130) (by subst hops; kernel_rfl) (hd 2 (by decide) (by subst hops; kernel_rfl))
      have d6 := hd 6 (by decide) (by subst hops; kernel_rfl)
      have d10 := hd 10 (by decide) (by subst hops; kernel_rfl)
      have e0 : ag a 134 = .agg Ck.toArray := d6
      have e1 : ag a 138 = .agg Cj.toArray := d10
      refine op_callg s hgd (w' := w) (f := 32) (args := #[.agg Ck.toArray, .agg Cj.toArray]) ?_ ?_
      · simp only [execOp]
        go_simp
        refine ⟨by simpa [ag] using e0, by simpa [ag] using e1⟩
      · refine ((show Calls Tryd.prog _ _ w (NumRes d w) from hd2 ▸ compare_any Y.nodes Y (Nat.le_refl _) Z w _ _ (tY.later hg) (tZ.later hg))).mono ?_
        rintro e w' ⟨rfl, hb⟩
        exact ⟨_, rfl, PostE.put (i := 11) ho (vocd18_mem 11 hk).2 (hlt 11 hk) (fun k hk2 hne _ => vocd18_inj 11 hk k hk2 hne) (.inl (Ext.of hb)) rfl (later hg hb)⟩
    | 12, hk, hd =>
      have s : (ops[12]?).map sig = some (some 140, .binOp .leq 3 (.tmp 139) (.const (.int .i64 0)) 3, 4, some (2, true)) := by subst hops; kernel_rfl
      have hgd : GdOk ops a (some (2, true)) := yielded_of (d := 130) (by subst hops; kernel_rfl) (hd 2 (by decide) (by subst hops; kernel_rfl))
      have d11 := hd 11 (by decide) (by subst hops; kernel_rfl)
      have e0 : ag a 139 = .int .i64 d := d11
      refine op_valg s hgd (w' := w) (v := .bool true) ?_ ?_
      · simp only [execOp, eval_tmp, e0]
        go_simp
      · exact PostE.put (i := 12) ho (vocd18_mem 12 hk).2 (hlt 12 hk) (fun k hk2 hne _ => vocd18_inj 12 hk k hk2 hne) (.inl (Ext.refl _ _)) rfl hg
    | 13, hk, hd =>
      have s : (ops[13]?).map sig = some (some 141, .pick (.tmp 130) (.tmp 140) (.const (.bool false)), 4, none) := by subst hops; kernel_rfl
      have hgd : GdOk ops a none := trivial
      have d2 := hd 2 (by decide) (by subst hops; kernel_rfl)
      have d12 := hd 12 (by decide) (by subst hops; kernel_rfl)
      have e0 : ag a 130 = .bool true := d2
      have e1 : ag a 140 = .bool true := d12
      refine op_valg s hgd (w' := w) (v := .bool true) ?_ ?_
      · simp only [execOp, eval_tmp, e0, e1]
        go_simp
      · exact PostE.put (i := 13) ho (vocd18_mem 13 hk).2 (hlt 13 hk) (fun k hk2 hne _ => vocd18_inj 13 hk k hk2 hne) (.inl (Ext.refl _ _)) rfl hg
    | 14, hk, hd =>
      have s : (ops[14]?).map sig = some (some 142, .move (.tmp 141), 4, none) := by subst hops; kernel_rfl
      have hgd : GdOk ops a none := trivial
      have d13 := hd 13 (by decide) (by subst hops; kernel_rfl)
      have e0 : ag a 141 = .bool true := d13
      refine op_valg s hgd (w' := w) (v := .bool true) ?_ ?_
      · exact congrArg (fun x => Result.ok (Next.value x) w) e0
      · exact PostE.put (i := 14) ho (vocd18_mem 14 hk).2 (hlt 14 hk) (fun k hk2 hne _ => vocd18_inj 14 hk k hk2 hne) (.inl (Ext.refl _ _)) rfl hg
    | 15, hk, hd =>
      have s : (ops[15]?).map sig = some (some 143, .move (.tmp 13), 51, some (14, true)) := by subst hops; kernel_rfl
      have hgd : GdOk ops a (some (14, true)) := yielded_of (d := 142) (by subst hops; kernel_rfl) (hd 14 (by decide) (by subst hops; kernel_rfl))
      have e0 : ag a 13 = .slice (some ⟨h, 0, none⟩) 5 5 := (ho.off 13 (by decide)).trans h13
      refine op_valg s hgd (w' := w) (v := .slice (some ⟨h, 0, none⟩) 5 5) ?_ ?_
      · exact congrArg (fun x => Result.ok (Next.value x) w) e0
      · exact PostE.put (i := 15) ho (vocd18_mem 15 hk).2 (hlt 15 hk) (fun k hk2 hne _ => vocd18_inj 15 hk k hk2 hne) (.inl (Ext.refl _ _)) rfl hg
    | 16, hk, hd =>
      have s : (ops[16]?).map sig = some (some 144, .move (.tmp 14), 3, some (14, true)) := by subst hops; kernel_rfl
      have hgd : GdOk ops a (some (14, true)) := yielded_of (d := 142) (by subst hops; kernel_rfl) (hd 14 (by decide) (by subst hops; kernel_rfl))
      have e0 : ag a 14 = .int .i64 (i : Int) := (ho.off 14 (by decide)).trans h14
      refine op_valg s hgd (w' := w) (v := .int .i64 (i : Int)) ?_ ?_
      · exact congrArg (fun x => Result.ok (Next.value x) w) e0
      · exact PostE.put (i := 16) ho (vocd18_mem 16 hk).2 (hlt 16 hk) (fun k hk2 hne _ => vocd18_inj 16 hk k hk2 hne) (.inl (Ext.refl _ _)) rfl hg
    | 17, hk, hd =>
      have s : (ops[17]?).map sig = some (some 145, .indexAddr 51 (.tmp 143) (.tmp 144), 0, some (14, true)) := by subst hops; kernel_rfl
      have hgd : GdOk ops a (some (14, true)) := yielded_of (d := 142) (by subst hops; kernel_rfl) (hd 14 (by decide) (by subst hops; kernel_rfl))
      have d15 := hd 15 (by decide) (by subst hops; kernel_rfl)
      have d16 := hd 16 (by decide) (by subst hops; kernel_rfl)
      have e0 : ag a 143 = .slice (some ⟨h, 0, none⟩) 5 5 := d15
      have e1 : ag a 144 = .int .i64 (i : Int) := d16
      refine op_valg s hgd (w' := w) (v := .pointer (some ⟨h, i * 3, none⟩)) ?_ ?_
      · simp only [execOp, eval_tmp, e0, e1]
        go_simp
      · exact PostE.put (i := 17) ho (vocd18_mem 17 hk).2 (hlt 17 hk) (fun k hk2 hne _ => vocd18_inj 17 hk k hk2 hne) (.inl (Ext.refl _ _)) rfl hg
    | 18, hk, hd =>
      have s : (ops[18]?).map sig = some (some 146, .load 53 (.tmp 145), 53, some (14, true)) := by subst hops; kernel_rfl
      have hgd : GdOk ops a (some (14, true)) := yielded_of (d := 142) (by subst hops; kernel_rfl) (hd 14 (by decide) (by subst hops; kernel_rfl))
      have d17 := hd 17 (by decide) (by subst hops; kernel_rfl)
      have e0 : ag a 145 = .pointer (some ⟨h, i * 3, none⟩) := d17
      refine op_loadg s hgd h (i * 3) e0 Ci _ (range_below hCi hg) Tryd.underlying53 rfl (by rw [lCi]; exact info_val) ?_
      exact PostE.put (i := 18) ho (vocd18_mem 18 hk).2 (hlt 18 hk) (fun k hk2 hne _ => vocd18_inj 18 hk k hk2 hne) (.inl (Ext.refl _ _)) rfl hg
    | 19, hk, hd =>
      have s : (ops[19]?).map sig = some (some 147, .move (.tmp 13), 51, some (14, true)) := by subst hops; kernel_rfl
      have hgd : GdOk ops a (some (14, true)) := yielded_of (d := 142) (by subst hops; kernel_rfl) (hd 14 (by decide) (by subst hops; kernel_rfl))
      have e0 : ag a 13 = .slice (some ⟨h, 0, none⟩) 5 5 := (ho.off 13 (by decide)).trans h13
      refine op_valg s hgd (w' := w) (v := .slice (some ⟨h, 0, none⟩) 5 5) ?_ ?_
      · exact congrArg (fun x => Result.ok (Next.value x) w) e0
      · exact PostE.put (i := 19) ho (vocd18_mem 19 hk).2 (hlt 19 hk) (fun k hk2 hne _ => vocd18_inj 19 hk k hk2 hne) (.inl (Ext.refl _ _)) rfl hg
    | 20, hk, hd =>
      have s : (ops[20]?).map sig = some (some 148, .move (.tmp 17), 3, some (14, true)) := by subst hops; kernel_rfl
      have hgd : GdOk ops a (some (14, true)) := yielded_of (d := 142) (by subst hops; kernel_rfl) (hd 14 (by decide) (by subst hops; kernel_rfl))
      have e0 : ag a 17 = .int .i64 (jj : Int) := (ho.off 17 (by decide)).trans h17
      refine op_valg s hgd (w' := w) (v := .int .i64 (jj : Int)) ?_ ?_
      · exact congrArg (fun x => Result.ok (Next.value x) w) e0
      · exact PostE.put (i := 20) ho (vocd18_mem 20 hk).2 (hlt 20 hk) (fun k hk2 hne _ => vocd18_inj 20 hk k hk2 hne) (.inl (Ext.refl _ _)) rfl hg
    | 21, hk, hd =>
      have s : (ops[21]?).map sig = some (some 149, .indexAddr 51 (.tmp 147) (.tmp 148), 0, some (14, true)) := by subst hops; kernel_rfl
      have hgd : GdOk ops a (some (14, true)) := yielded_of (d := 142) (by subst hops; kernel_rfl) (hd 14 (by decide) (by subst hops; kernel_rfl))
      have d19 := hd 19 (by decide) (by subst hops; kernel_rfl)
      have d20 := hd 20 (by decide) (by subst hops; kernel_rfl)
      have e0 : ag a 147 = .slice (some ⟨h, 0, none⟩) 5 5 := d19
      have e1 : ag a 148 = .int .i64 (jj : Int) := d20
      refine op_valg s hgd (w' := w) (v := .pointer (some ⟨h, jj * 3, none⟩)) ?_ ?_
      · simp only [execOp, eval_tmp, e0, e1]
        go_simp
      · exact PostE.put (i := 21) ho (vocd18_mem 21 hk).2 (hlt 21 hk) (fun k hk2 hne _ => vocd18_inj 21 hk k hk2 hne) (.inl (Ext.refl _ _)) rfl hg
    | 22, hk, hd =>
      have s : (ops[22]?).map sig = some (some 150, .load 53 (.tmp 149), 53, some (14, true)) := by subst hops; kernel_rfl
      have hgd : GdOk ops a (some (14, true)) := yielded_of (d := 142) (by subst hops; kernel_rfl) (hd 14 (by decide) (by subst hops; kernel_rfl))
      have d21 := hd 21 (by decide) (by subst hops; kernel_rfl)
      have e0 : ag a 149 = .pointer (some ⟨h, jj * 3, none⟩) := d21
      refine op_loadg s hgd h (jj * 3) e0 Cj _ (range_below hCj hg) Tryd.underlying53 rfl (by rw [lCj]; exact info_val) ?_
      exact PostE.put (i := 22) ho (vocd18_mem 22 hk).2 (hlt 22 hk) (fun k hk2 hne _ => vocd18_inj 22 hk k hk2 hne) (.inl (Ext.refl _ _)) rfl hg
    | 23, hk, hd =>
      have s : (ops[23]?).map sig = some (some 151, .call { callee := .value (.func 32), args := #[.tmp 146, .tmp 150], argTypes := #[53, 53] }, 3, some (14, true)) := by subst hops; kernel_rfl
      have hgd : GdOk ops a (some (14, true)) := yielded_of (d := 142) (by subst hops; kernel_rfl) (hd 14 (by decide) (by subst hops; kernel_rfl))
      have d18 := hd 18 (by decide) (by subst hops; kernel_rfl)
      have d22 := hd 22 (by decide) (by subst hops; kernel_rfl)
      have e0 : ag a 146 = .agg Ci.toArray := d18
      have e1 : ag a 150 = .agg Cj.toArray := d22
      refine op_callg s hgd (w' := w) (f := 32) (args := #[.agg Ci.toArray, .agg Cj.toArray]) ?_ ?_
      · simp only [execOp]
        go_simp
        refine ⟨by simpa [ag] using e0, by simpa [ag] using e1⟩
      · refine ((show Calls Tryd.prog _ _ w (NumRes e w) from he2 ▸ compare_any X.nodes X (Nat.le_refl _) Z w _ _ (tX.later hg) (tZ.later hg))).mono ?_
        rintro e w' ⟨rfl, hb⟩
        exact ⟨_, rfl, PostE.put (i := 23) ho (vocd18_mem 23 hk).2 (hlt 23 hk) (fun k hk2 hne _ => vocd18_inj 23 hk k hk2 hne) (.inl (Ext.of hb)) rfl (later hg hb)⟩
    | 24, hk, hd =>
      have s : (ops[24]?).map sig = some (some 152, .binOp .gtr 3 (.tmp 151) (.const (.int .i64 0)) 3, 4, some (14, true)) := by subst hops; kernel_rfl
      have hgd : GdOk ops a (some (14, true)) := yielded_of (d := 142) (by subst hops; kernel_rfl) (hd 14 (by decide) (by subst hops; kernel_rfl))
      have d23 := hd 23 (by decide) (by subst hops; kernel_rfl)
      have e0 : ag a 151 = .int .i64 e := d23
      refine op_valg s hgd (w' := w) (v := .bool false) ?_ ?_
      · simp only [execOp, eval_tmp, e0]
        go_simp
      · exact PostE.put (i := 24) ho (vocd18_mem 24 hk).2 (hlt 24 hk) (fun k hk2 hne _ => vocd18_inj 24 hk k hk2 hne) (.inl (Ext.refl _ _)) rfl hg
    | n + 25, hn, _ => exact absurd hn (by omega)
  · intro a w ho hg hf
    have s : (ops[25]?).map sig = some (some 153, .pick (.tmp 142) (.tmp 152) (.const (.bool false)), 4, none) := by subst hops; kernel_rfl
    have hgd : GdOk ops a none := trivial
    have d14 := hf 14 (by decide)
    have d24 := hf 24 (by decide)
    have e0 : ag a 142 = .bool true := d14
    have e1 : ag a 152 = .bool false := d24
    refine op_valg s hgd (w' := w) (v := .bool false) ?_ ?_
    · simp only [execOp, eval_tmp, e0, e1]
      go_simp
    · have ho2 : Off (vocD18 ++ [153]) a0 (a.put (some 153) (.bool false)) := (ho.mono (fun s hs => List.mem_append_left _ hs)).put (by decide)
      exact hQ (ag (a.put (some 153) (.bool false))) w (ag_put (by rw [ho.size, hsz]; decide)) hg _ (ho2.eq (fun s hs => by rw [hsz]; revert s; decide))
end Go.Proofs.YtjbleefpafnhhaaDoor

