import Derived.Test.YtkpoiljioadfgaaDoorX03
import Derived.Test.YtkpoiljioadfgaaDoorX05
import Derived.Test.YtkpoiljioadfgaaDoorX16
import Derived.Test.YtkpoiljioadfgaaDoorX23
import Derived.Test.YtkpoiljioadfgaaDoorX26
import Derived.Test.YtkpoiljioadfgaaDoorX27

set_option linter.unusedVariables false
set_option linter.unusedSimpArgs false
namespace Go.Proofs.YtkpoiljioadfgaaDoor
open Go.RowKit
def vtf22 (ga gb gc m cm ac bc cc : Nat) (f : Bool) (ia ib ic : Int) (c0 c1 c2 a3 a4 a5 a6 b3 b4 b5 b6 c3 c4 c5 c6 : Value) (nm : ByteArray) (aA bA cA : Option Addr) (aY bY cY : List Value) : Nat → Value → World → Prop
  | 0, v, w => v = .bool f
  | 1, v, w => v = .bool f
  | 2, v, w => v = .bool true
  | 3, v, w => v = .bool true
  | 4, v, w => v = .pointer (some ⟨ga, 0, none⟩)
  | 5, v, w => v = .agg #[.int .i64 ia, .int .i64 ib, .int .i64 ic]
  | 6, v, w => v = .pointer (some ⟨gb, 0, none⟩)
  | 7, v, w => v = .agg #[.int .i64 ia, .int .i64 ib, .int .i64 ic]
  | 8, v, w => v = .bool true
  | 9, v, w => v = .bool true
  | 10, v, w => v = .bool true
  | 11, v, w => v = .pointer (some ⟨ga, 7, none⟩)
  | 12, v, w => v = .string nm
  | 13, v, w => v = .pointer (some ⟨gb, 7, none⟩)
  | 14, v, w => v = .string nm
  | 15, v, w => v = .bool true
  | 16, v, w => v = .bool true
  | 17, v, w => v = .bool true
  | 18, v, w => v = .pointer (some ⟨ga, 8, none⟩)
  | 19, v, w => v = .slice aA m ac
  | 20, v, w => v = .int .i64 (m : Int)
  | 21, v, w => v = .pointer (some ⟨gb, 8, none⟩)
  | 22, v, w => v = .slice bA m bc
  | 23, v, w => v = .int .i64 (m : Int)
  | 24, v, w => v = .bool true
  | 25, v, w => v = .bool true
  | 26, v, w => v = .bool true
  | 27, v, w => v = .bool true
  | 28, v, w => v = .bool true
  | 29, v, w => v = .bool true
  | 30, v, w => v = .pointer (some ⟨gc, 7, none⟩)
  | 31, v, w => v = .string ⟨#[80, 111, 105, 110, 116]⟩
  | 32, v, w => v = .bool true
  | 33, v, w => v = .bool true
  | 34, v, w => v = .bool true
  | 35, v, w => v = .bool true
  | 36, v, w => v = .bool true
  | _, _, _ => True
theorem vtf22_ext (ga gb gc m cm ac bc cc : Nat) (f : Bool) (ia ib ic : Int) (c0 c1 c2 a3 a4 a5 a6 b3 b4 b5 b6 c3 c4 c5 c6 : Value) (nm : ByteArray) (aA bA cA : Option Addr) (aY bY cY : List Value) (S : Nat) : ∀ j v w w', j < 37 → (Ext S w w' ∨ (j ≠ 999 ∧ Never w w')) → vtf22 ga gb gc m cm ac bc cc f ia ib ic c0 c1 c2 a3 a4 a5 a6 b3 b4 b5 b6 c3 c4 c5 c6 nm aA bA cA aY bY cY j v w → vtf22 ga gb gc m cm ac bc cc f ia ib ic c0 c1 c2 a3 a4 a5 a6 b3 b4 b5 b6 c3 c4 c5 c6 nm aA bA cA aY bY cY j v w' := by
  intro j v w w' hj he h
  match j, hj, he, h with
  | 0, _, he, h => exact h
  | 1, _, he, h => exact h
  | 2, _, he, h => exact h
  | 3, _, he, h => exact h
  | 4, _, he, h => exact h
  | 5, _, he, h => exact h
  | 6, _, he, h => exact h
  | 7, _, he, h => exact h
  | 8, _, he, h => exact h
  | 9, _, he, h => exact h
  | 10, _, he, h => exact h
  | 11, _, he, h => exact h
  | 12, _, he, h => exact h
  | 13, _, he, h => exact h
  | 14, _, he, h => exact h
  | 15, _, he, h => exact h
  | 16, _, he, h => exact h
  | 17, _, he, h => exact h
  | 18, _, he, h => exact h
  | 19, _, he, h => exact h
  | 20, _, he, h => exact h
  | 21, _, he, h => exact h
  | 22, _, he, h => exact h
  | 23, _, he, h => exact h
  | 24, _, he, h => exact h
  | 25, _, he, h => exact h
  | 26, _, he, h => exact h
  | 27, _, he, h => exact h
  | 28, _, he, h => exact h
  | 29, _, he, h => exact h
  | 30, _, he, h => exact h
  | 31, _, he, h => exact h
  | 32, _, he, h => exact h
  | 33, _, he, h => exact h
  | 34, _, he, h => exact h
  | 35, _, he, h => exact h
  | 36, _, he, h => exact h
  | n + 37, hn, _, _ => exact absurd hn (by omega)
def vtD22 : List Nat := [127, 128, 129, 130, 131, 132, 133, 134, 135, 136, 137, 138, 139, 140, 141, 142, 143, 144, 145, 146, 147, 148, 149, 150, 151, 152, 153, 154, 155, 156, 157, 158, 159, 160, 161, 162, 163]
def vtd22 (k : Nat) : Nat := [127, 128, 129, 130, 131, 132, 133, 134, 135, 136, 137, 138, 139, 140, 141, 142, 143, 144, 145, 146, 147, 148, 149, 150, 151, 152, 153, 154, 155, 156, 157, 158, 159, 160, 161, 162, 163].getD k 0
theorem vtd22_mem : ∀ k, k < 37 → vtd22 k < 164 ∧ vtd22 k ∈ vtD22 := by decide
theorem vtd22_inj : ∀ i, i < 37 → ∀ k, k < 37 → k ≠ i → vtd22 i ≠ vtd22 k := by decide
set_option maxHeartbeats 4000000 in
set_option maxRecDepth 100000 in
theorem vtreg22 {Q : Exit → Act → World → Prop} {id : Nat} {ops : Array Oper} (hops : ops = ((Tryd.f3.body).bind (opsOf 22)).getD #[]) (a0 : Act) (w0 : World) (ga gb gc m cm ac bc cc : Nat) (f : Bool) (ia ib ic : Int) (c0 c1 c2 a3 a4 a5 a6 b3 b4 b5 b6 c3 c4 c5 c6 : Value) (nm : ByteArray) (aA bA cA : Option Addr) (aY bY cY : List Value) (hsz : a0.tmps.size = 164)
    (h20 : ag a0 20 = .pointer (some ⟨ga, 0, none⟩)) (h21 : ag a0 21 = .bool f) (h22 : ag a0 22 = .pointer (some ⟨gb, 0, none⟩)) (h23 : ag a0 23 = .bool f) (h24 : ag a0 24 = .pointer (some ⟨gc, 0, none⟩)) (h25 : ag a0 25 = .bool true) (haga : Arr w0 ga 31 46 ([.int .i64 ia, .int .i64 ib, .int .i64 ic, a3, a4, a5, a6, .string nm, .slice aA m ac] ++ aY)) (hagb : Arr w0 gb 31 46 ([.int .i64 ia, .int .i64 ib, .int .i64 ic, b3, b4, b5, b6, .string nm, .slice bA m bc] ++ bY)) (hagc : Arr w0 gc 31 46 ([c0, c1, c2, c3, c4, c5, c6, .string ⟨#[80, 111, 105, 110, 116]⟩, .slice cA cm cc] ++ cY)) (hrga : w0.rangeAt ga 0 [.int .i64 ia, .int .i64 ib, .int .i64 ic]) (hrgb : w0.rangeAt gb 0 [.int .i64 ia, .int .i64 ib, .int .i64 ic]) (hK : Kv w0)
    (hQ : ∀ (vs : Nat → Value) (w' : World), vs 12 = .bool true → Below w0.heap.size w0 w' → ∀ a', a' = (vtD22 ++ [12]).foldl (fun b s => b.put (some s) (vs s)) a0 → Q .normal a' w') :
    (Code.region id ops false).wp Tryd.prog Q a0 w0 := by
  have hg0 : Below w0.heap.size w0 w0 := Below.refl _ _
  have hlt : ∀ k, k < 37 → vtd22 k < a0.tmps.size := fun k hk => by have := (vtd22_mem k hk).1; omega
  refine wp_region_seqE 37 999 vtD22 vtd22 (vtf22 ga gb gc m cm ac bc cc f ia ib ic c0 c1 c2 a3 a4 a5 a6 b3 b4 b5 b6 c3 c4 c5 c6 nm aA bA cA aY bY cY) (fun w => Below w0.heap.size w0 w) w0.heap.size Never (by subst hops; kernel_rfl) (by subst hops; kernel_rfl) (vtf22_ext ga gb gc m cm ac bc cc f ia ib ic c0 c1 c2 a3 a4 a5 a6 b3 b4 b5 b6 c3 c4 c5 c6 nm aA bA cA aY bY cY w0.heap.size) hg0 ?_ ?_
  · intro j a w hj ho hg hd
    have hgs := hg.size
    match j, hj, hd with
    | 0, hk, hd =>
      have s : (ops[0]?).map sig = some (some 127, .move (.tmp 21), 4, none) := by subst hops; kernel_rfl
      have hgd : GdOk ops a none := trivial
      have e0 : ag a 21 = .bool f := (ho.off 21 (by decide)).trans h21
      refine op_valg s hgd (w' := w) (v := .bool f) ?_ ?_
      · exact congrArg (fun x => Result.ok (Next.value x) w) e0
      · exact PostE.put (i := 0) ho (vtd22_mem 0 hk).2 (hlt 0 hk) (fun k hk2 hne _ => vtd22_inj 0 hk k hk2 hne) (.inl (Ext.refl _ _)) rfl hg
    | 1, hk, hd =>
      have s : (ops[1]?).map sig = some (some 128, .move (.tmp 23), 4, none) := by subst hops; kernel_rfl
      have hgd : GdOk ops a none := trivial
      have e0 : ag a 23 = .bool f := (ho.off 23 (by decide)).trans h23
      refine op_valg s hgd (w' := w) (v := .bool f) ?_ ?_
      · exact congrArg (fun x => Result.ok (Next.value x) w) e0
      · exact PostE.put (i := 1) ho (vtd22_mem 1 hk).2 (hlt 1 hk) (fun k hk2 hne _ => vtd22_inj 1 hk k hk2 hne) (.inl (Ext.refl _ _)) rfl hg
    | 2, hk, hd =>
      have s : (ops[2]?).map sig = some (some 129, .binOp .eql 4 (.tmp 127) (.tmp 128) 4, 4, none) := by subst hops; kernel_rfl
      have hgd : GdOk ops a none := trivial
      have d0 := hd 0 (by decide) (by subst hops; kernel_rfl)
      have d1 := hd 1 (by decide) (by subst hops; kernel_rfl)
      have e0 : ag a 127 = .bool f := d0
      have e1 : ag a 128 = .bool f := d1
      refine op_valg s hgd (w' := w) (v := .bool true) ?_ ?_
      · simp only [execOp, eval_tmp, e0, e1]
        go_simp
      · exact PostE.put (i := 2) ho (vtd22_mem 2 hk).2 (hlt 2 hk) (fun k hk2 hne _ => vtd22_inj 2 hk k hk2 hne) (.inl (Ext.refl _ _)) rfl hg
    | 3, hk, hd =>
      have s : (ops[3]?).map sig = some (some 130, .move (.tmp 129), 4, none) := by subst hops; kernel_rfl
      have hgd : GdOk ops a none := trivial
      have d2 := hd 2 (by decide) (by subst hops; kernel_rfl)
      have e0 : ag a 129 = .bool true := d2
      refine op_valg s hgd (w' := w) (v := .bool true) ?_ ?_
      · exact congrArg (fun x => Result.ok (Next.value x) w) e0
      · exact PostE.put (i := 3) ho (vtd22_mem 3 hk).2 (hlt 3 hk) (fun k hk2 hne _ => vtd22_inj 3 hk k hk2 hne) (.inl (Ext.refl _ _)) rfl hg
    | 4, hk, hd =>
      have s : (ops[4]?).map sig = some (some 131, .fieldAddr 46 (.tmp 20) 0, 0, some (3, true)) := by subst hops; kernel_rfl
      have hgd : GdOk ops a (some (3, true)) := yielded_of (d := 130) (by subst hops; kernel_rfl) (hd 3 (by decide) (by subst hops; kernel_rfl))
      have e0 : ag a 20 = .pointer (some ⟨ga, 0, none⟩) := (ho.off 20 (by decide)).trans h20
      refine op_valg s hgd (w' := w) (v := .pointer (some ⟨ga, 0, none⟩)) ?_ ?_
      · simp only [execOp, eval_tmp, e0]
        go_simp
      · exact PostE.put (i := 4) ho (vtd22_mem 4 hk).2 (hlt 4 hk) (fun k hk2 hne _ => vtd22_inj 4 hk k hk2 hne) (.inl (Ext.refl _ _)) rfl hg
    | 5, hk, hd =>
      have s : (ops[5]?).map sig = some (some 132, .load 28 (.tmp 131), 28, some (3, true)) := by subst hops; kernel_rfl
      have hgd : GdOk ops a (some (3, true)) := yielded_of (d := 130) (by subst hops; kernel_rfl) (hd 3 (by decide) (by subst hops; kernel_rfl))
      have d4 := hd 4 (by decide) (by subst hops; kernel_rfl)
      have e0 : ag a 131 = .pointer (some ⟨ga, 0, none⟩) := d4
      refine op_loadg s hgd ga 0 e0 [.int .i64 ia, .int .i64 ib, .int .i64 ic] _ (range_below hrga hg) Tryd.underlying28 rfl info_id ?_
      exact PostE.put (i := 5) ho (vtd22_mem 5 hk).2 (hlt 5 hk) (fun k hk2 hne _ => vtd22_inj 5 hk k hk2 hne) (.inl (Ext.refl _ _)) rfl hg
    | 6, hk, hd =>
      have s : (ops[6]?).map sig = some (some 133, .fieldAddr 46 (.tmp 22) 0, 0, some (3, true)) := by subst hops; kernel_rfl
      have hgd : GdOk ops a (some (3, true)) := yielded_of (d := 130) (by subst hops; kernel_rfl) (hd 3 (by decide) (by subst hops; kernel_rfl))
      have e0 : ag a 22 = .pointer (some ⟨gb, 0, none⟩) := (ho.off 22 (by decide)).trans h22
      refine op_valg s hgd (w' := w) (v := .pointer (some ⟨gb, 0, none⟩)) ?_ ?_
      · simp only [execOp, eval_tmp, e0]
        go_simp
      · exact PostE.put (i := 6) ho (vtd22_mem 6 hk).2 (hlt 6 hk) (fun k hk2 hne _ => vtd22_inj 6 hk k hk2 hne) (.inl (Ext.refl _ _)) rfl hg
    | 7, hk, hd =>
      have s : (ops[7]?).map sig = some (some 134, .load 28 (.tmp 133), 28, some (3, true)) := by subst hops; kernel_rfl
      have hgd : GdOk ops a (some (3, true)) := yielded_of (d := 130) (by subst hops; kernel_rfl) (hd 3 (by decide) (by subst hops; kernel_rfl))
      have d6 := hd 6 (by decide) (by subst hops; kernel_rfl)
      have e0 : ag a 133 = .pointer (some ⟨gb, 0, none⟩) := d6
      refine op_loadg s hgd gb 0 e0 [.int .i64 ia, .int .i64 ib, .int .i64 ic] _ (range_below hrgb hg) Tryd.underlying28 rfl info_id ?_
      exact PostE.put (i := 7) ho (vtd22_mem 7 hk).2 (hlt 7 hk) (fun k hk2 hne _ => vtd22_inj 7 hk k hk2 hne) (.inl (Ext.refl _ _)) rfl hg
    | 8, hk, hd =>
      have s : (ops[8]?).map sig = some (some 135, .binOp .eql 28 (.tmp 132) (.tmp 134) 28, 4, some (3, true)) := by subst hops; kernel_rfl
      have hgd : GdOk ops a (some (3, true)) := yielded_of (d := 130) (by subst hops; kernel_rfl) (hd 3 (by decide) (by subst hops; kernel_rfl))
      have d5 := hd 5 (by decide) (by subst hops; kernel_rfl)
      have d7 := hd 7 (by decide) (by subst hops; kernel_rfl)
      have e0 : ag a 132 = .agg #[.int .i64 ia, .int .i64 ib, .int .i64 ic] := d5
      have e1 : ag a 134 = .agg #[.int .i64 ia, .int .i64 ib, .int .i64 ic] := d7
      refine op_valg s hgd (w' := w) (v := .bool true) ?_ ?_
      · simp only [execOp, eval_tmp, e0, e1]
        have hq := eq_id ia ib ic ia ib ic w
        simp only [decide_true, Bool.and_self] at hq
        go_simp
      · exact PostE.put (i := 8) ho (vtd22_mem 8 hk).2 (hlt 8 hk) (fun k hk2 hne _ => vtd22_inj 8 hk k hk2 hne) (.inl (Ext.refl _ _)) rfl hg
    | 9, hk, hd =>
      have s : (ops[9]?).map sig = some (some 136, .pick (.tmp 130) (.tmp 135) (.const (.bool false)), 4, none) := by subst hops; kernel_rfl
      have hgd : GdOk ops a none := trivial
      have d3 := hd 3 (by decide) (by subst hops; kernel_rfl)
      have d8 := hd 8 (by decide) (by subst hops; kernel_rfl)
      have e0 : ag a 130 = .bool true := d3
      have e1 : ag a 135 = .bool true := d8
      refine op_valg s hgd (w' := w) (v := .bool true) ?_ ?_
      · simp only [execOp, eval_tmp, e0, e1]
        go_simp
      · exact PostE.put (i := 9) ho (vtd22_mem 9 hk).2 (hlt 9 hk) (fun k hk2 hne _ => vtd22_inj 9 hk k hk2 hne) (.inl (Ext.refl _ _)) rfl hg
    | 10, hk, hd =>
      have s : (ops[10]?).map sig = some (some 137, .move (.tmp 136), 4, none) := by subst hops; kernel_rfl
      have hgd : GdOk ops a none := trivial
      have d9 := hd 9 (by decide) (by subst hops; kernel_rfl)
      have e0 : ag a 136 = .bool true := d9
      refine op_valg s hgd (w' := w) (v := .bool true) ?_ ?_
      · exact congrArg (fun x => Result.ok (Next.value x) w) e0
      · exact PostE.put (i := 10) ho (vtd22_mem 10 hk).2 (hlt 10 hk) (fun k hk2 hne _ => vtd22_inj 10 hk k hk2 hne) (.inl (Ext.refl _ _)) rfl hg
    | 11, hk, hd =>
      have s : (ops[11]?).map sig = some (some 138, .fieldAddr 46 (.tmp 20) 3, 0, some (10, true)) := by subst hops; kernel_rfl
      have hgd : GdOk ops a (some (10, true)) := yielded_of (d := 137) (by subst hops; kernel_rfl) (hd 10 (by decide) (by subst hops; kernel_rfl))
      have e0 : ag a 20 = .pointer (some ⟨ga, 0, none⟩) := (ho.off 20 (by decide)).trans h20
      refine op_valg s hgd (w' := w) (v := .pointer (some ⟨ga, 7, none⟩)) ?_ ?_
      · simp only [execOp, eval_tmp, e0]
        go_simp
      · exact PostE.put (i := 11) ho (vtd22_mem 11 hk).2 (hlt 11 hk) (fun k hk2 hne _ => vtd22_inj 11 hk k hk2 hne) (.inl (Ext.refl _ _)) rfl hg
    | 12, hk, hd =>
      have s : (ops[12]?).map sig = some (some 139, .load 9 (.tmp 138), 9, some (10, true)) := by subst hops; kernel_rfl
      have hgd : GdOk ops a (some (10, true)) := yielded_of (d := 137) (by subst hops; kernel_rfl) (hd 10 (by decide) (by subst hops; kernel_rfl))
      have d11 := hd 11 (by decide) (by subst hops; kernel_rfl)
      have e0 : ag a 138 = .pointer (some ⟨ga, 7, none⟩) := d11
      have hc := (haga.later hg).cell (j := 7) (v := .string nm) rfl
      refine op_valg s hgd (w' := w) (v := .string nm) ?_ ?_
      · simp only [execOp, eval_tmp, e0]
        go_simp
      · exact PostE.put (i := 12) ho (vtd22_mem 12 hk).2 (hlt 12 hk) (fun k hk2 hne _ => vtd22_inj 12 hk k hk2 hne) (.inl (Ext.refl _ _)) rfl hg
    | 13, hk, hd =>
      have s : (ops[13]?).map sig = some (some 140, .fieldAddr 46 (.tmp 22) 3, 0, some (10, true)) := by subst hops; kernel_rfl
      have hgd : GdOk ops a (some (10, true)) := yielded_of (d := 137) (by subst hops; kernel_rfl) (hd 10 (by decide) (by subst hops; kernel_rfl))
      have e0 : ag a 22 = .pointer (some ⟨gb, 0, none⟩) := (ho.off 22 (by decide)).trans h22
      refine op_valg s hgd (w' := w) (v := .pointer (some ⟨gb, 7, none⟩)) ?_ ?_
      · simp only [execOp, eval_tmp, e0]
        go_simp
      · exact PostE.put (i := 13) ho (vtd22_mem 13 hk).2 (hlt 13 hk) (fun k hk2 hne _ => vtd22_inj 13 hk k hk2 hne) (.inl (Ext.refl _ _)) rfl hg
    | 14, hk, hd =>
      have s : (ops[14]?).map sig = some (some 141, .load 9 (.tmp 140), 9, some (10, true)) := by subst hops; kernel_rfl
      have hgd : GdOk ops a (some (10, true)) := yielded_of (d := 137) (by subst hops; kernel_rfl) (hd 10 (by decide) (by subst hops; kernel_rfl))
      have d13 := hd 13 (by decide) (by subst hops; kernel_rfl)
      have e0 : ag a 140 = .pointer (some ⟨gb, 7, none⟩) := d13
      have hc := (hagb.later hg).cell (j := 7) (v := .string nm) rfl
      refine op_valg s hgd (w' := w) (v := .string nm) ?_ ?_
      · simp only [execOp, eval_tmp, e0]
        go_simp
      · exact PostE.put (i := 14) ho (vtd22_mem 14 hk).2 (hlt 14 hk) (fun k hk2 hne _ => vtd22_inj 14 hk k hk2 hne) (.inl (Ext.refl _ _)) rfl hg
    | 15, hk, hd =>
      have s : (ops[15]?).map sig = some (some 142, .binOp .eql 9 (.tmp 139) (.tmp 141) 9, 4, some (10, true)) := by subst hops; kernel_rfl
      have hgd : GdOk ops a (some (10, true)) := yielded_of (d := 137) (by subst hops; kernel_rfl) (hd 10 (by decide) (by subst hops; kernel_rfl))
      have d12 := hd 12 (by decide) (by subst hops; kernel_rfl)
      have d14 := hd 14 (by decide) (by subst hops; kernel_rfl)
      have e0 : ag a 139 = .string nm := d12
      have e1 : ag a 141 = .string nm := d14
      refine op_valg s hgd (w' := w) (v := .bool true) ?_ ?_
      · simp only [execOp, eval_tmp, e0, e1]
        go_simp
      · exact PostE.put (i := 15) ho (vtd22_mem 15 hk).2 (hlt 15 hk) (fun k hk2 hne _ => vtd22_inj 15 hk k hk2 hne) (.inl (Ext.refl _ _)) rfl hg
    | 16, hk, hd =>
      have s : (ops[16]?).map sig = some (some 143, .pick (.tmp 137) (.tmp 142) (.const (.bool false)), 4, none) := by subst hops; kernel_rfl
      have hgd : GdOk ops a none := trivial
      have d10 := hd 10 (by decide) (by subst hops; kernel_rfl)
      have d15 := hd 15 (by decide) (by subst hops; kernel_rfl)
      have e0 : ag a 137 = .bool true := d10
      have e1 : ag a 142 = .bool true := d15
      refine op_valg s hgd (w' := w) (v := .bool true) ?_ ?_
      · simp only [execOp, eval_tmp, e0, e1]
        go_simp
      · exact PostE.put (i := 16) ho (vtd22_mem 16 hk).2 (hlt 16 hk) (fun k hk2 hne _ => vtd22_inj 16 hk k hk2 hne) (.inl (Ext.refl _ _)) rfl hg
    | 17, hk, hd =>
      have s : (ops[17]?).map sig = some (some 144, .move (.tmp 143), 4, none) := by subst hops; kernel_rfl
      have hgd : GdOk ops a none := trivial
      have d16 := hd 16 (by decide) (by subst hops; kernel_rfl)
      have e0 : ag a 143 = .bool true := d16
      refine op_valg s hgd (w' := w) (v := .bool true) ?_ ?_
      · exact congrArg (fun x => Result.ok (Next.value x) w) e0
      · exact PostE.put (i := 17) ho (vtd22_mem 17 hk).2 (hlt 17 hk) (fun k hk2 hne _ => vtd22_inj 17 hk k hk2 hne) (.inl (Ext.refl _ _)) rfl hg
    | 18, hk, hd =>
      have s : (ops[18]?).map sig = some (some 145, .fieldAddr 46 (.tmp 20) 4, 0, some (17, true)) := by subst hops; kernel_rfl
      have hgd : GdOk ops a (some (17, true)) := yielded_of (d := 144) (by subst hops; kernel_rfl) (hd 17 (by decide) (by subst hops; kernel_rfl))
      have e0 : ag a 20 = .pointer (some ⟨ga, 0, none⟩) := (ho.off 20 (by decide)).trans h20
      refine op_valg s hgd (w' := w) (v := .pointer (some ⟨ga, 8, none⟩)) ?_ ?_
      · simp only [execOp, eval_tmp, e0]
        go_simp
      · exact PostE.put (i := 18) ho (vtd22_mem 18 hk).2 (hlt 18 hk) (fun k hk2 hne _ => vtd22_inj 18 hk k hk2 hne) (.inl (Ext.refl _ _)) rfl hg
    | 19, hk, hd =>
      have s : (ops[19]?).map sig = some (some 146, .load 40 (.tmp 145), 40, some (17, true)) := by subst hops; kernel_rfl
      have hgd : GdOk ops a (some (17, true)) := yielded_of (d := 144) (by subst hops; kernel_rfl) (hd 17 (by decide) (by subst hops; kernel_rfl))
      have d18 := hd 18 (by decide) (by subst hops; kernel_rfl)
      have e0 : ag a 145 = .pointer (some ⟨ga, 8, none⟩) := d18
      have hc := (haga.later hg).cell (j := 8) (v := .slice aA m ac) rfl
      refine op_valg s hgd (w' := w) (v := .slice aA m ac) ?_ ?_
      · simp only [execOp, eval_tmp, e0]
        go_simp
      · exact PostE.put (i := 19) ho (vtd22_mem 19 hk).2 (hlt 19 hk) (fun k hk2 hne _ => vtd22_inj 19 hk k hk2 hne) (.inl (Ext.refl _ _)) rfl hg
    | 20, hk, hd =>
      have s : (ops[20]?).map sig = some (some 147, .call { callee := .builtin .len, args := #[.tmp 146], argTypes := #[40] }, 3, some (17, true)) := by subst hops; kernel_rfl
      have hgd : GdOk ops a (some (17, true)) := yielded_of (d := 144) (by subst hops; kernel_rfl) (hd 17 (by decide) (by subst hops; kernel_rfl))
      have d19 := hd 19 (by decide) (by subst hops; kernel_rfl)
      have e0 : ag a 146 = .slice aA m ac := d19
      refine op_valg s hgd (w' := w) (v := .int .i64 (m : Int)) ?_ ?_
      · simp only [execOp]
        go_simp
        rw [show a.tmps[146]?.getD undef = (.slice aA m ac) by simpa [ag] using e0]
        go_simp
      · exact PostE.put (i := 20) ho (vtd22_mem 20 hk).2 (hlt 20 hk) (fun k hk2 hne _ => vtd22_inj 20 hk k hk2 hne) (.inl (Ext.refl _ _)) rfl hg
    | 21, hk, hd =>
      have s : (ops[21]?).map sig = some (some 148, .fieldAddr 46 (.tmp 22) 4, 0, some (17, true)) := by subst hops; kernel_rfl
      have hgd : GdOk ops a (some (17, true)) := yielded_of (d := 144) (by subst hops; kernel_rfl) (hd 17 (by decide) (by subst hops; kernel_rfl))
      have e0 : ag a 22 = .pointer (some ⟨gb, 0, none⟩) := (ho.off 22 (by decide)).trans h22
      refine op_valg s hgd (w' := w) (v := .pointer (some ⟨gb, 8, none⟩)) ?_ ?_
      · simp only [execOp, eval_tmp, e0]
        go_simp
      · exact PostE.put (i := 21) ho (vtd22_mem 21 hk).2 (hlt 21 hk) (fun k hk2 hne _ => vtd22_inj 21 hk k hk2 hne) (.inl (Ext.refl _ _)) rfl hg
    | 22, hk, hd =>
      have s : (ops[22]?).map sig = some (some 149, .load 40 (.tmp 148), 40, some (17, true)) := by subst hops; kernel_rfl
      have hgd : GdOk ops a (some (17, true)) := yielded_of (d := 144) (by subst hops; kernel_rfl) (hd 17 (by decide) (by subst hops; kernel_rfl))
      have d21 := hd 21 (by decide) (by subst hops; kernel_rfl)
      have e0 : ag a 148 = .pointer (some ⟨gb, 8, none⟩) := d21
      have hc := (hagb.later hg).cell (j := 8) (v := .slice bA m bc) rfl
      refine op_valg s hgd (w' := w) (v := .slice bA m bc) ?_ ?_
      · simp only [execOp, eval_tmp, e0]
        go_simp
      · exact PostE.put (i := 22) ho (vtd22_mem 22 hk).2 (hlt 22 hk) (fun k hk2 hne _ => vtd22_inj 22 hk k hk2 hne) (.inl (Ext.refl _ _)) rfl hg
    | 23, hk, hd =>
      have s : (ops[23]?).map sig = some (some 150, .call { callee := .builtin .len, args := #[.tmp 149], argTypes := #[40] }, 3, some (17, true)) := by subst hops; kernel_rfl
      have hgd : GdOk ops a (some (17, true)) := yielded_of (d := 144) (by subst hops; kernel_rfl) (hd 17 (by decide) (by subst hops; kernel_rfl))
      have d22 := hd 22 (by decide) (by subst hops; kernel_rfl)
      have e0 : ag a 149 = .slice bA m bc := d22
      refine op_valg s hgd (w' := w) (v := .int .i64 (m : Int)) ?_ ?_
      · simp only [execOp]
        go_simp
        rw [show a.tmps[149]?.getD undef = (.slice bA m bc) by simpa [ag] using e0]
        go_simp
      · exact PostE.put (i := 23) ho (vtd22_mem 23 hk).2 (hlt 23 hk) (fun k hk2 hne _ => vtd22_inj 23 hk k hk2 hne) (.inl (Ext.refl _ _)) rfl hg
    | 24, hk, hd =>
      have s : (ops[24]?).map sig = some (some 151, .binOp .eql 3 (.tmp 147) (.tmp 150) 3, 4, some (17, true)) := by subst hops; kernel_rfl
      have hgd : GdOk ops a (some (17, true)) := yielded_of (d := 144) (by subst hops; kernel_rfl) (hd 17 (by decide) (by subst hops; kernel_rfl))
      have d20 := hd 20 (by decide) (by subst hops; kernel_rfl)
      have d23 := hd 23 (by decide) (by subst hops; kernel_rfl)
      have e0 : ag a 147 = .int .i64 (m : Int) := d20
      have e1 : ag a 150 = .int .i64 (m : Int) := d23
      refine op_valg s hgd (w' := w) (v := .bool true) ?_ ?_
      · simp only [execOp, eval_tmp, e0, e1]
        go_simp
      · exact PostE.put (i := 24) ho (vtd22_mem 24 hk).2 (hlt 24 hk) (fun k hk2 hne _ => vtd22_inj 24 hk k hk2 hne) (.inl (Ext.refl _ _)) rfl hg
    | 25, hk, hd =>
      have s : (ops[25]?).map sig = some (some 152, .pick (.tmp 144) (.tmp 151) (.const (.bool false)), 4, none) := by subst hops; kernel_rfl
      have hgd : GdOk ops a none := trivial
      have d17 := hd 17 (by decide) (by subst hops; kernel_rfl)
      have d24 := hd 24 (by decide) (by subst hops; kernel_rfl)
      have e0 : ag a 144 = .bool true := d17
      have e1 : ag a 151 = .bool true := d24
      refine op_valg s hgd (w' := w) (v := .bool true) ?_ ?_
      · simp only [execOp, eval_tmp, e0, e1]
        go_simp
      · exact PostE.put (i := 25) ho (vtd22_mem 25 hk).2 (hlt 25 hk) (fun k hk2 hne _ => vtd22_inj 25 hk k hk2 hne) (.inl (Ext.refl _ _)) rfl hg
    | 26, hk, hd =>
      have s : (ops[26]?).map sig = some (some 153, .move (.tmp 152), 4, none) := by subst hops; kernel_rfl
      have hgd : GdOk ops a none := trivial
      have d25 := hd 25 (by decide) (by subst hops; kernel_rfl)
      have e0 : ag a 152 = .bool true := d25
      refine op_valg s hgd (w' := w) (v := .bool true) ?_ ?_
      · exact congrArg (fun x => Result.ok (Next.value x) w) e0
      · exact PostE.put (i := 26) ho (vtd22_mem 26 hk).2 (hlt 26 hk) (fun k hk2 hne _ => vtd22_inj 26 hk k hk2 hne) (.inl (Ext.refl _ _)) rfl hg
    | 27, hk, hd =>
      have s : (ops[27]?).map sig = some (some 154, .move (.tmp 25), 4, some (26, true)) := by subst hops; kernel_rfl
      have hgd : GdOk ops a (some (26, true)) := yielded_of (d := 153) (by subst hops; kernel_rfl) (hd 26 (by decide) (by subst hops; kernel_rfl))
      have e0 : ag a 25 = .bool true := (ho.off 25 (by decide)).trans h25
      refine op_valg s hgd (w' := w) (v := .bool true) ?_ ?_
      · exact congrArg (fun x => Result.ok (Next.value x) w) e0
      · exact PostE.put (i := 27) ho (vtd22_mem 27 hk).2 (hlt 27 hk) (fun k hk2 hne _ => vtd22_inj 27 hk k hk2 hne) (.inl (Ext.refl _ _)) rfl hg
    | 28, hk, hd =>
      have s : (ops[28]?).map sig = some (some 155, .pick (.tmp 153) (.tmp 154) (.const (.bool false)), 4, none) := by subst hops; kernel_rfl
      have hgd : GdOk ops a none := trivial
      have d26 := hd 26 (by decide) (by subst hops; kernel_rfl)
      have d27 := hd 27 (by decide) (by subst hops; kernel_rfl)
      have e0 : ag a 153 = .bool true := d26
      have e1 : ag a 154 = .bool true := d27
      refine op_valg s hgd (w' := w) (v := .bool true) ?_ ?_
      · simp only [execOp, eval_tmp, e0, e1]
        go_simp
      · exact PostE.put (i := 28) ho (vtd22_mem 28 hk).2 (hlt 28 hk) (fun k hk2 hne _ => vtd22_inj 28 hk k hk2 hne) (.inl (Ext.refl _ _)) rfl hg
    | 29, hk, hd =>
      have s : (ops[29]?).map sig = some (some 156, .move (.tmp 155), 4, none) := by subst hops; kernel_rfl
      have hgd : GdOk ops a none := trivial
      have d28 := hd 28 (by decide) (by subst hops; kernel_rfl)
      have e0 : ag a 155 = .bool true := d28
      refine op_valg s hgd (w' := w) (v := .bool true) ?_ ?_
      · exact congrArg (fun x => Result.ok (Next.value x) w) e0
      · exact PostE.put (i := 29) ho (vtd22_mem 29 hk).2 (hlt 29 hk) (fun k hk2 hne _ => vtd22_inj 29 hk k hk2 hne) (.inl (Ext.refl _ _)) rfl hg
    | 30, hk, hd =>
      have s : (ops[30]?).map sig = some (some 157, .fieldAddr 46 (.tmp 24) 3, 0, some (29, true)) := by subst hops; kernel_rfl
      have hgd : GdOk ops a (some (29, true)) := yielded_of (d := 156) (by subst hops; kernel_rfl) (hd 29 (by decide) (by subst hops; kernel_rfl))
      have e0 : ag a 24 = .pointer (some ⟨gc, 0, none⟩) := (ho.off 24 (by decide)).trans h24
      refine op_valg s hgd (w' := w) (v := .pointer (some ⟨gc, 7, none⟩)) ?_ ?_
      · simp only [execOp, eval_tmp, e0]
        go_simp
      · exact PostE.put (i := 30) ho (vtd22_mem 30 hk).2 (hlt 30 hk) (fun k hk2 hne _ => vtd22_inj 30 hk k hk2 hne) (.inl (Ext.refl _ _)) rfl hg
    | 31, hk, hd =>
      have s : (ops[31]?).map sig = some (some 158, .load 9 (.tmp 157), 9, some (29, true)) := by subst hops; kernel_rfl
      have hgd : GdOk ops a (some (29, true)) := yielded_of (d := 156) (by subst hops; kernel_rfl) (hd 29 (by decide) (by subst hops; kernel_rfl))
      have d30 := hd 30 (by decide) (by subst hops; kernel_rfl)
      have e0 : ag a 157 = .pointer (some ⟨gc, 7, none⟩) := d30
      have hc := (hagc.later hg).cell (j := 7) (v := .string ⟨#[80, 111, 105, 110, 116]⟩) rfl
      refine op_valg s hgd (w' := w) (v := .string ⟨#[80, 111, 105, 110, 116]⟩) ?_ ?_
      · simp only [execOp, eval_tmp, e0]
        go_simp
      · exact PostE.put (i := 31) ho (vtd22_mem 31 hk).2 (hlt 31 hk) (fun k hk2 hne _ => vtd22_inj 31 hk k hk2 hne) (.inl (Ext.refl _ _)) rfl hg
    | 32, hk, hd =>
      have s : (ops[32]?).map sig = some (some 159, .binOp .eql 9 (.tmp 158) (.const (.string { data := #[80, 111, 105, 110, 116] })) 9, 4, some (29, true)) := by subst hops; kernel_rfl
      have hgd : GdOk ops a (some (29, true)) := yielded_of (d := 156) (by subst hops; kernel_rfl) (hd 29 (by decide) (by subst hops; kernel_rfl))
      have d31 := hd 31 (by decide) (by subst hops; kernel_rfl)
      have e0 : ag a 158 = .string ⟨#[80, 111, 105, 110, 116]⟩ := d31
      refine op_valg s hgd (w' := w) (v := .bool true) ?_ ?_
      · simp only [execOp, eval_tmp, e0]
        go_simp
      · exact PostE.put (i := 32) ho (vtd22_mem 32 hk).2 (hlt 32 hk) (fun k hk2 hne _ => vtd22_inj 32 hk k hk2 hne) (.inl (Ext.refl _ _)) rfl hg
    | 33, hk, hd =>
      have s : (ops[33]?).map sig = some (some 160, .pick (.tmp 156) (.tmp 159) (.const (.bool false)), 4, none) := by subst hops; kernel_rfl
      have hgd : GdOk ops a none := trivial
      have d29 := hd 29 (by decide) (by subst hops; kernel_rfl)
      have d32 := hd 32 (by decide) (by subst hops; kernel_rfl)
      have e0 : ag a 156 = .bool true := d29
      have e1 : ag a 159 = .bool true := d32
      refine op_valg s hgd (w' := w) (v := .bool true) ?_ ?_
      · simp only [execOp, eval_tmp, e0, e1]
        go_simp
      · exact PostE.put (i := 33) ho (vtd22_mem 33 hk).2 (hlt 33 hk) (fun k hk2 hne _ => vtd22_inj 33 hk k hk2 hne) (.inl (Ext.refl _ _)) rfl hg
    | 34, hk, hd =>
      have s : (ops[34]?).map sig = some (some 161, .move (.tmp 160), 4, none) := by subst hops; kernel_rfl
      have hgd : GdOk ops a none := trivial
      have d33 := hd 33 (by decide) (by subst hops; kernel_rfl)
      have e0 : ag a 160 = .bool true := d33
      refine op_valg s hgd (w' := w) (v := .bool true) ?_ ?_
      · exact congrArg (fun x => Result.ok (Next.value x) w) e0
      · exact PostE.put (i := 34) ho (vtd22_mem 34 hk).2 (hlt 34 hk) (fun k hk2 hne _ => vtd22_inj 34 hk k hk2 hne) (.inl (Ext.refl _ _)) rfl hg
    | 35, hk, hd =>
      have s : (ops[35]?).map sig = some (some 162, .call { callee := .value (.func 22), args := #[], argTypes := #[] }, 4, some (34, true)) := by subst hops; kernel_rfl
      have hgd : GdOk ops a (some (34, true)) := yielded_of (d := 161) (by subst hops; kernel_rfl) (hd 34 (by decide) (by subst hops; kernel_rfl))
      refine op_callg s hgd (w' := w) (f := 22) (args := #[]) ?_ ?_
      · simp only [execOp]
        go_simp
      · refine ((show Calls Tryd.prog _ _ w (BRes true w) from lives_any w (hK.later hg))).mono ?_
        rintro e w' ⟨rfl, hb⟩
        exact ⟨_, rfl, PostE.put (i := 35) ho (vtd22_mem 35 hk).2 (hlt 35 hk) (fun k hk2 hne _ => vtd22_inj 35 hk k hk2 hne) (.inl (Ext.of hb)) rfl (later hg hb)⟩
    | 36, hk, hd =>
      have s : (ops[36]?).map sig = some (some 163, .pick (.tmp 161) (.tmp 162) (.const (.bool false)), 4, none) := by subst hops; kernel_rfl
      have hgd : GdOk ops a none := trivial
      have d34 := hd 34 (by decide) (by subst hops; kernel_rfl)
      have d35 := hd 35 (by decide) (by subst hops; kernel_rfl)
      have e0 : ag a 161 = .bool true := d34
      have e1 : ag a 162 = .bool true := d35
      refine op_valg s hgd (w' := w) (v := .bool true) ?_ ?_
      · simp only [execOp, eval_tmp, e0, e1]
        go_simp
      · exact PostE.put (i := 36) ho (vtd22_mem 36 hk).2 (hlt 36 hk) (fun k hk2 hne _ => vtd22_inj 36 hk k hk2 hne) (.inl (Ext.refl _ _)) rfl hg
    | n + 37, hn, _ => exact absurd hn (by omega)
  · intro a w ho hg hf
    have s : (ops[37]?).map sig = some (some 12, .assign (.tmp 163), 4, none) := by subst hops; kernel_rfl
    have hgd : GdOk ops a none := trivial
    have d36 := hf 36 (by decide)
    have e0 : ag a 163 = .bool true := d36
    refine op_valg s hgd (w' := w) (v := .bool true) ?_ ?_
    · exact congrArg (fun x => Result.ok (Next.value x) w) e0
    · have ho2 : Off (vtD22 ++ [12]) a0 (a.put (some 12) (.bool true)) := (ho.mono (fun s hs => List.mem_append_left _ hs)).put (by decide)
      exact hQ (ag (a.put (some 12) (.bool true))) w (ag_put (by rw [ho.size, hsz]; decide)) hg _ (ho2.eq (fun s hs => by rw [hsz]; revert s; decide))
end Go.Proofs.YtkpoiljioadfgaaDoor

namespace Go.Proofs.YtkpoiljioadfgaaDoor
open Go.RowKit
theorem wp_region_factsG {P : Program} {ops : Array Oper} {Q : Exit → Act → World → Prop} {id : Nat} {a0 : Act} {w0 : World} (last pa ps : Nat) (D : List Nat) (ds : Nat → Nat) (F : Option Nat → Nat → Value → World → Prop) (G : Option Nat → World → Prop) (B : Nat) (Ea : Nat → World → World → Prop) (Ep : Option Nat → World → World → Prop) (rk : Nat → Nat)
    (hm : P.follows .mixedOrders = true) (hsz : ops.size = last + 1) (hac : acyR ops rk = true) (hnd : needB ops last = true) (hpal : pa < last)
    (hF : ∀ γ k v w w', k < last → (Ext B w w' ∨ (k ≠ ps ∧ Ep γ w w')) → F γ k v w → F γ k v w') (hA : ∀ g k v w w', k < last → k ≠ pa → Ea g w w' → F none k v w → F (some g) k v w') (h0 : G none w0.drew)
    (hs : ∀ γ i a w, i < last → i ≠ pa → Off D a0 a → G γ w → (∀ k, k < last → depB ops i k = true → F γ k (ag a (ds k)) w) →
      wpOp P ops Q i (PostE ops D ds last a0 a i (F γ) (fun w' => Ext B w w' ∨ (i = ps ∧ Ep γ w w')) (G γ)) a w)
    (hpa : ∀ a w, Off D a0 a → G none w → (∀ k, k < last → depB ops pa k = true → F none k (ag a (ds k)) w) → wpOp P ops Q pa (fun a' w' => ∃ g, PostE ops D ds last a0 a pa (F (some g)) (fun w' => Ea g w w') (G (some g)) a' w') a w)
    (hl : ∀ γ a w, Off D a0 a → G γ w → (∀ k, k < last → F γ k (ag a (ds k)) w) → wpOp P ops Q last (fun a' w' => Q .normal a' w') a w) :
    (Code.region id ops true).wp P Q a0 w0 := by
  refine wp_region_inv (fun listed a w => listed.size = last + 1 ∧ ((listed.getD last false = true ∧ (∀ k, k < last + 1 → listed.getD k false = true) ∧ Q .normal a w) ∨ (listed.getD last false = false ∧ (∀ i k, i < last → listed.getD i false = true → depB ops i k = true → listed.getD k false = true) ∧ Off D a0 a ∧ ∃ γ, G γ w ∧ (listed.getD pa false = false → γ = none) ∧ ∀ k, k < last → listed.getD k false = true → F γ k (ag a (ds k)) w))) hm ?_ ?_ ?_
  · have hz : ∀ k, (Array.replicate ops.size false).getD k false = false := fun k => by
      simp only [Array.getD_eq_getD_getElem?, Array.getElem?_replicate]; split <;> rfl
    refine ⟨by simp [hsz], .inr ⟨hz _, fun i k _ h => absurd h (by rw [hz]; simp), Off.refl _ _, none, h0, fun _ => rfl, fun k _ h => absurd h (by rw [hz]; simp)⟩⟩
  · rintro listed a w ⟨hls, h | ⟨h1, _⟩⟩ hr
    · exact h.2.2
    · exfalso
      have hall : ∀ n k, rk k ≤ n → k ≤ last → listed.getD k false = true := by
        intro n
        induction n using Nat.strongRecOn with
        | _ n ih =>
          intro k hkn hk
          cases hb : listed.getD k false with
          | true => rfl
          | false =>
            have := ready_ofR (ops := ops) (listed := listed) (rk := rk) (i := k) (by omega) (by rw [← hb]; exact getD_in (by omega) _ _) (fun j hj hr => ih (rk j) (by omega) j (Nat.le_refl _) (by omega)) hac
            rw [hr] at this
            cases this
      rw [hall (rk last) last (Nat.le_refl _) (Nat.le_refl _)] at h1
      cases h1
  · rintro listed a w i ⟨hls, h⟩ hi
    obtain ⟨hi1, hi2, _⟩ := ready_mem hi
    have hi3 : listed.getD i false = false := by rw [← hi2]; exact getD_in (by omega) _ _
    rcases h with ⟨_, h, _⟩ | ⟨h1, hcl, ho, γ, hg, hγ, hf⟩
    · rw [h i (by omega)] at hi3; cases hi3
    · by_cases hil : i = last
      · subst hil
        have hall : ∀ n k, k < i → i ≤ k + n → listed.getD k false = true := by
          intro n
          induction n with
          | zero => intro k h1 h2; omega
          | succ n ih =>
            intro k hk hn
            have hx := List.all_eq_true.1 hnd k (List.mem_range.2 hk)
            obtain ⟨j, hj, hx⟩ := List.any_eq_true.1 hx
            rw [Bool.and_eq_true, decide_eq_true_eq] at hx
            have hj := List.mem_range.1 hj
            by_cases hji : j = i
            · rw [hji] at hx; exact ready_dep hi hx.2
            · exact hcl j k (by omega) (ih j (by omega) (by omega)) hx.2
        have hall2 : ∀ k, k < i → listed.getD k false = true := fun k hk => hall i k hk (by omega)
        refine wpOp_mono (fun a' w' hq => ?_) (hl γ a w ho hg (fun k hk => hf k hk (hall2 k hk)))
        refine ⟨by simp [hls], .inl ⟨?_, ?_, hq⟩⟩
        · rw [getD_set (by omega), if_pos rfl]
        · intro k hk
          rw [getD_set (by omega)]
          split
          · rfl
          · exact hall2 k (by omega)
      · have hil' : i < last := by omega
        have hcl' : ∀ j k, j < last → (listed.setIfInBounds i true).getD j false = true → depB ops j k = true → (listed.setIfInBounds i true).getD k false = true := by
          intro j k hj hjl hd
          rw [getD_set (by omega)] at hjl ⊢
          split
          · rfl
          · by_cases hji : j = i
            · rw [hji] at hd; exact ready_dep hi hd
            · rw [if_neg hji] at hjl; exact hcl j k hj hjl hd
        have hno : ∀ k, k < last → listed.getD k false = true → depB ops k i = false := by
          intro k hk hkl
          cases hb : depB ops k i with
          | false => rfl
          | true => have := hcl k i hk hkl hb; rw [hi3] at this; cases this
        by_cases hip : i = pa
        · subst hip
          obtain rfl := hγ hi3
          refine wpOp_mono ?_ (hpa a w ho hg (fun k hk hd => hf k hk (ready_dep hi hd)))
          rintro a' w' ⟨g, ho', hk', he, hv, hg'⟩
          refine ⟨by simp [hls], .inr ⟨?_, hcl', ho', some g, hg', ?_, ?_⟩⟩
          · rw [getD_set (by omega), if_neg (by omega)]; exact h1
          · intro h; rw [getD_set (by omega), if_pos rfl] at h; cases h
          · intro k hk hkl
            by_cases hki : k = i
            · subst hki; exact hv
            · rw [getD_set (by omega), if_neg hki] at hkl
              rw [hk' k hk hki (hno k hk hkl)]
              exact hA g k _ w w' hk hki he (hf k hk hkl)
        · refine wpOp_mono ?_ (hs γ i a w hil' hip ho hg (fun k hk hd => hf k hk (ready_dep hi hd)))
          rintro a' w' ⟨ho', hk', he, hv, hg'⟩
          refine ⟨by simp [hls], .inr ⟨?_, hcl', ho', γ, hg', ?_, ?_⟩⟩
          · rw [getD_set (by omega), if_neg (by omega)]; exact h1
          · intro h; rw [getD_set (by omega), if_neg (fun e => hip e.symm)] at h; exact hγ h
          · intro k hk hkl
            by_cases hki : k = i
            · subst hki; exact hv
            · rw [getD_set (by omega), if_neg hki] at hkl
              rw [hk' k hk hki (hno k hk hkl)]
              exact hF γ k _ w w' hk (he.imp (fun h => h) (fun h => ⟨fun e => hki (e.trans h.1.symm), h.2⟩)) (hf k hk hkl)
end Go.Proofs.YtkpoiljioadfgaaDoor

