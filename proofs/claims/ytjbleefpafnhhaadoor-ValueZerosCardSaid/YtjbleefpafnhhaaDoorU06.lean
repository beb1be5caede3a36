import Derived.Test.YtjbleefpafnhhaaDoorX01
import Derived.Test.YtjbleefpafnhhaaDoorX02
import Derived.Test.YtjbleefpafnhhaaDoorX03
import Derived.Test.YtjbleefpafnhhaaDoorX04
import Derived.Test.YtjbleefpafnhhaaDoorX05
import Derived.Test.YtjbleefpafnhhaaDoorX06
import Derived.Test.YtjbleefpafnhhaaDoorX07
import Derived.Test.YtjbleefpafnhhaaDoorX08
import Derived.Test.YtjbleefpafnhhaaDoorX09
import Derived.Test.YtjbleefpafnhhaaDoorX10
import Derived.Test.YtjbleefpafnhhaaDoorX11
import Derived.Test.YtjbleefpafnhhaaDoorX12
import Derived.Test.YtjbleefpafnhhaaDoorX13
import Derived.Test.YtjbleefpafnhhaaDoorX14
import Derived.Test.YtjbleefpafnhhaaDoorX15
import Derived.Test.YtjbleefpafnhhaaDoorX16
import Derived.Test.YtjbleefpafnhhaaDoorX17
import Derived.Test.YtjbleefpafnhhaaDoorX18
import Derived.Test.YtjbleefpafnhhaaDoorX19
import Derived.Test.YtjbleefpafnhhaaDoorX20
import Derived.Test.YtjbleefpafnhhaaDoorX21
import Derived.Test.YtjbleefpafnhhaaDoorX22
import Derived.Test.YtjbleefpafnhhaaDoorX23
import Derived.Test.YtjbleefpafnhhaaDoorX24
import Derived.Test.YtjbleefpafnhhaaDoorX25
import Derived.Test.YtjbleefpafnhhaaDoorX26
import Derived.Test.YtjbleefpafnhhaaDoorX27
import Derived.Test.YtjbleefpafnhhaaDoorX28
import Derived.Test.YtjbleefpafnhhaaDoorX29
import Derived.Test.YtjbleefpafnhhaaDoorX30
import Derived.Test.YtjbleefpafnhhaaDoorX31
import Derived.Test.YtjbleefpafnhhaaDoorX32
import Derived.Test.YtjbleefpafnhhaaDoorX33
import Derived.Test.YtjbleefpafnhhaaDoorU05

set_option linter.unusedVariables false
set_option linter.unusedSimpArgs false
namespace Go.Proofs.YtjbleefpafnhhaaDoor
open Go.RowKit
def vzf7 (gx gT gv gd0 n cap jd : Nat) (mv lv : Value) (xk xn : Int) (xA : Option Addr) (xl xc : Nat) (S : Nat) : Nat → Value → World → Prop
  | 0, v, w => v = .int .i64 0
  | 1, v, w => v = .bool false
  | 2, v, w => v = .bool false
  | 3, v, w => v = .agg #[.int .i64 xk, .int .i64 xn, .slice xA xl xc]
  | 4, v, w => v = .int .i64 0
  | 5, v, w => v = .bool false
  | 6, v, w => v = .bool false
  | 7, v, w => v = .bool false
  | 8, v, w => v = .agg #[mv, .slice (some ⟨gd0, 0, none⟩) n cap]
  | 9, v, w => v = .agg #[.int .i64 3, .int .i64 0, .int .i64 1, .int .i64 (1 + (jd : Int)), .slice none 0 0]
  | 10, v, w => v = .agg #[.int .i64 xk, .int .i64 xn, .slice xA xl xc]
  | 11, v, w => v = .bool true
  | 12, v, w => v = .bool false
  | 13, v, w => v = .bool false
  | 14, v, w => v = .bool false
  | 15, v, w => v = .agg #[mv, .slice (some ⟨gd0, 0, none⟩) n cap]
  | 16, v, w => v = .agg #[.int .i64 3, .int .i64 0, .int .i64 1, .int .i64 (1 + (jd : Int)), .slice none 0 0]
  | 17, v, w => v = lv
  | 18, v, w => ∃ (y : Tr) (yk yn : Int) (yA : Option Addr) (yl yc : Nat), v = .agg #[.int .i64 yk, .int .i64 yn, .slice yA yl yc] ∧ TrF (S ≤ ·) w y (.agg #[.int .i64 yk, .int .i64 yn, .slice yA yl yc]) ∧ 0 ≤ y.wt
  | 19, v, w => ∃ m : Int, v = .int .i64 m ∧ 0 ≤ m
  | 20, v, w => v = .bool false
  | _, _, _ => True
theorem vzf7_ext (gx gT gv gd0 n cap jd : Nat) (mv lv : Value) (xk xn : Int) (xA : Option Addr) (xl xc : Nat) (S : Nat) : ∀ j v w w', j < 21 → (Ext S w w' ∨ (j ≠ 999 ∧ Never w w')) → vzf7 gx gT gv gd0 n cap jd mv lv xk xn xA xl xc S j v w → vzf7 gx gT gv gd0 n cap jd mv lv xk xn xA xl xc S j v w' := by
  intro j v w w' hj he h
  match j, hj, he, h with
  | 0, _, he, h => exact h
  | 1, _, he, h => exact h
  | 2, _, he, h => exact h
  | 3, _, he, h => exact h
  | 4, _, he, h => exact h
  | 5, _, he, h => exact h
  | 6, _, he, h => exact h
  | 7, _, he, h => exact h
  | 8, _, he, h => exact h
  | 9, _, he, h => exact h
  | 10, _, he, h => exact h
  | 11, _, he, h => exact h
  | 12, _, he, h => exact h
  | 13, _, he, h => exact h
  | 14, _, he, h => exact h
  | 15, _, he, h => exact h
  | 16, _, he, h => exact h
  | 17, _, he, h => exact h
  | 18, _, he, h => obtain ⟨y, yk, yn, yA, yl, yc, e1, e2, e3⟩ := h; exact he.elim (fun q => ⟨y, yk, yn, yA, yl, yc, e1, e2.keep (fun _ h => h) (fun b hb hl => q.2 b hb hl), e3⟩) (fun q => absurd q.2 id)
  | 19, _, he, h => exact h
  | 20, _, he, h => exact h
  | n + 21, hn, _, _ => exact absurd hn (by omega)
def vzD7 : List Nat := [49, 50, 51, 52, 53, 54, 55, 56, 57, 58, 59, 60, 61, 62, 63, 64, 65, 66, 67, 68, 69]
def vzd7 (k : Nat) : Nat := [49, 50, 51, 52, 53, 54, 55, 56, 57, 58, 59, 60, 61, 62, 63, 64, 65, 66, 67, 68, 69].getD k 0
theorem vzd7_mem : ∀ k, k < 21 → vzd7 k < 172 ∧ vzd7 k ∈ vzD7 := by decide
theorem vzd7_inj : ∀ i, i < 21 → ∀ k, k < 21 → k ≠ i → vzd7 i ≠ vzd7 k := by decide
set_option maxHeartbeats 4000000 in
set_option maxRecDepth 100000 in
theorem vzreg7 {Q : Exit → Act → World → Prop} {id : Nat} {ops : Array Oper} (hops : ops = ((Tryd.f6.body).bind (opsOf 7)).getD #[]) (a0 : Act) (w0 : World) (gx gT gv gd0 n cap jd : Nat) (mv lv : Value) (xk xn : Int) (xA : Option Addr) (xl xc : Nat) (hsz : a0.tmps.size = 172)
    (h11 : ag a0 11 = .pointer (some ⟨gx, 0, none⟩)) (h13 : ag a0 13 = .pointer (some ⟨gT, 0, none⟩)) (h14 : ag a0 14 = .pointer (some ⟨gv, 0, none⟩)) (h15 : ag a0 15 = .int .i64 0) (h1 : ag a0 1 = lv) (hx : Arr w0 gx 2 26 [mv, .slice (some ⟨gd0, 0, none⟩) n cap]) (hT : Arr w0 gT 5 31 [.int .i64 3, .int .i64 0, .int .i64 1, .int .i64 (1 + (jd : Int)), .slice none 0 0]) (hv : Arr w0 gv 3 53 [.int .i64 xk, .int .i64 xn, .slice xA xl xc]) (hwt : ∀ W, Below w0.heap.size w0 W → Calls Tryd.prog 30 #[.agg #[.int .i64 xk, .int .i64 xn, .slice xA xl xc]] W (NumRes 0 W)) (hva : ∀ W, Below w0.heap.size w0 W → Calls Tryd.prog 25 #[.agg #[mv, .slice (some ⟨gd0, 0, none⟩) n cap], .agg #[.int .i64 3, .int .i64 0, .int .i64 1, .int .i64 (1 + (jd : Int)), .slice none 0 0], .agg #[.int .i64 xk, .int .i64 xn, .slice xA xl xc]] W (BRes true W)) (hvl : ∀ W, Below w0.heap.size w0 W → Calls Tryd.prog 23 #[.agg #[mv, .slice (some ⟨gd0, 0, none⟩) n cap], .agg #[.int .i64 3, .int .i64 0, .int .i64 1, .int .i64 (1 + (jd : Int)), .slice none 0 0], lv] W fun e w' => ∃ (y : Tr) (yk yn : Int) (yA : Option Addr) (yl yc : Nat), e = .returned (.agg #[.int .i64 yk, .int .i64 yn, .slice yA yl yc]) ∧ TrF (W.heap.size ≤ ·) w' y (.agg #[.int .i64 yk, .int .i64 yn, .slice yA yl yc]) ∧ 0 ≤ y.wt ∧ Below W.heap.size W w')
    (hQ : ∀ (vs : Nat → Value) (w' : World), vs 70 = .bool false → Below w0.heap.size w0 w' → ∀ a', a' = (vzD7 ++ [70]).foldl (fun b s => b.put (some s) (vs s)) a0 → Q .normal a' w') :
    (Code.region id ops false).wp Tryd.prog Q a0 w0 := by
  have hg0 : Below w0.heap.size w0 w0 := Below.refl _ _
  have hlt : ∀ k, k < 21 → vzd7 k < a0.tmps.size := fun k hk => by have := (vzd7_mem k hk).1; omega
  refine wp_region_seqE 21 999 vzD7 vzd7 (vzf7 gx gT gv gd0 n cap jd mv lv xk xn xA xl xc w0.heap.size) (fun w => Below w0.heap.size w0 w) w0.heap.size Never (by subst hops; kernel_rfl) (by subst hops; kernel_rfl) (vzf7_ext gx gT gv gd0 n cap jd mv lv xk xn xA xl xc w0.heap.size) hg0 ?_ ?_
  · intro j a w hj ho hg hd
    have hgs := hg.size
    match j, hj, hd with
    | 0, hk, hd =>
      have s : (ops[0]?).map sig = some (some 49, .move (.tmp 15), 62, none) := by subst hops; kernel_rfl
      have hgd : GdOk ops a none := trivial
      have e0 : ag a 15 = .int .i64 0 := (ho.off 15 (by decide)).trans h15
      refine op_valg s hgd (w' := w) (v := .int .i64 0) ?_ ?_
      · exact congrArg (fun x => Result.ok (Next.value x) w) e0
      · exact PostE.put (i := 0) ho (vzd7_mem 0 hk).2 (hlt 0 hk) (fun k hk2 hne _ => vzd7_inj 0 hk k hk2 hne) (.inl (Ext.refl _ _)) rfl hg
    | 1, hk, hd =>
      have s : (ops[1]?).map sig = some (some 50, .binOp .neq 62 (.tmp 49) (.const (.int .i64 0)) 62, 4, none) := by subst hops; kernel_rfl
      have hgd : GdOk ops a none := trivial
      have d0 := hd 0 (by decide) (by subst hops; kernel_rfl)
      have e0 : ag a 49 = .int .i64 0 := d0
      refine op_valg s hgd (w' := w) (v := .bool false) ?_ ?_
      · simp only [execOp, eval_tmp, e0]
        go_simp
      · exact PostE.put (i := 1) ho (vzd7_mem 1 hk).2 (hlt 1 hk) (fun k hk2 hne _ => vzd7_inj 1 hk k hk2 hne) (.inl (Ext.refl _ _)) rfl hg
    | 2, hk, hd =>
      have s : (ops[2]?).map sig = some (some 51, .move (.tmp 50), 4, none) := by subst hops; kernel_rfl
      have hgd : GdOk ops a none := trivial
      have d1 := hd 1 (by decide) (by subst hops; kernel_rfl)
      have e0 : ag a 50 = .bool false := d1
      refine op_valg s hgd (w' := w) (v := .bool false) ?_ ?_
      · exact congrArg (fun x => Result.ok (Next.value x) w) e0
      · exact PostE.put (i := 2) ho (vzd7_mem 2 hk).2 (hlt 2 hk) (fun k hk2 hne _ => vzd7_inj 2 hk k hk2 hne) (.inl (Ext.refl _ _)) rfl hg
    | 3, hk, hd =>
      have s : (ops[3]?).map sig = some (some 52, .load 53 (.tmp 14), 53, some (2, false)) := by subst hops; kernel_rfl
      have hgd : GdOk ops a (some (2, false)) := yielded_of (d := 51) (by subst hops; kernel_rfl) (hd 2 (by decide) (by subst hops; kernel_rfl))
      have e0 : ag a 14 = .pointer (some ⟨gv, 0, none⟩) := (ho.off 14 (by decide)).trans h14
      refine op_loadg s hgd gv 0 e0 [.int .i64 xk, .int .i64 xn, .slice xA xl xc] _ ((hv.later hg).range) Tryd.underlying53 rfl info_val ?_
      exact PostE.put (i := 3) ho (vzd7_mem 3 hk).2 (hlt 3 hk) (fun k hk2 hne _ => vzd7_inj 3 hk k hk2 hne) (.inl (Ext.refl _ _)) rfl hg
    | 4, hk, hd =>
      have s : (ops[4]?).map sig = some (some 53, .call { callee := .value (.func 30), args := #[.tmp 52], argTypes := #[53] }, 3, some (2, false)) := by subst hops; kernel_rfl
      have hgd : GdOk ops a (some (2, false)) := yielded_of (d := 51) (by subst hops; kernel_rfl) (hd 2 (by decide) (by subst hops; kernel_rfl))
      have d3 := hd 3 (by decide) (by subst hops; kernel_rfl)
      have e0 : ag a 52 = .agg #[.int .i64 xk, .int .i64 xn, .slice xA xl xc] := d3
      refine op_callg s hgd (w' := w) (f := 30) (args := #[.agg #[.int .i64 xk, .int .i64 xn, .slice xA xl xc]]) ?_ ?_
      · simp only [execOp]
        go_simp
        simpa [ag] using e0
      · refine ((show Calls Tryd.prog _ _ w (NumRes 0 w) from hwt w hg)).mono ?_
        rintro e w' ⟨rfl, hb⟩
        exact ⟨_, rfl, PostE.put (i := 4) ho (vzd7_mem 4 hk).2 (hlt 4 hk) (fun k hk2 hne _ => vzd7_inj 4 hk k hk2 hne) (.inl (Ext.of hb)) rfl (later hg hb)⟩
    | 5, hk, hd =>
      have s : (ops[5]?).map sig = some (some 54, .binOp .neq 3 (.tmp 53) (.const (.int .i64 0)) 3, 4, some (2, false)) := by subst hops; kernel_rfl
      have hgd : GdOk ops a (some (2, false)) := yielded_of (d := 51) (by subst hops; kernel_rfl) (hd 2 (by decide) (by subst hops; kernel_rfl))
      have d4 := hd 4 (by decide) (by subst hops; kernel_rfl)
      have e0 : ag a 53 = .int .i64 0 := d4
      refine op_valg s hgd (w' := w) (v := .bool false) ?_ ?_
      · simp only [execOp, eval_tmp, e0]
        go_simp
      · exact PostE.put (i := 5) ho (vzd7_mem 5 hk).2 (hlt 5 hk) (fun k hk2 hne _ => vzd7_inj 5 hk k hk2 hne) (.inl (Ext.refl _ _)) rfl hg
    | 6, hk, hd =>
      have s : (ops[6]?).map sig = some (some 55, .pick (.tmp 51) (.const (.bool true)) (.tmp 54), 4, none) := by subst hops; kernel_rfl
      have hgd : GdOk ops a none := trivial
      have d2 := hd 2 (by decide) (by subst hops; kernel_rfl)
      have d5 := hd 5 (by decide) (by subst hops; kernel_rfl)
      have e0 : ag a 51 = .bool false := d2
      have e1 : ag a 54 = .bool false := d5
      refine op_valg s hgd (w' := w) (v := .bool false) ?_ ?_
      · simp only [execOp, eval_tmp, e0, e1]
        go_simp
      · exact PostE.put (i := 6) ho (vzd7_mem 6 hk).2 (hlt 6 hk) (fun k hk2 hne _ => vzd7_inj 6 hk k hk2 hne) (.inl (Ext.refl _ _)) rfl hg
    | 7, hk, hd =>
      have s : (ops[7]?).map sig = some (some 56, .move (.tmp 55), 4, none) := by subst hops; kernel_rfl
      have hgd : GdOk ops a none := trivial
      have d6 := hd 6 (by decide) (by subst hops; kernel_rfl)
      have e0 : ag a 55 = .bool false := d6
      refine op_valg s hgd (w' := w) (v := .bool false) ?_ ?_
      · exact congrArg (fun x => Result.ok (Next.value x) w) e0
      · exact PostE.put (i := 7) ho (vzd7_mem 7 hk).2 (hlt 7 hk) (fun k hk2 hne _ => vzd7_inj 7 hk k hk2 hne) (.inl (Ext.refl _ _)) rfl hg
    | 8, hk, hd =>
      have s : (ops[8]?).map sig = some (some 57, .load 26 (.tmp 11), 26, some (7, false)) := by subst hops; kernel_rfl
      have hgd : GdOk ops a (some (7, false)) := yielded_of (d := 56) (by subst hops; kernel_rfl) (hd 7 (by decide) (by subst hops; kernel_rfl))
      have e0 : ag a 11 = .pointer (some ⟨gx, 0, none⟩) := (ho.off 11 (by decide)).trans h11
      refine op_loadg s hgd gx 0 e0 [mv, .slice (some ⟨gd0, 0, none⟩) n cap] _ ((hx.later hg).range) Tryd.underlying26 rfl info_prog ?_
      exact PostE.put (i := 8) ho (vzd7_mem 8 hk).2 (hlt 8 hk) (fun k hk2 hne _ => vzd7_inj 8 hk k hk2 hne) (.inl (Ext.refl _ _)) rfl hg
    | 9, hk, hd =>
      have s : (ops[9]?).map sig = some (some 58, .load 31 (.tmp 13), 31, some (7, false)) := by subst hops; kernel_rfl
      have hgd : GdOk ops a (some (7, false)) := yielded_of (d := 56) (by subst hops; kernel_rfl) (hd 7 (by decide) (by subst hops; kernel_rfl))
      have e0 : ag a 13 = .pointer (some ⟨gT, 0, none⟩) := (ho.off 13 (by decide)).trans h13
      refine op_loadg s hgd gT 0 e0 [.int .i64 3, .int .i64 0, .int .i64 1, .int .i64 (1 + (jd : Int)), .slice none 0 0] _ ((hT.later hg).range) Tryd.underlying31 rfl info_typesz ?_
      exact PostE.put (i := 9) ho (vzd7_mem 9 hk).2 (hlt 9 hk) (fun k hk2 hne _ => vzd7_inj 9 hk k hk2 hne) (.inl (Ext.refl _ _)) rfl hg
    | 10, hk, hd =>
      have s : (ops[10]?).map sig = some (some 59, .load 53 (.tmp 14), 53, some (7, false)) := by subst hops; kernel_rfl
      have hgd : GdOk ops a (some (7, false)) := yielded_of (d := 56) (by subst hops; kernel_rfl) (hd 7 (by decide) (by subst hops; kernel_rfl))
      have e0 : ag a 14 = .pointer (some ⟨gv, 0, none⟩) := (ho.off 14 (by decide)).trans h14
      refine op_loadg s hgd gv 0 e0 [.int .i64 xk, .int .i64 xn, .slice xA xl xc] _ ((hv.later hg).range) Tryd.underlying53 rfl info_val ?_
      exact PostE.put (i := 10) ho (vzd7_mem 10 hk).2 (hlt 10 hk) (fun k hk2 hne _ => vzd7_inj 10 hk k hk2 hne) (.inl (Ext.refl _ _)) rfl hg
    | 11, hk, hd =>
      have s : (ops[11]?).map sig = some (some 60, .call { callee := .value (.func 25), args := #[.tmp 57, .tmp 58, .tmp 59], argTypes := #[26, 31, 53] }, 4, some (7, false)) := by subst hops; kernel_rfl
      have hgd : GdOk ops a (some (7, false)) := yielded_of (d := 56) (by subst hops; kernel_rfl) (hd 7 (by decide) (by subst hops; kernel_rfl))
      have d8 := hd 8 (by decide) (by subst hops; kernel_rfl)
      have d9 := hd 9 (by decide) (by subst hops; kernel_rfl)
      have d10 := hd 10 (by decide) (by subst hops; kernel_rfl)
      have e0 : ag a 57 = .agg #[mv, .slice (some ⟨gd0, 0, none⟩) n cap] := d8
      have e1 : ag a 58 = .agg #[.int .i64 3, .int .i64 0, .int .i64 1, .int .i64 (1 + (jd : Int)), .slice none 0 0] := d9
      have e2 : ag a 59 = .agg #[.int .i64 xk, .int .i64 xn, .slice xA xl xc] := d10
      refine op_callg s hgd (w' := w) (f := 25) (args := #[.agg #[mv, .slice (some ⟨gd0, 0, none⟩) n cap], .agg #[.int .i64 3, .int .i64 0, .int .i64 1, .int .i64 (1 + (jd : Int)), .slice none 0 0], .agg #[.int .i64 xk, .int .i64 xn, .slice xA xl xc]]) ?_ ?_
      · simp only [execOp]
        go_simp
        refine ⟨by simpa [ag] using e0, by simpa [ag] using e1, by simpa [ag] using e2⟩
      · refine ((show Calls Tryd.prog _ _ w (BRes true w) from hva w hg)).mono ?_
        rintro e w' ⟨rfl, hb⟩
        exact ⟨_, rfl, PostE.put (i := 11) ho (vzd7_mem 11 hk).2 (hlt 11 hk) (fun k hk2 hne _ => vzd7_inj 11 hk k hk2 hne) (.inl (Ext.of hb)) rfl (later hg hb)⟩
    | 12, hk, hd =>
      have s : (ops[12]?).map sig = some (some 61, .unOp .not 4 (.tmp 60), 4, some (7, false)) := by subst hops; kernel_rfl
      have hgd : GdOk ops a (some (7, false)) := yielded_of (d := 56) (by subst hops; kernel_rfl) (hd 7 (by decide) (by subst hops; kernel_rfl))
      have d11 := hd 11 (by decide) (by subst hops; kernel_rfl)
      have e0 : ag a 60 = .bool true := d11
      refine op_valg s hgd (w' := w) (v := .bool false) ?_ ?_
      · simp only [execOp, eval_tmp, e0]
        go_simp
      · exact PostE.put (i := 12) ho (vzd7_mem 12 hk).2 (hlt 12 hk) (fun k hk2 hne _ => vzd7_inj 12 hk k hk2 hne) (.inl (Ext.refl _ _)) rfl hg
    | 13, hk, hd =>
      have s : (ops[13]?).map sig = some (some 62, .pick (.tmp 56) (.const (.bool true)) (.tmp 61), 4, none) := by subst hops; kernel_rfl
      have hgd : GdOk ops a none := trivial
      have d7 := hd 7 (by decide) (by subst hops; kernel_rfl)
      have d12 := hd 12 (by decide) (by subst hops; kernel_rfl)
      have e0 : ag a 56 = .bool false := d7
      have e1 : ag a 61 = .bool false := d12
      refine op_valg s hgd (w' := w) (v := .bool false) ?_ ?_
      · simp only [execOp, eval_tmp, e0, e1]
        go_simp
      · exact PostE.put (i := 13) ho (vzd7_mem 13 hk).2 (hlt 13 hk) (fun k hk2 hne _ => vzd7_inj 13 hk k hk2 hne) (.inl (Ext.refl _ _)) rfl hg
    | 14, hk, hd =>
      have s : (ops[14]?).map sig = some (some 63, .move (.tmp 62), 4, none) := by subst hops; kernel_rfl
      have hgd : GdOk ops a none := trivial
      have d13 := hd 13 (by decide) (by subst hops; kernel_rfl)
      have e0 : ag a 62 = .bool false := d13
      refine op_valg s hgd (w' := w) (v := .bool false) ?_ ?_
      · exact congrArg (fun x => Result.ok (Next.value x) w) e0
      · exact PostE.put (i := 14) ho (vzd7_mem 14 hk).2 (hlt 14 hk) (fun k hk2 hne _ => vzd7_inj 14 hk k hk2 hne) (.inl (Ext.refl _ _)) rfl hg
    | 15, hk, hd =>
      have s : (ops[15]?).map sig = some (some 64, .load 26 (.tmp 11), 26, some (14, false)) := by subst hops; kernel_rfl
      have hgd : GdOk ops a (some (14, false)) := yielded_of (d := 63) (by subst hops; kernel_rfl) (hd 14 (by decide) (by subst hops; kernel_rfl))
      have e0 : ag a 11 = .pointer (some ⟨gx, 0, none⟩) := (ho.off 11 (by decide)).trans h11
      refine op_loadg s hgd gx 0 e0 [mv, .slice (some ⟨gd0, 0, none⟩) n cap] _ ((hx.later hg).range) Tryd.underlying26 rfl info_prog ?_
      exact PostE.put (i := 15) ho (vzd7_mem 15 hk).2 (hlt 15 hk) (fun k hk2 hne _ => vzd7_inj 15 hk k hk2 hne) (.inl (Ext.refl _ _)) rfl hg
    | 16, hk, hd =>
      have s : (ops[16]?).map sig = some (some 65, .load 31 (.tmp 13), 31, some (14, false)) := by subst hops; kernel_rfl
      have hgd : GdOk ops a (some (14, false)) := yielded_of (d := 63) (by subst hops; kernel_rfl) (hd 14 (by decide) (by subst hops; kernel_rfl))
      have e0 : ag a 13 = .pointer (some ⟨gT, 0, none⟩) := (ho.off 13 (by decide)).trans h13
      refine op_loadg s hgd gT 0 e0 [.int .i64 3, .int .i64 0, .int .i64 1, .int .i64 (1 + (jd : Int)), .slice none 0 0] _ ((hT.later hg).range) Tryd.underlying31 rfl info_typesz ?_
      exact PostE.put (i := 16) ho (vzd7_mem 16 hk).2 (hlt 16 hk) (fun k hk2 hne _ => vzd7_inj 16 hk k hk2 hne) (.inl (Ext.refl _ _)) rfl hg
    | 17, hk, hd =>
      have s : (ops[17]?).map sig = some (some 66, .move (.tmp 1), 22, some (14, false)) := by subst hops; kernel_rfl
      have hgd : GdOk ops a (some (14, false)) := yielded_of (d := 63) (by subst hops; kernel_rfl) (hd 14 (by decide) (by subst hops; kernel_rfl))
      have e0 : ag a 1 = lv := (ho.off 1 (by decide)).trans h1
      refine op_valg s hgd (w' := w) (v := lv) ?_ ?_
      · exact congrArg (fun x => Result.ok (Next.value x) w) e0
      · exact PostE.put (i := 17) ho (vzd7_mem 17 hk).2 (hlt 17 hk) (fun k hk2 hne _ => vzd7_inj 17 hk k hk2 hne) (.inl (Ext.refl _ _)) rfl hg
    | 18, hk, hd =>
      have s : (ops[18]?).map sig = some (some 67, .call { callee := .value (.func 23), args := #[.tmp 64, .tmp 65, .tmp 66], argTypes := #[26, 31, 22] }, 53, some (14, false)) := by subst hops; kernel_rfl
      have hgd : GdOk ops a (some (14, false)) := yielded_of (d := 63) (by subst hops; kernel_rfl) (hd 14 (by decide) (by subst hops; kernel_rfl))
      have d15 := hd 15 (by decide) (by subst hops; kernel_rfl)
      have d16 := hd 16 (by decide) (by subst hops; kernel_rfl)
      have d17 := hd 17 (by decide) (by subst hops; kernel_rfl)
      have e0 : ag a 64 = .agg #[mv, .slice (some ⟨gd0, 0, none⟩) n cap] := d15
      have e1 : ag a 65 = .agg #[.int .i64 3, .int .i64 0, .int .i64 1, .int .i64 (1 + (jd : Int)), .slice none 0 0] := d16
      have e2 : ag a 66 = lv := d17
      refine op_callg s hgd (w' := w) (f := 23) (args := #[.agg #[mv, .slice (some ⟨gd0, 0, none⟩) n cap], .agg #[.int .i64 3, .int .i64 0, .int .i64 1, .int .i64 (1 + (jd : Int)), .slice none 0 0], lv]) ?_ ?_
      · simp only [execOp]
        go_simp
        refine ⟨by simpa [ag] using e0, by simpa [ag] using e1, by simpa [ag] using e2⟩
      · refine (hvl w hg).mono ?_
        rintro e w' ⟨y, yk, yn, yA, yl, yc, rfl, hT2, hw2, hb⟩
        exact ⟨_, rfl, PostE.put (i := 18) ho (vzd7_mem 18 hk).2 (hlt 18 hk) (fun k hk2 hne _ => vzd7_inj 18 hk k hk2 hne) (.inl (Ext.of hb)) ⟨y, yk, yn, yA, yl, yc, rfl, hT2.mono (fun b h => Nat.le_trans hgs h), hw2⟩ (later hg hb)⟩
    | 19, hk, hd =>
      have s : (ops[19]?).map sig = some (some 68, .call { callee := .value (.func 30), args := #[.tmp 67], argTypes := #[53] }, 3, some (14, false)) := by subst hops; kernel_rfl
      have hgd : GdOk ops a (some (14, false)) := yielded_of (d := 63) (by subst hops; kernel_rfl) (hd 14 (by decide) (by subst hops; kernel_rfl))
      have d18 := hd 18 (by decide) (by subst hops; kernel_rfl)
      obtain ⟨y, yk, yn, yA, yl, yc, e0, hT2, hw2⟩ := d18
      have e0 : ag a 67 = .agg #[.int .i64 yk, .int .i64 yn, .slice yA yl yc] := e0
      refine op_callg s hgd (w' := w) (f := 30) (args := #[.agg #[.int .i64 yk, .int .i64 yn, .slice yA yl yc]]) ?_ ?_
      · simp only [execOp]
        go_simp
        simpa [ag] using e0
      · refine (weight_any y.nodes y (Nat.le_refl _) w _ hT2.at_).mono ?_
        rintro e w' ⟨rfl, hb⟩
        exact ⟨_, rfl, PostE.put (i := 19) ho (vzd7_mem 19 hk).2 (hlt 19 hk) (fun k hk2 hne _ => vzd7_inj 19 hk k hk2 hne) (.inl (Ext.of hb)) ⟨y.wt, rfl, hw2⟩ (later hg hb)⟩
    | 20, hk, hd =>
      have s : (ops[20]?).map sig = some (some 69, .binOp .lss 3 (.tmp 68) (.const (.int .i64 0)) 3, 4, some (14, false)) := by subst hops; kernel_rfl
      have hgd : GdOk ops a (some (14, false)) := yielded_of (d := 63) (by subst hops; kernel_rfl) (hd 14 (by decide) (by subst hops; kernel_rfl))
      have d19 := hd 19 (by decide) (by subst hops; kernel_rfl)
      obtain ⟨m, e0, hm⟩ := d19
      have e0 : ag a 68 = .int .i64 m := e0
      have hm2 : ¬ (m < 0) := by omega
      refine op_valg s hgd (w' := w) (v := .bool false) ?_ ?_
      · simp only [execOp, eval_tmp, e0]
        go_simp
      · exact PostE.put (i := 20) ho (vzd7_mem 20 hk).2 (hlt 20 hk) (fun k hk2 hne _ => vzd7_inj 20 hk k hk2 hne) (.inl (Ext.refl _ _)) rfl hg
    | n + 21, hn, _ => exact absurd hn (by omega)
  · intro a w ho hg hf
    have s : (ops[21]?).map sig = some (some 70, .pick (.tmp 63) (.const (.bool true)) (.tmp 69), 4, none) := by subst hops; kernel_rfl
    have hgd : GdOk ops a none := trivial
    have d14 := hf 14 (by decide)
    have d20 := hf 20 (by decide)
    have e0 : ag a 63 = .bool false := d14
    have e1 : ag a 69 = .bool false := d20
    refine op_valg s hgd (w' := w) (v := .bool false) ?_ ?_
    · simp only [execOp, eval_tmp, e0, e1]
      go_simp
    · have ho2 : Off (vzD7 ++ [70]) a0 (a.put (some 70) (.bool false)) := (ho.mono (fun s hs => List.mem_append_left _ hs)).put (by decide)
      exact hQ (ag (a.put (some 70) (.bool false))) w (ag_put (by rw [ho.size, hsz]; decide)) hg _ (ho2.eq (fun s hs => by rw [hsz]; revert s; decide))
def vzf18 (ga gb gc gd : Nat) (X Y : Tr) (er er2 : Int) (ak an : Int) (bk bn : Int) (ck cn : Int) (dk dn : Int) (aA : Option Addr) (bA : Option Addr) (cA : Option Addr) (dA : Option Addr) (al ac : Nat) (bl bc : Nat) (cl cc : Nat) (dl dc : Nat) : Nat → Value → World → Prop
  | 0, v, w => v = .int .i64 er
  | 1, v, w => v = .int .i64 er
  | 2, v, w => v = .bool true
  | 3, v, w => v = .bool true
  | 4, v, w => v = .agg #[.int .i64 ak, .int .i64 an, .slice aA al ac]
  | 5, v, w => v = .agg #[.int .i64 bk, .int .i64 bn, .slice bA bl bc]
  | 6, v, w => v = .bool true
  | 7, v, w => v = .bool true
  | 8, v, w => v = .bool true
  | 9, v, w => v = .int .i64 er2
  | 10, v, w => v = .int .i64 er2
  | 11, v, w => v = .bool true
  | 12, v, w => v = .bool true
  | 13, v, w => v = .bool true
  | 14, v, w => v = .agg #[.int .i64 ck, .int .i64 cn, .slice cA cl cc]
  | 15, v, w => v = .agg #[.int .i64 dk, .int .i64 dn, .slice dA dl dc]
  | 16, v, w => v = .bool true
  | 17, v, w => v = .bool true
  | 18, v, w => v = .bool true
  | 19, v, w => v = .bool true
  | 20, v, w => v = .bool true
  | _, _, _ => True
theorem vzf18_ext (ga gb gc gd : Nat) (X Y : Tr) (er er2 : Int) (ak an : Int) (bk bn : Int) (ck cn : Int) (dk dn : Int) (aA : Option Addr) (bA : Option Addr) (cA : Option Addr) (dA : Option Addr) (al ac : Nat) (bl bc : Nat) (cl cc : Nat) (dl dc : Nat) (S : Nat) : ∀ j v w w', j < 21 → (Ext S w w' ∨ (j ≠ 999 ∧ Never w w')) → vzf18 ga gb gc gd X Y er er2 ak an bk bn ck cn dk dn aA bA cA dA al ac bl bc cl cc dl dc j v w → vzf18 ga gb gc gd X Y er er2 ak an bk bn ck cn dk dn aA bA cA dA al ac bl bc cl cc dl dc j v w' := by
  intro j v w w' hj he h
  match j, hj, he, h with
  | 0, _, he, h => exact h
  | 1, _, he, h => exact h
  | 2, _, he, h => exact h
  | 3, _, he, h => exact h
  | 4, _, he, h => exact h
  | 5, _, he, h => exact h
  | 6, _, he, h => exact h
  | 7, _, he, h => exact h
  | 8, _, he, h => exact h
  | 9, _, he, h => exact h
  | 10, _, he, h => exact h
  | 11, _, he, h => exact h
  | 12, _, he, h => exact h
  | 13, _, he, h => exact h
  | 14, _, he, h => exact h
  | 15, _, he, h => exact h
  | 16, _, he, h => exact h
  | 17, _, he, h => exact h
  | 18, _, he, h => exact h
  | 19, _, he, h => exact h
  | 20, _, he, h => exact h
  | n + 21, hn, _, _ => exact absurd hn (by omega)
def vzD18 : List Nat := [151, 152, 153, 154, 155, 156, 157, 158, 159, 160, 161, 162, 163, 164, 165, 166, 167, 168, 169, 170, 171]
def vzd18 (k : Nat) : Nat := [151, 152, 153, 154, 155, 156, 157, 158, 159, 160, 161, 162, 163, 164, 165, 166, 167, 168, 169, 170, 171].getD k 0
theorem vzd18_mem : ∀ k, k < 21 → vzd18 k < 172 ∧ vzd18 k ∈ vzD18 := by decide
theorem vzd18_inj : ∀ i, i < 21 → ∀ k, k < 21 → k ≠ i → vzd18 i ≠ vzd18 k := by decide
set_option maxHeartbeats 4000000 in
set_option maxRecDepth 100000 in
theorem vzreg18 {Q : Exit → Act → World → Prop} {id : Nat} {ops : Array Oper} (hops : ops = ((Tryd.f6.body).bind (opsOf 18)).getD #[]) (a0 : Act) (w0 : World) (ga gb gc gd : Nat) (X Y : Tr) (er er2 : Int) (ak an : Int) (bk bn : Int) (ck cn : Int) (dk dn : Int) (aA : Option Addr) (bA : Option Addr) (cA : Option Addr) (dA : Option Addr) (al ac : Nat) (bl bc : Nat) (cl cc : Nat) (dl dc : Nat) (hsz : a0.tmps.size = 172)
    (h17 : ag a0 17 = .pointer (some ⟨ga, 0, none⟩)) (h19 : ag a0 19 = .pointer (some ⟨gb, 0, none⟩)) (h23 : ag a0 23 = .pointer (some ⟨gc, 0, none⟩)) (h25 : ag a0 25 = .pointer (some ⟨gd, 0, none⟩)) (h18 : ag a0 18 = .int .i64 er) (h20 : ag a0 20 = .int .i64 er) (h24 : ag a0 24 = .int .i64 er2) (h26 : ag a0 26 = .int .i64 er2) (hva : Arr w0 ga 3 53 [.int .i64 ak, .int .i64 an, .slice aA al ac]) (ta : TrAt w0 X (.agg #[.int .i64 ak, .int .i64 an, .slice aA al ac])) (hvb : Arr w0 gb 3 53 [.int .i64 bk, .int .i64 bn, .slice bA bl bc]) (tb : TrAt w0 X (.agg #[.int .i64 bk, .int .i64 bn, .slice bA bl bc])) (hvc : Arr w0 gc 3 53 [.int .i64 ck, .int .i64 cn, .slice cA cl cc]) (tc : TrAt w0 Y (.agg #[.int .i64 ck, .int .i64 cn, .slice cA cl cc])) (hvd : Arr w0 gd 3 53 [.int .i64 dk, .int .i64 dn, .slice dA dl dc]) (td : TrAt w0 Y (.agg #[.int .i64 dk, .int .i64 dn, .slice dA dl dc])) (hK : Kv w0)
    (hQ : ∀ (vs : Nat → Value) (w' : World), vs 10 = .bool true → Below w0.heap.size w0 w' → ∀ a', a' = (vzD18 ++ [10]).foldl (fun b s => b.put (some s) (vs s)) a0 → Q .normal a' w') :
    (Code.region id ops false).wp Tryd.prog Q a0 w0 := by
  have hg0 : Below w0.heap.size w0 w0 := Below.refl _ _
  have hlt : ∀ k, k < 21 → vzd18 k < a0.tmps.size := fun k hk => by have := (vzd18_mem k hk).1; omega
  refine wp_region_seqE 21 999 vzD18 vzd18 (vzf18 ga gb gc gd X Y er er2 ak an bk bn ck cn dk dn aA bA cA dA al ac bl bc cl cc dl dc) (fun w => Below w0.heap.size w0 w) w0.heap.size Never (by subst hops; kernel_rfl) (by subst hops; kernel_rfl) (vzf18_ext ga gb gc gd X Y er er2 ak an bk bn ck cn dk dn aA bA cA dA al ac bl bc cl cc dl dc w0.heap.size) hg0 ?_ ?_
  · intro j a w hj ho hg hd
    have hgs := hg.size
    match j, hj, hd with
    | 0, hk, hd =>
      have s : (ops[0]?).map sig = some (some 151, .move (.tmp 18), 62, none) := by subst hops; kernel_rfl
      have hgd : GdOk ops a none := trivial
      have e0 : ag a 18 = .int .i64 er := (ho.off 18 (by decide)).trans h18
      refine op_valg s hgd (w' := w) (v := .int .i64 er) ?_ ?_
      · exact congrArg (fun x => Result.ok (Next.value x) w) e0
      · exact PostE.put (i := 0) ho (vzd18_mem 0 hk).2 (hlt 0 hk) (fun k hk2 hne _ => vzd18_inj 0 hk k hk2 hne) (.inl (Ext.refl _ _)) rfl hg
    | 1, hk, hd =>
      have s : (ops[1]?).map sig = some (some 152, .move (.tmp 20), 62, none) := by subst hops; kernel_rfl
      have hgd : GdOk ops a none := trivial
      have e0 : ag a 20 = .int .i64 er := (ho.off 20 (by decide)).trans h20
      refine op_valg s hgd (w' := w) (v := .int .i64 er) ?_ ?_
      · exact congrArg (fun x => Result.ok (Next.value x) w) e0
      · exact PostE.put (i := 1) ho (vzd18_mem 1 hk).2 (hlt 1 hk) (fun k hk2 hne _ => vzd18_inj 1 hk k hk2 hne) (.inl (Ext.refl _ _)) rfl hg
    | 2, hk, hd =>
      have s : (ops[2]?).map sig = some (some 153, .binOp .eql 62 (.tmp 151) (.tmp 152) 62, 4, none) := by subst hops; kernel_rfl
      have hgd : GdOk ops a none := trivial
      have d0 := hd 0 (by decide) (by subst hops; kernel_rfl)
      have d1 := hd 1 (by decide) (by subst hops; kernel_rfl)
      have e0 : ag a 151 = .int .i64 er := d0
      have e1 : ag a 152 = .int .i64 er := d1
      refine op_valg s hgd (w' := w) (v := .bool true) ?_ ?_
      · simp only [execOp, eval_tmp, e0, e1]
        go_simp
      · exact PostE.put (i := 2) ho (vzd18_mem 2 hk).2 (hlt 2 hk) (fun k hk2 hne _ => vzd18_inj 2 hk k hk2 hne) (.inl (Ext.refl _ _)) rfl hg
    | 3, hk, hd =>
      have s : (ops[3]?).map sig = some (some 154, .move (.tmp 153), 4, none) := by subst hops; kernel_rfl
      have hgd : GdOk ops a none := trivial
      have d2 := hd 2 (by decide) (by subst hops; kernel_rfl)
      have e0 : ag a 153 = .bool true := d2
      refine op_valg s hgd (w' := w) (v := .bool true) ?_ ?_
      · exact congrArg (fun x => Result.ok (Next.value x) w) e0
      · exact PostE.put (i := 3) ho (vzd18_mem 3 hk).2 (hlt 3 hk) (fun k hk2 hne _ => vzd18_inj 3 hk k hk2 hne) (.inl (Ext.refl _ _)) rfl hg
    | 4, hk, hd =>
      have s : (ops[4]?).map sig = some (some 155, .load 53 (.tmp 17), 53, some (3, true)) := by subst hops; kernel_rfl
      have hgd : GdOk ops a (some (3, true)) := yielded_of (d := 154) (by subst hops; kernel_rfl) (hd 3 (by decide) (by subst hops; kernel_rfl))
      have e0 : ag a 17 = .pointer (some ⟨ga, 0, none⟩) := (ho.off 17 (by decide)).trans h17
      refine op_loadg s hgd ga 0 e0 [.int .i64 ak, .int .i64 an, .slice aA al ac] _ ((hva.later hg).range) Tryd.underlying53 rfl info_val ?_
      exact PostE.put (i := 4) ho (vzd18_mem 4 hk).2 (hlt 4 hk) (fun k hk2 hne _ => vzd18_inj 4 hk k hk2 hne) (.inl (Ext.refl _ _)) rfl hg
    | 5, hk, hd =>
      have s : (ops[5]?).map sig = some (some 156, .load 53 (.tmp 19), 53, some (3, true)) := by subst hops; kernel_rfl
      have hgd : GdOk ops a (some (3, true)) := yielded_of (d := 154) (by subst hops; kernel_rfl) (hd 3 (by decide) (by subst hops; kernel_rfl))
      have e0 : ag a 19 = .pointer (some ⟨gb, 0, none⟩) := (ho.off 19 (by decide)).trans h19
      refine op_loadg s hgd gb 0 e0 [.int .i64 bk, .int .i64 bn, .slice bA bl bc] _ ((hvb.later hg).range) Tryd.underlying53 rfl info_val ?_
      exact PostE.put (i := 5) ho (vzd18_mem 5 hk).2 (hlt 5 hk) (fun k hk2 hne _ => vzd18_inj 5 hk k hk2 hne) (.inl (Ext.refl _ _)) rfl hg
    | 6, hk, hd =>
      have s : (ops[6]?).map sig = some (some 157, .call { callee := .value (.func 36), args := #[.tmp 155, .tmp 156], argTypes := #[53, 53] }, 4, some (3, true)) := by subst hops; kernel_rfl
      have hgd : GdOk ops a (some (3, true)) := yielded_of (d := 154) (by subst hops; kernel_rfl) (hd 3 (by decide) (by subst hops; kernel_rfl))
      have d4 := hd 4 (by decide) (by subst hops; kernel_rfl)
      have d5 := hd 5 (by decide) (by subst hops; kernel_rfl)
      have e0 : ag a 155 = .agg #[.int .i64 ak, .int .i64 an, .slice aA al ac] := d4
      have e1 : ag a 156 = .agg #[.int .i64 bk, .int .i64 bn, .slice bA bl bc] := d5
      refine op_callg s hgd (w' := w) (f := 36) (args := #[.agg #[.int .i64 ak, .int .i64 an, .slice aA al ac], .agg #[.int .i64 bk, .int .i64 bn, .slice bA bl bc]]) ?_ ?_
      · simp only [execOp]
        go_simp
        refine ⟨by simpa [ag] using e0, by simpa [ag] using e1⟩
      · refine ((show Calls Tryd.prog _ _ w (BRes true w) from (same_any X X w _ _ (ta.later hg) (tb.later hg)).mono (fun e w' h => ⟨h.1.trans (by rw [cp_self]; rfl), h.2⟩))).mono ?_
        rintro e w' ⟨rfl, hb⟩
        exact ⟨_, rfl, PostE.put (i := 6) ho (vzd18_mem 6 hk).2 (hlt 6 hk) (fun k hk2 hne _ => vzd18_inj 6 hk k hk2 hne) (.inl (Ext.of hb)) rfl (later hg hb)⟩
    | 7, hk, hd =>
      have s : (ops[7]?).map sig = some (some 158, .pick (.tmp 154) (.tmp 157) (.const (.bool false)), 4, none) := by subst hops; kernel_rfl
      have hgd : GdOk ops a none := trivial
      have d3 := hd 3 (by decide) (by subst hops; kernel_rfl)
      have d6 := hd 6 (by decide) (by subst hops; kernel_rfl)
      have e0 : ag a 154 = .bool true := d3
      have e1 : ag a 157 = .bool true := d6
      refine op_valg s hgd (w' := w) (v := .bool true) ?_ ?_
      · simp only [execOp, eval_tmp, e0, e1]
        go_simp
      · exact PostE.put (i := 7) ho (vzd18_mem 7 hk).2 (hlt 7 hk) (fun k hk2 hne _ => vzd18_inj 7 hk k hk2 hne) (.inl (Ext.refl _ _)) rfl hg
    | 8, hk, hd =>
      have s : (ops[8]?).map sig = some (some 159, .move (.tmp 158), 4, none) := by subst hops; kernel_rfl
      have hgd : GdOk ops a none := trivial
      have d7 := hd 7 (by decide) (by subst hops; kernel_rfl)
      have e0 : ag a 158 = .bool true := d7
      refine op_valg s hgd (w' := w) (v := .bool true) ?_ ?_
      · exact congrArg (fun x => Result.ok (Next.value x) w) e0
      · exact PostE.put (i := 8) ho (vzd18_mem 8 hk).2 (hlt 8 hk) (fun k hk2 hne _ => vzd18_inj 8 hk k hk2 hne) (.inl (Ext.refl _ _)) rfl hg
    | 9, hk, hd =>
      have s : (ops[9]?).map sig = some (some 160, .move (.tmp 24), 62, some (8, true)) := by subst hops; kernel_rfl
      have hgd : GdOk ops a (some (8, true)) := yielded_of (d := 159) (by subst hops; kernel_rfl) (hd 8 (by decide) (by subst hops; kernel_rfl))
      have e0 : ag a 24 = .int .i64 er2 := (ho.off 24 (by decide)).trans h24
      refine op_valg s hgd (w' := w) (v := .int .i64 er2) ?_ ?_
      · exact congrArg (fun x => Result.ok (Next.value x) w) e0
      · exact PostE.put (i := 9) ho (vzd18_mem 9 hk).2 (hlt 9 hk) (fun k hk2 hne _ => vzd18_inj 9 hk k hk2 hne) (.inl (Ext.refl _ _)) rfl hg
    | 10, hk, hd =>
      have s : (ops[10]?).map sig = some (some 161, .move (.tmp 26), 62, some (8, true)) := by subst hops; kernel_rfl
      have hgd : GdOk ops a (some (8, true)) := yielded_of (d := 159) (by subst hops; kernel_rfl) (hd 8 (by decide) (by subst hops; kernel_rfl))
      have e0 : ag a 26 = .int .i64 er2 := (ho.off 26 (by decide)).trans h26
      refine op_valg s hgd (w' := w) (v := .int .i64 er2) ?_ ?_
      · exact congrArg (fun x => Result.ok (Next.value x) w) e0
      · exact PostE.put (i := 10) ho (vzd18_mem 10 hk).2 (hlt 10 hk) (fun k hk2 hne _ => vzd18_inj 10 hk k hk2 hne) (.inl (Ext.refl _ _)) rfl hg
    | 11, hk, hd =>
      have s : (ops[11]?).map sig = some (some 162, .binOp .eql 62 (.tmp 160) (.tmp 161) 62, 4, some (8, true)) := by subst hops; kernel_rfl
      have hgd : GdOk ops a (some (8, true)) := yielded_of (d := 159) (by subst hops; kernel_rfl) (hd 8 (by decide) (by subst hops; kernel_rfl))
      have d9 := hd 9 (by decide) (by subst hops; kernel_rfl)
      have d10 := hd 10 (by decide) (by subst hops; kernel_rfl)
      have e0 : ag a 160 = .int .i64 er2 := d9
      have e1 : ag a 161 = .int .i64 er2 := d10
      refine op_valg s hgd (w' := w) (v := .bool true) ?_ ?_
      · simp only [execOp, eval_tmp, e0, e1]
        go_simp
      · exact PostE.put (i := 11) ho (vzd18_mem 11 hk).2 (hlt 11 hk) (fun k hk2 hne _ => vzd18_inj 11 hk k hk2 hne) (.inl (Ext.refl _ _)) rfl hg
    | 12, hk, hd =>
      have s : (ops[12]?).map sig = some (some 163, .pick (.tmp 159) (.tmp 162) (.const (.bool false)), 4, none) := by subst hops; kernel_rfl
      have hgd : GdOk ops a none := trivial
      have d8 := hd 8 (by decide) (by subst hops; kernel_rfl)
      have d11 := hd 11 (by decide) (by subst hops; kernel_rfl)
      have e0 : ag a 159 = .bool true := d8
      have e1 : ag a 162 = .bool true := d11
      refine op_valg s hgd (w' := w) (v := .bool true) ?_ ?_
      · simp only [execOp, eval_tmp, e0, e1]
        go_simp
      · exact PostE.put (i := 12) ho (vzd18_mem 12 hk).2 (hlt 12 hk) (fun k hk2 hne _ => vzd18_inj 12 hk k hk2 hne) (.inl (Ext.refl _ _)) rfl hg
    | 13, hk, hd =>
      have s : (ops[13]?).map sig = some (some 164, .move (.tmp 163), 4, none) := by subst hops; kernel_rfl
      have hgd : GdOk ops a none := trivial
      have d12 := hd 12 (by decide) (by subst hops; kernel_rfl)
      have e0 : ag a 163 = .bool true := d12
      refine op_valg s hgd (w' := w) (v := .bool true) ?_ ?_
      · exact congrArg (fun x => Result.ok (Next.value x) w) e0
      · exact PostE.put (i := 13) ho (vzd18_mem 13 hk).2 (hlt 13 hk) (fun k hk2 hne _ => vzd18_inj 13 hk k hk2 hne) (.inl (Ext.refl _ _)) rfl hg
    | 14, hk, hd =>
      have s : (ops[14]?).map sig = some (some 165, .load 53 (.tmp 23), 53, some (13, true)) := by subst hops; kernel_rfl
      have hgd : GdOk ops a (some (13, true)) := yielded_of (d := 164) (by subst hops; kernel_rfl) (hd 13 (by decide) (by subst hops; kernel_rfl))
      have e0 : ag a 23 = .pointer (some ⟨gc, 0, none⟩) := (ho.off 23 (by decide)).trans h23
      refine op_loadg s hgd gc 0 e0 [.int .i64 ck, .int .i64 cn, .slice cA cl cc] _ ((hvc.later hg).range) Tryd.underlying53 rfl info_val ?_
      exact PostE.put (i := 14) ho (vzd18_mem 14 hk).2 (hlt 14 hk) (fun k hk2 hne _ => vzd18_inj 14 hk k hk2 hne) (.inl (Ext.refl _ _)) rfl hg
    | 15, hk, hd =>
      have s : (ops[15]?).map sig = some (some 166, .load 53 (.tmp 25), 53, some (13, true)) := by subst hops; kernel_rfl
      have hgd : GdOk ops a (some (13, true)) := yielded_of (d := 164) (by subst hops; kernel_rfl) (hd 13 (by decide) (by subst hops; kernel_rfl))
      have e0 : ag a 25 = .pointer (some ⟨gd, 0, none⟩) := (ho.off 25 (by decide)).trans h25
      refine op_loadg s hgd gd 0 e0 [.int .i64 dk, .int .i64 dn, .slice dA dl dc] _ ((hvd.later hg).range) Tryd.underlying53 rfl info_val ?_
      exact PostE.put (i := 15) ho (vzd18_mem 15 hk).2 (hlt 15 hk) (fun k hk2 hne _ => vzd18_inj 15 hk k hk2 hne) (.inl (Ext.refl _ _)) rfl hg
    | 16, hk, hd =>
      have s : (ops[16]?).map sig = some (some 167, .call { callee := .value (.func 36), args := #[.tmp 165, .tmp 166], argTypes := #[53, 53] }, 4, some (13, true)) := by subst hops; kernel_rfl
      have hgd : GdOk ops a (some (13, true)) := yielded_of (d := 164) (by subst hops; kernel_rfl) (hd 13 (by decide) (by subst hops; kernel_rfl))
      have d14 := hd 14 (by decide) (by subst hops; kernel_rfl)
      have d15 := hd 15 (by decide) (by subst hops; kernel_rfl)
      have e0 : ag a 165 = .agg #[.int .i64 ck, .int .i64 cn, .slice cA cl cc] := d14
      have e1 : ag a 166 = .agg #[.int .i64 dk, .int .i64 dn, .slice dA dl dc] := d15
      refine op_callg s hgd (w' := w) (f := 36) (args := #[.agg #[.int .i64 ck, .int .i64 cn, .slice cA cl cc], .agg #[.int .i64 dk, .int .i64 dn, .slice dA dl dc]]) ?_ ?_
      · simp only [execOp]
        go_simp
        refine ⟨by simpa [ag] using e0, by simpa [ag] using e1⟩
      · refine ((show Calls Tryd.prog _ _ w (BRes true w) from (same_any Y Y w _ _ (tc.later hg) (td.later hg)).mono (fun e w' h => ⟨h.1.trans (by rw [cp_self]; rfl), h.2⟩))).mono ?_
        rintro e w' ⟨rfl, hb⟩
        exact ⟨_, rfl, PostE.put (i := 16) ho (vzd18_mem 16 hk).2 (hlt 16 hk) (fun k hk2 hne _ => vzd18_inj 16 hk k hk2 hne) (.inl (Ext.of hb)) rfl (later hg hb)⟩
    | 17, hk, hd =>
      have s : (ops[17]?).map sig = some (some 168, .pick (.tmp 164) (.tmp 167) (.const (.bool false)), 4, none) := by subst hops; kernel_rfl
      have hgd : GdOk ops a none := trivial
      have d13 := hd 13 (by decide) (by subst hops; kernel_rfl)
      have d16 := hd 16 (by decide) (by subst hops; kernel_rfl)
      have e0 : ag a 164 = .bool true := d13
      have e1 : ag a 167 = .bool true := d16
      refine op_valg s hgd (w' := w) (v := .bool true) ?_ ?_
      · simp only [execOp, eval_tmp, e0, e1]
        go_simp
      · exact PostE.put (i := 17) ho (vzd18_mem 17 hk).2 (hlt 17 hk) (fun k hk2 hne _ => vzd18_inj 17 hk k hk2 hne) (.inl (Ext.refl _ _)) rfl hg
    | 18, hk, hd =>
      have s : (ops[18]?).map sig = some (some 169, .move (.tmp 168), 4, none) := by subst hops; kernel_rfl
      have hgd : GdOk ops a none := trivial
      have d17 := hd 17 (by decide) (by subst hops; kernel_rfl)
      have e0 : ag a 168 = .bool true := d17
      refine op_valg s hgd (w' := w) (v := .bool true) ?_ ?_
      · exact congrArg (fun x => Result.ok (Next.value x) w) e0
      · exact PostE.put (i := 18) ho (vzd18_mem 18 hk).2 (hlt 18 hk) (fun k hk2 hne _ => vzd18_inj 18 hk k hk2 hne) (.inl (Ext.refl _ _)) rfl hg
    | 19, hk, hd =>
      have s : (ops[19]?).map sig = some (some 170, .call { callee := .value (.func 22), args := #[], argTypes := #[] }, 4, some (18, true)) := by subst hops; kernel_rfl
      have hgd : GdOk ops a (some (18, true)) := yielded_of (d := 169) (by subst hops; kernel_rfl) (hd 18 (by decide) (by subst hops; kernel_rfl))
      refine op_callg s hgd (w' := w) (f := 22) (args := #[]) ?_ ?_
      · simp only [execOp]
        go_simp
      · refine ((show Calls Tryd.prog _ _ w (BRes true w) from lives_any w (hK.later hg))).mono ?_
        rintro e w' ⟨rfl, hb⟩
        exact ⟨_, rfl, PostE.put (i := 19) ho (vzd18_mem 19 hk).2 (hlt 19 hk) (fun k hk2 hne _ => vzd18_inj 19 hk k hk2 hne) (.inl (Ext.of hb)) rfl (later hg hb)⟩
    | 20, hk, hd =>
      have s : (ops[20]?).map sig = some (some 171, .pick (.tmp 169) (.tmp 170) (.const (.bool false)), 4, none) := by subst hops; kernel_rfl
      have hgd : GdOk ops a none := trivial
      have d18 := hd 18 (by decide) (by subst hops; kernel_rfl)
      have d19 := hd 19 (by decide) (by subst hops; kernel_rfl)
      have e0 : ag a 169 = .bool true := d18
      have e1 : ag a 170 = .bool true := d19
      refine op_valg s hgd (w' := w) (v := .bool true) ?_ ?_
      · simp only [execOp, eval_tmp, e0, e1]
        go_simp
      · exact PostE.put (i := 20) ho (vzd18_mem 20 hk).2 (hlt 20 hk) (fun k hk2 hne _ => vzd18_inj 20 hk k hk2 hne) (.inl (Ext.refl _ _)) rfl hg
    | n + 21, hn, _ => exact absurd hn (by omega)
  · intro a w ho hg hf
    have s : (ops[21]?).map sig = some (some 10, .assign (.tmp 171), 4, none) := by subst hops; kernel_rfl
    have hgd : GdOk ops a none := trivial
    have d20 := hf 20 (by decide)
    have e0 : ag a 171 = .bool true := d20
    refine op_valg s hgd (w' := w) (v := .bool true) ?_ ?_
    · exact congrArg (fun x => Result.ok (Next.value x) w) e0
    · have ho2 : Off (vzD18 ++ [10]) a0 (a.put (some 10) (.bool true)) := (ho.mono (fun s hs => List.mem_append_left _ hs)).put (by decide)
      exact hQ (ag (a.put (some 10) (.bool true))) w (ag_put (by rw [ho.size, hsz]; decide)) hg _ (ho2.eq (fun s hs => by rw [hsz]; revert s; decide))
end Go.Proofs.YtjbleefpafnhhaaDoor

