import Derived.Test.YtkpoiljioadfgaaDoorX03
import Derived.Test.YtkpoiljioadfgaaDoorX05
import Derived.Test.YtkpoiljioadfgaaDoorX16
import Derived.Test.YtkpoiljioadfgaaDoorX26
import Derived.Test.YtkpoiljioadfgaaDoorX27

set_option linter.unusedVariables false
set_option linter.unusedSimpArgs false
namespace Go.Proofs.YtkpoiljioadfgaaDoor
open Go.RowKit
theorem foot_rel {Φ : World → Prop} {w0 w1 : World} (h : ∀ w', Below w1.heap.size w1 w' → Φ w') (hb : Below w0.heap.size w0 w1) : Foot (w0.heap.size ≤ ·) (fun W => Below w0.heap.size w0 W → Φ W) w1 := fun w' b0 he hw' => h w' ⟨b0.os, b0.tape, b0.output, b0.size, fun k hk => by
  by_cases hl : k < w0.heap.size
  · exact (hw'.block k hl).trans (hb.block k hl).symm
  · exact he k (by omega) hk⟩
def vtf8 (g8 g9 g10 g15 : Nat) (ida idb idc : Int) (tk ts tq ti : Int) (tA : Option Addr) (tl tc : Nat) (uk us uq ui : Int) (uA : Option Addr) (ul uc : Nat) (nk ns nq ni : Int) (nA : Option Addr) (nl nc : Nat) (tt tu tn : Ty) (ww : World) (S : Nat) : Nat → Value → World → Prop
  | 0, v, w => v = .agg #[.int .i64 tk, .int .i64 ts, .int .i64 tq, .int .i64 ti, .slice tA tl tc]
  | 1, v, w => v = .agg #[.int .i64 uk, .int .i64 us, .int .i64 uq, .int .i64 ui, .slice uA ul uc]
  | 2, v, w => v = .agg #[.int .i64 ida, .int .i64 idb, .int .i64 idc]
  | 3, v, w => v = .agg #[.int .i64 3, .int .i64 ida, .int .i64 idb, .int .i64 idc, .slice none 0 0]
  | 4, v, w => v = .agg #[.int .i64 tk, .int .i64 ts, .int .i64 tq, .int .i64 ti, .slice tA tl tc]
  | 5, v, w => ∃ (xk xs xq xi : Int) (xA : Option Addr) (xl xc : Nat), v = .agg #[.int .i64 xk, .int .i64 xs, .int .i64 xq, .int .i64 xi, .slice xA xl xc] ∧ Foot (S ≤ ·) (fun W => Below ww.heap.size ww W → TyAt W (Ty.node 2 0 0 0 [tt]) (.agg #[.int .i64 xk, .int .i64 xs, .int .i64 xq, .int .i64 xi, .slice xA xl xc])) w
  | 6, v, w => v = .agg #[.int .i64 0, .int .i64 1, .int .i64 1]
  | 7, v, w => v = .agg #[.int .i64 3, .int .i64 0, .int .i64 1, .int .i64 1, .slice none 0 0]
  | 8, v, w => v = .agg #[.int .i64 nk, .int .i64 ns, .int .i64 nq, .int .i64 ni, .slice nA nl nc]
  | 9, v, w => ∃ (h : Nat) (xk xs xq xi : Int) (xA : Option Addr) (xl xc : Nat), v = .slice (some ⟨h, 0, none⟩) 6 6 ∧ S ≤ h ∧ Arr w h 30 31 ([.int .i64 tk, .int .i64 ts, .int .i64 tq, .int .i64 ti, .slice tA tl tc] ++ ([.int .i64 uk, .int .i64 us, .int .i64 uq, .int .i64 ui, .slice uA ul uc] ++ ([.int .i64 3, .int .i64 ida, .int .i64 idb, .int .i64 idc, .slice none 0 0] ++ ([.int .i64 xk, .int .i64 xs, .int .i64 xq, .int .i64 xi, .slice xA xl xc] ++ ([.int .i64 3, .int .i64 0, .int .i64 1, .int .i64 1, .slice none 0 0] ++ [.int .i64 nk, .int .i64 ns, .int .i64 nq, .int .i64 ni, .slice nA nl nc]))))) ∧ Foot (S ≤ ·) (fun W => Below ww.heap.size ww W → TyAt W (Ty.node 2 0 0 0 [tt]) (.agg #[.int .i64 xk, .int .i64 xs, .int .i64 xq, .int .i64 xi, .slice xA xl xc])) w
  | _, _, _ => True
theorem vtf8_ext (g8 g9 g10 g15 : Nat) (ida idb idc : Int) (tk ts tq ti : Int) (tA : Option Addr) (tl tc : Nat) (uk us uq ui : Int) (uA : Option Addr) (ul uc : Nat) (nk ns nq ni : Int) (nA : Option Addr) (nl nc : Nat) (tt tu tn : Ty) (ww : World) (S : Nat) : ∀ j v w w', j < 10 → (Ext S w w' ∨ (j ≠ 999 ∧ Never w w')) → vtf8 g8 g9 g10 g15 ida idb idc tk ts tq ti tA tl tc uk us uq ui uA ul uc nk ns nq ni nA nl nc tt tu tn ww S j v w → vtf8 g8 g9 g10 g15 ida idb idc tk ts tq ti tA tl tc uk us uq ui uA ul uc nk ns nq ni nA nl nc tt tu tn ww S j v w' := by
  intro j v w w' hj he h
  match j, hj, he, h with
  | 0, _, he, h => exact h
  | 1, _, he, h => exact h
  | 2, _, he, h => exact h
  | 3, _, he, h => exact h
  | 4, _, he, h => exact h
  | 5, _, he, h => exact he.elim (fun q => h.elim fun xk h => h.elim fun xs h => h.elim fun xq h => h.elim fun xi h => h.elim fun xA h => h.elim fun xl h => h.elim fun xc h => ⟨xk, xs, xq, xi, xA, xl, xc, h.1, h.2.keep (fun _ h _ => h) q.1 (fun g hg hl => q.2 g hg hl)⟩) (fun q => absurd q.2 id)
  | 6, _, he, h => exact h
  | 7, _, he, h => exact h
  | 8, _, he, h => exact h
  | 9, _, he, h => obtain ⟨h', xk, xs, xq, xi, xA, xl, xc, e1, e2, e3, e4⟩ := h; exact he.elim (fun q => ⟨h', xk, xs, xq, xi, xA, xl, xc, e1, e2, e3.ext q e2, e4.keep (fun _ h _ => h) q.1 (fun g hg hl => q.2 g hg hl)⟩) (fun q => absurd q.2 id)
  | n + 10, hn, _, _ => exact absurd hn (by omega)
def vtD8 : List Nat := [40, 41, 42, 43, 44, 45, 46, 47, 48, 49]
def vtd8 (k : Nat) : Nat := [40, 41, 42, 43, 44, 45, 46, 47, 48, 49].getD k 0
theorem vtd8_mem : ∀ k, k < 10 → vtd8 k < 164 ∧ vtd8 k ∈ vtD8 := by decide
theorem vtd8_inj : ∀ i, i < 10 → ∀ k, k < 10 → k ≠ i → vtd8 i ≠ vtd8 k := by decide
set_option maxHeartbeats 4000000 in
set_option maxRecDepth 100000 in
theorem vtreg8 {Q : Exit → Act → World → Prop} {id : Nat} {ops : Array Oper} (hops : ops = ((Tryd.f3.body).bind (opsOf 8)).getD #[]) (a0 : Act) (w0 : World) (g8 g9 g10 g15 : Nat) (ida idb idc : Int) (tk ts tq ti : Int) (tA : Option Addr) (tl tc : Nat) (uk us uq ui : Int) (uA : Option Addr) (ul uc : Nat) (nk ns nq ni : Int) (nA : Option Addr) (nl nc : Nat) (tt tu tn : Ty) (ww : World) (hsz : a0.tmps.size = 164)
    (h8 : ag a0 8 = .pointer (some ⟨g8, 0, none⟩)) (h9 : ag a0 9 = .pointer (some ⟨g9, 0, none⟩)) (h10 : ag a0 10 = .pointer (some ⟨g10, 0, none⟩)) (h15 : ag a0 15 = .pointer (some ⟨g15, 0, none⟩)) (hww : w0 = ww) (hid : w0.rangeAt g8 0 [.int .i64 ida, .int .i64 idb, .int .i64 idc]) (ht : w0.rangeAt g9 0 [.int .i64 tk, .int .i64 ts, .int .i64 tq, .int .i64 ti, .slice tA tl tc]) (hu : w0.rangeAt g10 0 [.int .i64 uk, .int .i64 us, .int .i64 uq, .int .i64 ui, .slice uA ul uc]) (hn : w0.rangeAt g15 0 [.int .i64 nk, .int .i64 ns, .int .i64 nq, .int .i64 ni, .slice nA nl nc]) (tyT : TyAt w0 tt (.agg #[.int .i64 tk, .int .i64 ts, .int .i64 tq, .int .i64 ti, .slice tA tl tc])) (tyU : TyAt w0 tu (.agg #[.int .i64 uk, .int .i64 us, .int .i64 uq, .int .i64 ui, .slice uA ul uc])) (tyN : TyAt w0 tn (.agg #[.int .i64 nk, .int .i64 ns, .int .i64 nq, .int .i64 ni, .slice nA nl nc])) (hra : i64r ida) (hrb : i64r idb) (hrc : i64r idc)
    (hQ : ∀ (vs : Nat → Value) (w' : World) (h : Nat), vs 17 = .slice (some ⟨h, 0, none⟩) 6 6 → KtAt w' (some ⟨h, 0, none⟩) 0 [tt, tu, .node 3 ida idb idc [], (Ty.node 2 0 0 0 [tt]), .node 3 0 1 1 [], tn] → Below w0.heap.size w0 w' → ∀ a', a' = (vtD8 ++ [17]).foldl (fun b s => b.put (some s) (vs s)) a0 → Q .normal a' w') :
    (Code.region id ops true).wp Tryd.prog Q a0 w0 := by
  have hg0 : Below w0.heap.size w0 w0.drew := below_drewN (Below.refl _ _) 1
  have hlt : ∀ k, k < 10 → vtd8 k < a0.tmps.size := fun k hk => by have := (vtd8_mem k hk).1; omega
  refine wp_region_factsE 10 999 vtD8 vtd8 (vtf8 g8 g9 g10 g15 ida idb idc tk ts tq ti tA tl tc uk us uq ui uA ul uc nk ns nq ni nA nl nc tt tu tn ww w0.heap.size) (fun w => Below w0.heap.size w0 w) w0.heap.size Never (fun k => k) (by kernel_rfl) (by subst hops; kernel_rfl) (by subst hops; kernel_rfl) (by subst hops; kernel_rfl) (vtf8_ext g8 g9 g10 g15 ida idb idc tk ts tq ti tA tl tc uk us uq ui uA ul uc nk ns nq ni nA nl nc tt tu tn ww w0.heap.size) hg0 ?_ ?_
  · intro j a w hj ho hg hd
    have hgs := hg.size
    match j, hj, hd with
    | 0, hk, hd =>
      have s : (ops[0]?).map sig = some (some 40, .load 31 (.tmp 9), 31, none) := by subst hops; kernel_rfl
      have hgd : GdOk ops a none := trivial
      have e0 : ag a 9 = .pointer (some ⟨g9, 0, none⟩) := (ho.off 9 (by decide)).trans h9
      refine op_loadg s hgd g9 0 e0 [.int .i64 tk, .int .i64 ts, .int .i64 tq, .int .i64 ti, .slice tA tl tc] _ (range_below ht hg) Tryd.underlying31 rfl info_typesz ?_
      exact PostE.put (i := 0) ho (vtd8_mem 0 hk).2 (hlt 0 hk) (fun k hk2 hne _ => vtd8_inj 0 hk k hk2 hne) (.inl (Ext.refl _ _)) rfl hg
    | 1, hk, hd =>
      have s : (ops[1]?).map sig = some (some 41, .load 31 (.tmp 10), 31, none) := by subst hops; kernel_rfl
      have hgd : GdOk ops a none := trivial
      have e0 : ag a 10 = .pointer (some ⟨g10, 0, none⟩) := (ho.off 10 (by decide)).trans h10
      refine op_loadg s hgd g10 0 e0 [.int .i64 uk, .int .i64 us, .int .i64 uq, .int .i64 ui, .slice uA ul uc] _ (range_below hu hg) Tryd.underlying31 rfl info_typesz ?_
      exact PostE.put (i := 1) ho (vtd8_mem 1 hk).2 (hlt 1 hk) (fun k hk2 hne _ => vtd8_inj 1 hk k hk2 hne) (.inl (Ext.refl _ _)) rfl hg
    | 2, hk, hd =>
      have s : (ops[2]?).map sig = some (some 42, .load 28 (.tmp 8), 28, none) := by subst hops; kernel_rfl
      have hgd : GdOk ops a none := trivial
      have e0 : ag a 8 = .pointer (some ⟨g8, 0, none⟩) := (ho.off 8 (by decide)).trans h8
      refine op_loadg s hgd g8 0 e0 [.int .i64 ida, .int .i64 idb, .int .i64 idc] _ (range_below hid hg) Tryd.underlying28 rfl info_id ?_
      exact PostE.put (i := 2) ho (vtd8_mem 2 hk).2 (hlt 2 hk) (fun k hk2 hne _ => vtd8_inj 2 hk k hk2 hne) (.inl (Ext.refl _ _)) rfl hg
    | 3, hk, hd =>
      have s : (ops[3]?).map sig = some (some 43, .call { callee := .value (.func 14), args := #[.tmp 42], argTypes := #[28] }, 31, none) := by subst hops; kernel_rfl
      have hgd : GdOk ops a none := trivial
      have d2 := hd 2 (by decide) (by subst hops; kernel_rfl)
      have e0 : ag a 42 = .agg #[.int .i64 ida, .int .i64 idb, .int .i64 idc] := d2
      refine op_callg s hgd (w' := w) (f := 14) (args := #[.agg #[.int .i64 ida, .int .i64 idb, .int .i64 idc]]) ?_ ?_
      · simp only [execOp]
        go_simp
        simpa [ag] using e0
      · refine (Of_any ida idb idc w).mono ?_
        rintro e w' ⟨rfl, hb⟩
        exact ⟨_, rfl, PostE.put (i := 3) ho (vtd8_mem 3 hk).2 (hlt 3 hk) (fun k hk2 hne _ => vtd8_inj 3 hk k hk2 hne) (.inl (Ext.of hb)) rfl (later hg hb)⟩
    | 4, hk, hd =>
      have s : (ops[4]?).map sig = some (some 44, .load 31 (.tmp 9), 31, none) := by subst hops; kernel_rfl
      have hgd : GdOk ops a none := trivial
      have e0 : ag a 9 = .pointer (some ⟨g9, 0, none⟩) := (ho.off 9 (by decide)).trans h9
      refine op_loadg s hgd g9 0 e0 [.int .i64 tk, .int .i64 ts, .int .i64 tq, .int .i64 ti, .slice tA tl tc] _ (range_below ht hg) Tryd.underlying31 rfl info_typesz ?_
      exact PostE.put (i := 4) ho (vtd8_mem 4 hk).2 (hlt 4 hk) (fun k hk2 hne _ => vtd8_inj 4 hk k hk2 hne) (.inl (Ext.refl _ _)) rfl hg
    | 5, hk, hd =>
      have s : (ops[5]?).map sig = some (some 45, .call { callee := .value (.func 13), args := #[.tmp 44], argTypes := #[31] }, 31, none) := by subst hops; kernel_rfl
      have hgd : GdOk ops a none := trivial
      have d4 := hd 4 (by decide) (by subst hops; kernel_rfl)
      have e0 : ag a 44 = .agg #[.int .i64 tk, .int .i64 ts, .int .i64 tq, .int .i64 ti, .slice tA tl tc] := d4
      refine op_callg s hgd (w' := w) (f := 13) (args := #[.agg #[.int .i64 tk, .int .i64 ts, .int .i64 tq, .int .i64 ti, .slice tA tl tc]]) ?_ ?_
      · simp only [execOp]
        go_simp
        simpa [ag] using e0
      · refine (List_any tt w _ (tyT.later hg)).mono ?_
        rintro e w' ⟨xk, xs, xq, xi, xA, xl, xc, rfl, hT, hb⟩
        exact ⟨_, rfl, PostE.put (i := 5) ho (vtd8_mem 5 hk).2 (hlt 5 hk) (fun k hk2 hne _ => vtd8_inj 5 hk k hk2 hne) (.inl (Ext.of hb)) ⟨xk, xs, xq, xi, xA, xl, xc, rfl, hww ▸ foot_rel (w0 := w0) (fun W h => hT.later h) (later hg hb)⟩ (later hg hb)⟩
    | 6, hk, hd =>
      have s : (ops[6]?).map sig = some (some 46, .call { callee := .value (.func 15), args := #[.const (.int .i64 1)], argTypes := #[3] }, 28, none) := by subst hops; kernel_rfl
      have hgd : GdOk ops a none := trivial
      refine op_callg s hgd (w' := w) (f := 15) (args := #[.int .i64 1]) ?_ ?_
      · simp only [execOp]
        go_simp
      · refine ((show Calls Tryd.prog _ #[.int .i64 1] w (fun e w' => e = .returned (.agg #[.int .i64 0, .int .i64 1, .int .i64 1]) ∧ Below w.heap.size w w') from ID_any 1 (by omega) w)).mono ?_
        rintro e w' ⟨rfl, hb⟩
        exact ⟨_, rfl, PostE.put (i := 6) ho (vtd8_mem 6 hk).2 (hlt 6 hk) (fun k hk2 hne _ => vtd8_inj 6 hk k hk2 hne) (.inl (Ext.of hb)) rfl (later hg hb)⟩
    | 7, hk, hd =>
      have s : (ops[7]?).map sig = some (some 47, .call { callee := .value (.func 14), args := #[.tmp 46], argTypes := #[28] }, 31, none) := by subst hops; kernel_rfl
      have hgd : GdOk ops a none := trivial
      have d6 := hd 6 (by decide) (by subst hops; kernel_rfl)
      have e0 : ag a 46 = .agg #[.int .i64 0, .int .i64 1, .int .i64 1] := d6
      refine op_callg s hgd (w' := w) (f := 14) (args := #[.agg #[.int .i64 0, .int .i64 1, .int .i64 1]]) ?_ ?_
      · simp only [execOp]
        go_simp
        simpa [ag] using e0
      · refine (Of_any 0 1 1 w).mono ?_
        rintro e w' ⟨rfl, hb⟩
        exact ⟨_, rfl, PostE.put (i := 7) ho (vtd8_mem 7 hk).2 (hlt 7 hk) (fun k hk2 hne _ => vtd8_inj 7 hk k hk2 hne) (.inl (Ext.of hb)) rfl (later hg hb)⟩
    | 8, hk, hd =>
      have s : (ops[8]?).map sig = some (some 48, .load 31 (.tmp 15), 31, none) := by subst hops; kernel_rfl
      have hgd : GdOk ops a none := trivial
      have e0 : ag a 15 = .pointer (some ⟨g15, 0, none⟩) := (ho.off 15 (by decide)).trans h15
      refine op_loadg s hgd g15 0 e0 [.int .i64 nk, .int .i64 ns, .int .i64 nq, .int .i64 ni, .slice nA nl nc] _ (range_below hn hg) Tryd.underlying31 rfl info_typesz ?_
      exact PostE.put (i := 8) ho (vtd8_mem 8 hk).2 (hlt 8 hk) (fun k hk2 hne _ => vtd8_inj 8 hk k hk2 hne) (.inl (Ext.refl _ _)) rfl hg
    | 9, hk, hd =>
      have s : (ops[9]?).map sig = some (some 49, .buildSlice 29 6 #[(0, .tmp 40), (1, .tmp 41), (2, .tmp 43), (3, .tmp 45), (4, .tmp 47), (5, .tmp 48)], 29, none) := by subst hops; kernel_rfl
      have hgd : GdOk ops a none := trivial
      have d0 := hd 0 (by decide) (by subst hops; kernel_rfl)
      have d1 := hd 1 (by decide) (by subst hops; kernel_rfl)
      have d3 := hd 3 (by decide) (by subst hops; kernel_rfl)
      have d5 := hd 5 (by decide) (by subst hops; kernel_rfl)
      have d7 := hd 7 (by decide) (by subst hops; kernel_rfl)
      have d8 := hd 8 (by decide) (by subst hops; kernel_rfl)
      obtain ⟨xk, xs, xq, xi, xA, xl, xc, e3, hTx⟩ := d5
      have e3 : ag a 45 = .agg #[.int .i64 xk, .int .i64 xs, .int .i64 xq, .int .i64 xi, .slice xA xl xc] := e3
      have e0 : ag a 40 = .agg #[.int .i64 tk, .int .i64 ts, .int .i64 tq, .int .i64 ti, .slice tA tl tc] := d0
      have e1 : ag a 41 = .agg #[.int .i64 uk, .int .i64 us, .int .i64 uq, .int .i64 ui, .slice uA ul uc] := d1
      have e2 : ag a 43 = .agg #[.int .i64 3, .int .i64 ida, .int .i64 idb, .int .i64 idc, .slice none 0 0] := d3
      have e4 : ag a 47 = .agg #[.int .i64 3, .int .i64 0, .int .i64 1, .int .i64 1, .slice none 0 0] := d7
      have e5 : ag a 48 = .agg #[.int .i64 nk, .int .i64 ns, .int .i64 nq, .int .i64 ni, .slice nA nl nc] := d8
      have hb := new_later w (.cells #[.int .i64 tk, .int .i64 ts, .int .i64 tq, .int .i64 ti, .slice tA tl tc, .int .i64 uk, .int .i64 us, .int .i64 uq, .int .i64 ui, .slice uA ul uc, .int .i64 3, .int .i64 ida, .int .i64 idb, .int .i64 idc, .slice none 0 0, .int .i64 xk, .int .i64 xs, .int .i64 xq, .int .i64 xi, .slice xA xl xc, .int .i64 3, .int .i64 0, .int .i64 1, .int .i64 1, .slice none 0 0, .int .i64 nk, .int .i64 ns, .int .i64 nq, .int .i64 ni, .slice nA nl nc] 31)
      refine op_valg s hgd (w' := w.alloc (.cells #[.int .i64 tk, .int .i64 ts, .int .i64 tq, .int .i64 ti, .slice tA tl tc, .int .i64 uk, .int .i64 us, .int .i64 uq, .int .i64 ui, .slice uA ul uc, .int .i64 3, .int .i64 ida, .int .i64 idb, .int .i64 idc, .slice none 0 0, .int .i64 xk, .int .i64 xs, .int .i64 xq, .int .i64 xi, .slice xA xl xc, .int .i64 3, .int .i64 0, .int .i64 1, .int .i64 1, .slice none 0 0, .int .i64 nk, .int .i64 ns, .int .i64 nq, .int .i64 ni, .slice nA nl nc] 31)) (v := .slice (some ⟨w.heap.size, 0, none⟩) 6 6) ?_ ?_
      · simp only [execOp, List.map_toArray, List.map_cons, List.map_nil, eval_tmp, e0, e1, e2, e3, e4, e5]
        go_simp
      · exact PostE.put (i := 9) ho (vtd8_mem 9 hk).2 (hlt 9 hk) (fun k hk2 hne _ => vtd8_inj 9 hk k hk2 hne) (.inl (Ext.of hb)) ⟨w.heap.size, xk, xs, xq, xi, xA, xl, xc, rfl, hgs, Arr.new' w _ _ 30 _ rfl rfl (by decide), hTx.keep (fun _ h _ => h) (hb.mono (Nat.zero_le _)) (fun g _ hl => hb.block g hl)⟩ (later hg hb)
    | n + 10, hn, _ => exact absurd hn (by omega)
  · intro a w ho hg hf
    have s : (ops[10]?).map sig = some (some 17, .assign (.tmp 49), 29, none) := by subst hops; kernel_rfl
    have hgd : GdOk ops a none := trivial
    obtain ⟨h, xk, xs, xq, xi, xA, xl, xc, e1, e2, e3, e4⟩ := hf 9 (by decide)
    have e1 : ag a 49 = .slice (some ⟨h, 0, none⟩) 6 6 := e1
    have hK : KtAt w (some ⟨h, 0, none⟩) 0 [tt, tu, .node 3 ida idb idc [], (Ty.node 2 0 0 0 [tt]), .node 3 0 1 1 [], tn] := by
      have hr := e3.range
      have r1 := range_right hr
      have r2 := range_right r1
      have r3 := range_right r2
      have r4 := range_right r3
      have r5 := range_right r4
      unfold KtAt
      refine ⟨⟨h, 0, _, rfl, by simpa using range_left hr, tyT.later hg⟩, ?_⟩
      unfold KtAt
      refine ⟨⟨h, 0, _, rfl, by simpa using range_left r1, tyU.later hg⟩, ?_⟩
      unfold KtAt
      refine ⟨⟨h, 0, _, rfl, by simpa using range_left r2, ty_now 3 ida idb idc (by unfold i64r; omega) hra hrb hrc w⟩, ?_⟩
      unfold KtAt
      refine ⟨⟨h, 0, _, rfl, by simpa using range_left r3, e4.now (hww ▸ hg)⟩, ?_⟩
      unfold KtAt
      refine ⟨⟨h, 0, _, rfl, by simpa using range_left r4, ty_now 3 0 1 1 (by unfold i64r; omega) (by unfold i64r; omega) (by unfold i64r; omega) (by unfold i64r; omega) w⟩, ?_⟩
      unfold KtAt
      exact ⟨⟨h, 0, _, rfl, by simpa using r5, tyN.later hg⟩, by unfold KtAt; trivial⟩
    refine op_valg s hgd (w' := w) (v := .slice (some ⟨h, 0, none⟩) 6 6) ?_ ?_
    · exact congrArg (fun x => Result.ok (Next.value x) w) e1
    · have ho2 : Off (vtD8 ++ [17]) a0 (a.put (some 17) (.slice (some ⟨h, 0, none⟩) 6 6)) := (ho.mono (fun s hs => List.mem_append_left _ hs)).put (by decide)
      exact hQ (ag (a.put (some 17) (.slice (some ⟨h, 0, none⟩) 6 6))) w h (ag_put (by rw [ho.size, hsz]; decide)) hK hg _ (ho2.eq (fun s hs => by rw [hsz]; revert s; decide))
def vtf12 (g13 g14 h i : Nat) (mx dx my dy : Value) (Ci : List Value) (b1 b2 : Bool) : Nat → Value → World → Prop
  | 0, v, w => v = .agg #[mx, dx]
  | 1, v, w => v = .slice (some ⟨h, 0, none⟩) 6 6
  | 2, v, w => v = .int .i64 (i : Int)
  | 3, v, w => v = .pointer (some ⟨h, i * 5, none⟩)
  | 4, v, w => v = .agg Ci.toArray
  | 5, v, w => v = .bool b1
  | 6, v, w => v = .agg #[mx, dx]
  | 7, v, w => v = .slice (some ⟨h, 0, none⟩) 6 6
  | 8, v, w => v = .int .i64 (i : Int)
  | 9, v, w => v = .pointer (some ⟨h, i * 5, none⟩)
  | 10, v, w => v = .agg Ci.toArray
  | 11, v, w => v = .bool b1
  | 12, v, w => v = .bool false
  | 13, v, w => v = .bool false
  | 14, v, w => v = .agg #[my, dy]
  | 15, v, w => v = .slice (some ⟨h, 0, none⟩) 6 6
  | 16, v, w => v = .int .i64 (i : Int)
  | 17, v, w => v = .pointer (some ⟨h, i * 5, none⟩)
  | 18, v, w => v = .agg Ci.toArray
  | 19, v, w => v = .bool b2
  | 20, v, w => v = .agg #[my, dy]
  | 21, v, w => v = .slice (some ⟨h, 0, none⟩) 6 6
  | 22, v, w => v = .int .i64 (i : Int)
  | 23, v, w => v = .pointer (some ⟨h, i * 5, none⟩)
  | 24, v, w => v = .agg Ci.toArray
  | 25, v, w => v = .bool b2
  | 26, v, w => v = .bool false
  | _, _, _ => True
theorem vtf12_ext (g13 g14 h i : Nat) (mx dx my dy : Value) (Ci : List Value) (b1 b2 : Bool) (S : Nat) : ∀ j v w w', j < 27 → (Ext S w w' ∨ (j ≠ 999 ∧ Never w w')) → vtf12 g13 g14 h i mx dx my dy Ci b1 b2 j v w → vtf12 g13 g14 h i mx dx my dy Ci b1 b2 j v w' := by
  intro j v w w' hj he h
  match j, hj, he, h with
  | 0, _, he, h => exact h
  | 1, _, he, h => exact h
  | 2, _, he, h => exact h
  | 3, _, he, h => exact h
  | 4, _, he, h => exact h
  | 5, _, he, h => exact h
  | 6, _, he, h => exact h
  | 7, _, he, h => exact h
  | 8, _, he, h => exact h
  | 9, _, he, h => exact h
  | 10, _, he, h => exact h
  | 11, _, he, h => exact h
  | 12, _, he, h => exact h
  | 13, _, he, h => exact h
  | 14, _, he, h => exact h
  | 15, _, he, h => exact h
  | 16, _, he, h => exact h
  | 17, _, he, h => exact h
  | 18, _, he, h => exact h
  | 19, _, he, h => exact h
  | 20, _, he, h => exact h
  | 21, _, he, h => exact h
  | 22, _, he, h => exact h
  | 23, _, he, h => exact h
  | 24, _, he, h => exact h
  | 25, _, he, h => exact h
  | 26, _, he, h => exact h
  | n + 27, hn, _, _ => exact absurd hn (by omega)
def vtD12 : List Nat := [56, 57, 58, 59, 60, 61, 62, 63, 64, 65, 66, 67, 68, 69, 70, 71, 72, 73, 74, 75, 76, 77, 78, 79, 80, 81, 82]
def vtd12 (k : Nat) : Nat := [56, 57, 58, 59, 60, 61, 62, 63, 64, 65, 66, 67, 68, 69, 70, 71, 72, 73, 74, 75, 76, 77, 78, 79, 80, 81, 82].getD k 0
theorem vtd12_mem : ∀ k, k < 27 → vtd12 k < 164 ∧ vtd12 k ∈ vtD12 := by decide
theorem vtd12_inj : ∀ i, i < 27 → ∀ k, k < 27 → k ≠ i → vtd12 i ≠ vtd12 k := by decide
set_option maxHeartbeats 4000000 in
set_option maxRecDepth 100000 in
theorem vtreg12 {Q : Exit → Act → World → Prop} {id : Nat} {ops : Array Oper} (hops : ops = ((Tryd.f3.body).bind (opsOf 12)).getD #[]) (a0 : Act) (w0 : World) (g13 g14 h i : Nat) (mx dx my dy : Value) (Ci : List Value) (b1 b2 : Bool) (hsz : a0.tmps.size = 164)
    (h13 : ag a0 13 = .pointer (some ⟨g13, 0, none⟩)) (h14 : ag a0 14 = .pointer (some ⟨g14, 0, none⟩)) (h17 : ag a0 17 = .slice (some ⟨h, 0, none⟩) 6 6) (h18 : ag a0 18 = .int .i64 (i : Int)) (hx : w0.rangeAt g13 0 [mx, dx]) (hy : w0.rangeAt g14 0 [my, dy]) (hCi : w0.rangeAt h (i * 5) Ci) (lCi : Ci.length = 5) (hii : (i : Int) < 6) (hoi : (0 : Int) ≤ (i : Int)) (hv1 : ∀ W, Below w0.heap.size w0 W → Calls Tryd.prog 16 #[.agg #[mx, dx], .agg Ci.toArray] W (BRes b1 W)) (hr1 : ∀ W, Below w0.heap.size w0 W → Calls Tryd.prog 17 #[.agg #[mx, dx], .agg Ci.toArray] W (BRes b1 W)) (hv2 : ∀ W, Below w0.heap.size w0 W → Calls Tryd.prog 16 #[.agg #[my, dy], .agg Ci.toArray] W (BRes b2 W)) (hr2 : ∀ W, Below w0.heap.size w0 W → Calls Tryd.prog 17 #[.agg #[my, dy], .agg Ci.toArray] W (BRes b2 W))
    (hQ : ∀ (vs : Nat → Value) (w' : World), vs 83 = .bool false → Below w0.heap.size w0 w' → ∀ a', a' = (vtD12 ++ [83]).foldl (fun b s => b.put (some s) (vs s)) a0 → Q .normal a' w') :
    (Code.region id ops true).wp Tryd.prog Q a0 w0 := by
  have hg0 : Below w0.heap.size w0 w0.drew := below_drewN (Below.refl _ _) 1
  have hlt : ∀ k, k < 27 → vtd12 k < a0.tmps.size := fun k hk => by have := (vtd12_mem k hk).1; omega
  refine wp_region_factsE 27 999 vtD12 vtd12 (vtf12 g13 g14 h i mx dx my dy Ci b1 b2) (fun w => Below w0.heap.size w0 w) w0.heap.size Never (fun k => k) (by kernel_rfl) (by subst hops; kernel_rfl) (by subst hops; kernel_rfl) (by subst hops; kernel_rfl) (vtf12_ext g13 g14 h i mx dx my dy Ci b1 b2 w0.heap.size) hg0 ?_ ?_
  · intro j a w hj ho hg hd
    have hgs := hg.size
    match j, hj, hd with
    | 0, hk, hd =>
      have s : (ops[0]?).map sig = some (some 56, .load 26 (.tmp 13), 26, none) := by subst hops; kernel_rfl
      have hgd : GdOk ops a none := trivial
      have e0 : ag a 13 = .pointer (some ⟨g13, 0, none⟩) := (ho.off 13 (by decide)).trans h13
      refine op_loadg s hgd g13 0 e0 [mx, dx] _ (range_below hx hg) Tryd.underlying26 rfl info_prog ?_
      exact PostE.put (i := 0) ho (vtd12_mem 0 hk).2 (hlt 0 hk) (fun k hk2 hne _ => vtd12_inj 0 hk k hk2 hne) (.inl (Ext.refl _ _)) rfl hg
    | 1, hk, hd =>
      have s : (ops[1]?).map sig = some (some 57, .move (.tmp 17), 29, none) := by subst hops; kernel_rfl
      have hgd : GdOk ops a none := trivial
      have e0 : ag a 17 = .slice (some ⟨h, 0, none⟩) 6 6 := (ho.off 17 (by decide)).trans h17
      refine op_valg s hgd (w' := w) (v := .slice (some ⟨h, 0, none⟩) 6 6) ?_ ?_
      · exact congrArg (fun x => Result.ok (Next.value x) w) e0
      · exact PostE.put (i := 1) ho (vtd12_mem 1 hk).2 (hlt 1 hk) (fun k hk2 hne _ => vtd12_inj 1 hk k hk2 hne) (.inl (Ext.refl _ _)) rfl hg
    | 2, hk, hd =>
      have s : (ops[2]?).map sig = some (some 58, .move (.tmp 18), 3, none) := by subst hops; kernel_rfl
      have hgd : GdOk ops a none := trivial
      have e0 : ag a 18 = .int .i64 (i : Int) := (ho.off 18 (by decide)).trans h18
      refine op_valg s hgd (w' := w) (v := .int .i64 (i : Int)) ?_ ?_
      · exact congrArg (fun x => Result.ok (Next.value x) w) e0
      · exact PostE.put (i := 2) ho (vtd12_mem 2 hk).2 (hlt 2 hk) (fun k hk2 hne _ => vtd12_inj 2 hk k hk2 hne) (.inl (Ext.refl _ _)) rfl hg
    | 3, hk, hd =>
      have s : (ops[3]?).map sig = some (some 59, .indexAddr 29 (.tmp 57) (.tmp 58), 0, none) := by subst hops; kernel_rfl
      have hgd : GdOk ops a none := trivial
      have d1 := hd 1 (by decide) (by subst hops; kernel_rfl)
      have d2 := hd 2 (by decide) (by subst hops; kernel_rfl)
      have e0 : ag a 57 = .slice (some ⟨h, 0, none⟩) 6 6 := d1
      have e1 : ag a 58 = .int .i64 (i : Int) := d2
      refine op_valg s hgd (w' := w) (v := .pointer (some ⟨h, i * 5, none⟩)) ?_ ?_
      · simp only [execOp, eval_tmp, e0, e1]
        go_simp
      · exact PostE.put (i := 3) ho (vtd12_mem 3 hk).2 (hlt 3 hk) (fun k hk2 hne _ => vtd12_inj 3 hk k hk2 hne) (.inl (Ext.refl _ _)) rfl hg
    | 4, hk, hd =>
      have s : (ops[4]?).map sig = some (some 60, .load 31 (.tmp 59), 31, none) := by subst hops; kernel_rfl
      have hgd : GdOk ops a none := trivial
      have d3 := hd 3 (by decide) (by subst hops; kernel_rfl)
      have e0 : ag a 59 = .pointer (some ⟨h, i * 5, none⟩) := d3
      refine op_loadg s hgd h (i * 5) e0 Ci _ (range_below hCi hg) Tryd.underlying31 rfl (by rw [lCi]; exact info_typesz) ?_
      exact PostE.put (i := 4) ho (vtd12_mem 4 hk).2 (hlt 4 hk) (fun k hk2 hne _ => vtd12_inj 4 hk k hk2 hne) (.inl (Ext.refl _ _)) rfl hg
    | 5, hk, hd =>
      have s : (ops[5]?).map sig = some (some 61, .call { callee := .value (.func 16), args := #[.tmp 56, .tmp 60], argTypes := #[26, 31] }, 4, none) := by subst hops; kernel_rfl
      have hgd : GdOk ops a none := trivial
      have d0 := hd 0 (by decide) (by subst hops; kernel_rfl)
      have d4 := hd 4 (by decide) (by subst hops; kernel_rfl)
      have e0 : ag a 56 = .agg #[mx, dx] := d0
      have e1 : ag a 60 = .agg Ci.toArray := d4
      refine op_callg s hgd (w' := w) (f := 16) (args := #[.agg #[mx, dx], .agg Ci.toArray]) ?_ ?_
      · simp only [execOp]
        go_simp
        refine ⟨by simpa [ag] using e0, by simpa [ag] using e1⟩
      · refine ((show Calls Tryd.prog _ #[.agg #[mx, dx], .agg Ci.toArray] w (BRes b1 w) from hv1 w hg)).mono ?_
        rintro e w' ⟨rfl, hb⟩
        exact ⟨_, rfl, PostE.put (i := 5) ho (vtd12_mem 5 hk).2 (hlt 5 hk) (fun k hk2 hne _ => vtd12_inj 5 hk k hk2 hne) (.inl (Ext.of hb)) rfl (later hg hb)⟩
    | 6, hk, hd =>
      have s : (ops[6]?).map sig = some (some 62, .load 26 (.tmp 13), 26, none) := by subst hops; kernel_rfl
      have hgd : GdOk ops a none := trivial
      have e0 : ag a 13 = .pointer (some ⟨g13, 0, none⟩) := (ho.off 13 (by decide)).trans h13
      refine op_loadg s hgd g13 0 e0 [mx, dx] _ (range_below hx hg) Tryd.underlying26 rfl info_prog ?_
      exact PostE.put (i := 6) ho (vtd12_mem 6 hk).2 (hlt 6 hk) (fun k hk2 hne _ => vtd12_inj 6 hk k hk2 hne) (.inl (Ext.refl _ _)) rfl hg
    | 7, hk, hd =>
      have s : (ops[7]?).map sig = some (some 63, .move (.tmp 17), 29, none) := by subst hops; kernel_rfl
      have hgd : GdOk ops a none := trivial
      have e0 : ag a 17 = .slice (some ⟨h, 0, none⟩) 6 6 := (ho.off 17 (by decide)).trans h17
      refine op_valg s hgd (w' := w) (v := .slice (some ⟨h, 0, none⟩) 6 6) ?_ ?_
      · exact congrArg (fun x => Result.ok (Next.value x) w) e0
      · exact PostE.put (i := 7) ho (vtd12_mem 7 hk).2 (hlt 7 hk) (fun k hk2 hne _ => vtd12_inj 7 hk k hk2 hne) (.inl (Ext.refl _ _)) rfl hg
    | 8, hk, hd =>
      have s : (ops[8]?).map sig = some (some 64, .move (.tmp 18), 3, none) := by subst hops; kernel_rfl
      have hgd : GdOk ops a none := trivial
      have e0 : ag a 18 = .int .i64 (i : Int) := (ho.off 18 (by decide)).trans h18
      refine op_valg s hgd (w' := w) (v := .int .i64 (i : Int)) ?_ ?_
      · exact congrArg (fun x => Result.ok (Next.value x) w) e0
      · exact PostE.put (i := 8) ho (vtd12_mem 8 hk).2 (hlt 8 hk) (fun k hk2 hne _ => vtd12_inj 8 hk k hk2 hne) (.inl (Ext.refl _ _)) rfl hg
    | 9, hk, hd =>
      have s : (ops[9]?).map sig = some (some 65, .indexAddr 29 (.tmp 63) (.tmp 64), 0, none) := by subst hops; kernel_rfl
      have hgd : GdOk ops a none := trivial
      have d7 := hd 7 (by decide) (by subst hops; kernel_rfl)
      have d8 := hd 8 (by decide) (by subst hops; kernel_rfl)
      have e0 : ag a 63 = .slice (some ⟨h, 0, none⟩) 6 6 := d7
      have e1 : ag a 64 = .int .i64 (i : Int) := d8
      refine op_valg s hgd (w' := w) (v := .pointer (some ⟨h, i * 5, none⟩)) ?_ ?_
      · simp only [execOp, eval_tmp, e0, e1]
        go_simp
      · exact PostE.put (i := 9) ho (vtd12_mem 9 hk).2 (hlt 9 hk) (fun k hk2 hne _ => vtd12_inj 9 hk k hk2 hne) (.inl (Ext.refl _ _)) rfl hg
    | 10, hk, hd =>
      have s : (ops[10]?).map sig = some (some 66, .load 31 (.tmp 65), 31, none) := by subst hops; kernel_rfl
      have hgd : GdOk ops a none := trivial
      have d9 := hd 9 (by decide) (by subst hops; kernel_rfl)
      have e0 : ag a 65 = .pointer (some ⟨h, i * 5, none⟩) := d9
      refine op_loadg s hgd h (i * 5) e0 Ci _ (range_below hCi hg) Tryd.underlying31 rfl (by rw [lCi]; exact info_typesz) ?_
      exact PostE.put (i := 10) ho (vtd12_mem 10 hk).2 (hlt 10 hk) (fun k hk2 hne _ => vtd12_inj 10 hk k hk2 hne) (.inl (Ext.refl _ _)) rfl hg
    | 11, hk, hd =>
      have s : (ops[11]?).map sig = some (some 67, .call { callee := .value (.func 17), args := #[.tmp 62, .tmp 66], argTypes := #[26, 31] }, 4, none) := by subst hops; kernel_rfl
      have hgd : GdOk ops a none := trivial
      have d6 := hd 6 (by decide) (by subst hops; kernel_rfl)
      have d10 := hd 10 (by decide) (by subst hops; kernel_rfl)
      have e0 : ag a 62 = .agg #[mx, dx] := d6
      have e1 : ag a 66 = .agg Ci.toArray := d10
      refine op_callg s hgd (w' := w) (f := 17) (args := #[.agg #[mx, dx], .agg Ci.toArray]) ?_ ?_
      · simp only [execOp]
        go_simp
        refine ⟨by simpa [ag] using e0, by simpa [ag] using e1⟩
      · refine ((show Calls Tryd.prog _ #[.agg #[mx, dx], .agg Ci.toArray] w (BRes b1 w) from hr1 w hg)).mono ?_
        rintro e w' ⟨rfl, hb⟩
        exact ⟨_, rfl, PostE.put (i := 11) ho (vtd12_mem 11 hk).2 (hlt 11 hk) (fun k hk2 hne _ => vtd12_inj 11 hk k hk2 hne) (.inl (Ext.of hb)) rfl (later hg hb)⟩
    | 12, hk, hd =>
      have s : (ops[12]?).map sig = some (some 68, .binOp .neq 4 (.tmp 61) (.tmp 67) 4, 4, none) := by subst hops; kernel_rfl
      have hgd : GdOk ops a none := trivial
      have d5 := hd 5 (by decide) (by subst hops; kernel_rfl)
      have d11 := hd 11 (by decide) (by subst hops; kernel_rfl)
      have e0 : ag a 61 = .bool b1 := d5
      have e1 : ag a 67 = .bool b1 := d11
      refine op_valg s hgd (w' := w) (v := .bool false) ?_ ?_
      · simp only [execOp, eval_tmp, e0, e1]
        go_simp
      · exact PostE.put (i := 12) ho (vtd12_mem 12 hk).2 (hlt 12 hk) (fun k hk2 hne _ => vtd12_inj 12 hk k hk2 hne) (.inl (Ext.refl _ _)) rfl hg
    | 13, hk, hd =>
      have s : (ops[13]?).map sig = some (some 69, .move (.tmp 68), 4, none) := by subst hops; kernel_rfl
      have hgd : GdOk ops a none := trivial
      have d12 := hd 12 (by decide) (by subst hops; kernel_rfl)
      have e0 : ag a 68 = .bool false := d12
      refine op_valg s hgd (w' := w) (v := .bool false) ?_ ?_
      · exact congrArg (fun x => Result.ok (Next.value x) w) e0
      · exact PostE.put (i := 13) ho (vtd12_mem 13 hk).2 (hlt 13 hk) (fun k hk2 hne _ => vtd12_inj 13 hk k hk2 hne) (.inl (Ext.refl _ _)) rfl hg
    | 14, hk, hd =>
      have s : (ops[14]?).map sig = some (some 70, .load 26 (.tmp 14), 26, some (13, false)) := by subst hops; kernel_rfl
      have hgd : GdOk ops a (some (13, false)) := yielded_of (d := 69) (by subst hops; kernel_rfl) (hd 13 (by decide) (by subst hops; kernel_rfl))
      have e0 : ag a 14 = .pointer (some ⟨g14, 0, none⟩) := (ho.off 14 (by decide)).trans h14
      refine op_loadg s hgd g14 0 e0 [my, dy] _ (range_below hy hg) Tryd.underlying26 rfl info_prog ?_
      exact PostE.put (i := 14) ho (vtd12_mem 14 hk).2 (hlt 14 hk) (fun k hk2 hne _ => vtd12_inj 14 hk k hk2 hne) (.inl (Ext.refl _ _)) rfl hg
    | 15, hk, hd =>
      have s : (ops[15]?).map sig = some (some 71, .move (.tmp 17), 29, some (13, false)) := by subst hops; kernel_rfl
      have hgd : GdOk ops a (some (13, false)) := yielded_of (d := 69) (by subst hops; kernel_rfl) (hd 13 (by decide) (by subst hops; kernel_rfl))
      have e0 : ag a 17 = .slice (some ⟨h, 0, none⟩) 6 6 := (ho.off 17 (by decide)).trans h17
      refine op_valg s hgd (w' := w) (v := .slice (some ⟨h, 0, none⟩) 6 6) ?_ ?_
      · exact congrArg (fun x => Result.ok (Next.value x) w) e0
      · exact PostE.put (i := 15) ho (vtd12_mem 15 hk).2 (hlt 15 hk) (fun k hk2 hne _ => vtd12_inj 15 hk k hk2 hne) (.inl (Ext.refl _ _)) rfl hg
    | 16, hk, hd =>
      have s : (ops[16]?).map sig = some (some 72, .move (.tmp 18), 3, some (13, false)) := by subst hops; kernel_rfl
      have hgd : GdOk ops a (some (13, false)) := yielded_of (d := 69) (by subst hops; kernel_rfl) (hd 13 (by decide) (by subst hops; kernel_rfl))
      have e0 : ag a 18 = .int .i64 (i : Int) := (ho.off 18 (by decide)).trans h18
      refine op_valg s hgd (w' := w) (v := .int .i64 (i : Int)) ?_ ?_
      · exact congrArg (fun x => Result.ok (Next.value x) w) e0
      · exact PostE.put (i := 16) ho (vtd12_mem 16 hk).2 (hlt 16 hk) (fun k hk2 hne _ => vtd12_inj 16 hk k hk2 hne) (.inl (Ext.refl _ _)) rfl hg
    | 17, hk, hd =>
      have s : (ops[17]?).map sig = some (some 73, .indexAddr 29 (.tmp 71) (.tmp 72), 0, some (13, false)) := by subst hops; kernel_rfl
      have hgd : GdOk ops a (some (13, false)) := yielded_of (d := 69) (by subst hops; kernel_rfl) (hd 13 (by decide) (by subst hops; kernel_rfl))
      have d15 := hd 15 (by decide) (by subst hops; kernel_rfl)
      have d16 := hd 16 (by decide) (by subst hops; kernel_rfl)
      have e0 : ag a 71 = .slice (some ⟨h, 0, none⟩) 6 6 := d15
      have e1 : ag a 72 = .int .i64 (i : Int) := d16
      refine op_valg s hgd (w' := w) (v := .pointer (some ⟨h, i * 5, none⟩)) ?_ ?_
      · simp only [execOp, eval_tmp, e0, e1]
        go_simp
      · exact PostE.put (i := 17) ho (vtd12_mem 17 hk).2 (hlt 17 hk) (fun k hk2 hne _ => vtd12_inj 17 hk k hk2 hne) (.inl (Ext.refl _ _)) rfl hg
    | 18, hk, hd =>
      have s : (ops[18]?).map sig = some (some 74, .load 31 (.tmp 73), 31, some (13, false)) := by subst hops; kernel_rfl
      have hgd : GdOk ops a (some (13, false)) := yielded_of (d := 69) (by subst hops; kernel_rfl) (hd 13 (by decide) (by subst hops; kernel_rfl))
      have d17 := hd 17 (by decide) (by subst hops; kernel_rfl)
      have e0 : ag a 73 = .pointer (some ⟨h, i * 5, none⟩) := d17
      refine op_loadg s hgd h (i * 5) e0 Ci _ (range_below hCi hg) Tryd.underlying31 rfl (by rw [lCi]; exact info_typesz) ?_
      exact PostE.put (i := 18) ho (vtd12_mem 18 hk).2 (hlt 18 hk) (fun k hk2 hne _ => vtd12_inj 18 hk k hk2 hne) (.inl (Ext.refl _ _)) rfl hg
    | 19, hk, hd =>
      have s : (ops[19]?).map sig = some (some 75, .call { callee := .value (.func 16), args := #[.tmp 70, .tmp 74], argTypes := #[26, 31] }, 4, some (13, false)) := by subst hops; kernel_rfl
      have hgd : GdOk ops a (some (13, false)) := yielded_of (d := 69) (by subst hops; kernel_rfl) (hd 13 (by decide) (by subst hops; kernel_rfl))
      have d14 := hd 14 (by decide) (by subst hops; kernel_rfl)
      have d18 := hd 18 (by decide) (by subst hops; kernel_rfl)
      have e0 : ag a 70 = .agg #[my, dy] := d14
      have e1 : ag a 74 = .agg Ci.toArray := d18
      refine op_callg s hgd (w' := w) (f := 16) (args := #[.agg #[my, dy], .agg Ci.toArray]) ?_ ?_
      · simp only [execOp]
        go_simp
        refine ⟨by simpa [ag] using e0, by simpa [ag] using e1⟩
      · refine ((show Calls Tryd.prog _ #[.agg #[my, dy], .agg Ci.toArray] w (BRes b2 w) from hv2 w hg)).mono ?_
        rintro e w' ⟨rfl, hb⟩
        exact ⟨_, rfl, PostE.put (i := 19) ho (vtd12_mem 19 hk).2 (hlt 19 hk) (fun k hk2 hne _ => vtd12_inj 19 hk k hk2 hne) (.inl (Ext.of hb)) rfl (later hg hb)⟩
    | 20, hk, hd =>
      have s : (ops[20]?).map sig = some (some 76, .load 26 (.tmp 14), 26, some (13, false)) := by subst hops; kernel_rfl
      have hgd : GdOk ops a (some (13, false)) := yielded_of (d := 69) (by subst hops; kernel_rfl) (hd 13 (by decide) (by subst hops; kernel_rfl))
      have e0 : ag a 14 = .pointer (some ⟨g14, 0, none⟩) := (ho.off 14 (by decide)).trans h14
      refine op_loadg s hgd g14 0 e0 [my, dy] _ (range_below hy hg) Tryd.underlying26 rfl info_prog ?_
      exact PostE.put (i := 20) ho (vtd12_mem 20 hk).2 (hlt 20 hk) (fun k hk2 hne _ => vtd12_inj 20 hk k hk2 hne) (.inl (Ext.refl _ _)) rfl hg
    | 21, hk, hd =>
      have s : (ops[21]?).map sig = some (some 77, .move (.tmp 17), 29, some (13, false)) := by subst hops; kernel_rfl
      have hgd : GdOk ops a (some (13, false)) := yielded_of (d := 69) (by subst hops; kernel_rfl) (hd 13 (by decide) (by subst hops; kernel_rfl))
      have e0 : ag a 17 = .slice (some ⟨h, 0, none⟩) 6 6 := (ho.off 17 (by decide)).trans h17
      refine op_valg s hgd (w' := w) (v := .slice (some ⟨h, 0, none⟩) 6 6) ?_ ?_
      · exact congrArg (fun x => Result.ok (Next.value x) w) e0
      · exact PostE.put (i := 21) ho (vtd12_mem 21 hk).2 (hlt 21 hk) (fun k hk2 hne _ => vtd12_inj 21 hk k hk2 hne) (.inl (Ext.refl _ _)) rfl hg
    | 22, hk, hd =>
      have s : (ops[22]?).map sig = some (some 78, .move (.tmp 18), 3, some (13, false)) := by subst hops; kernel_rfl
      have hgd : GdOk ops a (some (13, false)) := yielded_of (d := 69) (by subst hops; kernel_rfl) (hd 13 (by decide) (by subst hops; kernel_rfl))
      have e0 : ag a 18 = .int .i64 (i : Int) := (ho.off 18 (by decide)).trans h18
      refine op_valg s hgd (w' := w) (v := .int .i64 (i : Int)) ?_ ?_
      · exact congrArg (fun x => Result.ok (Next.value x) w) e0
      · exact PostE.put (i := 22) ho (vtd12_mem 22 hk).2 (hlt 22 hk) (fun k hk2 hne _ => vtd12_inj 22 hk k hk2 hne) (.inl (Ext.refl _ _)) rfl hg
    | 23, hk, hd =>
      have s : (ops[23]?).map sig = some (some 79, .indexAddr 29 (.tmp 77) (.tmp 78), 0, some (13, false)) := by subst hops; kernel_rfl
      have hgd : GdOk ops a (some (13, false)) := yielded_of (d := 69) (by subst hops; kernel_rfl) (hd 13 (by decide) (by subst hops; kernel_rfl))
      have d21 := hd 21 (by decide) (by subst hops; kernel_rfl)
      have d22 := hd 22 (by decide) (by subst hops; kernel_rfl)
      have e0 : ag a 77 = .slice (some ⟨h, 0, none⟩) 6 6 := d21
      have e1 : ag a 78 = .int .i64 (i : Int) := d22
      refine op_valg s hgd (w' := w) (v := .pointer (some ⟨h, i * 5, none⟩)) ?_ ?_
      · simp only [execOp, eval_tmp, e0, e1]
        go_simp
      · exact PostE.put (i := 23) ho (vtd12_mem 23 hk).2 (hlt 23 hk) (fun k hk2 hne _ => vtd12_inj 23 hk k hk2 hne) (.inl (Ext.refl _ _)) rfl hg
    | 24, hk, hd =>
      have s : (ops[24]?).map sig = some (some 80, .load 31 (.tmp 79), 31, some (13, false)) := by subst hops; kernel_rfl
      have hgd : GdOk ops a (some (13, false)) := yielded_of (d := 69) (by subst hops; kernel_rfl) (hd 13 (by decide) (by subst hops; kernel_rfl))
      have d23 := hd 23 (by decide) (by subst hops; kernel_rfl)
      have e0 : ag a 79 = .pointer (some ⟨h, i * 5, none⟩) := d23
      refine op_loadg s hgd h (i * 5) e0 Ci _ (range_below hCi hg) Tryd.underlying31 rfl (by rw [lCi]; exact info_typesz) ?_
      exact PostE.put (i := 24) ho (vtd12_mem 24 hk).2 (hlt 24 hk) (fun k hk2 hne _ => vtd12_inj 24 hk k hk2 hne) (.inl (Ext.refl _ _)) rfl hg
    | 25, hk, hd =>
      have s : (ops[25]?).map sig = some (some 81, .call { callee := .value (.func 17), args := #[.tmp 76, .tmp 80], argTypes := #[26, 31] }, 4, some (13, false)) := by subst hops; kernel_rfl
      have hgd : GdOk ops a (some (13, false)) := yielded_of (d := 69) (by subst hops; kernel_rfl) (hd 13 (by decide) (by subst hops; kernel_rfl))
      have d20 := hd 20 (by decide) (by subst hops; kernel_rfl)
      have d24 := hd 24 (by decide) (by subst hops; kernel_rfl)
      have e0 : ag a 76 = .agg #[my, dy] := d20
      have e1 : ag a 80 = .agg Ci.toArray := d24
      refine op_callg s hgd (w' := w) (f := 17) (args := #[.agg #[my, dy], .agg Ci.toArray]) ?_ ?_
      · simp only [execOp]
        go_simp
        refine ⟨by simpa [ag] using e0, by simpa [ag] using e1⟩
      · refine ((show Calls Tryd.prog _ #[.agg #[my, dy], .agg Ci.toArray] w (BRes b2 w) from hr2 w hg)).mono ?_
        rintro e w' ⟨rfl, hb⟩
        exact ⟨_, rfl, PostE.put (i := 25) ho (vtd12_mem 25 hk).2 (hlt 25 hk) (fun k hk2 hne _ => vtd12_inj 25 hk k hk2 hne) (.inl (Ext.of hb)) rfl (later hg hb)⟩
    | 26, hk, hd =>
      have s : (ops[26]?).map sig = some (some 82, .binOp .neq 4 (.tmp 75) (.tmp 81) 4, 4, some (13, false)) := by subst hops; kernel_rfl
      have hgd : GdOk ops a (some (13, false)) := yielded_of (d := 69) (by subst hops; kernel_rfl) (hd 13 (by decide) (by subst hops; kernel_rfl))
      have d19 := hd 19 (by decide) (by subst hops; kernel_rfl)
      have d25 := hd 25 (by decide) (by subst hops; kernel_rfl)
      have e0 : ag a 75 = .bool b2 := d19
      have e1 : ag a 81 = .bool b2 := d25
      refine op_valg s hgd (w' := w) (v := .bool false) ?_ ?_
      · simp only [execOp, eval_tmp, e0, e1]
        go_simp
      · exact PostE.put (i := 26) ho (vtd12_mem 26 hk).2 (hlt 26 hk) (fun k hk2 hne _ => vtd12_inj 26 hk k hk2 hne) (.inl (Ext.refl _ _)) rfl hg
    | n + 27, hn, _ => exact absurd hn (by omega)
  · intro a w ho hg hf
    have s : (ops[27]?).map sig = some (some 83, .pick (.tmp 69) (.const (.bool true)) (.tmp 82), 4, none) := by subst hops; kernel_rfl
    have hgd : GdOk ops a none := trivial
    have d13 := hf 13 (by decide)
    have d26 := hf 26 (by decide)
    have e0 : ag a 69 = .bool false := d13
    have e1 : ag a 82 = .bool false := d26
    refine op_valg s hgd (w' := w) (v := .bool false) ?_ ?_
    · simp only [execOp, eval_tmp, e0, e1]
      go_simp
    · have ho2 : Off (vtD12 ++ [83]) a0 (a.put (some 83) (.bool false)) := (ho.mono (fun s hs => List.mem_append_left _ hs)).put (by decide)
      exact hQ (ag (a.put (some 83) (.bool false))) w (ag_put (by rw [ho.size, hsz]; decide)) hg _ (ho2.eq (fun s hs => by rw [hsz]; revert s; decide))
def vtf17 (h i k : Nat) (Ci Ck : List Value) (b : Bool) : Nat → Value → World → Prop
  | 0, v, w => v = .slice (some ⟨h, 0, none⟩) 6 6
  | 1, v, w => v = .int .i64 (i : Int)
  | 2, v, w => v = .pointer (some ⟨h, i * 5, none⟩)
  | 3, v, w => v = .agg Ci.toArray
  | 4, v, w => v = .slice (some ⟨h, 0, none⟩) 6 6
  | 5, v, w => v = .int .i64 (k : Int)
  | 6, v, w => v = .pointer (some ⟨h, k * 5, none⟩)
  | 7, v, w => v = .agg Ck.toArray
  | 8, v, w => v = .bool b
  | 9, v, w => v = .slice (some ⟨h, 0, none⟩) 6 6
  | 10, v, w => v = .int .i64 (i : Int)
  | 11, v, w => v = .pointer (some ⟨h, i * 5, none⟩)
  | 12, v, w => v = .agg Ci.toArray
  | 13, v, w => v = .slice (some ⟨h, 0, none⟩) 6 6
  | 14, v, w => v = .int .i64 (k : Int)
  | 15, v, w => v = .pointer (some ⟨h, k * 5, none⟩)
  | 16, v, w => v = .agg Ck.toArray
  | 17, v, w => v = .bool b
  | _, _, _ => True
theorem vtf17_ext (h i k : Nat) (Ci Ck : List Value) (b : Bool) (S : Nat) : ∀ j v w w', j < 18 → (Ext S w w' ∨ (j ≠ 999 ∧ Never w w')) → vtf17 h i k Ci Ck b j v w → vtf17 h i k Ci Ck b j v w' := by
  intro j v w w' hj he h
  match j, hj, he, h with
  | 0, _, he, h => exact h
  | 1, _, he, h => exact h
  | 2, _, he, h => exact h
  | 3, _, he, h => exact h
  | 4, _, he, h => exact h
  | 5, _, he, h => exact h
  | 6, _, he, h => exact h
  | 7, _, he, h => exact h
  | 8, _, he, h => exact h
  | 9, _, he, h => exact h
  | 10, _, he, h => exact h
  | 11, _, he, h => exact h
  | 12, _, he, h => exact h
  | 13, _, he, h => exact h
  | 14, _, he, h => exact h
  | 15, _, he, h => exact h
  | 16, _, he, h => exact h
  | 17, _, he, h => exact h
  | n + 18, hn, _, _ => exact absurd hn (by omega)
def vtD17 : List Nat := [90, 91, 92, 93, 94, 95, 96, 97, 98, 99, 100, 101, 102, 103, 104, 105, 106, 107]
def vtd17 (k : Nat) : Nat := [90, 91, 92, 93, 94, 95, 96, 97, 98, 99, 100, 101, 102, 103, 104, 105, 106, 107].getD k 0
theorem vtd17_mem : ∀ k, k < 18 → vtd17 k < 164 ∧ vtd17 k ∈ vtD17 := by decide
theorem vtd17_inj : ∀ i, i < 18 → ∀ k, k < 18 → k ≠ i → vtd17 i ≠ vtd17 k := by decide
set_option maxHeartbeats 4000000 in
set_option maxRecDepth 100000 in
theorem vtreg17 {Q : Exit → Act → World → Prop} {id : Nat} {ops : Array Oper} (hops : ops = ((Tryd.f3.body).bind (opsOf 17)).getD #[]) (a0 : Act) (w0 : World) (h i k : Nat) (Ci Ck : List Value) (b : Bool) (hsz : a0.tmps.size = 164)
    (h17 : ag a0 17 = .slice (some ⟨h, 0, none⟩) 6 6) (h18 : ag a0 18 = .int .i64 (i : Int)) (h19 : ag a0 19 = .int .i64 (k : Int)) (hCi : w0.rangeAt h (i * 5) Ci) (lCi : Ci.length = 5) (hii : (i : Int) < 6) (hoi : (0 : Int) ≤ (i : Int)) (hCk : w0.rangeAt h (k * 5) Ck) (lCk : Ck.length = 5) (hik : (k : Int) < 6) (hok : (0 : Int) ≤ (k : Int)) (hs1 : ∀ W, Below w0.heap.size w0 W → Calls Tryd.prog 18 #[.agg Ci.toArray, .agg Ck.toArray] W (BRes b W)) (hs2 : ∀ W, Below w0.heap.size w0 W → Calls Tryd.prog 19 #[.agg Ci.toArray, .agg Ck.toArray] W (BRes b W))
    (hQ : ∀ (vs : Nat → Value) (w' : World), vs 108 = .bool false → Below w0.heap.size w0 w' → ∀ a', a' = (vtD17 ++ [108]).foldl (fun b s => b.put (some s) (vs s)) a0 → Q .normal a' w') :
    (Code.region id ops true).wp Tryd.prog Q a0 w0 := by
  have hg0 : Below w0.heap.size w0 w0.drew := below_drewN (Below.refl _ _) 1
  have hlt : ∀ k, k < 18 → vtd17 k < a0.tmps.size := fun k hk => by have := (vtd17_mem k hk).1; omega
  refine wp_region_factsE 18 999 vtD17 vtd17 (vtf17 h i k Ci Ck b) (fun w => Below w0.heap.size w0 w) w0.heap.size Never (fun k => k) (by kernel_rfl) (by subst hops; kernel_rfl) (by subst hops; kernel_rfl) (by subst hops; kernel_rfl) (vtf17_ext h i k Ci Ck b w0.heap.size) hg0 ?_ ?_
  · intro j a w hj ho hg hd
    have hgs := hg.size
    match j, hj, hd with
    | 0, hk, hd =>
      have s : (ops[0]?).map sig = some (some 90, .move (.tmp 17), 29, none) := by subst hops; kernel_rfl
      have hgd : GdOk ops a none := trivial
      have e0 : ag a 17 = .slice (some ⟨h, 0, none⟩) 6 6 := (ho.off 17 (by decide)).trans h17
      refine op_valg s hgd (w' := w) (v := .slice (some ⟨h, 0, none⟩) 6 6) ?_ ?_
      · exact congrArg (fun x => Result.ok (Next.value x) w) e0
      · exact PostE.put (i := 0) ho (vtd17_mem 0 hk).2 (hlt 0 hk) (fun k hk2 hne _ => vtd17_inj 0 hk k hk2 hne) (.inl (Ext.refl _ _)) rfl hg
    | 1, hk, hd =>
      have s : (ops[1]?).map sig = some (some 91, .move (.tmp 18), 3, none) := by subst hops; kernel_rfl
      have hgd : GdOk ops a none := trivial
      have e0 : ag a 18 = .int .i64 (i : Int) := (ho.off 18 (by decide)).trans h18
      refine op_valg s hgd (w' := w) (v := .int .i64 (i : Int)) ?_ ?_
      · exact congrArg (fun x => Result.ok (Next.value x) w) e0
      · exact PostE.put (i := 1) ho (vtd17_mem 1 hk).2 (hlt 1 hk) (fun k hk2 hne _ => vtd17_inj 1 hk k hk2 hne) (.inl (Ext.refl _ _)) rfl hg
    | 2, hk, hd =>
      have s : (ops[2]?).map sig = some (some 92, .indexAddr 29 (.tmp 90) (.tmp 91), 0, none) := by subst hops; kernel_rfl
      have hgd : GdOk ops a none := trivial
      have d0 := hd 0 (by decide) (by subst hops; kernel_rfl)
      have d1 := hd 1 (by decide) (by subst hops; kernel_rfl)
      have e0 : ag a 90 = .slice (some ⟨h, 0, none⟩) 6 6 := d0
      have e1 : ag a 91 = .int .i64 (i : Int) := d1
      refine op_valg s hgd (w' := w) (v := .pointer (some ⟨h, i * 5, none⟩)) ?_ ?_
      · simp only [execOp, eval_tmp, e0, e1]
        go_simp
      · exact PostE.put (i := 2) ho (vtd17_mem 2 hk).2 (hlt 2 hk) (fun k hk2 hne _ => vtd17_inj 2 hk k hk2 hne) (.inl (Ext.refl _ _)) rfl hg
    | 3, hk, hd =>
      have s : (ops[3]?).map sig = some (some 93, .load 31 (.tmp 92), 31, none) := by subst hops; kernel_rfl
      have hgd : GdOk ops a none := trivial
      have d2 := hd 2 (by decide) (by subst hops; kernel_rfl)
      have e0 : ag a 92 = .pointer (some ⟨h, i * 5, none⟩) := d2
      refine op_loadg s hgd h (i * 5) e0 Ci _ (range_below hCi hg) Tryd.underlying31 rfl (by rw [lCi]; exact info_typesz) ?_
      exact PostE.put (i := 3) ho (vtd17_mem 3 hk).2 (hlt 3 hk) (fun k hk2 hne _ => vtd17_inj 3 hk k hk2 hne) (.inl (Ext.refl _ _)) rfl hg
    | 4, hk, hd =>
      have s : (ops[4]?).map sig = some (some 94, .move (.tmp 17), 29, none) := by subst hops; kernel_rfl
      have hgd : GdOk ops a none := trivial
      have e0 : ag a 17 = .slice (some ⟨h, 0, none⟩) 6 6 := (ho.off 17 (by decide)).trans h17
      refine op_valg s hgd (w' := w) (v := .slice (some ⟨h, 0, none⟩) 6 6) ?_ ?_
      · exact congrArg (fun x => Result.ok (Next.value x) w) e0
      · exact PostE.put (i := 4) ho (vtd17_mem 4 hk).2 (hlt 4 hk) (fun k hk2 hne _ => vtd17_inj 4 hk k hk2 hne) (.inl (Ext.refl _ _)) rfl hg
    | 5, hk, hd =>
      have s : (ops[5]?).map sig = some (some 95, .move (.tmp 19), 3, none) := by subst hops; kernel_rfl
      have hgd : GdOk ops a none := trivial
      have e0 : ag a 19 = .int .i64 (k : Int) := (ho.off 19 (by decide)).trans h19
      refine op_valg s hgd (w' := w) (v := .int .i64 (k : Int)) ?_ ?_
      · exact congrArg (fun x => Result.ok (Next.value x) w) e0
      · exact PostE.put (i := 5) ho (vtd17_mem 5 hk).2 (hlt 5 hk) (fun k hk2 hne _ => vtd17_inj 5 hk k hk2 hne) (.inl (Ext.refl _ _)) rfl hg
    | 6, hk, hd =>
      have s : (ops[6]?).map sig = some (some 96, .indexAddr 29 (.tmp 94) (.tmp 95), 0, none) := by subst hops; kernel_rfl
      have hgd : GdOk ops a none := trivial
      have d4 := hd 4 (by decide) (by subst hops; kernel_rfl)
      have d5 := hd 5 (by decide) (by subst hops; kernel_rfl)
      have e0 : ag a 94 = .slice (some ⟨h, 0, none⟩) 6 6 := d4
      have e1 : ag a 95 = .int .i64 (k : Int) := d5
      refine op_valg s hgd (w' := w) (v := .pointer (some ⟨h, k * 5, none⟩)) ?_ ?_
      · simp only [execOp, eval_tmp, e0, e1]
        go_simp
      · exact PostE.put (i := 6) ho (vtd17_mem 6 hk).2 (hlt 6 hk) (fun k hk2 hne _ => vtd17_inj 6 hk k hk2 hne) (.inl (Ext.refl _ _)) rfl hg
    | 7, hk, hd =>
      have s : (ops[7]?).map sig = some (some 97, .load 31 (.tmp 96), 31, none) := by subst hops; kernel_rfl
      have hgd : GdOk ops a none := trivial
      have d6 := hd 6 (by decide) (by subst hops; kernel_rfl)
      have e0 : ag a 96 = .pointer (some ⟨h, k * 5, none⟩) := d6
      refine op_loadg s hgd h (k * 5) e0 Ck _ (range_below hCk hg) Tryd.underlying31 rfl (by rw [lCk]; exact info_typesz) ?_
      exact PostE.put (i := 7) ho (vtd17_mem 7 hk).2 (hlt 7 hk) (fun k hk2 hne _ => vtd17_inj 7 hk k hk2 hne) (.inl (Ext.refl _ _)) rfl hg
    | 8, hk, hd =>
      have s : (ops[8]?).map sig = some (some 98, .call { callee := .value (.func 18), args := #[.tmp 93, .tmp 97], argTypes := #[31, 31] }, 4, none) := by subst hops; kernel_rfl
      have hgd : GdOk ops a none := trivial
      have d3 := hd 3 (by decide) (by subst hops; kernel_rfl)
      have d7 := hd 7 (by decide) (by subst hops; kernel_rfl)
      have e0 : ag a 93 = .agg Ci.toArray := d3
      have e1 : ag a 97 = .agg Ck.toArray := d7
      refine op_callg s hgd (w' := w) (f := 18) (args := #[.agg Ci.toArray, .agg Ck.toArray]) ?_ ?_
      · simp only [execOp]
        go_simp
        refine ⟨by simpa [ag] using e0, by simpa [ag] using e1⟩
      · refine ((show Calls Tryd.prog _ #[.agg Ci.toArray, .agg Ck.toArray] w (BRes b w) from hs1 w hg)).mono ?_
        rintro e w' ⟨rfl, hb⟩
        exact ⟨_, rfl, PostE.put (i := 8) ho (vtd17_mem 8 hk).2 (hlt 8 hk) (fun k hk2 hne _ => vtd17_inj 8 hk k hk2 hne) (.inl (Ext.of hb)) rfl (later hg hb)⟩
    | 9, hk, hd =>
      have s : (ops[9]?).map sig = some (some 99, .move (.tmp 17), 29, none) := by subst hops; kernel_rfl
      have hgd : GdOk ops a none := trivial
      have e0 : ag a 17 = .slice (some ⟨h, 0, none⟩) 6 6 := (ho.off 17 (by decide)).trans h17
      refine op_valg s hgd (w' := w) (v := .slice (some ⟨h, 0, none⟩) 6 6) ?_ ?_
      · exact congrArg (fun x => Result.ok (Next.value x) w) e0
      · exact PostE.put (i := 9) ho (vtd17_mem 9 hk).2 (hlt 9 hk) (fun k hk2 hne _ => vtd17_inj 9 hk k hk2 hne) (.inl (Ext.refl _ _)) rfl hg
    | 10, hk, hd =>
      have s : (ops[10]?).map sig = some (some 100, .move (.tmp 18), 3, none) := by subst hops; kernel_rfl
      have hgd : GdOk ops a none := trivial
      have e0 : ag a 18 = .int .i64 (i : Int) := (ho.off 18 (by decide)).trans h18
      refine op_valg s hgd (w' := w) (v := .int .i64 (i : Int)) ?_ ?_
      · exact congrArg (fun x => Result.ok (Next.value x) w) e0
      · exact PostE.put (i := 10) ho (vtd17_mem 10 hk).2 (hlt 10 hk) (fun k hk2 hne _ => vtd17_inj 10 hk k hk2 hne) (.inl (Ext.refl _ _)) rfl hg
    | 11, hk, hd =>
      have s : (ops[11]?).map sig = some (some 101, .indexAddr 29 (.tmp 99) (.tmp 100), 0, none) := by subst hops; kernel_rfl
      have hgd : GdOk ops a none := trivial
      have d9 := hd 9 (by decide) (by subst hops; kernel_rfl)
      have d10 := hd 10 (by decide) (by subst hops; kernel_rfl)
      have e0 : ag a 99 = .slice (some ⟨h, 0, none⟩) 6 6 := d9
      have e1 : ag a 100 = .int .i64 (i : Int) := d10
      refine op_valg s hgd (w' := w) (v := .pointer (some ⟨h, i * 5, none⟩)) ?_ ?_
      · simp only [execOp, eval_tmp, e0, e1]
        go_simp
      · exact PostE.put (i := 11) ho (vtd17_mem 11 hk).2 (hlt 11 hk) (fun k hk2 hne _ => vtd17_inj 11 hk k hk2 hne) (.inl (Ext.refl _ _)) rfl hg
    | 12, hk, hd =>
      have s : (ops[12]?).map sig = some (some 102, .load 31 (.tmp 101), 31, none) := by subst hops; kernel_rfl
      have hgd : GdOk ops a none := trivial
      have d11 := hd 11 (by decide) (by subst hops; kernel_rfl)
      have e0 : ag a 101 = .pointer (some ⟨h, i * 5, none⟩) := d11
      refine op_loadg s hgd h (i * 5) e0 Ci _ (range_below hCi hg) Tryd.underlying31 rfl (by rw [lCi]; exact info_typesz) ?_
      exact PostE.put (i := 12) ho (vtd17_mem 12 hk).2 (hlt 12 hk) (fun k hk2 hne _ => vtd17_inj 12 hk k hk2 hne) (.inl (Ext.refl _ _)) rfl hg
    | 13, hk, hd =>
      have s : (ops[13]?).map sig = some (some 103, .move (.tmp 17), 29, none) := by subst hops; kernel_rfl
      have hgd : GdOk ops a none := trivial
      have e0 : ag a 17 = .slice (some ⟨h, 0, none⟩) 6 6 := (ho.off 17 (by decide)).trans h17
      refine op_valg s hgd (w' := w) (v := .slice (some ⟨h, 0, none⟩) 6 6) ?_ ?_
      · exact congrArg (fun x => Result.ok (Next.value x) w) e0
      · exact PostE.put (i := 13) ho (vtd17_mem 13 hk).2 (hlt 13 hk) (fun k hk2 hne _ => vtd17_inj 13 hk k hk2 hne) (.inl (Ext.refl _ _)) rfl hg
    | 14, hk, hd =>
      have s : (ops[14]?).map sig = some (some 104, .move (.tmp 19), 3, none) := by subst hops; kernel_rfl
      have hgd : GdOk ops a none := trivial
      have e0 : ag a 19 = .int .i64 (k : Int) := (ho.off 19 (by decide)).trans h19
      refine op_valg s hgd (w' := w) (v := .int .i64 (k : Int)) ?_ ?_
      · exact congrArg (fun x => Result.ok (Next.value x) w) e0
      · exact PostE.put (i := 14) ho (vtd17_mem 14 hk).2 (hlt 14 hk) (fun k hk2 hne _ => vtd17_inj 14 hk k hk2 hne) (.inl (Ext.refl _ _)) rfl hg
    | 15, hk, hd =>
      have s : (ops[15]?).map sig = some (some 105, .indexAddr 29 (.tmp 103) (.tmp 104), 0, none) := by subst hops; kernel_rfl
      have hgd : GdOk ops a none := trivial
      have d13 := hd 13 (by decide) (by subst hops; kernel_rfl)
      have d14 := hd 14 (by decide) (by subst hops; kernel_rfl)
      have e0 : ag a 103 = .slice (some ⟨h, 0, none⟩) 6 6 := d13
      have e1 : ag a 104 = .int .i64 (k : Int) := d14
      refine op_valg s hgd (w' := w) (v := .pointer (some ⟨h, k * 5, none⟩)) ?_ ?_
      · simp only [execOp, eval_tmp, e0, e1]
        go_simp
      · exact PostE.put (i := 15) ho (vtd17_mem 15 hk).2 (hlt 15 hk) (fun k hk2 hne _ => vtd17_inj 15 hk k hk2 hne) (.inl (Ext.refl _ _)) rfl hg
    | 16, hk, hd =>
      have s : (ops[16]?).map sig = some (some 106, .load 31 (.tmp 105), 31, none) := by subst hops; kernel_rfl
      have hgd : GdOk ops a none := trivial
      have d15 := hd 15 (by decide) (by subst hops; kernel_rfl)
      have e0 : ag a 105 = .pointer (some ⟨h, k * 5, none⟩) := d15
      refine op_loadg s hgd h (k * 5) e0 Ck _ (range_below hCk hg) Tryd.underlying31 rfl (by rw [lCk]; exact info_typesz) ?_
      exact PostE.put (i := 16) ho (vtd17_mem 16 hk).2 (hlt 16 hk) (fun k hk2 hne _ => vtd17_inj 16 hk k hk2 hne) (.inl (Ext.refl _ _)) rfl hg
    | 17, hk, hd =>
      have s : (ops[17]?).map sig = some (some 107, .call { callee := .value (.func 19), args := #[.tmp 102, .tmp 106], argTypes := #[31, 31] }, 4, none) := by subst hops; kernel_rfl
      have hgd : GdOk ops a none := trivial
      have d12 := hd 12 (by decide) (by subst hops; kernel_rfl)
      have d16 := hd 16 (by decide) (by subst hops; kernel_rfl)
      have e0 : ag a 102 = .agg Ci.toArray := d12
      have e1 : ag a 106 = .agg Ck.toArray := d16
      refine op_callg s hgd (w' := w) (f := 19) (args := #[.agg Ci.toArray, .agg Ck.toArray]) ?_ ?_
      · simp only [execOp]
        go_simp
        refine ⟨by simpa [ag] using e0, by simpa [ag] using e1⟩
      · refine ((show Calls Tryd.prog _ #[.agg Ci.toArray, .agg Ck.toArray] w (BRes b w) from hs2 w hg)).mono ?_
        rintro e w' ⟨rfl, hb⟩
        exact ⟨_, rfl, PostE.put (i := 17) ho (vtd17_mem 17 hk).2 (hlt 17 hk) (fun k hk2 hne _ => vtd17_inj 17 hk k hk2 hne) (.inl (Ext.of hb)) rfl (later hg hb)⟩
    | n + 18, hn, _ => exact absurd hn (by omega)
  · intro a w ho hg hf
    have s : (ops[18]?).map sig = some (some 108, .binOp .neq 4 (.tmp 98) (.tmp 107) 4, 4, none) := by subst hops; kernel_rfl
    have hgd : GdOk ops a none := trivial
    have d8 := hf 8 (by decide)
    have d17 := hf 17 (by decide)
    have e0 : ag a 98 = .bool b := d8
    have e1 : ag a 107 = .bool b := d17
    refine op_valg s hgd (w' := w) (v := .bool false) ?_ ?_
    · simp only [execOp, eval_tmp, e0, e1]
      go_simp
    · have ho2 : Off (vtD17 ++ [108]) a0 (a.put (some 108) (.bool false)) := (ho.mono (fun s hs => List.mem_append_left _ hs)).put (by decide)
      exact hQ (ag (a.put (some 108) (.bool false))) w (ag_put (by rw [ho.size, hsz]; decide)) hg _ (ho2.eq (fun s hs => by rw [hsz]; revert s; decide))
end Go.Proofs.YtkpoiljioadfgaaDoor

