import Derived.Test.YtjbleefpafnhhaaDoorX02
import Derived.Test.YtjbleefpafnhhaaDoorX05
import Derived.Test.YtjbleefpafnhhaaDoorX23
import Derived.Test.YtjbleefpafnhhaaDoorX29
import Derived.Test.YtjbleefpafnhhaaDoorX32
import Derived.Test.YtjbleefpafnhhaaDoorX33
import Derived.Test.YtjbleefpafnhhaaDoorX35
import Derived.Test.YtjbleefpafnhhaaDoorX36

set_option linter.unusedVariables false
set_option linter.unusedSimpArgs false
namespace Go.Proofs.YtjbleefpafnhhaaDoor
open Go.RowKit
def vof3 (g8 g9 gP gT jd : Nat) (mv dv lm ln : Value) (Cv Cw : List Value) (tv tw : Tr) (S : Nat) : Nat → Value → World → Prop
  | 0, v, w => v = .agg Cv.toArray
  | 1, v, w => v = .agg Cw.toArray
  | 2, v, w => v = .agg #[mv, dv]
  | 3, v, w => v = .agg #[.int .i64 3, .int .i64 0, .int .i64 1, .int .i64 (1 + (jd : Int)), .slice none 0 0]
  | 4, v, w => v = lm
  | 5, v, w => ∃ (x : Tr) (xk xn : Int) (xA : Option Addr) (xl xc : Nat), v = .agg #[.int .i64 xk, .int .i64 xn, .slice xA xl xc] ∧ TrF (S ≤ ·) w x (.agg #[.int .i64 xk, .int .i64 xn, .slice xA xl xc]) ∧ x.nodes ≤ 256
  | 6, v, w => v = .agg #[mv, dv]
  | 7, v, w => v = .agg #[.int .i64 3, .int .i64 0, .int .i64 1, .int .i64 (1 + (jd : Int)), .slice none 0 0]
  | 8, v, w => v = ln
  | 9, v, w => ∃ (x : Tr) (xk xn : Int) (xA : Option Addr) (xl xc : Nat), v = .agg #[.int .i64 xk, .int .i64 xn, .slice xA xl xc] ∧ TrF (S ≤ ·) w x (.agg #[.int .i64 xk, .int .i64 xn, .slice xA xl xc]) ∧ x.nodes ≤ 256
  | 10, v, w => v = .agg #[mv, dv]
  | 11, v, w => v = .agg #[.int .i64 3, .int .i64 0, .int .i64 1, .int .i64 (1 + (jd : Int)), .slice none 0 0]
  | 12, v, w => v = lm
  | 13, v, w => ∃ (x : Tr) (xk xn : Int) (xA : Option Addr) (xl xc : Nat), v = .agg #[.int .i64 xk, .int .i64 xn, .slice xA xl xc] ∧ TrF (S ≤ ·) w x (.agg #[.int .i64 xk, .int .i64 xn, .slice xA xl xc]) ∧ x.nodes ≤ 256
  | 14, v, w => ∃ (x : Tr) (xk xn : Int) (xA : Option Addr) (xl xc : Nat), v = .agg #[.int .i64 xk, .int .i64 xn, .slice xA xl xc] ∧ TrF (S ≤ ·) w x (.agg #[.int .i64 xk, .int .i64 xn, .slice xA xl xc]) ∧ True
  | 15, v, w => ∃ (h : Nat) (x : Tr) (xk xn : Int) (xA : Option Addr) (xl xc : Nat) (y : Tr) (yk yn : Int) (yA : Option Addr) (yl yc : Nat) (z : Tr) (zk zn : Int) (zA : Option Addr) (zl zc : Nat), v = .slice (some ⟨h, 0, none⟩) 5 5 ∧ S ≤ h ∧ Arr w h 15 53 (Cv ++ (Cw ++ ([.int .i64 xk, .int .i64 xn, .slice xA xl xc] ++ ([.int .i64 yk, .int .i64 yn, .slice yA yl yc] ++ [.int .i64 zk, .int .i64 zn, .slice zA zl zc])))) ∧ TrF (S ≤ ·) w x (.agg #[.int .i64 xk, .int .i64 xn, .slice xA xl xc]) ∧ TrF (S ≤ ·) w y (.agg #[.int .i64 yk, .int .i64 yn, .slice yA yl yc]) ∧ TrF (S ≤ ·) w z (.agg #[.int .i64 zk, .int .i64 zn, .slice zA zl zc])
  | _, _, _ => True
theorem vof3_ext (g8 g9 gP gT jd : Nat) (mv dv lm ln : Value) (Cv Cw : List Value) (tv tw : Tr) (S : Nat) : ∀ j v w w', j < 16 → (Ext S w w' ∨ (j ≠ 999 ∧ Never w w')) → vof3 g8 g9 gP gT jd mv dv lm ln Cv Cw tv tw S j v w → vof3 g8 g9 gP gT jd mv dv lm ln Cv Cw tv tw S j v w' := by
  intro j v w w' hj he h
  match j, hj, he, h with
  | 0, _, he, h => exact h
  | 1, _, he, h => exact h
  | 2, _, he, h => exact h
  | 3, _, he, h => exact h
  | 4, _, he, h => exact h
  | 5, _, he, h => exact he.elim (fun q => h.elim fun x h => h.elim fun xk h => h.elim fun xn h => h.elim fun xA h => h.elim fun xl h => h.elim fun xc h => ⟨x, xk, xn, xA, xl, xc, h.1, h.2.1.keep (fun _ h => h) (fun g hg hl => q.2 g hg hl), h.2.2⟩) (fun q => absurd q.2 id)
  | 6, _, he, h => exact h
  | 7, _, he, h => exact h
  | 8, _, he, h => exact h
  | 9, _, he, h => exact he.elim (fun q => h.elim fun x h => h.elim fun xk h => h.elim fun xn h => h.elim fun xA h => h.elim fun xl h => h.elim fun xc h => ⟨x, xk, xn, xA, xl, xc, h.1, h.2.1.keep (fun _ h => h) (fun g hg hl => q.2 g hg hl), h.2.2⟩) (fun q => absurd q.2 id)
  | 10, _, he, h => exact h
  | 11, _, he, h => exact h
  | 12, _, he, h => exact h
  | 13, _, he, h => exact he.elim (fun q => h.elim fun x h => h.elim fun xk h => h.elim fun xn h => h.elim fun xA h => h.elim fun xl h => h.elim fun xc h => ⟨x, xk, xn, xA, xl, xc, h.1, h.2.1.keep (fun _ h => h) (fun g hg hl => q.2 g hg hl), h.2.2⟩) (fun q => absurd q.2 id)
  | 14, _, he, h => exact he.elim (fun q => h.elim fun x h => h.elim fun xk h => h.elim fun xn h => h.elim fun xA h => h.elim fun xl h => h.elim fun xc h => ⟨x, xk, xn, xA, xl, xc, h.1, h.2.1.keep (fun _ h => h) (fun g hg hl => q.2 g hg hl), h.2.2⟩) (fun q => absurd q.2 id)
  | 15, _, he, h => (obtain ⟨h', x, xk, xn, xA, xl, xc, y, yk, yn, yA, yl, yc, z, zk, zn, zA, zl, zc, e1, e2, e3, e4, e5, e6⟩ := h; exact he.elim (fun q => ⟨h', x, xk, xn, xA, xl, xc, y, yk, yn, yA, yl, yc, z, zk, zn, zA, zl, zc, e1, e2, e3.ext q e2, e4.keep (fun _ h => h) (fun g hg hl => q.2 g hg hl), e5.keep (fun _ h => h) (fun g hg hl => q.2 g hg hl), e6.keep (fun _ h => h) (fun g hg hl => q.2 g hg hl)⟩) (fun q => absurd q.2 id))
  | n + 16, hn, _, _ => exact absurd hn (by omega)
def voD3 : List Nat := [30, 31, 32, 33, 34, 35, 36, 37, 38, 39, 40, 41, 42, 43, 44, 45]
def vod3 (k : Nat) : Nat := [30, 31, 32, 33, 34, 35, 36, 37, 38, 39, 40, 41, 42, 43, 44, 45].getD k 0
theorem vod3_mem : ∀ k, k < 16 → vod3 k < 155 ∧ vod3 k ∈ voD3 := by decide
theorem vod3_inj : ∀ i, i < 16 → ∀ k, k < 16 → k ≠ i → vod3 i ≠ vod3 k := by decide
set_option maxHeartbeats 4000000 in
set_option maxRecDepth 100000 in
theorem voreg3 {Q : Exit → Act → World → Prop} {id : Nat} {ops : Array Oper} (hops : ops = ((Tryd.f5.body).bind (opsOf 3)).getD #[]) (a0 : Act) (w0 : World) (g8 g9 gP gT jd : Nat) (mv dv lm ln : Value) (Cv Cw : List Value) (tv tw : Tr) (hsz : a0.tmps.size = 155)
    (h1 : ag a0 1 = lm) (h2 : ag a0 2 = ln) (h8 : ag a0 8 = .pointer (some ⟨g8, 0, none⟩)) (h9 : ag a0 9 = .pointer (some ⟨g9, 0, none⟩)) (h11 : ag a0 11 = .pointer (some ⟨gP, 0, none⟩)) (h12 : ag a0 12 = .pointer (some ⟨gT, 0, none⟩)) {P : List Df} {ty : Ty} (hv8 : w0.rangeAt g8 0 Cv) (hv9 : w0.rangeAt g9 0 Cw) (hv3 : ∃ vk vn vA vl vc, Cv = [.int .i64 vk, .int .i64 vn, .slice vA vl vc]) (hw3 : ∃ vk vn vA vl vc, Cw = [.int .i64 vk, .int .i64 vn, .slice vA vl vc]) (hTv : TrAt w0 tv (.agg Cv.toArray)) (hTw : TrAt w0 tw (.agg Cw.toArray))
    (hP : w0.rangeAt gP 0 [mv, dv]) (hT : w0.rangeAt gT 0 [.int .i64 3, .int .i64 0, .int .i64 1, .int .i64 (1 + (jd : Int)), .slice none 0 0]) (HVm : ∀ W, Below w0.heap.size w0 W → Calls Tryd.prog 23 #[.agg #[mv, dv], .agg #[.int .i64 3, .int .i64 0, .int .i64 1, .int .i64 (1 + (jd : Int)), .slice none 0 0], lm] W (VVal P ty W)) (HVn : ∀ W, Below w0.heap.size w0 W → Calls Tryd.prog 23 #[.agg #[mv, dv], .agg #[.int .i64 3, .int .i64 0, .int .i64 1, .int .i64 (1 + (jd : Int)), .slice none 0 0], ln] W (VVal P ty W))
    (hQ : ∀ (vs : Nat → Value) (w' : World) (h : Nat) (x y z : Tr), vs 13 = .slice (some ⟨h, 0, none⟩) 5 5 → KsAt w' (some ⟨h, 0, none⟩) 0 [tv, tw, x, y, z] → Below w0.heap.size w0 w' → ∀ a', a' = (voD3 ++ [13]).foldl (fun b s => b.put (some s) (vs s)) a0 → Q .normal a' w') :
    (Code.region id ops true).wp Tryd.prog Q a0 w0 := by
  have hg0 : Below w0.heap.size w0 w0.drew := below_drewN (Below.refl _ _) 1
  have hlt : ∀ k, k < 16 → vod3 k < a0.tmps.size := fun k hk => by have := (vod3_mem k hk).1; omega
  refine wp_region_factsE 16 999 voD3 vod3 (vof3 g8 g9 gP gT jd mv dv lm ln Cv Cw tv tw w0.heap.size) (fun w => Below w0.heap.size w0 w) w0.heap.size Never (fun k => k) (by kernel_rfl) (by subst hops; kernel_rfl) (by subst hops; kernel_rfl) (by subst hops; kernel_rfl) (vof3_ext g8 g9 gP gT jd mv dv lm ln Cv Cw tv tw w0.heap.size) hg0 ?_ ?_
  · intro j a w hj ho hg hd
    have hgs := hg.size
    match j, hj, hd with
    | 0, hk, hd =>
      have s : (ops[0]?).map sig = some (some 30, .load 53 (.tmp 8), 53, none) := by subst hops; kernel_rfl
      have hgd : GdOk ops a none := trivial
      have e0 : ag a 8 = .pointer (some ⟨g8, 0, none⟩) := (ho.off 8 (by decide)).trans h8
      refine op_loadg s hgd g8 0 e0 Cv _ (range_below hv8 hg) Tryd.underlying53 rfl (by obtain ⟨_, _, _, _, _, e⟩ := hv3; rw [e]; exact info_val) ?_
      exact PostE.put (i := 0) ho (vod3_mem 0 hk).2 (hlt 0 hk) (fun k hk2 hne _ => vod3_inj 0 hk k hk2 hne) (.inl (Ext.refl _ _)) rfl hg
    | 1, hk, hd =>
      have s : (ops[1]?).map sig = some (some 31, .load 53 (.tmp 9), 53, none) := by subst hops; kernel_rfl
      have hgd : GdOk ops a none := trivial
      have e0 : ag a 9 = .pointer (some ⟨g9, 0, none⟩) := (ho.off 9 (by decide)).trans h9
      refine op_loadg s hgd g9 0 e0 Cw _ (range_below hv9 hg) Tryd.underlying53 rfl (by obtain ⟨_, _, _, _, _, e⟩ := hw3; rw [e]; exact info_val) ?_
      exact PostE.put (i := 1) ho (vod3_mem 1 hk).2 (hlt 1 hk) (fun k hk2 hne _ => vod3_inj 1 hk k hk2 hne) (.inl (Ext.refl _ _)) rfl hg
    | 2, hk, hd =>
      have s : (ops[2]?).map sig = some (some 32, .load 26 (.tmp 11), 26, none) := by subst hops; kernel_rfl
      have hgd : GdOk ops a none := trivial
      have e0 : ag a 11 = .pointer (some ⟨gP, 0, none⟩) := (ho.off 11 (by decide)).trans h11
      refine op_loadg s hgd gP 0 e0 [mv, dv] _ (range_below hP hg) Tryd.underlying26 rfl info_prog ?_
      exact PostE.put (i := 2) ho (vod3_mem 2 hk).2 (hlt 2 hk) (fun k hk2 hne _ => vod3_inj 2 hk k hk2 hne) (.inl (Ext.refl _ _)) rfl hg
    | 3, hk, hd =>
      have s : (ops[3]?).map sig = some (some 33, .load 31 (.tmp 12), 31, none) := by subst hops; kernel_rfl
      have hgd : GdOk ops a none := trivial
      have e0 : ag a 12 = .pointer (some ⟨gT, 0, none⟩) := (ho.off 12 (by decide)).trans h12
      refine op_loadg s hgd gT 0 e0 [.int .i64 3, .int .i64 0, .int .i64 1, .int .i64 (1 + (jd : Int)), .slice none 0 0] _ (range_below hT hg) Tryd.underlying31 rfl info_typesz ?_
      exact PostE.put (i := 3) ho (vod3_mem 3 hk).2 (hlt 3 hk) (fun k hk2 hne _ => vod3_inj 3 hk k hk2 hne) (.inl (Ext.refl _ _)) rfl hg
    | 4, hk, hd =>
      have s : (ops[4]?).map sig = some (some 34, .move (.tmp 1), 22, none) := by subst hops; kernel_rfl
      have hgd : GdOk ops a none := trivial
      have e0 : ag a 1 = lm := (ho.off 1 (by decide)).trans h1
      refine op_valg s hgd (w' := w) (v := lm) ?_ ?_
      · exact congrArg (fun x => Result.ok (Next.value x) w) e0
      · exact PostE.put (i := 4) ho (vod3_mem 4 hk).2 (hlt 4 hk) (fun k hk2 hne _ => vod3_inj 4 hk k hk2 hne) (.inl (Ext.refl _ _)) rfl hg
    | 5, hk, hd =>
      have s : (ops[5]?).map sig = some (some 35, .call { callee := .value (.func 23), args := #[.tmp 32, .tmp 33, .tmp 34], argTypes := #[26, 31, 22] }, 53, none) := by subst hops; kernel_rfl
      have hgd : GdOk ops a none := trivial
      have d2 := hd 2 (by decide) (by subst hops; kernel_rfl)
      have d3 := hd 3 (by decide) (by subst hops; kernel_rfl)
      have d4 := hd 4 (by decide) (by subst hops; kernel_rfl)
      have e0 : ag a 32 = .agg #[mv, dv] := d2
      have e1 : ag a 33 = .agg #[.int .i64 3, .int .i64 0, .int .i64 1, .int .i64 (1 + (jd : Int)), .slice none 0 0] := d3
      have e2 : ag a 34 = lm := d4
      refine op_callg s hgd (w' := w) (f := 23) (args := #[.agg #[mv, dv], .agg #[.int .i64 3, .int .i64 0, .int .i64 1, .int .i64 (1 + (jd : Int)), .slice none 0 0], lm]) ?_ ?_
      · simp only [execOp]
        go_simp
        refine ⟨by simpa [ag] using e0, by simpa [ag] using e1, by simpa [ag] using e2⟩
      · refine (HVm w hg).mono ?_
        rintro e w' ⟨x, xk, xn, xA, xl, xc, rfl, hT, hF, hb⟩
        exact ⟨_, rfl, PostE.put (i := 5) ho (vod3_mem 5 hk).2 (hlt 5 hk) (fun k hk2 hne _ => vod3_inj 5 hk k hk2 hne) (.inl (Ext.of hb)) ⟨x, xk, xn, xA, xl, xc, rfl, hT.mono (fun g h => Nat.le_trans hgs h), hF.2.1⟩ (later hg hb)⟩
    | 6, hk, hd =>
      have s : (ops[6]?).map sig = some (some 36, .load 26 (.tmp 11), 26, none) := by subst hops; kernel_rfl
      have hgd : GdOk ops a none := trivial
      have e0 : ag a 11 = .pointer (some ⟨gP, 0, none⟩) := (ho.off 11 (by decide)).trans h11
      refine op_loadg s hgd gP 0 e0 [mv, dv] _ (range_below hP hg) Tryd.underlying26 rfl info_prog ?_
      exact PostE.put (i := 6) ho (vod3_mem 6 hk).2 (hlt 6 hk) (fun k hk2 hne _ => vod3_inj 6 hk k hk2 hne) (.inl (Ext.refl _ _)) rfl hg
    | 7, hk, hd =>
      have s : (ops[7]?).map sig = some (some 37, .load 31 (.tmp 12), 31, none) := by subst hops; kernel_rfl
      have hgd : GdOk ops a none := trivial
      have e0 : ag a 12 = .pointer (some ⟨gT, 0, none⟩) := (ho.off 12 (by decide)).trans h12
      refine op_loadg s hgd gT 0 e0 [.int .i64 3, .int .i64 0, .int .i64 1, .int .i64 (1 + (jd : Int)), .slice none 0 0] _ (range_below hT hg) Tryd.underlying31 rfl info_typesz ?_
      exact PostE.put (i := 7) ho (vod3_mem 7 hk).2 (hlt 7 hk) (fun k hk2 hne _ => vod3_inj 7 hk k hk2 hne) (.inl (Ext.refl _ _)) rfl hg
    | 8, hk, hd =>
      have s : (ops[8]?).map sig = some (some 38, .move (.tmp 2), 22, none) := by subst hops; kernel_rfl
      have hgd : GdOk ops a none := trivial
      have e0 : ag a 2 = ln := (ho.off 2 (by decide)).trans h2
      refine op_valg s hgd (w' := w) (v := ln) ?_ ?_
      · exact congrArg (fun x => Result.ok (Next.value x) w) e0
      · exact PostE.put (i := 8) ho (vod3_mem 8 hk).2 (hlt 8 hk) (fun k hk2 hne _ => vod3_inj 8 hk k hk2 hne) (.inl (Ext.refl _ _)) rfl hg
    | 9, hk, hd =>
      have s : (ops[9]?).map sig = some (some 39, .call { callee := .value (.func 23), args := #[.tmp 36, .tmp 37, .tmp 38], argTypes := #[26, 31, 22] }, 53, none) := by subst hops; kernel_rfl
      have hgd : GdOk ops a none := trivial
      have d6 := hd 6 (by decide) (by subst hops; kernel_rfl)
      have d7 := hd 7 (by decide) (by subst hops; kernel_rfl)
      have d8 := hd 8 (by decide) (by subst hops; kernel_rfl)
      have e0 : ag a 36 = .agg #[mv, dv] := d6
      have e1 : ag a 37 = .agg #[.int .i64 3, .int .i64 0, .int .i64 1, .int .i64 (1 + (jd : Int)), .slice none 0 0] := d7
      have e2 : ag a 38 = ln := d8
      refine op_callg s hgd (w' := w) (f := 23) (args := #[.agg #[mv, dv], .agg #[.int .i64 3, .int .i64 0, .int .i64 1, .int .i64 (1 + (jd : Int)), .slice none 0 0], ln]) ?_ ?_
      · simp only [execOp]
        go_simp
        refine ⟨by simpa [ag] using e0, by simpa [ag] using e1, by simpa [ag] using e2⟩
      · refine (HVn w hg).mono ?_
        rintro e w' ⟨x, xk, xn, xA, xl, xc, rfl, hT, hF, hb⟩
        exact ⟨_, rfl, PostE.put (i := 9) ho (vod3_mem 9 hk).2 (hlt 9 hk) (fun k hk2 hne _ => vod3_inj 9 hk k hk2 hne) (.inl (Ext.of hb)) ⟨x, xk, xn, xA, xl, xc, rfl, hT.mono (fun g h => Nat.le_trans hgs h), hF.2.1⟩ (later hg hb)⟩
    | 10, hk, hd =>
      have s : (ops[10]?).map sig = some (some 40, .load 26 (.tmp 11), 26, none) := by subst hops; kernel_rfl
      have hgd : GdOk ops a none := trivial
      have e0 : ag a 11 = .pointer (some ⟨gP, 0, none⟩) := (ho.off 11 (by decide)).trans h11
      refine op_loadg s hgd gP 0 e0 [mv, dv] _ (range_below hP hg) Tryd.underlying26 rfl info_prog ?_
      exact PostE.put (i := 10) ho (vod3_mem 10 hk).2 (hlt 10 hk) (fun k hk2 hne _ => vod3_inj 10 hk k hk2 hne) (.inl (Ext.refl _ _)) rfl hg
    | 11, hk, hd =>
      have s : (ops[11]?).map sig = some (some 41, .load 31 (.tmp 12), 31, none) := by subst hops; kernel_rfl
      have hgd : GdOk ops a none := trivial
      have e0 : ag a 12 = .pointer (some ⟨gT, 0, none⟩) := (ho.off 12 (by decide)).trans h12
      refine op_loadg s hgd gT 0 e0 [.int .i64 3, .int .i64 0, .int .i64 1, .int .i64 (1 + (jd : Int)), .slice none 0 0] _ (range_below hT hg) Tryd.underlying31 rfl info_typesz ?_
      exact PostE.put (i := 11) ho (vod3_mem 11 hk).2 (hlt 11 hk) (fun k hk2 hne _ => vod3_inj 11 hk k hk2 hne) (.inl (Ext.refl _ _)) rfl hg
    | 12, hk, hd =>
      have s : (ops[12]?).map sig = some (some 42, .move (.tmp 1), 22, none) := by subst hops; kernel_rfl
      have hgd : GdOk ops a none := trivial
      have e0 : ag a 1 = lm := (ho.off 1 (by decide)).trans h1
      refine op_valg s hgd (w' := w) (v := lm) ?_ ?_
      · exact congrArg (fun x => Result.ok (Next.value x) w) e0
      · exact PostE.put (i := 12) ho (vod3_mem 12 hk).2 (hlt 12 hk) (fun k hk2 hne _ => vod3_inj 12 hk k hk2 hne) (.inl (Ext.refl _ _)) rfl hg
    | 13, hk, hd =>
      have s : (ops[13]?).map sig = some (some 43, .call { callee := .value (.func 23), args := #[.tmp 40, .tmp 41, .tmp 42], argTypes := #[26, 31, 22] }, 53, none) := by subst hops; kernel_rfl
      have hgd : GdOk ops a none := trivial
      have d10 := hd 10 (by decide) (by subst hops; kernel_rfl)
      have d11 := hd 11 (by decide) (by subst hops; kernel_rfl)
      have d12 := hd 12 (by decide) (by subst hops; kernel_rfl)
      have e0 : ag a 40 = .agg #[mv, dv] := d10
      have e1 : ag a 41 = .agg #[.int .i64 3, .int .i64 0, .int .i64 1, .int .i64 (1 + (jd : Int)), .slice none 0 0] := d11
      have e2 : ag a 42 = lm := d12
      refine op_callg s hgd (w' := w) (f := 23) (args := #[.agg #[mv, dv], .agg #[.int .i64 3, .int .i64 0, .int .i64 1, .int .i64 (1 + (jd : Int)), .slice none 0 0], lm]) ?_ ?_
      · simp only [execOp]
        go_simp
        refine ⟨by simpa [ag] using e0, by simpa [ag] using e1, by simpa [ag] using e2⟩
      · refine (HVm w hg).mono ?_
        rintro e w' ⟨x, xk, xn, xA, xl, xc, rfl, hT, hF, hb⟩
        exact ⟨_, rfl, PostE.put (i := 13) ho (vod3_mem 13 hk).2 (hlt 13 hk) (fun k hk2 hne _ => vod3_inj 13 hk k hk2 hne) (.inl (Ext.of hb)) ⟨x, xk, xn, xA, xl, xc, rfl, hT.mono (fun g h => Nat.le_trans hgs h), hF.2.1⟩ (later hg hb)⟩
    | 14, hk, hd =>
      have s : (ops[14]?).map sig = some (some 44, .call { callee := .value (.func 24), args := #[.tmp 43, .const (.int .i64 2), .const (.int .i64 2), .const (.int .i64 0)], argTypes := #[53, 3, 3, 3] }, 53, none) := by subst hops; kernel_rfl
      have hgd : GdOk ops a none := trivial
      have d13 := hd 13 (by decide) (by subst hops; kernel_rfl)
      obtain ⟨x, xk, xn, xA, xl, xc, e0, hT, hN⟩ := d13
      have e0 : ag a 43 = .agg #[.int .i64 xk, .int .i64 xn, .slice xA xl xc] := e0
      refine op_callg s hgd (w' := w) (f := 24) (args := #[.agg #[.int .i64 xk, .int .i64 xn, .slice xA xl xc], .int .i64 2, .int .i64 2, .int .i64 0]) ?_ ?_
      · simp only [execOp]
        go_simp
        simpa [ag] using e0
      · refine (sp_any 2 0 (by unfold i64r; omega) (by unfold i64r; omega) (by decide) x.nodes x (Nat.le_refl _) hN (fun g => w0.heap.size ≤ g ∧ g < w.heap.size) w _ 2 (fun g h => h.2) (by unfold i64r; omega) (TrF.both hT hT.at_.old)).mono ?_
        rintro e w' ⟨y, yk, yn, yA, yl, yc, rfl, hT2, hN2, hb⟩
        exact ⟨_, rfl, PostE.put (i := 14) ho (vod3_mem 14 hk).2 (hlt 14 hk) (fun k hk2 hne _ => vod3_inj 14 hk k hk2 hne) (.inl (Ext.of hb)) ⟨y, yk, yn, yA, yl, yc, rfl, hT2.mono (fun g h => by rcases h with h | h; exact h.1; exact Nat.le_trans hgs h), trivial⟩ (later hg hb)⟩
    | 15, hk, hd =>
      have s : (ops[15]?).map sig = some (some 45, .buildSlice 51 5 #[(0, .tmp 30), (1, .tmp 31), (2, .tmp 35), (3, .tmp 39), (4, .tmp 44)], 51, none) := by subst hops; kernel_rfl
      have hgd : GdOk ops a none := trivial
      have d0 := hd 0 (by decide) (by subst hops; kernel_rfl)
      have d1 := hd 1 (by decide) (by subst hops; kernel_rfl)
      have d5 := hd 5 (by decide) (by subst hops; kernel_rfl)
      have d9 := hd 9 (by decide) (by subst hops; kernel_rfl)
      have d14 := hd 14 (by decide) (by subst hops; kernel_rfl)
      obtain ⟨vk, vn, vA, vl, vc, hCv⟩ := hv3
      obtain ⟨wk, wn, wA, wl, wc, hCw⟩ := hw3
      subst hCv hCw
      obtain ⟨x, xk, xn, xA, xl, xc, e2, hTx, _⟩ := d5
      have e2 : ag a 35 = .agg #[.int .i64 xk, .int .i64 xn, .slice xA xl xc] := e2
      obtain ⟨y, yk, yn, yA, yl, yc, e3, hTy, _⟩ := d9
      have e3 : ag a 39 = .agg #[.int .i64 yk, .int .i64 yn, .slice yA yl yc] := e3
      obtain ⟨z, zk, zn, zA, zl, zc, e4, hTz, _⟩ := d14
      have e4 : ag a 44 = .agg #[.int .i64 zk, .int .i64 zn, .slice zA zl zc] := e4
      have e0 : ag a 30 = .agg #[.int .i64 vk, .int .i64 vn, .slice vA vl vc] := d0
      have e1 : ag a 31 = .agg #[.int .i64 wk, .int .i64 wn, .slice wA wl wc] := d1
      have hb := new_later w (.cells #[.int .i64 vk, .int .i64 vn, .slice vA vl vc, .int .i64 wk, .int .i64 wn, .slice wA wl wc, .int .i64 xk, .int .i64 xn, .slice xA xl xc, .int .i64 yk, .int .i64 yn, .slice yA yl yc, .int .i64 zk, .int .i64 zn, .slice zA zl zc] 53)
      refine op_valg s hgd (w' := w.alloc (.cells #[.int .i64 vk, .int .i64 vn, .slice vA vl vc, .int .i64 wk, .int .i64 wn, .slice wA wl wc, .int .i64 xk, .int .i64 xn, .slice xA xl xc, .int .i64 yk, .int .i64 yn, .slice yA yl yc, .int .i64 zk, .int .i64 zn, .slice zA zl zc] 53)) (v := .slice (some ⟨w.heap.size, 0, none⟩) 5 5) ?_ ?_
      · simp only [execOp, List.map_toArray, List.map_cons, List.map_nil, eval_tmp, e0, e1, e2, e3, e4]
        go_simp
      · exact PostE.put (i := 15) ho (vod3_mem 15 hk).2 (hlt 15 hk) (fun k hk2 hne _ => vod3_inj 15 hk k hk2 hne) (.inl (Ext.of hb)) ⟨w.heap.size, x, xk, xn, xA, xl, xc, y, yk, yn, yA, yl, yc, z, zk, zn, zA, zl, zc, rfl, hgs, Arr.new' w _ _ 15 _ rfl rfl (by decide), hTx.keep (fun _ h => h) (fun g _ hl => hb.block g hl), hTy.keep (fun _ h => h) (fun g _ hl => hb.block g hl), hTz.keep (fun _ h => h) (fun g _ hl => hb.block g hl)⟩ (later hg hb)
    | n + 16, hn, _ => exact absurd hn (by omega)
  · intro a w ho hg hf
    have s : (ops[16]?).map sig = some (some 13, .assign (.tmp 45), 51, none) := by subst hops; kernel_rfl
    have hgd : GdOk ops a none := trivial
    obtain ⟨h, x, xk, xn, xA, xl, xc, y, yk, yn, yA, yl, yc, z, zk, zn, zA, zl, zc, e1, e2, e3, e4, e5, e6⟩ := hf 15 (by decide)
    have e1 : ag a 45 = .slice (some ⟨h, 0, none⟩) 5 5 := e1
    have hK : KsAt w (some ⟨h, 0, none⟩) 0 [tv, tw, x, y, z] := by
      have hr := e3.range
      obtain ⟨vk, vn, vA, vl, vc, hCv⟩ := hv3
      obtain ⟨wk, wn, wA, wl, wc, hCw⟩ := hw3
      have lv : Cv.length = 3 := by rw [hCv]; rfl
      have lw : Cw.length = 3 := by rw [hCw]; rfl
      have r1 := range_right hr
      have r2 := range_right r1
      have r3 := range_right r2
      have r4 := range_right r3
      rw [lv] at r1 r2 r3 r4
      rw [lw] at r2 r3 r4
      unfold KsAt
      refine ⟨⟨h, 0, _, rfl, by simpa using range_left hr, hTv.later hg⟩, ?_⟩
      unfold KsAt
      refine ⟨⟨h, 0, _, rfl, by simpa using range_left r1, hTw.later hg⟩, ?_⟩
      unfold KsAt
      refine ⟨⟨h, 0, _, rfl, by simpa using range_left r2, e4.at_⟩, ?_⟩
      unfold KsAt
      refine ⟨⟨h, 0, _, rfl, by simpa using range_left r3, e5.at_⟩, ?_⟩
      unfold KsAt
      exact ⟨⟨h, 0, _, rfl, by simpa using r4, e6.at_⟩, by unfold KsAt; trivial⟩
    refine op_valg s hgd (w' := w) (v := .slice (some ⟨h, 0, none⟩) 5 5) ?_ ?_
    · exact congrArg (fun x => Result.ok (Next.value x) w) e1
    · have ho2 : Off (voD3 ++ [13]) a0 (a.put (some 13) (.slice (some ⟨h, 0, none⟩) 5 5)) := (ho.mono (fun s hs => List.mem_append_left _ hs)).put (by decide)
      exact hQ (ag (a.put (some 13) (.slice (some ⟨h, 0, none⟩) 5 5))) w h x y z (ag_put (by rw [ho.size, hsz]; decide)) hK hg _ (ho2.eq (fun s hs => by rw [hsz]; revert s; decide))
end Go.Proofs.YtjbleefpafnhhaaDoor

namespace Go.Proofs.YtjbleefpafnhhaaDoor
open Go.RowKit
def TypPr (w : World) (e : Ending) (w' : World) : Prop := ∃ (P : List Df) (mv : Value) (gd0 o n cap : Nat), n = P.length ∧ e = .returned (.agg #[mv, .slice (some ⟨gd0, o, none⟩) n cap]) ∧ PrAt w' P (.agg #[mv, .slice (some ⟨gd0, o, none⟩) n cap]) ∧ mv.oneCell' = true ∧ Snd P ∧ (∀ d : Df, P[0]? = some d → d.name = ⟨#[80, 111, 105, 110, 116]⟩) ∧ Below w.heap.size w w'
theorem Types_pr (ls : List Int) (LA : Option Addr) (ln lc : Nat) (w : World) (hN : Nums w ls LA ln) :
    Calls Tryd.prog 10 #[.slice LA ln lc] w (TypPr w) := by
  refine (Types_any ls LA ln lc w hN).mono ?_
  rintro e w' ⟨P, gm, B, M, dv, rfl, hG, _, hS, hn, hb⟩
  have hP := pr_of hG (show (Value.slice (some ⟨gm, 0, none⟩) 1 1).oneCell' = true from rfl)
  have hP2 := hP
  obtain ⟨mv, A, cap, he, hm, hd⟩ := hP
  have h0 : 0 < P.length := hS.len.1
  obtain ⟨g, o, C, rfl, _⟩ := hd 0 _ (List.getElem?_eq_getElem h0)
  have e1 : dv = .slice (some ⟨g, o, none⟩) P.length cap := by simp at he; exact he.2
  subst e1
  exact ⟨P, _, g, o, _, cap, rfl, rfl, hP2, rfl, hS, hn, hb⟩
theorem pr_get {w : World} {P : List Df} {mv : Value} {g o n cap : Nat} (h : PrAt w P (.agg #[mv, .slice (some ⟨g, o, none⟩) n cap])) {j : Nat} (hj : j < P.length) : ∃ C, w.rangeAt g (o + j * 31) C ∧ DfAt w P[j] C := by
  obtain ⟨mv', A, cap', e, _, hd⟩ := h
  obtain ⟨g', o', C, hA, hr, hd⟩ := hd j _ (List.getElem?_eq_getElem hj)
  simp at e
  obtain ⟨rfl, e, _, _⟩ := e
  rw [← e] at hA
  cases hA
  exact ⟨C, hr, hd⟩
theorem df_id {w : World} {d : Df} {C : List Value} (h : DfAt w d C) : ∃ R, C = [.int .i64 d.a, .int .i64 d.b, .int .i64 d.c] ++ R := by
  obtain ⟨sv, T, E, lv, rfl, _⟩ := h
  exact ⟨_, rfl⟩
structure VPs (W : World) (P : List Df) (mv dv : Value) (gP gD gv : Nat) (d : Df) (C : List Value) (x : Tr) (xk xn : Int) (xA : Option Addr) (xl xc : Nat) : Prop where
  hp : Arr W gP 2 26 [mv, dv]
  hpr : PrAt W P (.agg #[mv, dv])
  hk : Kv W
  hd : Arr W gD 31 46 C
  hdf : DfAt W d C
  hv : Arr W gv 3 53 [.int .i64 xk, .int .i64 xn, .slice xA xl xc]
  ht : TrAt W x (.agg #[.int .i64 xk, .int .i64 xn, .slice xA xl xc])
theorem VPs.later {W W' : World} {P : List Df} {mv dv : Value} {gP gD gv : Nat} {d : Df} {C : List Value} {x : Tr} {xk xn : Int} {xA : Option Addr} {xl xc : Nat} (h : VPs W P mv dv gP gD gv d C x xk xn xA xl xc) (hb : Below W.heap.size W W') : VPs W' P mv dv gP gD gv d C x xk xn xA xl xc :=
  ⟨h.hp.later hb, h.hpr.later hb, h.hk.later hb, h.hd.later hb, h.hdf.later hb, h.hv.later hb, h.ht.later hb⟩
theorem VPs.node {W : World} {P : List Df} {mv dv : Value} {gP gD gv : Nat} {d : Df} {C : List Value} {x : Tr} {xk xn : Int} {xA : Option Addr} {xl xc : Nat} (h : VPs W P mv dv gP gD gv d C x xk xn xA xl xc) : ∃ ks, x = .node xk xn ks ∧ xl = ks.length ∧ xl ≤ xc ∧ xc ≤ maxLen ∧ KsAt W xA 0 ks := by
  cases x with
  | node kx nx ks =>
    have ht := h.ht
    unfold TrAt at ht
    obtain ⟨A, cap, e, hm, hK⟩ := ht
    simp [c3] at e
    obtain ⟨rfl, rfl, rfl, rfl, rfl⟩ := e
    exact ⟨ks, rfl, rfl, hm.1, hm.2.1, hK⟩
end Go.Proofs.YtjbleefpafnhhaaDoor

namespace Go.Proofs.YtjbleefpafnhhaaDoor
open Go.RowKit
theorem cmpI_cases (x y : Int) : (x < y ∧ cmpI x y = -1) ∨ (x = y ∧ cmpI x y = 0) ∨ (y < x ∧ cmpI x y = 1) := by
  unfold cmpI
  by_cases h : x < y
  · exact .inl ⟨h, by rw [if_pos h]⟩
  · by_cases h2 : y < x
    · exact .inr (.inr ⟨h2, by rw [if_neg h, if_pos h2]⟩)
    · exact .inr (.inl ⟨by omega, by rw [if_neg h, if_neg h2]⟩)
def lex4 (a b c d : Int) : Int := if a ≠ 0 then a else if b ≠ 0 then b else if c ≠ 0 then c else d
theorem cp_lex (k n k' n' : Int) (ks ks' : List Tr) : (Tr.node k n ks).cp (.node k' n' ks') = lex4 (cmpI k k') (cmpI n n') (cmpI (ks.length : Int) (ks'.length : Int)) (cpL ks ks') := by rw [Tr.cp]; rfl
theorem lex4_cases (a b c d : Int) : (a ≠ 0 ∧ lex4 a b c d = a) ∨ (a = 0 ∧ b ≠ 0 ∧ lex4 a b c d = b) ∨ (a = 0 ∧ b = 0 ∧ c ≠ 0 ∧ lex4 a b c d = c) ∨ (a = 0 ∧ b = 0 ∧ c = 0 ∧ lex4 a b c d = d) := by
  unfold lex4
  by_cases ha : a = 0
  · by_cases hb : b = 0
    · by_cases hc : c = 0
      · exact .inr (.inr (.inr ⟨ha, hb, hc, by rw [if_neg (by simp [ha]), if_neg (by simp [hb]), if_neg (by simp [hc])]⟩))
      · exact .inr (.inr (.inl ⟨ha, hb, hc, by rw [if_neg (by simp [ha]), if_neg (by simp [hb]), if_pos hc]⟩))
    · exact .inr (.inl ⟨ha, hb, by rw [if_neg (by simp [ha]), if_pos hb]⟩)
  · exact .inl ⟨ha, by rw [if_pos ha]⟩
theorem cpL_cons (x y : Tr) (xs ys : List Tr) : (x.cp y ≠ 0 ∧ cpL (x :: xs) (y :: ys) = x.cp y) ∨ (x.cp y = 0 ∧ cpL (x :: xs) (y :: ys) = cpL xs ys) := by
  rw [cpL]
  by_cases h : x.cp y = 0
  · exact .inr ⟨h, by rw [if_neg (by simp [h])]⟩
  · exact .inl ⟨h, by rw [if_pos h]⟩
mutual
theorem cp_rng : ∀ (x y : Tr), -1 ≤ x.cp y ∧ x.cp y ≤ 1
  | .node k n ks, .node k' n' ks' => by
    have h := cpL_rng ks ks'
    rw [cp_lex]
    rcases cmpI_cases k k' with a | a | a <;> rcases cmpI_cases n n' with b | b | b <;> rcases cmpI_cases (ks.length : Int) (ks'.length : Int) with c | c | c <;> rcases lex4_cases (cmpI k k') (cmpI n n') (cmpI (ks.length : Int) (ks'.length : Int)) (cpL ks ks') with e | e | e | e <;> omega
theorem cpL_rng : ∀ (xs ys : List Tr), -1 ≤ cpL xs ys ∧ cpL xs ys ≤ 1
  | [], _ => by simp [cpL]
  | _ :: _, [] => by simp [cpL]
  | x :: xs, y :: ys => by
    have h1 := cp_rng x y
    have h2 := cpL_rng xs ys
    rcases cpL_cons x y xs ys with h | h <;> omega
end
mutual
theorem cp_anti : ∀ (x y : Tr), y.cp x = -(x.cp y)
  | .node k n ks, .node k' n' ks' => by
    have h := cpL_anti ks ks'
    rw [cp_lex, cp_lex]
    have a2 := cmpI_cases k' k
    have b2 := cmpI_cases n' n
    have c2 := cmpI_cases (ks'.length : Int) (ks.length : Int)
    rcases cmpI_cases k k' with a | a | a <;> rcases cmpI_cases n n' with b | b | b <;> rcases cmpI_cases (ks.length : Int) (ks'.length : Int) with c | c | c <;> rcases lex4_cases (cmpI k k') (cmpI n n') (cmpI (ks.length : Int) (ks'.length : Int)) (cpL ks ks') with e | e | e | e <;> rcases lex4_cases (cmpI k' k) (cmpI n' n) (cmpI (ks'.length : Int) (ks.length : Int)) (cpL ks' ks) with f | f | f | f <;> omega
theorem cpL_anti : ∀ (xs ys : List Tr), cpL ys xs = -(cpL xs ys)
  | [], [] => by simp [cpL]
  | [], _ :: _ => by simp [cpL]
  | _ :: _, [] => by simp [cpL]
  | x :: xs, y :: ys => by
    have h1 := cp_anti x y
    have h2 := cpL_anti xs ys
    rcases cpL_cons x y xs ys with h | h <;> rcases cpL_cons y x ys xs with h' | h' <;> omega
end
mutual
theorem cp_eq : ∀ (x y : Tr), x.cp y = 0 → x = y
  | .node k n ks, .node k' n' ks' => by
    intro h0
    rw [cp_lex] at h0
    have h : k = k' ∧ n = n' ∧ (ks.length : Int) = (ks'.length : Int) ∧ cpL ks ks' = 0 := by
      rcases cmpI_cases k k' with a | a | a <;> rcases cmpI_cases n n' with b | b | b <;> rcases cmpI_cases (ks.length : Int) (ks'.length : Int) with c | c | c <;> rcases lex4_cases (cmpI k k') (cmpI n n') (cmpI (ks.length : Int) (ks'.length : Int)) (cpL ks ks') with e | e | e | e <;> omega
    obtain ⟨rfl, rfl, hl, hc⟩ := h
    rw [cpL_eq ks ks' (by omega) hc]
theorem cpL_eq : ∀ (xs ys : List Tr), xs.length = ys.length → cpL xs ys = 0 → xs = ys
  | [], [], _, _ => rfl
  | [], _ :: _, h, _ => by simp at h
  | _ :: _, [], h, _ => by simp at h
  | x :: xs, y :: ys, hl, h0 => by
    rcases cpL_cons x y xs ys with h | h
    · omega
    · rw [cp_eq x y h.1, cpL_eq xs ys (by simpa using hl) (by omega)]
end
theorem cp_self (x : Tr) : x.cp x = 0 := by have := cp_anti x x; omega
mutual
theorem cp_tr : ∀ (x y z : Tr), x.cp y = -1 → y.cp z = -1 → x.cp z = -1
  | .node k n ks, .node k' n' ks', .node k'' n'' ks'' => by
    intro h1 h2
    have h := cpL_tr ks ks' ks''
    rw [cp_lex] at h1 h2 ⊢
    have g1 : k < k' ∨ (k = k' ∧ (n < n' ∨ (n = n' ∧ ((ks.length : Int) < (ks'.length : Int) ∨ ((ks.length : Int) = (ks'.length : Int) ∧ cpL ks ks' = -1))))) := by
      rcases cmpI_cases k k' with a | a | a <;> rcases cmpI_cases n n' with b | b | b <;> rcases cmpI_cases (ks.length : Int) (ks'.length : Int) with c | c | c <;> rcases lex4_cases (cmpI k k') (cmpI n n') (cmpI (ks.length : Int) (ks'.length : Int)) (cpL ks ks') with e | e | e | e <;> omega
    have g2 : k' < k'' ∨ (k' = k'' ∧ (n' < n'' ∨ (n' = n'' ∧ ((ks'.length : Int) < (ks''.length : Int) ∨ ((ks'.length : Int) = (ks''.length : Int) ∧ cpL ks' ks'' = -1))))) := by
      rcases cmpI_cases k' k'' with a | a | a <;> rcases cmpI_cases n' n'' with b | b | b <;> rcases cmpI_cases (ks'.length : Int) (ks''.length : Int) with c | c | c <;> rcases lex4_cases (cmpI k' k'') (cmpI n' n'') (cmpI (ks'.length : Int) (ks''.length : Int)) (cpL ks' ks'') with e | e | e | e <;> omega
    have g3 : k < k'' ∨ (k = k'' ∧ (n < n'' ∨ (n = n'' ∧ ((ks.length : Int) < (ks''.length : Int) ∨ ((ks.length : Int) = (ks''.length : Int) ∧ cpL ks ks'' = -1))))) := by
      rcases g1 with g1 | ⟨e1, g1 | ⟨e2, g1 | ⟨e3, g1⟩⟩⟩ <;> rcases g2 with g2 | ⟨f1, g2 | ⟨f2, g2 | ⟨f3, g2⟩⟩⟩ <;> first | omega | (have := h (by omega) (by omega) g1 g2; omega)
    rcases cmpI_cases k k'' with a | a | a <;> rcases cmpI_cases n n'' with b | b | b <;> rcases cmpI_cases (ks.length : Int) (ks''.length : Int) with c | c | c <;> rcases lex4_cases (cmpI k k'') (cmpI n n'') (cmpI (ks.length : Int) (ks''.length : Int)) (cpL ks ks'') with e | e | e | e <;> omega
theorem cpL_tr : ∀ (xs ys zs : List Tr), xs.length = ys.length → ys.length = zs.length → cpL xs ys = -1 → cpL ys zs = -1 → cpL xs zs = -1
  | [], _, _, _, _, h, _ => by simp [cpL] at h
  | _ :: _, [], _, h, _, _, _ => by simp at h
  | _ :: _, _ :: _, [], _, h, _, _ => by simp at h
  | x :: xs, y :: ys, z :: zs, l1, l2, h1, h2 => by
    have t := cp_tr x y z
    have tl := cpL_tr xs ys zs (by simpa using l1) (by simpa using l2)
    have r1 := cp_rng x y
    have r2 := cp_rng y z
    have r3 := cp_rng x z
    rcases cpL_cons x y xs ys with a | a
    · have a1 : x.cp y = -1 := by omega
      rcases cpL_cons y z ys zs with b | b
      · have b1 : y.cp z = -1 := by omega
        have := t a1 b1
        rcases cpL_cons x z xs zs with c | c <;> omega
      · have e := cp_eq y z b.1
        subst e
        rcases cpL_cons x y xs zs with c | c <;> omega
    · have e := cp_eq x y a.1
      subst e
      rcases cpL_cons x z ys zs with b | b
      · rcases cpL_cons x z xs zs with c | c <;> omega
      · rcases cpL_cons x z xs zs with c | c
        · omega
        · have := tl (by omega) (by omega); omega
end
theorem cp_le {x y z : Tr} (h1 : x.cp y ≤ 0) (h2 : y.cp z ≤ 0) : x.cp z ≤ 0 := by
  have r1 := cp_rng x y
  have r2 := cp_rng y z
  by_cases e1 : x.cp y = 0
  · rw [cp_eq x y e1]; exact h2
  · by_cases e2 : y.cp z = 0
    · rw [← cp_eq y z e2]; exact h1
    · rw [cp_tr x y z (by omega) (by omega)]; decide
end Go.Proofs.YtjbleefpafnhhaaDoor

