import Derived.Test.YtjbleefpafnhhaaDoorX25
import Derived.Test.YtjbleefpafnhhaaDoorX32
import Derived.Test.YtjbleefpafnhhaaDoorX33

set_option linter.unusedVariables false
set_option linter.unusedSimpArgs false
namespace Go.Proofs.YtjbleefpafnhhaaDoor
open Go.RowKit
def SpR (F : Nat → Prop) (x : Tr) (w : World) (e : Ending) (w' : World) : Prop := ∃ (y : Tr) (yk yn : Int) (yA : Option Addr) (yl yc : Nat), e = .returned (.agg #[.int .i64 yk, .int .i64 yn, .slice yA yl yc]) ∧ TrF (fun g => F g ∨ w.heap.size ≤ g) w' y (.agg #[.int .i64 yk, .int .i64 yn, .slice yA yl yc]) ∧ y.nodes ≤ x.nodes + 1 ∧ Below w.heap.size w w'
def spf9 (gB h i m rc : Nat) (at_ how by_ kk nn : Int) (R C : List Value) (x : Tr) (F : Nat → Prop) (H0 : Nat → Option Obj) (S : Nat) : Nat → Value → World → Prop
  | 0, v, w => v = .pointer (some ⟨gB, 2, none⟩)
  | 1, v, w => v = .slice (some ⟨h, 0, none⟩) m rc
  | 2, v, w => v = .int .i64 (i : Int)
  | 3, v, w => v = .pointer (some ⟨gB, 2, none⟩)
  | 4, v, w => v = .slice (some ⟨h, 0, none⟩) m rc
  | 5, v, w => v = .int .i64 (i : Int)
  | 6, v, w => v = .pointer (some ⟨h, i * 3, none⟩)
  | 7, v, w => v = .agg C.toArray
  | 8, v, w => v = .int .i64 at_
  | 9, v, w => v = .int .i64 (at_ - 1)
  | 10, v, w => v = .int .i64 how
  | 11, v, w => v = .int .i64 by_
  | 12, v, w => ∃ (y : Tr) (yk yn : Int) (yA : Option Addr) (yl yc : Nat), v = .agg #[.int .i64 yk, .int .i64 yn, .slice yA yl yc] ∧ (∀ W : World, (∀ g, F g → W.heap[g]? = H0 g) → (∀ g, S ≤ g → g < w.heap.size → W.heap[g]? = w.heap[g]?) → TrF (fun g => F g ∨ S ≤ g) W y (.agg #[.int .i64 yk, .int .i64 yn, .slice yA yl yc])) ∧ y.nodes ≤ x.nodes + 1
  | 13, v, w => v = .pointer (some ⟨h, i * 3, none⟩)
  | _, _, _ => True
theorem spf9_ext (gB h i m rc : Nat) (at_ how by_ kk nn : Int) (R C : List Value) (x : Tr) (F : Nat → Prop) (H0 : Nat → Option Obj) (S : Nat) : ∀ j v w w', j < 14 → (Ext S w w' ∨ (j ≠ 999 ∧ Never w w')) → spf9 gB h i m rc at_ how by_ kk nn R C x F H0 S j v w → spf9 gB h i m rc at_ how by_ kk nn R C x F H0 S j v w' := by
  intro j v w w' hj he h
  match j, hj, he, h with
  | 0, _, he, h => exact h
  | 1, _, he, h => exact h
  | 2, _, he, h => exact h
  | 3, _, he, h => exact h
  | 4, _, he, h => exact h
  | 5, _, he, h => exact h
  | 6, _, he, h => exact h
  | 7, _, he, h => exact h
  | 8, _, he, h => exact h
  | 9, _, he, h => exact h
  | 10, _, he, h => exact h
  | 11, _, he, h => exact h
  | 12, _, he, h => exact he.elim (fun q => h.elim fun y h => h.elim fun yk h => h.elim fun yn h => h.elim fun yA h => h.elim fun yl h => h.elim fun yc h => ⟨y, yk, yn, yA, yl, yc, h.1, fun W h1 h2 => h.2.1 W h1 (fun g hg hl => (h2 g hg (Nat.lt_of_lt_of_le hl q.1.size)).trans (q.2 g hg hl)), h.2.2⟩) (fun q => absurd q.2 id)
  | 13, _, he, h => exact h
  | n + 14, hn, _, _ => exact absurd hn (by omega)
def spD9 : List Nat := [36, 37, 38, 39, 40, 41, 42, 43, 44, 45, 46, 47, 48, 49]
def spd9 (k : Nat) : Nat := [36, 37, 38, 39, 40, 41, 42, 43, 44, 45, 46, 47, 48, 49].getD k 0
theorem spd9_mem : ∀ k, k < 14 → spd9 k < 97 ∧ spd9 k ∈ spD9 := by decide
theorem spd9_inj : ∀ i, i < 14 → ∀ k, k < 14 → k ≠ i → spd9 i ≠ spd9 k := by decide
set_option maxHeartbeats 4000000 in
set_option maxRecDepth 100000 in
theorem spreg9 {Q : Exit → Act → World → Prop} {id : Nat} {ops : Array Oper} (hops : ops = ((Tryd.f24.body).bind (opsOf 9)).getD #[]) (a0 : Act) (w0 : World) (gB h i m rc : Nat) (at_ how by_ kk nn : Int) (R C : List Value) (x : Tr) (F : Nat → Prop) (H0 : Nat → Option Obj) (hsz : a0.tmps.size = 97)
    (h1 : ag a0 1 = .int .i64 at_) (h2 : ag a0 2 = .int .i64 how) (h3 : ag a0 3 = .int .i64 by_) (h4 : ag a0 4 = .pointer (some ⟨gB, 0, none⟩)) (h9 : ag a0 9 = .int .i64 (i : Int)) {B : Nat} (hB : Arr w0 gB 3 53 [.int .i64 kk, .int .i64 nn, .slice (some ⟨h, 0, none⟩) m rc]) (hO : w0.ownsRow B 53 3 (.slice (some ⟨h, 0, none⟩) m rc) m R) (hC : w0.rangeAt h (i * 3) C) (hC3 : C.length = 3) (hx : TrF F w0 x (.agg C.toArray)) (hF : ∀ g, F g → g < w0.heap.size) (hH0 : ∀ g, F g → w0.heap[g]? = H0 g)
    (hin : (i : Int) < (m : Int)) (hi0 : (0 : Int) ≤ (i : Int)) (hat : 0 < at_) (ha : i64r at_) (hIH : ∀ (F' : Nat → Prop) (W : World) (v : Value) (a' : Int), (∀ g, F' g → g < W.heap.size) → i64r a' → TrF F' W x v → Calls Tryd.prog 24 #[v, .int .i64 a', .int .i64 how, .int .i64 by_] W (SpR F' x W))
    (hQ : ∀ (vs : Nat → Value) (w1 : World) (y : Tr) (yk yn : Int) (yA : Option Addr) (yl yc : Nat), Below w0.heap.size w0 w1 → TrF (fun g => F g ∨ w0.heap.size ≤ g) w1 y (.agg #[.int .i64 yk, .int .i64 yn, .slice yA yl yc]) → y.nodes ≤ x.nodes + 1 → ∀ a', a' = spD9.foldl (fun b s => b.put (some s) (vs s)) a0 → Q .normal a' (w1.setCells h (i * 3) [.int .i64 yk, .int .i64 yn, .slice yA yl yc])) :
    (Code.region id ops true).wp Tryd.prog Q a0 w0 := by
  have hg0 : Below w0.heap.size w0 w0.drew := below_drewN (Below.refl _ _) 1
  have hlt : ∀ k, k < 14 → spd9 k < a0.tmps.size := fun k hk => by have := (spd9_mem k hk).1; omega
  refine wp_region_factsE 14 999 spD9 spd9 (spf9 gB h i m rc at_ how by_ kk nn R C x F H0 w0.heap.size) (fun w => Below w0.heap.size w0 w) w0.heap.size Never (fun k => k) (by kernel_rfl) (by subst hops; kernel_rfl) (by subst hops; kernel_rfl) (by subst hops; kernel_rfl) (spf9_ext gB h i m rc at_ how by_ kk nn R C x F H0 w0.heap.size) hg0 ?_ ?_
  · intro j a w hj ho hg hd
    have hgs := hg.size
    match j, hj, hd with
    | 0, hk, hd =>
      have s : (ops[0]?).map sig = some (some 36, .fieldAddr 53 (.tmp 4) 2, 0, none) := by subst hops; kernel_rfl
      have hgd : GdOk ops a none := trivial
      have e0 : ag a 4 = .pointer (some ⟨gB, 0, none⟩) := (ho.off 4 (by decide)).trans h4
      refine op_valg s hgd (w' := w) (v := .pointer (some ⟨gB, 2, none⟩)) ?_ ?_
      · simp only [execOp, eval_tmp, e0]
        go_simp
      · exact PostE.put (i := 0) ho (spd9_mem 0 hk).2 (hlt 0 hk) (fun k hk2 hne _ => spd9_inj 0 hk k hk2 hne) (.inl (Ext.refl _ _)) rfl hg
    | 1, hk, hd =>
      have s : (ops[1]?).map sig = some (some 37, .load 51 (.tmp 36), 51, none) := by subst hops; kernel_rfl
      have hgd : GdOk ops a none := trivial
      have d0 := hd 0 (by decide) (by subst hops; kernel_rfl)
      have e0 : ag a 36 = .pointer (some ⟨gB, 2, none⟩) := d0
      have hc := (hB.later hg).cell (j := 2) (v := .slice (some ⟨h, 0, none⟩) m rc) rfl
      refine op_valg s hgd (w' := w) (v := .slice (some ⟨h, 0, none⟩) m rc) ?_ ?_
      · simp only [execOp, eval_tmp, e0]
        go_simp
      · exact PostE.put (i := 1) ho (spd9_mem 1 hk).2 (hlt 1 hk) (fun k hk2 hne _ => spd9_inj 1 hk k hk2 hne) (.inl (Ext.refl _ _)) rfl hg
    | 2, hk, hd =>
      have s : (ops[2]?).map sig = some (some 38, .move (.tmp 9), 3, none) := by subst hops; kernel_rfl
      have hgd : GdOk ops a none := trivial
      have e0 : ag a 9 = .int .i64 (i : Int) := (ho.off 9 (by decide)).trans h9
      refine op_valg s hgd (w' := w) (v := .int .i64 (i : Int)) ?_ ?_
      · exact congrArg (fun x => Result.ok (Next.value x) w) e0
      · exact PostE.put (i := 2) ho (spd9_mem 2 hk).2 (hlt 2 hk) (fun k hk2 hne _ => spd9_inj 2 hk k hk2 hne) (.inl (Ext.refl _ _)) rfl hg
    | 3, hk, hd =>
      have s : (ops[3]?).map sig = some (some 39, .fieldAddr 53 (.tmp 4) 2, 0, none) := by subst hops; kernel_rfl
      have hgd : GdOk ops a none := trivial
      have e0 : ag a 4 = .pointer (some ⟨gB, 0, none⟩) := (ho.off 4 (by decide)).trans h4
      refine op_valg s hgd (w' := w) (v := .pointer (some ⟨gB, 2, none⟩)) ?_ ?_
      · simp only [execOp, eval_tmp, e0]
        go_simp
      · exact PostE.put (i := 3) ho (spd9_mem 3 hk).2 (hlt 3 hk) (fun k hk2 hne _ => spd9_inj 3 hk k hk2 hne) (.inl (Ext.refl _ _)) rfl hg
    | 4, hk, hd =>
      have s : (ops[4]?).map sig = some (some 40, .load 51 (.tmp 39), 51, none) := by subst hops; kernel_rfl
      have hgd : GdOk ops a none := trivial
      have d3 := hd 3 (by decide) (by subst hops; kernel_rfl)
      have e0 : ag a 39 = .pointer (some ⟨gB, 2, none⟩) := d3
      have hc := (hB.later hg).cell (j := 2) (v := .slice (some ⟨h, 0, none⟩) m rc) rfl
      refine op_valg s hgd (w' := w) (v := .slice (some ⟨h, 0, none⟩) m rc) ?_ ?_
      · simp only [execOp, eval_tmp, e0]
        go_simp
      · exact PostE.put (i := 4) ho (spd9_mem 4 hk).2 (hlt 4 hk) (fun k hk2 hne _ => spd9_inj 4 hk k hk2 hne) (.inl (Ext.refl _ _)) rfl hg
    | 5, hk, hd =>
      have s : (ops[5]?).map sig = some (some 41, .move (.tmp 9), 3, none) := by subst hops; kernel_rfl
      have hgd : GdOk ops a none := trivial
      have e0 : ag a 9 = .int .i64 (i : Int) := (ho.off 9 (by decide)).trans h9
      refine op_valg s hgd (w' := w) (v := .int .i64 (i : Int)) ?_ ?_
      · exact congrArg (fun x => Result.ok (Next.value x) w) e0
      · exact PostE.put (i := 5) ho (spd9_mem 5 hk).2 (hlt 5 hk) (fun k hk2 hne _ => spd9_inj 5 hk k hk2 hne) (.inl (Ext.refl _ _)) rfl hg
    | 6, hk, hd =>
      have s : (ops[6]?).map sig = some (some 42, .indexAddr 51 (.tmp 40) (.tmp 41), 0, none) := by subst hops; kernel_rfl
      have hgd : GdOk ops a none := trivial
      have d4 := hd 4 (by decide) (by subst hops; kernel_rfl)
      have d5 := hd 5 (by decide) (by subst hops; kernel_rfl)
      have e0 : ag a 40 = .slice (some ⟨h, 0, none⟩) m rc := d4
      have e1 : ag a 41 = .int .i64 (i : Int) := d5
      refine op_valg s hgd (w' := w) (v := .pointer (some ⟨h, i * 3, none⟩)) ?_ ?_
      · simp only [execOp, eval_tmp, e0, e1]
        go_simp
      · exact PostE.put (i := 6) ho (spd9_mem 6 hk).2 (hlt 6 hk) (fun k hk2 hne _ => spd9_inj 6 hk k hk2 hne) (.inl (Ext.refl _ _)) rfl hg
    | 7, hk, hd =>
      have s : (ops[7]?).map sig = some (some 43, .load 53 (.tmp 42), 53, none) := by subst hops; kernel_rfl
      have hgd : GdOk ops a none := trivial
      have d6 := hd 6 (by decide) (by subst hops; kernel_rfl)
      have e0 : ag a 42 = .pointer (some ⟨h, i * 3, none⟩) := d6
      refine op_loadg s hgd h (i * 3) e0 C _ (range_below hC hg) Tryd.underlying53 rfl (by rw [hC3]; exact info_val) ?_
      exact PostE.put (i := 7) ho (spd9_mem 7 hk).2 (hlt 7 hk) (fun k hk2 hne _ => spd9_inj 7 hk k hk2 hne) (.inl (Ext.refl _ _)) rfl hg
    | 8, hk, hd =>
      have s : (ops[8]?).map sig = some (some 44, .move (.tmp 1), 3, none) := by subst hops; kernel_rfl
      have hgd : GdOk ops a none := trivial
      have e0 : ag a 1 = .int .i64 at_ := (ho.off 1 (by decide)).trans h1
      refine op_valg s hgd (w' := w) (v := .int .i64 at_) ?_ ?_
      · exact congrArg (fun x => Result.ok (Next.value x) w) e0
      · exact PostE.put (i := 8) ho (spd9_mem 8 hk).2 (hlt 8 hk) (fun k hk2 hne _ => spd9_inj 8 hk k hk2 hne) (.inl (Ext.refl _ _)) rfl hg
    | 9, hk, hd =>
      have s : (ops[9]?).map sig = some (some 45, .binOp .sub 3 (.tmp 44) (.const (.int .i64 1)) 3, 3, none) := by subst hops; kernel_rfl
      have hgd : GdOk ops a none := trivial
      have d8 := hd 8 (by decide) (by subst hops; kernel_rfl)
      have e0 : ag a 44 = .int .i64 at_ := d8
      refine op_valg s hgd (w' := w) (v := .int .i64 (at_ - 1)) ?_ ?_
      · simp only [execOp, eval_tmp, e0]
        have hw : IntKind.i64.wrap (at_ - 1) = at_ - 1 := IntWalk.i64_in _ (by unfold i64r at ha; omega)
        go_simp
      · exact PostE.put (i := 9) ho (spd9_mem 9 hk).2 (hlt 9 hk) (fun k hk2 hne _ => spd9_inj 9 hk k hk2 hne) (.inl (Ext.refl _ _)) rfl hg
    | 10, hk, hd =>
      have s : (ops[10]?).map sig = some (some 46, .move (.tmp 2), 3, none) := by subst hops; kernel_rfl
      have hgd : GdOk ops a none := trivial
      have e0 : ag a 2 = .int .i64 how := (ho.off 2 (by decide)).trans h2
      refine op_valg s hgd (w' := w) (v := .int .i64 how) ?_ ?_
      · exact congrArg (fun x => Result.ok (Next.value x) w) e0
      · exact PostE.put (i := 10) ho (spd9_mem 10 hk).2 (hlt 10 hk) (fun k hk2 hne _ => spd9_inj 10 hk k hk2 hne) (.inl (Ext.refl _ _)) rfl hg
    | 11, hk, hd =>
      have s : (ops[11]?).map sig = some (some 47, .move (.tmp 3), 3, none) := by subst hops; kernel_rfl
      have hgd : GdOk ops a none := trivial
      have e0 : ag a 3 = .int .i64 by_ := (ho.off 3 (by decide)).trans h3
      refine op_valg s hgd (w' := w) (v := .int .i64 by_) ?_ ?_
      · exact congrArg (fun x => Result.ok (Next.value x) w) e0
      · exact PostE.put (i := 11) ho (spd9_mem 11 hk).2 (hlt 11 hk) (fun k hk2 hne _ => spd9_inj 11 hk k hk2 hne) (.inl (Ext.refl _ _)) rfl hg
    | 12, hk, hd =>
      have s : (ops[12]?).map sig = some (some 48, .call { callee := .value (.func 24), args := #[.tmp 43, .tmp 45, .tmp 46, .tmp 47], argTypes := #[53, 3, 3, 3] }, 53, none) := by subst hops; kernel_rfl
      have hgd : GdOk ops a none := trivial
      have d7 := hd 7 (by decide) (by subst hops; kernel_rfl)
      have d9 := hd 9 (by decide) (by subst hops; kernel_rfl)
      have d10 := hd 10 (by decide) (by subst hops; kernel_rfl)
      have d11 := hd 11 (by decide) (by subst hops; kernel_rfl)
      have e0 : ag a 43 = .agg C.toArray := d7
      have e1 : ag a 45 = .int .i64 (at_ - 1) := d9
      have e2 : ag a 46 = .int .i64 how := d10
      have e3 : ag a 47 = .int .i64 by_ := d11
      have hx2 : TrF F w x (.agg C.toArray) := hx.keep (fun _ h => h) (fun g hg2 _ => hg.block g (hF g hg2))
      refine op_callg s hgd (w' := w) (f := 24) (args := #[.agg C.toArray, .int .i64 (at_ - 1), .int .i64 how, .int .i64 by_]) ?_ ?_
      · simp only [execOp]
        go_simp
        refine ⟨by simpa [ag] using e0, by simpa [ag] using e1, by simpa [ag] using e2, by simpa [ag] using e3⟩
      · refine (hIH F w _ (at_ - 1) (fun g h => Nat.lt_of_lt_of_le (hF g h) hgs) (by unfold i64r at ha ⊢; omega) hx2).mono ?_
        rintro e w' ⟨y, yk, yn, yA, yl, yc, rfl, hT, hN, hb⟩
        have hb2 := later hg hb
        refine ⟨_, rfl, PostE.put (i := 12) ho (spd9_mem 12 hk).2 (hlt 12 hk) (fun k hk2 hne _ => spd9_inj 12 hk k hk2 hne) (.inl (Ext.of hb)) ⟨y, yk, yn, yA, yl, yc, rfl, fun W h1 h2 => hT.keep (fun g h => h.imp (fun q => q) (fun q => Nat.le_trans hgs q)) (fun g hg2 hl => ?_), hN⟩ hb2⟩
        rcases hg2 with hg2 | hg2
        · rw [h1 g hg2, ← hH0 g hg2]
          exact (hb2.block g (hF g hg2)).symm
        · exact h2 g (Nat.le_trans hgs hg2) hl
    | 13, hk, hd =>
      have s : (ops[13]?).map sig = some (some 49, .indexAddr 51 (.tmp 37) (.tmp 38), 0, none) := by subst hops; kernel_rfl
      have hgd : GdOk ops a none := trivial
      have d1 := hd 1 (by decide) (by subst hops; kernel_rfl)
      have d2 := hd 2 (by decide) (by subst hops; kernel_rfl)
      have e0 : ag a 37 = .slice (some ⟨h, 0, none⟩) m rc := d1
      have e1 : ag a 38 = .int .i64 (i : Int) := d2
      refine op_valg s hgd (w' := w) (v := .pointer (some ⟨h, i * 3, none⟩)) ?_ ?_
      · simp only [execOp, eval_tmp, e0, e1]
        go_simp
      · exact PostE.put (i := 13) ho (spd9_mem 13 hk).2 (hlt 13 hk) (fun k hk2 hne _ => spd9_inj 13 hk k hk2 hne) (.inl (Ext.refl _ _)) rfl hg
    | n + 14, hn, _ => exact absurd hn (by omega)
  · intro a w ho hg hf
    have s : (ops[14]?).map sig = some (none, .store 53 (.tmp 49) (.tmp 48), 0, none) := by subst hops; kernel_rfl
    have hgd : GdOk ops a none := trivial
    obtain ⟨y, yk, yn, yA, yl, yc, e48, hT, hN⟩ := hf 12 (by decide)
    have e48 : ag a 48 = .agg #[.int .i64 yk, .int .i64 yn, .slice yA yl yc] := e48
    have e49 : ag a 49 = .pointer (some ⟨h, i * 3, none⟩) := hf 13 (by decide)
    have hT2 := hT w (fun g h => by rw [← hH0 g h]; exact hg.block g (hF g h)) (fun _ _ _ => rfl)
    refine wpOp_ofg s hgd fun o h1 h2 h3 => ?_
    refine wp_store_mid _ _ _ h2 h (i * 3) #[.int .i64 yk, .int .i64 yn, .slice yA yl yc] e49 e48 (own_there (own_below' hO hg) (show i * 3 + 3 ≤ m * 3 by omega)) info_val (all_oneCell_toArray (cs := [.int .i64 yk, .int .i64 yn, .slice yA yl yc]) (List.all_eq_true.mp (by rfl))) ?_
    rw [h1]
    exact hQ (ag a) w y yk yn yA yl yc hg hT2 hN _ (ho.eq (fun s hs => by rw [hsz]; revert s; decide))
end Go.Proofs.YtjbleefpafnhhaaDoor

