import Derived.Test.YtjbleefpafnhhaaDoorX01
import Derived.Test.YtjbleefpafnhhaaDoorX02
import Derived.Test.YtjbleefpafnhhaaDoorX03
import Derived.Test.YtjbleefpafnhhaaDoorX04
import Derived.Test.YtjbleefpafnhhaaDoorX05
import Derived.Test.YtjbleefpafnhhaaDoorX06
import Derived.Test.YtjbleefpafnhhaaDoorX07
import Derived.Test.YtjbleefpafnhhaaDoorX08
import Derived.Test.YtjbleefpafnhhaaDoorX09
import Derived.Test.YtjbleefpafnhhaaDoorX10
import Derived.Test.YtjbleefpafnhhaaDoorX11
import Derived.Test.YtjbleefpafnhhaaDoorX12
import Derived.Test.YtjbleefpafnhhaaDoorX13
import Derived.Test.YtjbleefpafnhhaaDoorX14
import Derived.Test.YtjbleefpafnhhaaDoorX15
import Derived.Test.YtjbleefpafnhhaaDoorX16
import Derived.Test.YtjbleefpafnhhaaDoorX17
import Derived.Test.YtjbleefpafnhhaaDoorX18
import Derived.Test.YtjbleefpafnhhaaDoorX19
import Derived.Test.YtjbleefpafnhhaaDoorX20
import Derived.Test.YtjbleefpafnhhaaDoorX21
import Derived.Test.YtjbleefpafnhhaaDoorX22
import Derived.Test.YtjbleefpafnhhaaDoorX23
import Derived.Test.YtjbleefpafnhhaaDoorX24
import Derived.Test.YtjbleefpafnhhaaDoorX25
import Derived.Test.YtjbleefpafnhhaaDoorX26
import Derived.Test.YtjbleefpafnhhaaDoorX27
import Derived.Test.YtjbleefpafnhhaaDoorX28
import Derived.Test.YtjbleefpafnhhaaDoorX29
import Derived.Test.YtjbleefpafnhhaaDoorX30
import Derived.Test.YtjbleefpafnhhaaDoorX31
import Derived.Test.YtjbleefpafnhhaaDoorX32
import Derived.Test.YtjbleefpafnhhaaDoorX33
import Derived.Test.YtjbleefpafnhhaaDoorU02

set_option linter.unusedVariables false
set_option linter.unusedSimpArgs false
namespace Go.Proofs.YtjbleefpafnhhaaDoor
open Go.RowKit
theorem own_same {w w' : World} {B g n cap size : Nat} {e : TypeId} {xs : List Value} (h : w.ownsRow B e size (.slice (some ⟨g, 0, none⟩) n cap) n xs) (he : w'.heap[g]? = w.heap[g]?) : w'.ownsRow B e size (.slice (some ⟨g, 0, none⟩) n cap) n xs := by
  refine ⟨h.1, ?_⟩
  rcases h.2 with h2 | ⟨g', cap', cur, hv, hg, hh, r⟩
  · exact .inl h2
  · refine .inr ⟨g', cap', cur, hv, hg, ?_, r⟩
    cases hv
    rw [he]; exact hh
theorem own_ext {w w' : World} {S g n cap size : Nat} {e : TypeId} {xs : List Value} (h : w.ownsRow S e size (.slice (some ⟨g, 0, none⟩) n cap) n xs) (he : Ext S w w') (hS : S ≤ g) : w'.ownsRow S e size (.slice (some ⟨g, 0, none⟩) n cap) n xs := own_same h (he.2 g hS (h.lt g rfl).2)
def vzf14 (gx gd0 n cap k gs os sn sc B : Nat) (mv : Value) (Cs R : List Value) (S : Nat) : Nat → Value → World → Prop
  | 0, v, w => v = .pointer (some ⟨gx, 1, none⟩)
  | 1, v, w => v = .slice (some ⟨gd0, 0, none⟩) n cap
  | 2, v, w => v = .int .i64 (k : Int)
  | 3, v, w => v = .slice none 0 0
  | 4, v, w => v = .pointer (some ⟨gx, 1, none⟩)
  | 5, v, w => v = .slice (some ⟨gd0, 0, none⟩) n cap
  | 6, v, w => v = .int .i64 (k : Int)
  | 7, v, w => v = .pointer (some ⟨gd0, k * 31, none⟩)
  | 8, v, w => v = .pointer (some ⟨gd0, k * 31 + 8, none⟩)
  | 9, v, w => v = .slice (some ⟨gs, os, none⟩) sn sc
  | 10, v, w => ∃ (g capN : Nat), v = .slice (some ⟨g, 0, none⟩) sn capN ∧ S ≤ g ∧ w.ownsRow S 66 11 (.slice (some ⟨g, 0, none⟩) sn capN) sn Cs
  | 11, v, w => v = .pointer (some ⟨gd0, k * 31, none⟩)
  | 12, v, w => v = .pointer (some ⟨gd0, k * 31 + 8, none⟩)
  | _, _, _ => True
theorem vzf14_ext (gx gd0 n cap k gs os sn sc B : Nat) (mv : Value) (Cs R : List Value) (S : Nat) : ∀ j v w w', j < 13 → (Ext S w w' ∨ (j ≠ 999 ∧ Never w w')) → vzf14 gx gd0 n cap k gs os sn sc B mv Cs R S j v w → vzf14 gx gd0 n cap k gs os sn sc B mv Cs R S j v w' := by
  intro j v w w' hj he h
  match j, hj, he, h with
  | 0, _, he, h => exact h
  | 1, _, he, h => exact h
  | 2, _, he, h => exact h
  | 3, _, he, h => exact h
  | 4, _, he, h => exact h
  | 5, _, he, h => exact h
  | 6, _, he, h => exact h
  | 7, _, he, h => exact h
  | 8, _, he, h => exact h
  | 9, _, he, h => exact h
  | 10, _, he, h => obtain ⟨g, capN, e1, e2, e3⟩ := h; exact he.elim (fun q => ⟨g, capN, e1, e2, own_ext e3 q e2⟩) (fun q => absurd q.2 id)
  | 11, _, he, h => exact h
  | 12, _, he, h => exact h
  | n + 13, hn, _, _ => exact absurd hn (by omega)
def vzD14 : List Nat := [90, 91, 92, 93, 94, 95, 96, 97, 98, 99, 100, 101, 102]
def vzd14 (k : Nat) : Nat := [90, 91, 92, 93, 94, 95, 96, 97, 98, 99, 100, 101, 102].getD k 0
theorem vzd14_mem : ∀ k, k < 13 → vzd14 k < 172 ∧ vzd14 k ∈ vzD14 := by decide
theorem vzd14_inj : ∀ i, i < 13 → ∀ k, k < 13 → k ≠ i → vzd14 i ≠ vzd14 k := by decide
set_option maxHeartbeats 4000000 in
set_option maxRecDepth 100000 in
theorem vzreg14 {Q : Exit → Act → World → Prop} {id : Nat} {ops : Array Oper} (hops : ops = ((Tryd.f6.body).bind (opsOf 14)).getD #[]) (a0 : Act) (w0 : World) (gx gd0 n cap k gs os sn sc B : Nat) (mv : Value) (Cs R : List Value) (hsz : a0.tmps.size = 172)
    (h11 : ag a0 11 = .pointer (some ⟨gx, 0, none⟩)) (h21 : ag a0 21 = .int .i64 (k : Int)) (h22 : ag a0 22 = .slice none 0 0) (hx : Arr w0 gx 2 26 [mv, .slice (some ⟨gd0, 0, none⟩) n cap]) (hr : w0.ownsRow B 46 31 (.slice (some ⟨gd0, 0, none⟩) n cap) n R) (hgd0 : gd0 < w0.heap.size) (hc8 : w0.cell? ⟨gd0, k * 31 + 8, none⟩ = some (.slice (some ⟨gs, os, none⟩) sn sc)) (hgr : w0.rangeAt gs os Cs) (hlc : Cs.length = sn * 11) (h1c : ∀ u ∈ Cs, u.oneCell' = true) (hsn : 0 < sn ∧ sn ≤ 3) (hkn : (k : Int) < (n : Int)) (hk0 : (0 : Int) ≤ (k : Int))
    (hQ : ∀ (vs : Nat → Value) (w' : World) (g capN : Nat), w0.heap.size ≤ g → w'.ownsRow B 46 31 (.slice (some ⟨gd0, 0, none⟩) n cap) n (R.set (k * 31 + 8) (.slice (some ⟨g, 0, none⟩) sn capN)) → w'.ownsRow w0.heap.size 66 11 (.slice (some ⟨g, 0, none⟩) sn capN) sn Cs → Below 0 w0 w' → (∀ b, b < w0.heap.size → b ≠ gd0 → w'.heap[b]? = w0.heap[b]?) → ∀ a', a' = vzD14.foldl (fun b s => b.put (some s) (vs s)) a0 → Q .normal a' w') :
    (Code.region id ops true).wp Tryd.prog Q a0 w0 := by
  have hg0 : Below w0.heap.size w0 w0.drew := below_drewN (Below.refl _ _) 1
  have hlt : ∀ k, k < 13 → vzd14 k < a0.tmps.size := fun k hk => by have := (vzd14_mem k hk).1; omega
  refine wp_region_factsE 13 999 vzD14 vzd14 (vzf14 gx gd0 n cap k gs os sn sc B mv Cs R w0.heap.size) (fun w => Below w0.heap.size w0 w) w0.heap.size Never (fun k => k) (by kernel_rfl) (by subst hops; kernel_rfl) (by subst hops; kernel_rfl) (by subst hops; kernel_rfl) (vzf14_ext gx gd0 n cap k gs os sn sc B mv Cs R w0.heap.size) hg0 ?_ ?_
  · intro j a w hj ho hg hd
    have hgs := hg.size
    match j, hj, hd with
    | 0, hk, hd =>
      have s : (ops[0]?).map sig = some (some 90, .fieldAddr 26 (.tmp 11) 1, 0, none) := by subst hops; kernel_rfl
      have hgd : GdOk ops a none := trivial
      have e0 : ag a 11 = .pointer (some ⟨gx, 0, none⟩) := (ho.off 11 (by decide)).trans h11
      refine op_valg s hgd (w' := w) (v := .pointer (some ⟨gx, 1, none⟩)) ?_ ?_
      · simp only [execOp, eval_tmp, e0]
        go_simp
      · exact PostE.put (i := 0) ho (vzd14_mem 0 hk).2 (hlt 0 hk) (fun k hk2 hne _ => vzd14_inj 0 hk k hk2 hne) (.inl (Ext.refl _ _)) rfl hg
    | 1, hk, hd =>
      have s : (ops[1]?).map sig = some (some 91, .load 24 (.tmp 90), 24, none) := by subst hops; kernel_rfl
      have hgd : GdOk ops a none := trivial
      have d0 := hd 0 (by decide) (by subst hops; kernel_rfl)
      have e0 : ag a 90 = .pointer (some ⟨gx, 1, none⟩) := d0
      have hc := (hx.later hg).cell (j := 1) (v := .slice (some ⟨gd0, 0, none⟩) n cap) rfl
      refine op_valg s hgd (w' := w) (v := .slice (some ⟨gd0, 0, none⟩) n cap) ?_ ?_
      · simp only [execOp, eval_tmp, e0]
        go_simp
      · exact PostE.put (i := 1) ho (vzd14_mem 1 hk).2 (hlt 1 hk) (fun k hk2 hne _ => vzd14_inj 1 hk k hk2 hne) (.inl (Ext.refl _ _)) rfl hg
    | 2, hk, hd =>
      have s : (ops[2]?).map sig = some (some 92, .move (.tmp 21), 3, none) := by subst hops; kernel_rfl
      have hgd : GdOk ops a none := trivial
      have e0 : ag a 21 = .int .i64 (k : Int) := (ho.off 21 (by decide)).trans h21
      refine op_valg s hgd (w' := w) (v := .int .i64 (k : Int)) ?_ ?_
      · exact congrArg (fun x => Result.ok (Next.value x) w) e0
      · exact PostE.put (i := 2) ho (vzd14_mem 2 hk).2 (hlt 2 hk) (fun k hk2 hne _ => vzd14_inj 2 hk k hk2 hne) (.inl (Ext.refl _ _)) rfl hg
    | 3, hk, hd =>
      have s : (ops[3]?).map sig = some (some 93, .move (.tmp 22), 40, none) := by subst hops; kernel_rfl
      have hgd : GdOk ops a none := trivial
      have e0 : ag a 22 = .slice none 0 0 := (ho.off 22 (by decide)).trans h22
      refine op_valg s hgd (w' := w) (v := .slice none 0 0) ?_ ?_
      · exact congrArg (fun x => Result.ok (Next.value x) w) e0
      · exact PostE.put (i := 3) ho (vzd14_mem 3 hk).2 (hlt 3 hk) (fun k hk2 hne _ => vzd14_inj 3 hk k hk2 hne) (.inl (Ext.refl _ _)) rfl hg
    | 4, hk, hd =>
      have s : (ops[4]?).map sig = some (some 94, .fieldAddr 26 (.tmp 11) 1, 0, none) := by subst hops; kernel_rfl
      have hgd : GdOk ops a none := trivial
      have e0 : ag a 11 = .pointer (some ⟨gx, 0, none⟩) := (ho.off 11 (by decide)).trans h11
      refine op_valg s hgd (w' := w) (v := .pointer (some ⟨gx, 1, none⟩)) ?_ ?_
      · simp only [execOp, eval_tmp, e0]
        go_simp
      · exact PostE.put (i := 4) ho (vzd14_mem 4 hk).2 (hlt 4 hk) (fun k hk2 hne _ => vzd14_inj 4 hk k hk2 hne) (.inl (Ext.refl _ _)) rfl hg
    | 5, hk, hd =>
      have s : (ops[5]?).map sig = some (some 95, .load 24 (.tmp 94), 24, none) := by subst hops; kernel_rfl
      have hgd : GdOk ops a none := trivial
      have d4 := hd 4 (by decide) (by subst hops; kernel_rfl)
      have e0 : ag a 94 = .pointer (some ⟨gx, 1, none⟩) := d4
      have hc := (hx.later hg).cell (j := 1) (v := .slice (some ⟨gd0, 0, none⟩) n cap) rfl
      refine op_valg s hgd (w' := w) (v := .slice (some ⟨gd0, 0, none⟩) n cap) ?_ ?_
      · simp only [execOp, eval_tmp, e0]
        go_simp
      · exact PostE.put (i := 5) ho (vzd14_mem 5 hk).2 (hlt 5 hk) (fun k hk2 hne _ => vzd14_inj 5 hk k hk2 hne) (.inl (Ext.refl _ _)) rfl hg
    | 6, hk, hd =>
      have s : (ops[6]?).map sig = some (some 96, .move (.tmp 21), 3, none) := by subst hops; kernel_rfl
      have hgd : GdOk ops a none := trivial
      have e0 : ag a 21 = .int .i64 (k : Int) := (ho.off 21 (by decide)).trans h21
      refine op_valg s hgd (w' := w) (v := .int .i64 (k : Int)) ?_ ?_
      · exact congrArg (fun x => Result.ok (Next.value x) w) e0
      · exact PostE.put (i := 6) ho (vzd14_mem 6 hk).2 (hlt 6 hk) (fun k hk2 hne _ => vzd14_inj 6 hk k hk2 hne) (.inl (Ext.refl _ _)) rfl hg
    | 7, hk, hd =>
      have s : (ops[7]?).map sig = some (some 97, .indexAddr 24 (.tmp 95) (.tmp 96), 0, none) := by subst hops; kernel_rfl
      have hgd : GdOk ops a none := trivial
      have d5 := hd 5 (by decide) (by subst hops; kernel_rfl)
      have d6 := hd 6 (by decide) (by subst hops; kernel_rfl)
      have e0 : ag a 95 = .slice (some ⟨gd0, 0, none⟩) n cap := d5
      have e1 : ag a 96 = .int .i64 (k : Int) := d6
      refine op_valg s hgd (w' := w) (v := .pointer (some ⟨gd0, k * 31, none⟩)) ?_ ?_
      · simp only [execOp, eval_tmp, e0, e1]
        go_simp
      · exact PostE.put (i := 7) ho (vzd14_mem 7 hk).2 (hlt 7 hk) (fun k hk2 hne _ => vzd14_inj 7 hk k hk2 hne) (.inl (Ext.refl _ _)) rfl hg
    | 8, hk, hd =>
      have s : (ops[8]?).map sig = some (some 98, .fieldAddr 46 (.tmp 97) 4, 0, none) := by subst hops; kernel_rfl
      have hgd : GdOk ops a none := trivial
      have d7 := hd 7 (by decide) (by subst hops; kernel_rfl)
      have e0 : ag a 97 = .pointer (some ⟨gd0, k * 31, none⟩) := d7
      refine op_valg s hgd (w' := w) (v := .pointer (some ⟨gd0, k * 31 + 8, none⟩)) ?_ ?_
      · simp only [execOp, eval_tmp, e0]
        go_simp
      · exact PostE.put (i := 8) ho (vzd14_mem 8 hk).2 (hlt 8 hk) (fun k hk2 hne _ => vzd14_inj 8 hk k hk2 hne) (.inl (Ext.refl _ _)) rfl hg
    | 9, hk, hd =>
      have s : (ops[9]?).map sig = some (some 99, .load 40 (.tmp 98), 40, none) := by subst hops; kernel_rfl
      have hgd : GdOk ops a none := trivial
      have d8 := hd 8 (by decide) (by subst hops; kernel_rfl)
      have e0 : ag a 98 = .pointer (some ⟨gd0, k * 31 + 8, none⟩) := d8
      have hc := (hg.cell (p := ⟨gd0, k * 31 + 8, none⟩) hgd0).trans hc8
      refine op_valg s hgd (w' := w) (v := .slice (some ⟨gs, os, none⟩) sn sc) ?_ ?_
      · simp only [execOp, eval_tmp, e0]
        go_simp
      · exact PostE.put (i := 9) ho (vzd14_mem 9 hk).2 (hlt 9 hk) (fun k hk2 hne _ => vzd14_inj 9 hk k hk2 hne) (.inl (Ext.refl _ _)) rfl hg
    | 10, hk, hd =>
      have s : (ops[10]?).map sig = some (some 100, .call { callee := .builtin .append, args := #[.tmp 93, .tmp 99], argTypes := #[40, 40] }, 40, none) := by subst hops; kernel_rfl
      have hgd : GdOk ops a none := trivial
      have d3 := hd 3 (by decide) (by subst hops; kernel_rfl)
      have d9 := hd 9 (by decide) (by subst hops; kernel_rfl)
      have e0 : ag a 93 = .slice none 0 0 := d3
      have e1 : ag a 99 = .slice (some ⟨gs, os, none⟩) sn sc := d9
      obtain ⟨i0, hi0, hz0, hz1, hz2⟩ := info_parts info_slot3
      refine wpOp_ofg s hgd fun o h1 h2 h3 => ?_
      refine wp_append_lies w (.tmp 93) (.tmp 99) 40 h2 w0.heap.size 66 i0 _ 11 112 Tryd.underlying40 hi0 hz0 hz1 hz2 rfl (by decide) (.slice none 0 0) 0 [] e0 (World.ownsRow_nil w _ _ 11) ⟨gs, os, none⟩ sn sc Cs e1 hlc (fun j u hu => by rw [show (⟨gs, os, none⟩ : Addr).add j = ⟨gs, os + j, none⟩ by unfold Addr.add; split <;> simp_all]; exact range_below hgr hg j u hu) h1c hsn.1 (by simp only [maxLen]; omega) (by omega) hgs w.heap.size rfl ?_
      intro g capN w' hown hgw hat hlt'
      have hgS : w0.heap.size ≤ g := hat.elim (fun e => by cases e) (fun e => by omega)
      rw [Nat.zero_add, List.nil_append] at hown
      have hb : Below w.heap.size w w' := (Below.refl w.heap.size w).grown hgw (Nat.le_refl _) (fun k hk => by cases hk)
      rw [h1, Nat.zero_add]
      exact PostE.put (i := 10) ho (vzd14_mem 10 hk).2 (hlt 10 hk) (fun k hk2 hne _ => vzd14_inj 10 hk k hk2 hne) (.inl (Ext.of hb)) ⟨g, capN, rfl, hgS, hown⟩ (later hg hb)
    | 11, hk, hd =>
      have s : (ops[11]?).map sig = some (some 101, .indexAddr 24 (.tmp 91) (.tmp 92), 0, none) := by subst hops; kernel_rfl
      have hgd : GdOk ops a none := trivial
      have d1 := hd 1 (by decide) (by subst hops; kernel_rfl)
      have d2 := hd 2 (by decide) (by subst hops; kernel_rfl)
      have e0 : ag a 91 = .slice (some ⟨gd0, 0, none⟩) n cap := d1
      have e1 : ag a 92 = .int .i64 (k : Int) := d2
      refine op_valg s hgd (w' := w) (v := .pointer (some ⟨gd0, k * 31, none⟩)) ?_ ?_
      · simp only [execOp, eval_tmp, e0, e1]
        go_simp
      · exact PostE.put (i := 11) ho (vzd14_mem 11 hk).2 (hlt 11 hk) (fun k hk2 hne _ => vzd14_inj 11 hk k hk2 hne) (.inl (Ext.refl _ _)) rfl hg
    | 12, hk, hd =>
      have s : (ops[12]?).map sig = some (some 102, .fieldAddr 46 (.tmp 101) 4, 0, none) := by subst hops; kernel_rfl
      have hgd : GdOk ops a none := trivial
      have d11 := hd 11 (by decide) (by subst hops; kernel_rfl)
      have e0 : ag a 101 = .pointer (some ⟨gd0, k * 31, none⟩) := d11
      refine op_valg s hgd (w' := w) (v := .pointer (some ⟨gd0, k * 31 + 8, none⟩)) ?_ ?_
      · simp only [execOp, eval_tmp, e0]
        go_simp
      · exact PostE.put (i := 12) ho (vzd14_mem 12 hk).2 (hlt 12 hk) (fun k hk2 hne _ => vzd14_inj 12 hk k hk2 hne) (.inl (Ext.refl _ _)) rfl hg
    | n + 13, hn, _ => exact absurd hn (by omega)
  · intro a w ho hg hf
    have s : (ops[13]?).map sig = some (none, .store 40 (.tmp 102) (.tmp 100), 0, none) := by subst hops; kernel_rfl
    have hgd : GdOk ops a none := trivial
    have e1 : ag a 102 = .pointer (some ⟨gd0, k * 31 + 8, none⟩) := hf 12 (by decide)
    obtain ⟨g, capN, e0, hgS, hown⟩ := hf 10 (by decide)
    have e0 : ag a 100 = .slice (some ⟨g, 0, none⟩) sn capN := e0
    have hc := (hg.cell (p := ⟨gd0, k * 31 + 8, none⟩) hgd0).trans hc8
    have hrw : w.ownsRow B 46 31 (.slice (some ⟨gd0, 0, none⟩) n cap) n R := own_below hr hg (fun b hb => by cases hb; exact hgd0)
    have hfz : w.frozen? ⟨gd0, k * 31 + 8, none⟩ = false := World.ownsRow.frozenAt hrw (k * 31 + 8)
    have hO : Only gd0 w (w.setCell ⟨gd0, k * 31 + 8, none⟩ (.slice (some ⟨g, 0, none⟩) sn capN)) := Only.setCells gd0 (k * 31 + 8) [.slice (some ⟨g, 0, none⟩) sn capN] w
    refine op_skip s (w' := w.setCell ⟨gd0, k * 31 + 8, none⟩ (.slice (some ⟨g, 0, none⟩) sn capN)) ?_ ?_
    · simp only [execOp, eval_tmp, e0, e1]
      go_simp
    · exact hQ (ag a) _ g capN hgS (hrw.stored (k * 31 + 8) _).1 (own_same hown (hO.2 g (by omega))) ((hg.mono (Nat.zero_le _)).trans (hO.bel.mono (Nat.zero_le _))) (fun b hb hne => (hO.2 b hne).trans (hg.block b hb)) _ (ho.eq (fun s hs => by rw [hsz]; revert s; decide))
end Go.Proofs.YtjbleefpafnhhaaDoor

namespace Go.Proofs.YtjbleefpafnhhaaDoor
open Go.RowKit
def vzf15 (gx gd0 n cap k gs sn sc B : Nat) (mv : Value) (Cs : List Value) (turn : Int) : Nat → Value → World → Prop
  | 0, v, w => v = .pointer (some ⟨gx, 1, none⟩)
  | 1, v, w => v = .slice (some ⟨gd0, 0, none⟩) n cap
  | 2, v, w => v = .int .i64 (k : Int)
  | 3, v, w => v = .pointer (some ⟨gd0, k * 31, none⟩)
  | 4, v, w => v = .pointer (some ⟨gd0, k * 31 + 8, none⟩)
  | 5, v, w => v = .slice (some ⟨gs, 0, none⟩) sn sc
  | 6, v, w => v = .int .i64 turn
  | 7, v, w => v = .int .i64 (turn.tdiv 4)
  | 8, v, w => v = .pointer (some ⟨gx, 1, none⟩)
  | 9, v, w => v = .slice (some ⟨gd0, 0, none⟩) n cap
  | 10, v, w => v = .int .i64 (k : Int)
  | 11, v, w => v = .pointer (some ⟨gd0, k * 31, none⟩)
  | 12, v, w => v = .pointer (some ⟨gd0, k * 31 + 8, none⟩)
  | 13, v, w => v = .slice (some ⟨gs, 0, none⟩) sn sc
  | 14, v, w => v = .int .i64 (sn : Int)
  | 15, v, w => v = .int .i64 ((ar (turn.tdiv 4) sn : Nat) : Int)
  | 16, v, w => v = .int .i64 turn
  | 17, v, w => v = .int .i64 (turn.tdiv 16)
  | 18, v, w => v = .int .i64 ((ar (turn.tdiv 16) 5 : Nat) : Int)
  | 19, v, w => v = .int .i64 ((1 + ar (turn.tdiv 16) 5 : Nat) : Int)
  | 20, v, w => v = .agg #[.int .i64 0, .int .i64 1, .int .i64 ((1 + ar (turn.tdiv 16) 5 : Nat) : Int)]
  | 21, v, w => v = .agg #[.int .i64 3, .int .i64 0, .int .i64 1, .int .i64 ((1 + ar (turn.tdiv 16) 5 : Nat) : Int), .slice none 0 0]
  | 22, v, w => v = .pointer (some ⟨gs, ar (turn.tdiv 4) sn * 11, none⟩)
  | 23, v, w => v = .pointer (some ⟨gs, ar (turn.tdiv 4) sn * 11 + 4, none⟩)
  | _, _, _ => True
theorem vzf15_ext (gx gd0 n cap k gs sn sc B : Nat) (mv : Value) (Cs : List Value) (turn : Int) (S : Nat) : ∀ j v w w', j < 24 → (Ext S w w' ∨ (j ≠ 999 ∧ Never w w')) → vzf15 gx gd0 n cap k gs sn sc B mv Cs turn j v w → vzf15 gx gd0 n cap k gs sn sc B mv Cs turn j v w' := by
  intro j v w w' hj he h
  match j, hj, he, h with
  | 0, _, he, h => exact h
  | 1, _, he, h => exact h
  | 2, _, he, h => exact h
  | 3, _, he, h => exact h
  | 4, _, he, h => exact h
  | 5, _, he, h => exact h
  | 6, _, he, h => exact h
  | 7, _, he, h => exact h
  | 8, _, he, h => exact h
  | 9, _, he, h => exact h
  | 10, _, he, h => exact h
  | 11, _, he, h => exact h
  | 12, _, he, h => exact h
  | 13, _, he, h => exact h
  | 14, _, he, h => exact h
  | 15, _, he, h => exact h
  | 16, _, he, h => exact h
  | 17, _, he, h => exact h
  | 18, _, he, h => exact h
  | 19, _, he, h => exact h
  | 20, _, he, h => exact h
  | 21, _, he, h => exact h
  | 22, _, he, h => exact h
  | 23, _, he, h => exact h
  | n + 24, hn, _, _ => exact absurd hn (by omega)
def vzD15 : List Nat := [103, 104, 105, 106, 107, 108, 109, 110, 111, 112, 113, 114, 115, 116, 117, 118, 119, 120, 121, 122, 123, 124, 125, 126]
def vzd15 (k : Nat) : Nat := [103, 104, 105, 106, 107, 108, 109, 110, 111, 112, 113, 114, 115, 116, 117, 118, 119, 120, 121, 122, 123, 124, 125, 126].getD k 0
theorem vzd15_mem : ∀ k, k < 24 → vzd15 k < 172 ∧ vzd15 k ∈ vzD15 := by decide
theorem vzd15_inj : ∀ i, i < 24 → ∀ k, k < 24 → k ≠ i → vzd15 i ≠ vzd15 k := by decide
set_option maxHeartbeats 4000000 in
set_option maxRecDepth 100000 in
theorem vzreg15 {Q : Exit → Act → World → Prop} {id : Nat} {ops : Array Oper} (hops : ops = ((Tryd.f6.body).bind (opsOf 15)).getD #[]) (a0 : Act) (w0 : World) (gx gd0 n cap k gs sn sc B : Nat) (mv : Value) (Cs : List Value) (turn : Int) (hsz : a0.tmps.size = 172)
    (h11 : ag a0 11 = .pointer (some ⟨gx, 0, none⟩)) (h21 : ag a0 21 = .int .i64 (k : Int)) (h4 : ag a0 4 = .int .i64 turn) (hx : Arr w0 gx 2 26 [mv, .slice (some ⟨gd0, 0, none⟩) n cap]) (hgd0 : gd0 < w0.heap.size) (hgs0 : gs < w0.heap.size) (hc8 : w0.cell? ⟨gd0, k * 31 + 8, none⟩ = some (.slice (some ⟨gs, 0, none⟩) sn sc)) (hr : w0.ownsRow B 66 11 (.slice (some ⟨gs, 0, none⟩) sn sc) sn Cs) (hsn : 0 < sn ∧ sn ≤ 3) (hkn : (k : Int) < (n : Int)) (hk0 : (0 : Int) ≤ (k : Int)) (hturn : i64r turn) (h4r : i64r (turn.tdiv 4)) (h16r : i64r (turn.tdiv 16))
    (hQ : ∀ (vs : Nat → Value) (w' : World), w'.ownsRow B 66 11 (.slice (some ⟨gs, 0, none⟩) sn sc) sn (setAll Cs (ar (turn.tdiv 4) sn * 11 + 4) [.int .i64 3, .int .i64 0, .int .i64 1, .int .i64 ((1 + ar (turn.tdiv 16) 5 : Nat) : Int), .slice none 0 0]) → Below 0 w0 w' → (∀ b, b < w0.heap.size → b ≠ gs → w'.heap[b]? = w0.heap[b]?) → ∀ a', a' = vzD15.foldl (fun b s => b.put (some s) (vs s)) a0 → Q .normal a' w') :
    (Code.region id ops true).wp Tryd.prog Q a0 w0 := by
  have hg0 : Below w0.heap.size w0 w0.drew := below_drewN (Below.refl _ _) 1
  have hlt : ∀ k, k < 24 → vzd15 k < a0.tmps.size := fun k hk => by have := (vzd15_mem k hk).1; omega
  refine wp_region_factsE 24 999 vzD15 vzd15 (vzf15 gx gd0 n cap k gs sn sc B mv Cs turn) (fun w => Below w0.heap.size w0 w) w0.heap.size Never (fun k => k) (by kernel_rfl) (by subst hops; kernel_rfl) (by subst hops; kernel_rfl) (by subst hops; kernel_rfl) (vzf15_ext gx gd0 n cap k gs sn sc B mv Cs turn w0.heap.size) hg0 ?_ ?_
  · intro j a w hj ho hg hd
    have hgs := hg.size
    match j, hj, hd with
    | 0, hk, hd =>
      have s : (ops[0]?).map sig = some (some 103, .fieldAddr 26 (.tmp 11) 1, 0, none) := by subst hops; kernel_rfl
      have hgd : GdOk ops a none := trivial
      have e0 : ag a 11 = .pointer (some ⟨gx, 0, none⟩) := (ho.off 11 (by decide)).trans h11
      refine op_valg s hgd (w' := w) (v := .pointer (some ⟨gx, 1, none⟩)) ?_ ?_
      · simp only [execOp, eval_tmp, e0]
        go_simp
      · exact PostE.put (i := 0) ho (vzd15_mem 0 hk).2 (hlt 0 hk) (fun k hk2 hne _ => vzd15_inj 0 hk k hk2 hne) (.inl (Ext.refl _ _)) rfl hg
    | 1, hk, hd =>
      have s : (ops[1]?).map sig = some (some 104, .load 24 (.tmp 103), 24, none) := by subst hops; kernel_rfl
      have hgd : GdOk ops a none := trivial
      have d0 := hd 0 (by decide) (by subst hops; kernel_rfl)
      have e0 : ag a 103 = .pointer (some ⟨gx, 1, none⟩) := d0
      have hc := (hx.later hg).cell (j := 1) (v := .slice (some ⟨gd0, 0, none⟩) n cap) rfl
      refine op_valg s hgd (w' := w) (v := .slice (some ⟨gd0, 0, none⟩) n cap) ?_ ?_
      · simp only [execOp, eval_tmp, e0]
        go_simp
      · exact PostE.put (i := 1) ho (vzd15_mem 1 hk).2 (hlt 1 hk) (fun k hk2 hne _ => vzd15_inj 1 hk k hk2 hne) (.inl (Ext.refl _ _)) rfl hg
    | 2, hk, hd =>
      have s : (ops[2]?).map sig = some (some 105, .move (.tmp 21), 3, none) := by subst hops; kernel_rfl
      have hgd : GdOk ops a none := trivial
      have e0 : ag a 21 = .int .i64 (k : Int) := (ho.off 21 (by decide)).trans h21
      refine op_valg s hgd (w' := w) (v := .int .i64 (k : Int)) ?_ ?_
      · exact congrArg (fun x => Result.ok (Next.value x) w) e0
      · exact PostE.put (i := 2) ho (vzd15_mem 2 hk).2 (hlt 2 hk) (fun k hk2 hne _ => vzd15_inj 2 hk k hk2 hne) (.inl (Ext.refl _ _)) rfl hg
    | 3, hk, hd =>
      have s : (ops[3]?).map sig = some (some 106, .indexAddr 24 (.tmp 104) (.tmp 105), 0, none) := by subst hops; kernel_rfl
      have hgd : GdOk ops a none := trivial
      have d1 := hd 1 (by decide) (by subst hops; kernel_rfl)
      have d2 := hd 2 (by decide) (by subst hops; kernel_rfl)
      have e0 : ag a 104 = .slice (some ⟨gd0, 0, none⟩) n cap := d1
      have e1 : ag a 105 = .int .i64 (k : Int) := d2
      refine op_valg s hgd (w' := w) (v := .pointer (some ⟨gd0, k * 31, none⟩)) ?_ ?_
      · simp only [execOp, eval_tmp, e0, e1]
        go_simp
      · exact PostE.put (i := 3) ho (vzd15_mem 3 hk).2 (hlt 3 hk) (fun k hk2 hne _ => vzd15_inj 3 hk k hk2 hne) (.inl (Ext.refl _ _)) rfl hg
    | 4, hk, hd =>
      have s : (ops[4]?).map sig = some (some 107, .fieldAddr 46 (.tmp 106) 4, 0, none) := by subst hops; kernel_rfl
      have hgd : GdOk ops a none := trivial
      have d3 := hd 3 (by decide) (by subst hops; kernel_rfl)
      have e0 : ag a 106 = .pointer (some ⟨gd0, k * 31, none⟩) := d3
      refine op_valg s hgd (w' := w) (v := .pointer (some ⟨gd0, k * 31 + 8, none⟩)) ?_ ?_
      · simp only [execOp, eval_tmp, e0]
        go_simp
      · exact PostE.put (i := 4) ho (vzd15_mem 4 hk).2 (hlt 4 hk) (fun k hk2 hne _ => vzd15_inj 4 hk k hk2 hne) (.inl (Ext.refl _ _)) rfl hg
    | 5, hk, hd =>
      have s : (ops[5]?).map sig = some (some 108, .load 40 (.tmp 107), 40, none) := by subst hops; kernel_rfl
      have hgd : GdOk ops a none := trivial
      have d4 := hd 4 (by decide) (by subst hops; kernel_rfl)
      have e0 : ag a 107 = .pointer (some ⟨gd0, k * 31 + 8, none⟩) := d4
      have hc := (hg.cell (p := ⟨gd0, k * 31 + 8, none⟩) hgd0).trans hc8
      refine op_valg s hgd (w' := w) (v := .slice (some ⟨gs, 0, none⟩) sn sc) ?_ ?_
      · simp only [execOp, eval_tmp, e0]
        go_simp
      · exact PostE.put (i := 5) ho (vzd15_mem 5 hk).2 (hlt 5 hk) (fun k hk2 hne _ => vzd15_inj 5 hk k hk2 hne) (.inl (Ext.refl _ _)) rfl hg
    | 6, hk, hd =>
      have s : (ops[6]?).map sig = some (some 109, .move (.tmp 4), 3, none) := by subst hops; kernel_rfl
      have hgd : GdOk ops a none := trivial
      have e0 : ag a 4 = .int .i64 turn := (ho.off 4 (by decide)).trans h4
      refine op_valg s hgd (w' := w) (v := .int .i64 turn) ?_ ?_
      · exact congrArg (fun x => Result.ok (Next.value x) w) e0
      · exact PostE.put (i := 6) ho (vzd15_mem 6 hk).2 (hlt 6 hk) (fun k hk2 hne _ => vzd15_inj 6 hk k hk2 hne) (.inl (Ext.refl _ _)) rfl hg
    | 7, hk, hd =>
      have s : (ops[7]?).map sig = some (some 110, .binOp .quo 3 (.tmp 109) (.const (.int .i64 4)) 3, 3, none) := by subst hops; kernel_rfl
      have hgd : GdOk ops a none := trivial
      have d6 := hd 6 (by decide) (by subst hops; kernel_rfl)
      have e0 : ag a 109 = .int .i64 turn := d6
      refine op_valg s hgd (w' := w) (v := .int .i64 (turn.tdiv 4)) ?_ ?_
      · simp only [execOp, eval_tmp, e0]
        go_simp
        exact IntWalk.i64_in _ (by unfold i64r at h4r; omega)
      · exact PostE.put (i := 7) ho (vzd15_mem 7 hk).2 (hlt 7 hk) (fun k hk2 hne _ => vzd15_inj 7 hk k hk2 hne) (.inl (Ext.refl _ _)) rfl hg
    | 8, hk, hd =>
      have s : (ops[8]?).map sig = some (some 111, .fieldAddr 26 (.tmp 11) 1, 0, none) := by subst hops; kernel_rfl
      have hgd : GdOk ops a none := trivial
      have e0 : ag a 11 = .pointer (some ⟨gx, 0, none⟩) := (ho.off 11 (by decide)).trans h11
      refine op_valg s hgd (w' := w) (v := .pointer (some ⟨gx, 1, none⟩)) ?_ ?_
      · simp only [execOp, eval_tmp, e0]
        go_simp
      · exact PostE.put (i := 8) ho (vzd15_mem 8 hk).2 (hlt 8 hk) (fun k hk2 hne _ => vzd15_inj 8 hk k hk2 hne) (.inl (Ext.refl _ _)) rfl hg
    | 9, hk, hd =>
      have s : (ops[9]?).map sig = some (some 112, .load 24 (.tmp 111), 24, none) := by subst hops; kernel_rfl
      have hgd : GdOk ops a none := trivial
      have d8 := hd 8 (by decide) (by subst hops; kernel_rfl)
      have e0 : ag a 111 = .pointer (some ⟨gx, 1, none⟩) := d8
      have hc := (hx.later hg).cell (j := 1) (v := .slice (some ⟨gd0, 0, none⟩) n cap) rfl
      refine op_valg s hgd (w' := w) (v := .slice (some ⟨gd0, 0, none⟩) n cap) ?_ ?_
      · simp only [execOp, eval_tmp, e0]
        go_simp
      · exact PostE.put (i := 9) ho (vzd15_mem 9 hk).2 (hlt 9 hk) (fun k hk2 hne _ => vzd15_inj 9 hk k hk2 hne) (.inl (Ext.refl _ _)) rfl hg
    | 10, hk, hd =>
      have s : (ops[10]?).map sig = some (some 113, .move (.tmp 21), 3, none) := by subst hops; kernel_rfl
      have hgd : GdOk ops a none := trivial
      have e0 : ag a 21 = .int .i64 (k : Int) := (ho.off 21 (by decide)).trans h21
      refine op_valg s hgd (w' := w) (v := .int .i64 (k : Int)) ?_ ?_
      · exact congrArg (fun x => Result.ok (Next.value x) w) e0
      · exact PostE.put (i := 10) ho (vzd15_mem 10 hk).2 (hlt 10 hk) (fun k hk2 hne _ => vzd15_inj 10 hk k hk2 hne) (.inl (Ext.refl _ _)) rfl hg
    | 11, hk, hd =>
      have s : (ops[11]?).map sig = some (some 114, .indexAddr 24 (.tmp 112) (.tmp 113), 0, none) := by subst hops; kernel_rfl
      have hgd : GdOk ops a none := trivial
      have d9 := hd 9 (by decide) (by subst hops; kernel_rfl)
      have d10 := hd 10 (by decide) (by subst hops; kernel_rfl)
      have e0 : ag a 112 = .slice (some ⟨gd0, 0, none⟩) n cap := d9
      have e1 : ag a 113 = .int .i64 (k : Int) := d10
      refine op_valg s hgd (w' := w) (v := .pointer (some ⟨gd0, k * 31, none⟩)) ?_ ?_
      · simp only [execOp, eval_tmp, e0, e1]
        go_simp
      · exact PostE.put (i := 11) ho (vzd15_mem 11 hk).2 (hlt 11 hk) (fun k hk2 hne _ => vzd15_inj 11 hk k hk2 hne) (.inl (Ext.refl _ _)) rfl hg
    | 12, hk, hd =>
      have s : (ops[12]?).map sig = some (some 115, .fieldAddr 46 (.tmp 114) 4, 0, none) := by subst hops; kernel_rfl
      have hgd : GdOk ops a none := trivial
      have d11 := hd 11 (by decide) (by subst hops; kernel_rfl)
      have e0 : ag a 114 = .pointer (some ⟨gd0, k * 31, none⟩) := d11
      refine op_valg s hgd (w' := w) (v := .pointer (some ⟨gd0, k * 31 + 8, none⟩)) ?_ ?_
      · simp only [execOp, eval_tmp, e0]
        go_simp
      · exact PostE.put (i := 12) ho (vzd15_mem 12 hk).2 (hlt 12 hk) (fun k hk2 hne _ => vzd15_inj 12 hk k hk2 hne) (.inl (Ext.refl _ _)) rfl hg
    | 13, hk, hd =>
      have s : (ops[13]?).map sig = some (some 116, .load 40 (.tmp 115), 40, none) := by subst hops; kernel_rfl
      have hgd : GdOk ops a none := trivial
      have d12 := hd 12 (by decide) (by subst hops; kernel_rfl)
      have e0 : ag a 115 = .pointer (some ⟨gd0, k * 31 + 8, none⟩) := d12
      have hc := (hg.cell (p := ⟨gd0, k * 31 + 8, none⟩) hgd0).trans hc8
      refine op_valg s hgd (w' := w) (v := .slice (some ⟨gs, 0, none⟩) sn sc) ?_ ?_
      · simp only [execOp, eval_tmp, e0]
        go_simp
      · exact PostE.put (i := 13) ho (vzd15_mem 13 hk).2 (hlt 13 hk) (fun k hk2 hne _ => vzd15_inj 13 hk k hk2 hne) (.inl (Ext.refl _ _)) rfl hg
    | 14, hk, hd =>
      have s : (ops[14]?).map sig = some (some 117, .call { callee := .builtin .len, args := #[.tmp 116], argTypes := #[40] }, 3, none) := by subst hops; kernel_rfl
      have hgd : GdOk ops a none := trivial
      have d13 := hd 13 (by decide) (by subst hops; kernel_rfl)
      have e0 : ag a 116 = .slice (some ⟨gs, 0, none⟩) sn sc := d13
      refine op_valg s hgd (w' := w) (v := .int .i64 (sn : Int)) ?_ ?_
      · simp only [execOp]
        go_simp
        rw [show a.tmps[116]?.getD undef = (.slice (some ⟨gs, 0, none⟩) sn sc) by simpa [ag] using e0]
        go_simp
      · exact PostE.put (i := 14) ho (vzd15_mem 14 hk).2 (hlt 14 hk) (fun k hk2 hne _ => vzd15_inj 14 hk k hk2 hne) (.inl (Ext.refl _ _)) rfl hg
    | 15, hk, hd =>
      have s : (ops[15]?).map sig = some (some 118, .call { callee := .value (.func 12), args := #[.tmp 110, .tmp 117], argTypes := #[3, 3] }, 3, none) := by subst hops; kernel_rfl
      have hgd : GdOk ops a none := trivial
      have d7 := hd 7 (by decide) (by subst hops; kernel_rfl)
      have d14 := hd 14 (by decide) (by subst hops; kernel_rfl)
      have e0 : ag a 110 = .int .i64 (turn.tdiv 4) := d7
      have e1 : ag a 117 = .int .i64 (sn : Int) := d14
      refine op_callg s hgd (w' := w) (f := 12) (args := #[.int .i64 (turn.tdiv 4), .int .i64 (sn : Int)]) ?_ ?_
      · simp only [execOp]
        go_simp
        refine ⟨by simpa [ag] using e0, by simpa [ag] using e1⟩
      · refine (Around_any (turn.tdiv 4) sn (by omega) (by omega) h4r w).mono ?_
        rintro e w' ⟨rfl, hw⟩
        have hb : Below w.heap.size w w' := by rw [hw]; exact Below.refl _ _
        exact ⟨_, rfl, PostE.put (i := 15) ho (vzd15_mem 15 hk).2 (hlt 15 hk) (fun k hk2 hne _ => vzd15_inj 15 hk k hk2 hne) (.inl (Ext.of hb)) rfl (later hg hb)⟩
    | 16, hk, hd =>
      have s : (ops[16]?).map sig = some (some 119, .move (.tmp 4), 3, none) := by subst hops; kernel_rfl
      have hgd : GdOk ops a none := trivial
      have e0 : ag a 4 = .int .i64 turn := (ho.off 4 (by decide)).trans h4
      refine op_valg s hgd (w' := w) (v := .int .i64 turn) ?_ ?_
      · exact congrArg (fun x => Result.ok (Next.value x) w) e0
      · exact PostE.put (i := 16) ho (vzd15_mem 16 hk).2 (hlt 16 hk) (fun k hk2 hne _ => vzd15_inj 16 hk k hk2 hne) (.inl (Ext.refl _ _)) rfl hg
    | 17, hk, hd =>
      have s : (ops[17]?).map sig = some (some 120, .binOp .quo 3 (.tmp 119) (.const (.int .i64 16)) 3, 3, none) := by subst hops; kernel_rfl
      have hgd : GdOk ops a none := trivial
      have d16 := hd 16 (by decide) (by subst hops; kernel_rfl)
      have e0 : ag a 119 = .int .i64 turn := d16
      refine op_valg s hgd (w' := w) (v := .int .i64 (turn.tdiv 16)) ?_ ?_
      · simp only [execOp, eval_tmp, e0]
        go_simp
        exact IntWalk.i64_in _ (by unfold i64r at h16r; omega)
      · exact PostE.put (i := 17) ho (vzd15_mem 17 hk).2 (hlt 17 hk) (fun k hk2 hne _ => vzd15_inj 17 hk k hk2 hne) (.inl (Ext.refl _ _)) rfl hg
    | 18, hk, hd =>
      have s : (ops[18]?).map sig = some (some 121, .call { callee := .value (.func 12), args := #[.tmp 120, .const (.int .i64 5)], argTypes := #[3, 3] }, 3, none) := by subst hops; kernel_rfl
      have hgd : GdOk ops a none := trivial
      have d17 := hd 17 (by decide) (by subst hops; kernel_rfl)
      have e0 : ag a 120 = .int .i64 (turn.tdiv 16) := d17
      refine op_callg s hgd (w' := w) (f := 12) (args := #[.int .i64 (turn.tdiv 16), .int .i64 5]) ?_ ?_
      · simp only [execOp]
        go_simp
        simpa [ag] using e0
      · refine (Around_any (turn.tdiv 16) 5 (by decide) (by decide) h16r w).mono ?_
        rintro e w' ⟨rfl, hw⟩
        have hb : Below w.heap.size w w' := by rw [hw]; exact Below.refl _ _
        exact ⟨_, rfl, PostE.put (i := 18) ho (vzd15_mem 18 hk).2 (hlt 18 hk) (fun k hk2 hne _ => vzd15_inj 18 hk k hk2 hne) (.inl (Ext.of hb)) rfl (later hg hb)⟩
    | 19, hk, hd =>
      have s : (ops[19]?).map sig = some (some 122, .binOp .add 3 (.const (.int .i64 1)) (.tmp 121) 3, 3, none) := by subst hops; kernel_rfl
      have hgd : GdOk ops a none := trivial
      have d18 := hd 18 (by decide) (by subst hops; kernel_rfl)
      have e0 : ag a 121 = .int .i64 ((ar (turn.tdiv 16) 5 : Nat) : Int) := d18
      have hq5 := ar_lt (turn.tdiv 16) 5 (by decide)
      refine op_valg s hgd (w' := w) (v := .int .i64 ((1 + ar (turn.tdiv 16) 5 : Nat) : Int)) ?_ ?_
      · simp only [execOp, eval_tmp, e0]
        go_simp
        exact (IntWalk.i64_in _ (by omega)).trans (by omega)
      · exact PostE.put (i := 19) ho (vzd15_mem 19 hk).2 (hlt 19 hk) (fun k hk2 hne _ => vzd15_inj 19 hk k hk2 hne) (.inl (Ext.refl _ _)) rfl hg
    | 20, hk, hd =>
      have s : (ops[20]?).map sig = some (some 123, .call { callee := .value (.func 15), args := #[.tmp 122], argTypes := #[3] }, 28, none) := by subst hops; kernel_rfl
      have hgd : GdOk ops a none := trivial
      have d19 := hd 19 (by decide) (by subst hops; kernel_rfl)
      have e0 : ag a 122 = .int .i64 ((1 + ar (turn.tdiv 16) 5 : Nat) : Int) := d19
      refine op_callg s hgd (w' := w) (f := 15) (args := #[.int .i64 ((1 + ar (turn.tdiv 16) 5 : Nat) : Int)]) ?_ ?_
      · simp only [execOp]
        go_simp
        simpa [ag] using e0
      · refine (ID_any (1 + ar (turn.tdiv 16) 5) (by have := ar_lt (turn.tdiv 16) 5 (by decide); omega) w).mono ?_
        rintro e w' ⟨rfl, hb⟩
        exact ⟨_, rfl, PostE.put (i := 20) ho (vzd15_mem 20 hk).2 (hlt 20 hk) (fun k hk2 hne _ => vzd15_inj 20 hk k hk2 hne) (.inl (Ext.of hb)) rfl (later hg hb)⟩
    | 21, hk, hd =>
      have s : (ops[21]?).map sig = some (some 124, .call { callee := .value (.func 14), args := #[.tmp 123], argTypes := #[28] }, 31, none) := by subst hops; kernel_rfl
      have hgd : GdOk ops a none := trivial
      have d20 := hd 20 (by decide) (by subst hops; kernel_rfl)
      have e0 : ag a 123 = .agg #[.int .i64 0, .int .i64 1, .int .i64 ((1 + ar (turn.tdiv 16) 5 : Nat) : Int)] := d20
      refine op_callg s hgd (w' := w) (f := 14) (args := #[.agg #[.int .i64 0, .int .i64 1, .int .i64 ((1 + ar (turn.tdiv 16) 5 : Nat) : Int)]]) ?_ ?_
      · simp only [execOp]
        go_simp
        simpa [ag] using e0
      · refine (Of_any 0 1 ((1 + ar (turn.tdiv 16) 5 : Nat) : Int) w).mono ?_
        rintro e w' ⟨rfl, hb⟩
        exact ⟨_, rfl, PostE.put (i := 21) ho (vzd15_mem 21 hk).2 (hlt 21 hk) (fun k hk2 hne _ => vzd15_inj 21 hk k hk2 hne) (.inl (Ext.of hb)) rfl (later hg hb)⟩
    | 22, hk, hd =>
      have s : (ops[22]?).map sig = some (some 125, .indexAddr 40 (.tmp 108) (.tmp 118), 0, none) := by subst hops; kernel_rfl
      have hgd : GdOk ops a none := trivial
      have d5 := hd 5 (by decide) (by subst hops; kernel_rfl)
      have d15 := hd 15 (by decide) (by subst hops; kernel_rfl)
      have e0 : ag a 108 = .slice (some ⟨gs, 0, none⟩) sn sc := d5
      have e1 : ag a 118 = .int .i64 ((ar (turn.tdiv 4) sn : Nat) : Int) := d15
      have ht4 := ar_lt (turn.tdiv 4) sn (by omega)
      obtain ⟨tt, htt⟩ : ∃ tt, ar (turn.tdiv 4) sn = tt := ⟨_, rfl⟩
      rw [htt] at ht4 e1
      have ht4i : (tt : Int) < (sn : Int) := by omega
      have ht40 : (0 : Int) ≤ (tt : Int) := by omega
      refine op_valg s hgd (w' := w) (v := .pointer (some ⟨gs, ar (turn.tdiv 4) sn * 11, none⟩)) ?_ ?_
      · simp only [execOp, eval_tmp, e0, e1]
        go_simp
      · exact PostE.put (i := 22) ho (vzd15_mem 22 hk).2 (hlt 22 hk) (fun k hk2 hne _ => vzd15_inj 22 hk k hk2 hne) (.inl (Ext.refl _ _)) rfl hg
    | 23, hk, hd =>
      have s : (ops[23]?).map sig = some (some 126, .fieldAddr 66 (.tmp 125) 2, 0, none) := by subst hops; kernel_rfl
      have hgd : GdOk ops a none := trivial
      have d22 := hd 22 (by decide) (by subst hops; kernel_rfl)
      have e0 : ag a 125 = .pointer (some ⟨gs, ar (turn.tdiv 4) sn * 11, none⟩) := d22
      refine op_valg s hgd (w' := w) (v := .pointer (some ⟨gs, ar (turn.tdiv 4) sn * 11 + 4, none⟩)) ?_ ?_
      · simp only [execOp, eval_tmp, e0]
        go_simp
      · exact PostE.put (i := 23) ho (vzd15_mem 23 hk).2 (hlt 23 hk) (fun k hk2 hne _ => vzd15_inj 23 hk k hk2 hne) (.inl (Ext.refl _ _)) rfl hg
    | n + 24, hn, _ => exact absurd hn (by omega)
  · intro a w ho hg hf
    have s : (ops[24]?).map sig = some (none, .store 31 (.tmp 126) (.tmp 124), 0, none) := by subst hops; kernel_rfl
    have hgd : GdOk ops a none := trivial
    have e1 : ag a 126 = .pointer (some ⟨gs, ar (turn.tdiv 4) sn * 11 + 4, none⟩) := hf 23 (by decide)
    have e0 : ag a 124 = .agg #[.int .i64 3, .int .i64 0, .int .i64 1, .int .i64 ((1 + ar (turn.tdiv 16) 5 : Nat) : Int), .slice none 0 0] := hf 21 (by decide)
    have ht4 := ar_lt (turn.tdiv 4) sn (by omega)
    have hrw : w.ownsRow B 66 11 (.slice (some ⟨gs, 0, none⟩) sn sc) sn Cs := own_below hr hg (fun b hb => by cases hb; exact hgs0)
    have hgd : GdOk ops a none := trivial
    refine wpOp_ofg s hgd fun o h1 h2 h3 => ?_
    refine wp_store_mid _ _ _ h2 gs (ar (turn.tdiv 4) sn * 11 + 4) #[.int .i64 3, .int .i64 0, .int .i64 1, .int .i64 ((1 + ar (turn.tdiv 16) 5 : Nat) : Int), .slice none 0 0] e1 e0 (own_there hrw (show ar (turn.tdiv 4) sn * 11 + 4 + 5 ≤ sn * 11 by omega)) info_type (all_oneCell_toArray (cs := [.int .i64 3, .int .i64 0, .int .i64 1, .int .i64 ((1 + ar (turn.tdiv 16) 5 : Nat) : Int), .slice none 0 0]) (List.all_eq_true.mp (by rfl))) ?_
    rw [h1]
    have hO := Only.setCells gs (ar (turn.tdiv 4) sn * 11 + 4) [.int .i64 3, .int .i64 0, .int .i64 1, .int .i64 ((1 + ar (turn.tdiv 16) 5 : Nat) : Int), .slice none 0 0] w
    exact hQ (ag a) _ (own_setCells4 [.int .i64 3, .int .i64 0, .int .i64 1, .int .i64 ((1 + ar (turn.tdiv 16) 5 : Nat) : Int), .slice none 0 0] hrw (show ar (turn.tdiv 4) sn * 11 + 4 + 5 ≤ sn * 11 by omega)) ((hg.mono (Nat.zero_le _)).trans (hO.bel.mono (Nat.zero_le _))) (fun b hb hne => (hO.2 b hne).trans (hg.block b hb)) _ (ho.eq (fun s hs => by rw [hsz]; revert s; decide))
end Go.Proofs.YtjbleefpafnhhaaDoor

