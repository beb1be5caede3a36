import Derived.Test.YtjbleefpafnhhaaDoorX01
import Derived.Test.YtjbleefpafnhhaaDoorX02
import Derived.Test.YtjbleefpafnhhaaDoorX03
import Derived.Test.YtjbleefpafnhhaaDoorX04
import Derived.Test.YtjbleefpafnhhaaDoorX05
import Derived.Test.YtjbleefpafnhhaaDoorX06
import Derived.Test.YtjbleefpafnhhaaDoorX07
import Derived.Test.YtjbleefpafnhhaaDoorX08
import Derived.Test.YtjbleefpafnhhaaDoorX09
import Derived.Test.YtjbleefpafnhhaaDoorX10
import Derived.Test.YtjbleefpafnhhaaDoorX11
import Derived.Test.YtjbleefpafnhhaaDoorX12
import Derived.Test.YtjbleefpafnhhaaDoorX13
import Derived.Test.YtjbleefpafnhhaaDoorX14
import Derived.Test.YtjbleefpafnhhaaDoorX15
import Derived.Test.YtjbleefpafnhhaaDoorX16
import Derived.Test.YtjbleefpafnhhaaDoorX17
import Derived.Test.YtjbleefpafnhhaaDoorX18
import Derived.Test.YtjbleefpafnhhaaDoorX19
import Derived.Test.YtjbleefpafnhhaaDoorX20
import Derived.Test.YtjbleefpafnhhaaDoorX21
import Derived.Test.YtjbleefpafnhhaaDoorX22
import Derived.Test.YtjbleefpafnhhaaDoorX23
import Derived.Test.YtjbleefpafnhhaaDoorX24
import Derived.Test.YtjbleefpafnhhaaDoorX25
import Derived.Test.YtjbleefpafnhhaaDoorX26
import Derived.Test.YtjbleefpafnhhaaDoorX27
import Derived.Test.YtjbleefpafnhhaaDoorX28
import Derived.Test.YtjbleefpafnhhaaDoorX29
import Derived.Test.YtjbleefpafnhhaaDoorX30
import Derived.Test.YtjbleefpafnhhaaDoorX31
import Derived.Test.YtjbleefpafnhhaaDoorX32
import Derived.Test.YtjbleefpafnhhaaDoorX33
import Derived.Test.YtjbleefpafnhhaaDoorU01

set_option linter.unusedVariables false
set_option linter.unusedSimpArgs false
namespace Go.Proofs.YtjbleefpafnhhaaDoor
open Go.RowKit
def vzf16 (gx gd0 n cap k : Nat) (mv : Value) (er : Int) (X : Tr) (S : Nat) : Option Nat → Nat → Value → World → Prop
  | γ, 0, v, w => v = .agg #[mv, .slice (some ⟨gd0, 0, none⟩) n cap]
  | γ, 1, v, w => v = .pointer (some ⟨gx, 1, none⟩)
  | γ, 2, v, w => v = .slice (some ⟨gd0, 0, none⟩) n cap
  | γ, 3, v, w => v = .int .i64 (k : Int)
  | γ, 4, v, w => v = .pointer (some ⟨gd0, k * 31, none⟩)
  | γ, 5, v, w => v = .pointer (some ⟨gd0, k * 31, none⟩)
  | γ, 6, v, w => v = .agg #[.int .i64 0, .int .i64 1, .int .i64 (1 + (k : Int))]
  | γ, 7, v, w => v = .agg #[.int .i64 3, .int .i64 0, .int .i64 1, .int .i64 (1 + (k : Int)), .slice none 0 0]
  | γ, 8, v, w => ∃ (xk xn : Int) (xA : Option Addr) (xl xc : Nat), v = .tuple #[.agg #[.int .i64 xk, .int .i64 xn, .slice xA xl xc], .int .i64 er] ∧ TrF (fun b => S ≤ b ∧ γ ≠ some b) w X (.agg #[.int .i64 xk, .int .i64 xn, .slice xA xl xc])
  | γ, 9, v, w => ∃ (xk xn : Int) (xA : Option Addr) (xl xc : Nat), v = .tuple #[.agg #[.int .i64 xk, .int .i64 xn, .slice xA xl xc], .int .i64 er] ∧ TrF (fun b => S ≤ b ∧ γ ≠ some b) w X (.agg #[.int .i64 xk, .int .i64 xn, .slice xA xl xc])
  | γ, 10, v, w => ∃ (xk xn : Int) (xA : Option Addr) (xl xc : Nat), v = .agg #[.int .i64 xk, .int .i64 xn, .slice xA xl xc] ∧ TrF (fun b => S ≤ b ∧ γ ≠ some b) w X (.agg #[.int .i64 xk, .int .i64 xn, .slice xA xl xc])
  | γ, 11, v, w => v = .int .i64 er
  | γ, 12, v, w => ∃ (g : Nat) (xs : List Value), γ = some g ∧ v = .pointer (some ⟨g, 0, none⟩) ∧ S ≤ g ∧ xs.length = 3 ∧ Arr w g 3 53 xs
  | γ, 13, v, w => ∃ (g : Nat) (xk xn : Int) (xA : Option Addr) (xl xc : Nat), γ = some g ∧ S ≤ g ∧ Arr w g 3 53 [.int .i64 xk, .int .i64 xn, .slice xA xl xc] ∧ TrF (fun b => S ≤ b ∧ γ ≠ some b) w X (.agg #[.int .i64 xk, .int .i64 xn, .slice xA xl xc])
  | _, _, _, _ => True
def vzEp16 (γ : Option Nat) (w w' : World) : Prop := ∃ g, γ = some g ∧ Only g w w' ∧ ∀ xs : List Value, xs.length = 3 → Arr w g 3 53 xs → ∃ ys : List Value, ys.length = 3 ∧ Arr w' g 3 53 ys
def vzEa16 (g : Nat) (w w' : World) : Prop := ∃ xs : Array Value, g = w.heap.size ∧ w' = w.alloc (.cells xs 53)
theorem vzf16_ext (gx gd0 n cap k : Nat) (mv : Value) (er : Int) (X : Tr) (S : Nat) : ∀ γ j v w w', j < 14 → (Ext S w w' ∨ (j ≠ 13 ∧ vzEp16 γ w w')) → vzf16 gx gd0 n cap k mv er X S γ j v w → vzf16 gx gd0 n cap k mv er X S γ j v w' := by
  intro γ j v w w' hj he h
  match j, hj, he, h with
  | 0, _, he, h => exact h
  | 1, _, he, h => exact h
  | 2, _, he, h => exact h
  | 3, _, he, h => exact h
  | 4, _, he, h => exact h
  | 5, _, he, h => exact h
  | 6, _, he, h => exact h
  | 7, _, he, h => exact h
  | 8, _, he, h => obtain ⟨xk, xn, xA, xl, xc, e1, e2⟩ := h; exact ⟨xk, xn, xA, xl, xc, e1, e2.keep (fun _ h => h) (fun b hb hl => he.elim (fun q => q.2 b hb.1 hl) (fun q => by obtain ⟨g, eg, q2, _⟩ := q.2; exact q2.2 b (fun e => hb.2 (by rw [eg, e]))))⟩
  | 9, _, he, h => obtain ⟨xk, xn, xA, xl, xc, e1, e2⟩ := h; exact ⟨xk, xn, xA, xl, xc, e1, e2.keep (fun _ h => h) (fun b hb hl => he.elim (fun q => q.2 b hb.1 hl) (fun q => by obtain ⟨g, eg, q2, _⟩ := q.2; exact q2.2 b (fun e => hb.2 (by rw [eg, e]))))⟩
  | 10, _, he, h => obtain ⟨xk, xn, xA, xl, xc, e1, e2⟩ := h; exact ⟨xk, xn, xA, xl, xc, e1, e2.keep (fun _ h => h) (fun b hb hl => he.elim (fun q => q.2 b hb.1 hl) (fun q => by obtain ⟨g, eg, q2, _⟩ := q.2; exact q2.2 b (fun e => hb.2 (by rw [eg, e]))))⟩
  | 11, _, he, h => exact h
  | 12, _, he, h => obtain ⟨g, xs, e0, e1, e2, e3, e4⟩ := h; exact he.elim (fun q => ⟨g, xs, e0, e1, e2, e3, e4.ext q e2⟩) (fun q => by obtain ⟨g', eg, _, q3⟩ := q.2; obtain rfl : g = g' := Option.some.inj (e0.symm.trans eg); obtain ⟨ys, h1, h2⟩ := q3 xs e3 e4; exact ⟨g, ys, e0, e1, e2, h1, h2⟩)
  | 13, _, he, h => obtain ⟨g, xk, xn, xA, xl, xc, e0, e1, e2, e3⟩ := h; exact he.elim (fun q => ⟨g, xk, xn, xA, xl, xc, e0, e1, e2.ext q e1, e3.keep (fun _ h => h) (fun b hb hl => q.2 b hb.1 hl)⟩) (fun q => absurd rfl q.1)
  | n + 14, hn, _, _ => exact absurd hn (by omega)
theorem vzf16_new (gx gd0 n cap k : Nat) (mv : Value) (er : Int) (X : Tr) (S : Nat) : ∀ g j v w w', j < 14 → j ≠ 12 → vzEa16 g w w' → vzf16 gx gd0 n cap k mv er X S none j v w → vzf16 gx gd0 n cap k mv er X S (some g) j v w' := by
  intro g j v w w' hj hjp he h
  match j, hj, hjp, h with
  | 0, _, hjp, h => exact h
  | 1, _, hjp, h => exact h
  | 2, _, hjp, h => exact h
  | 3, _, hjp, h => exact h
  | 4, _, hjp, h => exact h
  | 5, _, hjp, h => exact h
  | 6, _, hjp, h => exact h
  | 7, _, hjp, h => exact h
  | 8, _, hjp, h => obtain ⟨xk, xn, xA, xl, xc, e1, e2⟩ := h; obtain ⟨xs, rfl, rfl⟩ := he; exact ⟨xk, xn, xA, xl, xc, e1, (TrF.both e2 e2.at_.old).keep (fun b hb => ⟨hb.1.1, fun e => by have := Option.some.inj e; have := hb.2; omega⟩) (fun b hb _ => (new_later w _).block b hb.2)⟩
  | 9, _, hjp, h => obtain ⟨xk, xn, xA, xl, xc, e1, e2⟩ := h; obtain ⟨xs, rfl, rfl⟩ := he; exact ⟨xk, xn, xA, xl, xc, e1, (TrF.both e2 e2.at_.old).keep (fun b hb => ⟨hb.1.1, fun e => by have := Option.some.inj e; have := hb.2; omega⟩) (fun b hb _ => (new_later w _).block b hb.2)⟩
  | 10, _, hjp, h => obtain ⟨xk, xn, xA, xl, xc, e1, e2⟩ := h; obtain ⟨xs, rfl, rfl⟩ := he; exact ⟨xk, xn, xA, xl, xc, e1, (TrF.both e2 e2.at_.old).keep (fun b hb => ⟨hb.1.1, fun e => by have := Option.some.inj e; have := hb.2; omega⟩) (fun b hb _ => (new_later w _).block b hb.2)⟩
  | 11, _, hjp, h => exact h
  | 12, _, hjp, h => exact absurd rfl hjp
  | 13, _, hjp, h => obtain ⟨g, xk, xn, xA, xl, xc, e0, _⟩ := h; cases e0
  | n + 14, hn, _, _ => exact absurd hn (by omega)
def vzD16 : List Nat := [128, 129, 130, 131, 132, 133, 134, 135, 136, 127, 137, 138, 23]
def vzd16 (k : Nat) : Nat := [128, 129, 130, 131, 132, 133, 134, 135, 136, 127, 137, 138, 23, 999].getD k 0
theorem vzd16_mem : ∀ k, k < 14 → k ≠ 13 → vzd16 k < 172 ∧ vzd16 k ∈ vzD16 := by decide
theorem vzd16_inj : ∀ i, i < 14 → ∀ k, k < 14 → k ≠ i → vzd16 i ≠ vzd16 k := by decide
set_option maxHeartbeats 4000000 in
set_option maxRecDepth 100000 in
theorem vzreg16 {Q : Exit → Act → World → Prop} {id : Nat} {ops : Array Oper} (hops : ops = ((Tryd.f6.body).bind (opsOf 16)).getD #[]) (a0 : Act) (w0 : World) (gx gd0 n cap k : Nat) (mv : Value) (er : Int) (X : Tr) (hsz : a0.tmps.size = 172)
    (h11 : ag a0 11 = .pointer (some ⟨gx, 0, none⟩)) (h21 : ag a0 21 = .int .i64 (k : Int)) (hx : Arr w0 gx 2 26 [mv, .slice (some ⟨gd0, 0, none⟩) n cap]) (hi : w0.rangeAt gd0 (k * 31) [.int .i64 0, .int .i64 1, .int .i64 (1 + (k : Int))]) (hkn : (k : Int) < (n : Int)) (hk0 : (0 : Int) ≤ (k : Int)) (hz : ∀ W, Below w0.heap.size w0 W → Calls Tryd.prog 34 #[.agg #[mv, .slice (some ⟨gd0, 0, none⟩) n cap], .agg #[.int .i64 3, .int .i64 0, .int .i64 1, .int .i64 (1 + (k : Int)), .slice none 0 0]] W (ZeroRes er X W))
    (hQ : ∀ (vs : Nat → Value) (w' : World) (g : Nat) (xk xn : Int) (xA : Option Addr) (xl xc : Nat), vs 23 = .pointer (some ⟨g, 0, none⟩) → vs 24 = .int .i64 er → w0.heap.size ≤ g → Arr w' g 3 53 [.int .i64 xk, .int .i64 xn, .slice xA xl xc] → TrAt w' X (.agg #[.int .i64 xk, .int .i64 xn, .slice xA xl xc]) → Below w0.heap.size w0 w' → ∀ a', a' = (vzD16 ++ [24]).foldl (fun b s => b.put (some s) (vs s)) a0 → Q .normal a' w') :
    (Code.region id ops true).wp Tryd.prog Q a0 w0 := by
  have hg0 : Below w0.heap.size w0 w0.drew := below_drewN (Below.refl _ _) 1
  have hlt : ∀ k, k < 14 → k ≠ 13 → vzd16 k < a0.tmps.size := fun k hk h => by have := (vzd16_mem k hk h).1; omega
  refine wp_region_factsG 14 12 13 vzD16 vzd16 (vzf16 gx gd0 n cap k mv er X w0.heap.size) (fun γ w => Below w0.heap.size w0 w ∧ ∀ g, γ = some g → g < w.heap.size) w0.heap.size vzEa16 vzEp16 (fun k => k) (by kernel_rfl) (by subst hops; kernel_rfl) (by subst hops; kernel_rfl) (by subst hops; kernel_rfl) (by decide) (vzf16_ext gx gd0 n cap k mv er X w0.heap.size) (vzf16_new gx gd0 n cap k mv er X w0.heap.size) ⟨hg0, fun _ h => by cases h⟩ ?_ ?_ ?_
  · intro γ j a w hj hjp ho hG hd
    have hg := hG.1
    have hgs := hg.size
    match j, hj, hjp, hd with
    | 0, hk, hjp, hd =>
      have s : (ops[0]?).map sig = some (some 128, .load 26 (.tmp 11), 26, none) := by subst hops; kernel_rfl
      have hgd : GdOk ops a none := trivial
      have e0 : ag a 11 = .pointer (some ⟨gx, 0, none⟩) := (ho.off 11 (by decide)).trans h11
      refine op_loadg s hgd gx 0 e0 [mv, .slice (some ⟨gd0, 0, none⟩) n cap] _ ((hx.later hg).range) Tryd.underlying26 rfl info_prog ?_
      exact PostE.put (i := 0) ho (vzd16_mem 0 hk (by decide)).2 (hlt 0 hk (by decide)) (fun k hk2 hne _ => vzd16_inj 0 hk k hk2 hne) (.inl (Ext.refl _ _)) rfl hG
    | 1, hk, hjp, hd =>
      have s : (ops[1]?).map sig = some (some 129, .fieldAddr 26 (.tmp 11) 1, 0, none) := by subst hops; kernel_rfl
      have hgd : GdOk ops a none := trivial
      have e0 : ag a 11 = .pointer (some ⟨gx, 0, none⟩) := (ho.off 11 (by decide)).trans h11
      refine op_valg s hgd (w' := w) (v := .pointer (some ⟨gx, 1, none⟩)) ?_ ?_
      · simp only [execOp, eval_tmp, e0]
        go_simp
      · exact PostE.put (i := 1) ho (vzd16_mem 1 hk (by decide)).2 (hlt 1 hk (by decide)) (fun k hk2 hne _ => vzd16_inj 1 hk k hk2 hne) (.inl (Ext.refl _ _)) rfl hG
    | 2, hk, hjp, hd =>
      have s : (ops[2]?).map sig = some (some 130, .load 24 (.tmp 129), 24, none) := by subst hops; kernel_rfl
      have hgd : GdOk ops a none := trivial
      have d1 := hd 1 (by decide) (by subst hops; kernel_rfl)
      have e0 : ag a 129 = .pointer (some ⟨gx, 1, none⟩) := d1
      have hc := (hx.later hg).cell (j := 1) (v := .slice (some ⟨gd0, 0, none⟩) n cap) rfl
      refine op_valg s hgd (w' := w) (v := .slice (some ⟨gd0, 0, none⟩) n cap) ?_ ?_
      · simp only [execOp, eval_tmp, e0]
        go_simp
      · exact PostE.put (i := 2) ho (vzd16_mem 2 hk (by decide)).2 (hlt 2 hk (by decide)) (fun k hk2 hne _ => vzd16_inj 2 hk k hk2 hne) (.inl (Ext.refl _ _)) rfl hG
    | 3, hk, hjp, hd =>
      have s : (ops[3]?).map sig = some (some 131, .move (.tmp 21), 3, none) := by subst hops; kernel_rfl
      have hgd : GdOk ops a none := trivial
      have e0 : ag a 21 = .int .i64 (k : Int) := (ho.off 21 (by decide)).trans h21
      refine op_valg s hgd (w' := w) (v := .int .i64 (k : Int)) ?_ ?_
      · exact congrArg (fun x => Result.ok (Next.value x) w) e0
      · exact PostE.put (i := 3) ho (vzd16_mem 3 hk (by decide)).2 (hlt 3 hk (by decide)) (fun k hk2 hne _ => vzd16_inj 3 hk k hk2 hne) (.inl (Ext.refl _ _)) rfl hG
    | 4, hk, hjp, hd =>
      have s : (ops[4]?).map sig = some (some 132, .indexAddr 24 (.tmp 130) (.tmp 131), 0, none) := by subst hops; kernel_rfl
      have hgd : GdOk ops a none := trivial
      have d2 := hd 2 (by decide) (by subst hops; kernel_rfl)
      have d3 := hd 3 (by decide) (by subst hops; kernel_rfl)
      have e0 : ag a 130 = .slice (some ⟨gd0, 0, none⟩) n cap := d2
      have e1 : ag a 131 = .int .i64 (k : Int) := d3
      refine op_valg s hgd (w' := w) (v := .pointer (some ⟨gd0, k * 31, none⟩)) ?_ ?_
      · simp only [execOp, eval_tmp, e0, e1]
        go_simp
      · exact PostE.put (i := 4) ho (vzd16_mem 4 hk (by decide)).2 (hlt 4 hk (by decide)) (fun k hk2 hne _ => vzd16_inj 4 hk k hk2 hne) (.inl (Ext.refl _ _)) rfl hG
    | 5, hk, hjp, hd =>
      have s : (ops[5]?).map sig = some (some 133, .fieldAddr 46 (.tmp 132) 0, 0, none) := by subst hops; kernel_rfl
      have hgd : GdOk ops a none := trivial
      have d4 := hd 4 (by decide) (by subst hops; kernel_rfl)
      have e0 : ag a 132 = .pointer (some ⟨gd0, k * 31, none⟩) := d4
      refine op_valg s hgd (w' := w) (v := .pointer (some ⟨gd0, k * 31, none⟩)) ?_ ?_
      · simp only [execOp, eval_tmp, e0]
        go_simp
      · exact PostE.put (i := 5) ho (vzd16_mem 5 hk (by decide)).2 (hlt 5 hk (by decide)) (fun k hk2 hne _ => vzd16_inj 5 hk k hk2 hne) (.inl (Ext.refl _ _)) rfl hG
    | 6, hk, hjp, hd =>
      have s : (ops[6]?).map sig = some (some 134, .load 28 (.tmp 133), 28, none) := by subst hops; kernel_rfl
      have hgd : GdOk ops a none := trivial
      have d5 := hd 5 (by decide) (by subst hops; kernel_rfl)
      have e0 : ag a 133 = .pointer (some ⟨gd0, k * 31, none⟩) := d5
      refine op_loadg s hgd gd0 (k * 31) e0 [.int .i64 0, .int .i64 1, .int .i64 (1 + (k : Int))] _ (range_below hi hg) Tryd.underlying28 rfl info_id ?_
      exact PostE.put (i := 6) ho (vzd16_mem 6 hk (by decide)).2 (hlt 6 hk (by decide)) (fun k hk2 hne _ => vzd16_inj 6 hk k hk2 hne) (.inl (Ext.refl _ _)) rfl hG
    | 7, hk, hjp, hd =>
      have s : (ops[7]?).map sig = some (some 135, .call { callee := .value (.func 14), args := #[.tmp 134], argTypes := #[28] }, 31, none) := by subst hops; kernel_rfl
      have hgd : GdOk ops a none := trivial
      have d6 := hd 6 (by decide) (by subst hops; kernel_rfl)
      have e0 : ag a 134 = .agg #[.int .i64 0, .int .i64 1, .int .i64 (1 + (k : Int))] := d6
      refine op_callg s hgd (w' := w) (f := 14) (args := #[.agg #[.int .i64 0, .int .i64 1, .int .i64 (1 + (k : Int))]]) ?_ ?_
      · simp only [execOp]
        go_simp
        simpa [ag] using e0
      · refine (Of_any 0 1 (1 + (k : Int)) w).mono ?_
        rintro e w' ⟨rfl, hb⟩
        exact ⟨_, rfl, PostE.put (i := 7) ho (vzd16_mem 7 hk (by decide)).2 (hlt 7 hk (by decide)) (fun k hk2 hne _ => vzd16_inj 7 hk k hk2 hne) (.inl (Ext.of hb)) rfl ⟨later hg hb, fun g h => Nat.lt_of_lt_of_le (hG.2 g h) hb.size⟩⟩
    | 8, hk, hjp, hd =>
      have s : (ops[8]?).map sig = some (some 136, .call { callee := .value (.func 34), args := #[.tmp 128, .tmp 135], argTypes := #[26, 31] }, 63, none) := by subst hops; kernel_rfl
      have hgd : GdOk ops a none := trivial
      have d0 := hd 0 (by decide) (by subst hops; kernel_rfl)
      have d7 := hd 7 (by decide) (by subst hops; kernel_rfl)
      have e0 : ag a 128 = .agg #[mv, .slice (some ⟨gd0, 0, none⟩) n cap] := d0
      have e1 : ag a 135 = .agg #[.int .i64 3, .int .i64 0, .int .i64 1, .int .i64 (1 + (k : Int)), .slice none 0 0] := d7
      refine op_callg s hgd (w' := w) (f := 34) (args := #[.agg #[mv, .slice (some ⟨gd0, 0, none⟩) n cap], .agg #[.int .i64 3, .int .i64 0, .int .i64 1, .int .i64 (1 + (k : Int)), .slice none 0 0]]) ?_ ?_
      · simp only [execOp]
        go_simp
        refine ⟨by simpa [ag] using e0, by simpa [ag] using e1⟩
      · refine (hz w hg).mono ?_
        rintro e w' ⟨xk, xn, xA, xl, xc, rfl, hT, hb⟩
        exact ⟨_, rfl, PostE.put (i := 8) ho (vzd16_mem 8 hk (by decide)).2 (hlt 8 hk (by decide)) (fun k hk2 hne _ => vzd16_inj 8 hk k hk2 hne) (.inl (Ext.of hb)) ⟨xk, xn, xA, xl, xc, rfl, hT.mono (fun b h => ⟨Nat.le_trans hgs h, fun e => by have := hG.2 b e; omega⟩)⟩ ⟨later hg hb, fun g h => Nat.lt_of_lt_of_le (hG.2 g h) hb.size⟩⟩
    | 9, hk, hjp, hd =>
      have s : (ops[9]?).map sig = some (some 127, .move (.tmp 136), 63, none) := by subst hops; kernel_rfl
      have hgd : GdOk ops a none := trivial
      have d8 := hd 8 (by decide) (by subst hops; kernel_rfl)
      obtain ⟨xk, xn, xA, xl, xc, e0, hT⟩ := d8
      have e0 : ag a 136 = .tuple #[.agg #[.int .i64 xk, .int .i64 xn, .slice xA xl xc], .int .i64 er] := e0
      refine op_valg s hgd (w' := w) (v := .tuple #[.agg #[.int .i64 xk, .int .i64 xn, .slice xA xl xc], .int .i64 er]) ?_ ?_
      · exact congrArg (fun x => Result.ok (Next.value x) w) e0
      · exact PostE.put (i := 9) ho (vzd16_mem 9 hk (by decide)).2 (hlt 9 hk (by decide)) (fun k hk2 hne _ => vzd16_inj 9 hk k hk2 hne) (.inl (Ext.refl _ _)) ⟨xk, xn, xA, xl, xc, rfl, hT⟩ hG
    | 10, hk, hjp, hd =>
      have s : (ops[10]?).map sig = some (some 137, .extract (.tmp 127) 0, 53, none) := by subst hops; kernel_rfl
      have hgd : GdOk ops a none := trivial
      have d9 := hd 9 (by decide) (by subst hops; kernel_rfl)
      obtain ⟨xk, xn, xA, xl, xc, e0, hT⟩ := d9
      have e0 : ag a 127 = .tuple #[.agg #[.int .i64 xk, .int .i64 xn, .slice xA xl xc], .int .i64 er] := e0
      refine op_valg s hgd (w' := w) (v := .agg #[.int .i64 xk, .int .i64 xn, .slice xA xl xc]) ?_ ?_
      · simp only [execOp, eval_tmp, e0]
        go_simp
      · exact PostE.put (i := 10) ho (vzd16_mem 10 hk (by decide)).2 (hlt 10 hk (by decide)) (fun k hk2 hne _ => vzd16_inj 10 hk k hk2 hne) (.inl (Ext.refl _ _)) ⟨xk, xn, xA, xl, xc, rfl, hT⟩ hG
    | 11, hk, hjp, hd =>
      have s : (ops[11]?).map sig = some (some 138, .extract (.tmp 127) 1, 62, none) := by subst hops; kernel_rfl
      have hgd : GdOk ops a none := trivial
      have d9 := hd 9 (by decide) (by subst hops; kernel_rfl)
      obtain ⟨xk, xn, xA, xl, xc, e0, hT⟩ := d9
      have e0 : ag a 127 = .tuple #[.agg #[.int .i64 xk, .int .i64 xn, .slice xA xl xc], .int .i64 er] := e0
      refine op_valg s hgd (w' := w) (v := .int .i64 er) ?_ ?_
      · simp only [execOp, eval_tmp, e0]
        go_simp
      · exact PostE.put (i := 11) ho (vzd16_mem 11 hk (by decide)).2 (hlt 11 hk (by decide)) (fun k hk2 hne _ => vzd16_inj 11 hk k hk2 hne) (.inl (Ext.refl _ _)) rfl hG
    | 12, hk, hjp, hd =>
      have s : (ops[12]?).map sig = some (some 23, .alloc 53, 0, none) := by subst hops; kernel_rfl
      have hgd : GdOk ops a none := trivial
      exact absurd rfl hjp
    | 13, hk, hjp, hd =>
      have s : (ops[13]?).map sig = some (none, .store 53 (.tmp 23) (.tmp 137), 0, none) := by subst hops; kernel_rfl
      have hgd : GdOk ops a none := trivial
      have d10 := hd 10 (by decide) (by subst hops; kernel_rfl)
      have d12 := hd 12 (by decide) (by subst hops; kernel_rfl)
      obtain ⟨xk, xn, xA, xl, xc, e0, hT⟩ := d10
      have e0 : ag a 137 = .agg #[.int .i64 xk, .int .i64 xn, .slice xA xl xc] := e0
      obtain ⟨g, xs, eg, e1, hgS, hl3, hA⟩ := d12
      have e1 : ag a 23 = .pointer (some ⟨g, 0, none⟩) := e1
      refine wpOp_ofg s hgd fun o h1 h2 h3 => ?_
      refine wp_store_mid _ _ _ h2 g 0 #[.int .i64 xk, .int .i64 xn, .slice xA xl xc] e1 e0 (hA.thereAt (Nat.le_refl 3)) info_val (all_oneCell_toArray (cs := [.int .i64 xk, .int .i64 xn, .slice xA xl xc]) (List.all_eq_true.mp (by rfl))) ?_
      rw [h1]
      have hA2 := hA.setCells (o := 0) [.int .i64 xk, .int .i64 xn, .slice xA xl xc]
      rw [setAll_all xs [.int .i64 xk, .int .i64 xn, .slice xA xl xc] hl3.symm] at hA2
      have hO := Only.setCells g 0 [.int .i64 xk, .int .i64 xn, .slice xA xl xc] w
      have hb := below_setCells [.int .i64 xk, .int .i64 xn, .slice xA xl xc] 0 w hg hgS
      exact ⟨ho, fun _ _ _ _ => rfl, .inr ⟨rfl, g, eg, hO, fun ys hy hys => ⟨setAll ys 0 [.int .i64 xk, .int .i64 xn, .slice xA xl xc], by rw [setAll_all ys [.int .i64 xk, .int .i64 xn, .slice xA xl xc] hy.symm]; rfl, hys.setCells (o := 0) _⟩⟩, ⟨g, xk, xn, xA, xl, xc, eg, hgS, hA2, hT.keep (fun _ h => h) (fun b h _ => hO.2 b (fun e => h.2 (by rw [eg, e])))⟩, hb, fun g' h => Nat.lt_of_lt_of_le (hG.2 g' h) hO.bel.size⟩
    | n + 14, hn, _, _ => exact absurd hn (by omega)
  · intro a w ho hG hd
    have hg := hG.1
    have hgs := hg.size
    have s : (ops[12]?).map sig = some (some 23, .alloc 53, 0, none) := by subst hops; kernel_rfl
    have hgd : GdOk ops a none := trivial
    have hb := new_later w (.cells zc3.toArray 53)
    refine op_valg s hgd (w' := w.alloc (.cells zc3.toArray 53)) (v := .pointer (some ⟨w.heap.size, 0, none⟩)) ?_ ?_
    · simp only [execOp]
      go_simp
      rfl
    · exact ⟨w.heap.size, PostE.put (i := 12) ho (vzd16_mem 12 (by decide) (by decide)).2 (hlt 12 (by decide) (by decide)) (fun k hk2 hne _ => vzd16_inj 12 (by decide) k hk2 hne) ⟨_, rfl, rfl⟩ ⟨w.heap.size, zc3, rfl, rfl, hgs, rfl, Arr.new' w _ _ 3 zc3 rfl rfl (by decide)⟩ ⟨later hg hb, fun g h => by cases h; simp⟩⟩
  · intro γ a w ho hG hf
    have hg := hG.1
    have s : (ops[14]?).map sig = some (some 24, .assign (.tmp 138), 62, none) := by subst hops; kernel_rfl
    have hgd : GdOk ops a none := trivial
    obtain ⟨g, xs, eg, e1, hgS, _⟩ := hf 12 (by decide)
    have e1 : ag a 23 = .pointer (some ⟨g, 0, none⟩) := e1
    obtain ⟨g', xk, xn, xA, xl, xc, eg', _, hA, hT⟩ := hf 13 (by decide)
    obtain rfl : g = g' := Option.some.inj (eg.symm.trans eg')
    have e11 : ag a 138 = .int .i64 er := hf 11 (by decide)
    refine op_valg s hgd (w' := w) (v := .int .i64 er) ?_ ?_
    · exact congrArg (fun x => Result.ok (Next.value x) w) e11
    · have ho2 : Off (vzD16 ++ [24]) a0 (a.put (some 24) (.int .i64 er)) := (ho.mono (fun s hs => List.mem_append_left _ hs)).put (by decide)
      exact hQ (ag (a.put (some 24) (.int .i64 er))) w g xk xn xA xl xc ((ag_ne (by decide)).trans e1) (ag_put (by rw [ho.size, hsz]; decide)) hgS hA hT.at_ hg _ (ho2.eq (fun s hs => by rw [hsz]; revert s; decide))
def vzf17 (gx gd0 n cap k : Nat) (mv : Value) (er : Int) (X : Tr) (S : Nat) : Option Nat → Nat → Value → World → Prop
  | γ, 0, v, w => v = .agg #[mv, .slice (some ⟨gd0, 0, none⟩) n cap]
  | γ, 1, v, w => v = .pointer (some ⟨gx, 1, none⟩)
  | γ, 2, v, w => v = .slice (some ⟨gd0, 0, none⟩) n cap
  | γ, 3, v, w => v = .int .i64 (k : Int)
  | γ, 4, v, w => v = .pointer (some ⟨gd0, k * 31, none⟩)
  | γ, 5, v, w => v = .pointer (some ⟨gd0, k * 31, none⟩)
  | γ, 6, v, w => v = .agg #[.int .i64 0, .int .i64 1, .int .i64 (1 + (k : Int))]
  | γ, 7, v, w => v = .agg #[.int .i64 3, .int .i64 0, .int .i64 1, .int .i64 (1 + (k : Int)), .slice none 0 0]
  | γ, 8, v, w => ∃ (xk xn : Int) (xA : Option Addr) (xl xc : Nat), v = .tuple #[.agg #[.int .i64 xk, .int .i64 xn, .slice xA xl xc], .int .i64 er] ∧ TrF (fun b => S ≤ b ∧ γ ≠ some b) w X (.agg #[.int .i64 xk, .int .i64 xn, .slice xA xl xc])
  | γ, 9, v, w => ∃ (xk xn : Int) (xA : Option Addr) (xl xc : Nat), v = .tuple #[.agg #[.int .i64 xk, .int .i64 xn, .slice xA xl xc], .int .i64 er] ∧ TrF (fun b => S ≤ b ∧ γ ≠ some b) w X (.agg #[.int .i64 xk, .int .i64 xn, .slice xA xl xc])
  | γ, 10, v, w => ∃ (xk xn : Int) (xA : Option Addr) (xl xc : Nat), v = .agg #[.int .i64 xk, .int .i64 xn, .slice xA xl xc] ∧ TrF (fun b => S ≤ b ∧ γ ≠ some b) w X (.agg #[.int .i64 xk, .int .i64 xn, .slice xA xl xc])
  | γ, 11, v, w => v = .int .i64 er
  | γ, 12, v, w => ∃ (g : Nat) (xs : List Value), γ = some g ∧ v = .pointer (some ⟨g, 0, none⟩) ∧ S ≤ g ∧ xs.length = 3 ∧ Arr w g 3 53 xs
  | γ, 13, v, w => ∃ (g : Nat) (xk xn : Int) (xA : Option Addr) (xl xc : Nat), γ = some g ∧ S ≤ g ∧ Arr w g 3 53 [.int .i64 xk, .int .i64 xn, .slice xA xl xc] ∧ TrF (fun b => S ≤ b ∧ γ ≠ some b) w X (.agg #[.int .i64 xk, .int .i64 xn, .slice xA xl xc])
  | _, _, _, _ => True
def vzEp17 (γ : Option Nat) (w w' : World) : Prop := ∃ g, γ = some g ∧ Only g w w' ∧ ∀ xs : List Value, xs.length = 3 → Arr w g 3 53 xs → ∃ ys : List Value, ys.length = 3 ∧ Arr w' g 3 53 ys
def vzEa17 (g : Nat) (w w' : World) : Prop := ∃ xs : Array Value, g = w.heap.size ∧ w' = w.alloc (.cells xs 53)
theorem vzf17_ext (gx gd0 n cap k : Nat) (mv : Value) (er : Int) (X : Tr) (S : Nat) : ∀ γ j v w w', j < 14 → (Ext S w w' ∨ (j ≠ 13 ∧ vzEp17 γ w w')) → vzf17 gx gd0 n cap k mv er X S γ j v w → vzf17 gx gd0 n cap k mv er X S γ j v w' := by
  intro γ j v w w' hj he h
  match j, hj, he, h with
  | 0, _, he, h => exact h
  | 1, _, he, h => exact h
  | 2, _, he, h => exact h
  | 3, _, he, h => exact h
  | 4, _, he, h => exact h
  | 5, _, he, h => exact h
  | 6, _, he, h => exact h
  | 7, _, he, h => exact h
  | 8, _, he, h => obtain ⟨xk, xn, xA, xl, xc, e1, e2⟩ := h; exact ⟨xk, xn, xA, xl, xc, e1, e2.keep (fun _ h => h) (fun b hb hl => he.elim (fun q => q.2 b hb.1 hl) (fun q => by obtain ⟨g, eg, q2, _⟩ := q.2; exact q2.2 b (fun e => hb.2 (by rw [eg, e]))))⟩
  | 9, _, he, h => obtain ⟨xk, xn, xA, xl, xc, e1, e2⟩ := h; exact ⟨xk, xn, xA, xl, xc, e1, e2.keep (fun _ h => h) (fun b hb hl => he.elim (fun q => q.2 b hb.1 hl) (fun q => by obtain ⟨g, eg, q2, _⟩ := q.2; exact q2.2 b (fun e => hb.2 (by rw [eg, e]))))⟩
  | 10, _, he, h => obtain ⟨xk, xn, xA, xl, xc, e1, e2⟩ := h; exact ⟨xk, xn, xA, xl, xc, e1, e2.keep (fun _ h => h) (fun b hb hl => he.elim (fun q => q.2 b hb.1 hl) (fun q => by obtain ⟨g, eg, q2, _⟩ := q.2; exact q2.2 b (fun e => hb.2 (by rw [eg, e]))))⟩
  | 11, _, he, h => exact h
  | 12, _, he, h => obtain ⟨g, xs, e0, e1, e2, e3, e4⟩ := h; exact he.elim (fun q => ⟨g, xs, e0, e1, e2, e3, e4.ext q e2⟩) (fun q => by obtain ⟨g', eg, _, q3⟩ := q.2; obtain rfl : g = g' := Option.some.inj (e0.symm.trans eg); obtain ⟨ys, h1, h2⟩ := q3 xs e3 e4; exact ⟨g, ys, e0, e1, e2, h1, h2⟩)
  | 13, _, he, h => obtain ⟨g, xk, xn, xA, xl, xc, e0, e1, e2, e3⟩ := h; exact he.elim (fun q => ⟨g, xk, xn, xA, xl, xc, e0, e1, e2.ext q e1, e3.keep (fun _ h => h) (fun b hb hl => q.2 b hb.1 hl)⟩) (fun q => absurd rfl q.1)
  | n + 14, hn, _, _ => exact absurd hn (by omega)
theorem vzf17_new (gx gd0 n cap k : Nat) (mv : Value) (er : Int) (X : Tr) (S : Nat) : ∀ g j v w w', j < 14 → j ≠ 12 → vzEa17 g w w' → vzf17 gx gd0 n cap k mv er X S none j v w → vzf17 gx gd0 n cap k mv er X S (some g) j v w' := by
  intro g j v w w' hj hjp he h
  match j, hj, hjp, h with
  | 0, _, hjp, h => exact h
  | 1, _, hjp, h => exact h
  | 2, _, hjp, h => exact h
  | 3, _, hjp, h => exact h
  | 4, _, hjp, h => exact h
  | 5, _, hjp, h => exact h
  | 6, _, hjp, h => exact h
  | 7, _, hjp, h => exact h
  | 8, _, hjp, h => obtain ⟨xk, xn, xA, xl, xc, e1, e2⟩ := h; obtain ⟨xs, rfl, rfl⟩ := he; exact ⟨xk, xn, xA, xl, xc, e1, (TrF.both e2 e2.at_.old).keep (fun b hb => ⟨hb.1.1, fun e => by have := Option.some.inj e; have := hb.2; omega⟩) (fun b hb _ => (new_later w _).block b hb.2)⟩
  | 9, _, hjp, h => obtain ⟨xk, xn, xA, xl, xc, e1, e2⟩ := h; obtain ⟨xs, rfl, rfl⟩ := he; exact ⟨xk, xn, xA, xl, xc, e1, (TrF.both e2 e2.at_.old).keep (fun b hb => ⟨hb.1.1, fun e => by have := Option.some.inj e; have := hb.2; omega⟩) (fun b hb _ => (new_later w _).block b hb.2)⟩
  | 10, _, hjp, h => obtain ⟨xk, xn, xA, xl, xc, e1, e2⟩ := h; obtain ⟨xs, rfl, rfl⟩ := he; exact ⟨xk, xn, xA, xl, xc, e1, (TrF.both e2 e2.at_.old).keep (fun b hb => ⟨hb.1.1, fun e => by have := Option.some.inj e; have := hb.2; omega⟩) (fun b hb _ => (new_later w _).block b hb.2)⟩
  | 11, _, hjp, h => exact h
  | 12, _, hjp, h => exact absurd rfl hjp
  | 13, _, hjp, h => obtain ⟨g, xk, xn, xA, xl, xc, e0, _⟩ := h; cases e0
  | n + 14, hn, _, _ => exact absurd hn (by omega)
def vzD17 : List Nat := [140, 141, 142, 143, 144, 145, 146, 147, 148, 139, 149, 150, 25]
def vzd17 (k : Nat) : Nat := [140, 141, 142, 143, 144, 145, 146, 147, 148, 139, 149, 150, 25, 999].getD k 0
theorem vzd17_mem : ∀ k, k < 14 → k ≠ 13 → vzd17 k < 172 ∧ vzd17 k ∈ vzD17 := by decide
theorem vzd17_inj : ∀ i, i < 14 → ∀ k, k < 14 → k ≠ i → vzd17 i ≠ vzd17 k := by decide
set_option maxHeartbeats 4000000 in
set_option maxRecDepth 100000 in
theorem vzreg17 {Q : Exit → Act → World → Prop} {id : Nat} {ops : Array Oper} (hops : ops = ((Tryd.f6.body).bind (opsOf 17)).getD #[]) (a0 : Act) (w0 : World) (gx gd0 n cap k : Nat) (mv : Value) (er : Int) (X : Tr) (hsz : a0.tmps.size = 172)
    (h11 : ag a0 11 = .pointer (some ⟨gx, 0, none⟩)) (h21 : ag a0 21 = .int .i64 (k : Int)) (hx : Arr w0 gx 2 26 [mv, .slice (some ⟨gd0, 0, none⟩) n cap]) (hi : w0.rangeAt gd0 (k * 31) [.int .i64 0, .int .i64 1, .int .i64 (1 + (k : Int))]) (hkn : (k : Int) < (n : Int)) (hk0 : (0 : Int) ≤ (k : Int)) (hz : ∀ W, Below w0.heap.size w0 W → Calls Tryd.prog 35 #[.agg #[mv, .slice (some ⟨gd0, 0, none⟩) n cap], .agg #[.int .i64 3, .int .i64 0, .int .i64 1, .int .i64 (1 + (k : Int)), .slice none 0 0]] W (ZeroRes er X W))
    (hQ : ∀ (vs : Nat → Value) (w' : World) (g : Nat) (xk xn : Int) (xA : Option Addr) (xl xc : Nat), vs 25 = .pointer (some ⟨g, 0, none⟩) → vs 26 = .int .i64 er → w0.heap.size ≤ g → Arr w' g 3 53 [.int .i64 xk, .int .i64 xn, .slice xA xl xc] → TrAt w' X (.agg #[.int .i64 xk, .int .i64 xn, .slice xA xl xc]) → Below w0.heap.size w0 w' → ∀ a', a' = (vzD17 ++ [26]).foldl (fun b s => b.put (some s) (vs s)) a0 → Q .normal a' w') :
    (Code.region id ops true).wp Tryd.prog Q a0 w0 := by
  have hg0 : Below w0.heap.size w0 w0.drew := below_drewN (Below.refl _ _) 1
  have hlt : ∀ k, k < 14 → k ≠ 13 → vzd17 k < a0.tmps.size := fun k hk h => by have := (vzd17_mem k hk h).1; omega
  refine wp_region_factsG 14 12 13 vzD17 vzd17 (vzf17 gx gd0 n cap k mv er X w0.heap.size) (fun γ w => Below w0.heap.size w0 w ∧ ∀ g, γ = some g → g < w.heap.size) w0.heap.size vzEa17 vzEp17 (fun k => k) (by kernel_rfl) (by subst hops; kernel_rfl) (by subst hops; kernel_rfl) (by subst hops; kernel_rfl) (by decide) (vzf17_ext gx gd0 n cap k mv er X w0.heap.size) (vzf17_new gx gd0 n cap k mv er X w0.heap.size) ⟨hg0, fun _ h => by cases h⟩ ?_ ?_ ?_
  · intro γ j a w hj hjp ho hG hd
    have hg := hG.1
    have hgs := hg.size
    match j, hj, hjp, hd with
    | 0, hk, hjp, hd =>
      have s : (ops[0]?).map sig = some (some 140, .load 26 (.tmp 11), 26, none) := by subst hops; kernel_rfl
      have hgd : GdOk ops a none := trivial
      have e0 : ag a 11 = .pointer (some ⟨gx, 0, none⟩) := (ho.off 11 (by decide)).trans h11
      refine op_loadg s hgd gx 0 e0 [mv, .slice (some ⟨gd0, 0, none⟩) n cap] _ ((hx.later hg).range) Tryd.underlying26 rfl info_prog ?_
      exact PostE.put (i := 0) ho (vzd17_mem 0 hk (by decide)).2 (hlt 0 hk (by decide)) (fun k hk2 hne _ => vzd17_inj 0 hk k hk2 hne) (.inl (Ext.refl _ _)) rfl hG
    | 1, hk, hjp, hd =>
      have s : (ops[1]?).map sig = some (some 141, .fieldAddr 26 (.tmp 11) 1, 0, none) := by subst hops; kernel_rfl
      have hgd : GdOk ops a none := trivial
      have e0 : ag a 11 = .pointer (some ⟨gx, 0, none⟩) := (ho.off 11 (by decide)).trans h11
      refine op_valg s hgd (w' := w) (v := .pointer (some ⟨gx, 1, none⟩)) ?_ ?_
      · simp only [execOp, eval_tmp, e0]
        go_simp
      · exact PostE.put (i := 1) ho (vzd17_mem 1 hk (by decide)).2 (hlt 1 hk (by decide)) (fun k hk2 hne _ => vzd17_inj 1 hk k hk2 hne) (.inl (Ext.refl _ _)) rfl hG
    | 2, hk, hjp, hd =>
      have s : (ops[2]?).map sig = some (some 142, .load 24 (.tmp 141), 24, none) := by subst hops; kernel_rfl
      have hgd : GdOk ops a none := trivial
      have d1 := hd 1 (by decide) (by subst hops; kernel_rfl)
      have e0 : ag a 141 = .pointer (some ⟨gx, 1, none⟩) := d1
      have hc := (hx.later hg).cell (j := 1) (v := .slice (some ⟨gd0, 0, none⟩) n cap) rfl
      refine op_valg s hgd (w' := w) (v := .slice (some ⟨gd0, 0, none⟩) n cap) ?_ ?_
      · simp only [execOp, eval_tmp, e0]
        go_simp
      · exact PostE.put (i := 2) ho (vzd17_mem 2 hk (by decide)).2 (hlt 2 hk (by decide)) (fun k hk2 hne _ => vzd17_inj 2 hk k hk2 hne) (.inl (Ext.refl _ _)) rfl hG
    | 3, hk, hjp, hd =>
      have s : (ops[3]?).map sig = some (some 143, .move (.tmp 21), 3, none) := by subst hops; kernel_rfl
      have hgd : GdOk ops a none := trivial
      have e0 : ag a 21 = .int .i64 (k : Int) := (ho.off 21 (by decide)).trans h21
      refine op_valg s hgd (w' := w) (v := .int .i64 (k : Int)) ?_ ?_
      · exact congrArg (fun x => Result.ok (Next.value x) w) e0
      · exact PostE.put (i := 3) ho (vzd17_mem 3 hk (by decide)).2 (hlt 3 hk (by decide)) (fun k hk2 hne _ => vzd17_inj 3 hk k hk2 hne) (.inl (Ext.refl _ _)) rfl hG
    | 4, hk, hjp, hd =>
      have s : (ops[4]?).map sig = some (some 144, .indexAddr 24 (.tmp 142) (.tmp 143), 0, none) := by subst hops; kernel_rfl
      have hgd : GdOk ops a none := trivial
      have d2 := hd 2 (by decide) (by subst hops; kernel_rfl)
      have d3 := hd 3 (by decide) (by subst hops; kernel_rfl)
      have e0 : ag a 142 = .slice (some ⟨gd0, 0, none⟩) n cap := d2
      have e1 : ag a 143 = .int .i64 (k : Int) := d3
      refine op_valg s hgd (w' := w) (v := .pointer (some ⟨gd0, k * 31, none⟩)) ?_ ?_
      · simp only [execOp, eval_tmp, e0, e1]
        go_simp
      · exact PostE.put (i := 4) ho (vzd17_mem 4 hk (by decide)).2 (hlt 4 hk (by decide)) (fun k hk2 hne _ => vzd17_inj 4 hk k hk2 hne) (.inl (Ext.refl _ _)) rfl hG
    | 5, hk, hjp, hd =>
      have s : (ops[5]?).map sig = some (some 145, .fieldAddr 46 (.tmp 144) 0, 0, none) := by subst hops; kernel_rfl
      have hgd : GdOk ops a none := trivial
      have d4 := hd 4 (by decide) (by subst hops; kernel_rfl)
      have e0 : ag a 144 = .pointer (some ⟨gd0, k * 31, none⟩) := d4
      refine op_valg s hgd (w' := w) (v := .pointer (some ⟨gd0, k * 31, none⟩)) ?_ ?_
      · simp only [execOp, eval_tmp, e0]
        go_simp
      · exact PostE.put (i := 5) ho (vzd17_mem 5 hk (by decide)).2 (hlt 5 hk (by decide)) (fun k hk2 hne _ => vzd17_inj 5 hk k hk2 hne) (.inl (Ext.refl _ _)) rfl hG
    | 6, hk, hjp, hd =>
      have s : (ops[6]?).map sig = some (some 146, .load 28 (.tmp 145), 28, none) := by subst hops; kernel_rfl
      have hgd : GdOk ops a none := trivial
      have d5 := hd 5 (by decide) (by subst hops; kernel_rfl)
      have e0 : ag a 145 = .pointer (some ⟨gd0, k * 31, none⟩) := d5
      refine op_loadg s hgd gd0 (k * 31) e0 [.int .i64 0, .int .i64 1, .int .i64 (1 + (k : Int))] _ (range_below hi hg) Tryd.underlying28 rfl info_id ?_
      exact PostE.put (i := 6) ho (vzd17_mem 6 hk (by decide)).2 (hlt 6 hk (by decide)) (fun k hk2 hne _ => vzd17_inj 6 hk k hk2 hne) (.inl (Ext.refl _ _)) rfl hG
    | 7, hk, hjp, hd =>
      have s : (ops[7]?).map sig = some (some 147, .call { callee := .value (.func 14), args := #[.tmp 146], argTypes := #[28] }, 31, none) := by subst hops; kernel_rfl
      have hgd : GdOk ops a none := trivial
      have d6 := hd 6 (by decide) (by subst hops; kernel_rfl)
      have e0 : ag a 146 = .agg #[.int .i64 0, .int .i64 1, .int .i64 (1 + (k : Int))] := d6
      refine op_callg s hgd (w' := w) (f := 14) (args := #[.agg #[.int .i64 0, .int .i64 1, .int .i64 (1 + (k : Int))]]) ?_ ?_
      · simp only [execOp]
        go_simp
        simpa [ag] using e0
      · refine (Of_any 0 1 (1 + (k : Int)) w).mono ?_
        rintro e w' ⟨rfl, hb⟩
        exact ⟨_, rfl, PostE.put (i := 7) ho (vzd17_mem 7 hk (by decide)).2 (hlt 7 hk (by decide)) (fun k hk2 hne _ => vzd17_inj 7 hk k hk2 hne) (.inl (Ext.of hb)) rfl ⟨later hg hb, fun g h => Nat.lt_of_lt_of_le (hG.2 g h) hb.size⟩⟩
    | 8, hk, hjp, hd =>
      have s : (ops[8]?).map sig = some (some 148, .call { callee := .value (.func 35), args := #[.tmp 140, .tmp 147], argTypes := #[26, 31] }, 63, none) := by subst hops; kernel_rfl
      have hgd : GdOk ops a none := trivial
      have d0 := hd 0 (by decide) (by subst hops; kernel_rfl)
      have d7 := hd 7 (by decide) (by subst hops; kernel_rfl)
      have e0 : ag a 140 = .agg #[mv, .slice (some ⟨gd0, 0, none⟩) n cap] := d0
      have e1 : ag a 147 = .agg #[.int .i64 3, .int .i64 0, .int .i64 1, .int .i64 (1 + (k : Int)), .slice none 0 0] := d7
      refine op_callg s hgd (w' := w) (f := 35) (args := #[.agg #[mv, .slice (some ⟨gd0, 0, none⟩) n cap], .agg #[.int .i64 3, .int .i64 0, .int .i64 1, .int .i64 (1 + (k : Int)), .slice none 0 0]]) ?_ ?_
      · simp only [execOp]
        go_simp
        refine ⟨by simpa [ag] using e0, by simpa [ag] using e1⟩
      · refine (hz w hg).mono ?_
        rintro e w' ⟨xk, xn, xA, xl, xc, rfl, hT, hb⟩
        exact ⟨_, rfl, PostE.put (i := 8) ho (vzd17_mem 8 hk (by decide)).2 (hlt 8 hk (by decide)) (fun k hk2 hne _ => vzd17_inj 8 hk k hk2 hne) (.inl (Ext.of hb)) ⟨xk, xn, xA, xl, xc, rfl, hT.mono (fun b h => ⟨Nat.le_trans hgs h, fun e => by have := hG.2 b e; omega⟩)⟩ ⟨later hg hb, fun g h => Nat.lt_of_lt_of_le (hG.2 g h) hb.size⟩⟩
    | 9, hk, hjp, hd =>
      have s : (ops[9]?).map sig = some (some 139, .move (.tmp 148), 63, none) := by subst hops; kernel_rfl
      have hgd : GdOk ops a none := trivial
      have d8 := hd 8 (by decide) (by subst hops; kernel_rfl)
      obtain ⟨xk, xn, xA, xl, xc, e0, hT⟩ := d8
      have e0 : ag a 148 = .tuple #[.agg #[.int .i64 xk, .int .i64 xn, .slice xA xl xc], .int .i64 er] := e0
      refine op_valg s hgd (w' := w) (v := .tuple #[.agg #[.int .i64 xk, .int .i64 xn, .slice xA xl xc], .int .i64 er]) ?_ ?_
      · exact congrArg (fun x => Result.ok (Next.value x) w) e0
      · exact PostE.put (i := 9) ho (vzd17_mem 9 hk (by decide)).2 (hlt 9 hk (by decide)) (fun k hk2 hne _ => vzd17_inj 9 hk k hk2 hne) (.inl (Ext.refl _ _)) ⟨xk, xn, xA, xl, xc, rfl, hT⟩ hG
    | 10, hk, hjp, hd =>
      have s : (ops[10]?).map sig = some (some 149, .extract (.tmp 139) 0, 53, none) := by subst hops; kernel_rfl
      have hgd : GdOk ops a none := trivial
      have d9 := hd 9 (by decide) (by subst hops; kernel_rfl)
      obtain ⟨xk, xn, xA, xl, xc, e0, hT⟩ := d9
      have e0 : ag a 139 = .tuple #[.agg #[.int .i64 xk, .int .i64 xn, .slice xA xl xc], .int .i64 er] := e0
      refine op_valg s hgd (w' := w) (v := .agg #[.int .i64 xk, .int .i64 xn, .slice xA xl xc]) ?_ ?_
      · simp only [execOp, eval_tmp, e0]
        go_simp
      · exact PostE.put (i := 10) ho (vzd17_mem 10 hk (by decide)).2 (hlt 10 hk (by decide)) (fun k hk2 hne _ => vzd17_inj 10 hk k hk2 hne) (.inl (Ext.refl _ _)) ⟨xk, xn, xA, xl, xc, rfl, hT⟩ hG
    | 11, hk, hjp, hd =>
      have s : (ops[11]?).map sig = some (some 150, .extract (.tmp 139) 1, 62, none) := by subst hops; kernel_rfl
      have hgd : GdOk ops a none := trivial
      have d9 := hd 9 (by decide) (by subst hops; kernel_rfl)
      obtain ⟨xk, xn, xA, xl, xc, e0, hT⟩ := d9
      have e0 : ag a 139 = .tuple #[.agg #[.int .i64 xk, .int .i64 xn, .slice xA xl xc], .int .i64 er] := e0
      refine op_valg s hgd (w' := w) (v := .int .i64 er) ?_ ?_
      · simp only [execOp, eval_tmp, e0]
        go_simp
      · exact PostE.put (i := 11) ho (vzd17_mem 11 hk (by decide)).2 (hlt 11 hk (by decide)) (fun k hk2 hne _ => vzd17_inj 11 hk k hk2 hne) (.inl (Ext.refl _ _)) rfl hG
    | 12, hk, hjp, hd =>
      have s : (ops[12]?).map sig = some (some 25, .alloc 53, 0, none) := by subst hops; kernel_rfl
      have hgd : GdOk ops a none := trivial
      exact absurd rfl hjp
    | 13, hk, hjp, hd =>
      have s : (ops[13]?).map sig = some (none, .store 53 (.tmp 25) (.tmp 149), 0, none) := by subst hops; kernel_rfl
      have hgd : GdOk ops a none := trivial
      have d10 := hd 10 (by decide) (by subst hops; kernel_rfl)
      have d12 := hd 12 (by decide) (by subst hops; kernel_rfl)
      obtain ⟨xk, xn, xA, xl, xc, e0, hT⟩ := d10
      have e0 : ag a 149 = .agg #[.int .i64 xk, .int .i64 xn, .slice xA xl xc] := e0
      obtain ⟨g, xs, eg, e1, hgS, hl3, hA⟩ := d12
      have e1 : ag a 25 = .pointer (some ⟨g, 0, none⟩) := e1
      refine wpOp_ofg s hgd fun o h1 h2 h3 => ?_
      refine wp_store_mid _ _ _ h2 g 0 #[.int .i64 xk, .int .i64 xn, .slice xA xl xc] e1 e0 (hA.thereAt (Nat.le_refl 3)) info_val (all_oneCell_toArray (cs := [.int .i64 xk, .int .i64 xn, .slice xA xl xc]) (List.all_eq_true.mp (by rfl))) ?_
      rw [h1]
      have hA2 := hA.setCells (o := 0) [.int .i64 xk, .int .i64 xn, .slice xA xl xc]
      rw [setAll_all xs [.int .i64 xk, .int .i64 xn, .slice xA xl xc] hl3.symm] at hA2
      have hO := Only.setCells g 0 [.int .i64 xk, .int .i64 xn, .slice xA xl xc] w
      have hb := below_setCells [.int .i64 xk, .int .i64 xn, .slice xA xl xc] 0 w hg hgS
      exact ⟨ho, fun _ _ _ _ => rfl, .inr ⟨rfl, g, eg, hO, fun ys hy hys => ⟨setAll ys 0 [.int .i64 xk, .int .i64 xn, .slice xA xl xc], by rw [setAll_all ys [.int .i64 xk, .int .i64 xn, .slice xA xl xc] hy.symm]; rfl, hys.setCells (o := 0) _⟩⟩, ⟨g, xk, xn, xA, xl, xc, eg, hgS, hA2, hT.keep (fun _ h => h) (fun b h _ => hO.2 b (fun e => h.2 (by rw [eg, e])))⟩, hb, fun g' h => Nat.lt_of_lt_of_le (hG.2 g' h) hO.bel.size⟩
    | n + 14, hn, _, _ => exact absurd hn (by omega)
  · intro a w ho hG hd
    have hg := hG.1
    have hgs := hg.size
    have s : (ops[12]?).map sig = some (some 25, .alloc 53, 0, none) := by subst hops; kernel_rfl
    have hgd : GdOk ops a none := trivial
    have hb := new_later w (.cells zc3.toArray 53)
    refine op_valg s hgd (w' := w.alloc (.cells zc3.toArray 53)) (v := .pointer (some ⟨w.heap.size, 0, none⟩)) ?_ ?_
    · simp only [execOp]
      go_simp
      rfl
    · exact ⟨w.heap.size, PostE.put (i := 12) ho (vzd17_mem 12 (by decide) (by decide)).2 (hlt 12 (by decide) (by decide)) (fun k hk2 hne _ => vzd17_inj 12 (by decide) k hk2 hne) ⟨_, rfl, rfl⟩ ⟨w.heap.size, zc3, rfl, rfl, hgs, rfl, Arr.new' w _ _ 3 zc3 rfl rfl (by decide)⟩ ⟨later hg hb, fun g h => by cases h; simp⟩⟩
  · intro γ a w ho hG hf
    have hg := hG.1
    have s : (ops[14]?).map sig = some (some 26, .assign (.tmp 150), 62, none) := by subst hops; kernel_rfl
    have hgd : GdOk ops a none := trivial
    obtain ⟨g, xs, eg, e1, hgS, _⟩ := hf 12 (by decide)
    have e1 : ag a 25 = .pointer (some ⟨g, 0, none⟩) := e1
    obtain ⟨g', xk, xn, xA, xl, xc, eg', _, hA, hT⟩ := hf 13 (by decide)
    obtain rfl : g = g' := Option.some.inj (eg.symm.trans eg')
    have e11 : ag a 150 = .int .i64 er := hf 11 (by decide)
    refine op_valg s hgd (w' := w) (v := .int .i64 er) ?_ ?_
    · exact congrArg (fun x => Result.ok (Next.value x) w) e11
    · have ho2 : Off (vzD17 ++ [26]) a0 (a.put (some 26) (.int .i64 er)) := (ho.mono (fun s hs => List.mem_append_left _ hs)).put (by decide)
      exact hQ (ag (a.put (some 26) (.int .i64 er))) w g xk xn xA xl xc ((ag_ne (by decide)).trans e1) (ag_put (by rw [ho.size, hsz]; decide)) hgS hA hT.at_ hg _ (ho2.eq (fun s hs => by rw [hsz]; revert s; decide))
end Go.Proofs.YtjbleefpafnhhaaDoor

