import Derived.Test.YtkpoiljioadfgaaDoorX05
import Derived.Test.YtkpoiljioadfgaaDoorX29
import Derived.Test.YtkpoiljioadfgaaDoorX32

set_option linter.unusedVariables false
set_option linter.unusedSimpArgs false
namespace Go.Proofs.YtkpoiljioadfgaaDoor
open Go.RowKit
def NamD (D : List Value) : Prop := D.length = 31 ∧ (∀ u ∈ D, u.oneCell' = true) ∧ Hid (∃ (x0 x1 x2 x3 x4 x5 x6 : Value) (A : Option Addr) (m cap : Nat) (Y : List Value), D = ([x0, x1, x2, x3, x4, x5, x6, .string ⟨#[80, 111, 105, 110, 116]⟩, .slice A m cap] : List Value) ++ Y)
def vtf21 (gx : Nat) (mv dv : Value) (S : Nat) : Option Nat → Nat → Value → World → Prop
  | γ, 0, v, w => v = .agg #[mv, dv]
  | γ, 1, v, w => v = .agg #[.int .i64 0, .int .i64 1, .int .i64 1]
  | γ, 2, v, w => ∃ (D : List Value), v = .tuple #[.agg D.toArray, .bool true] ∧ NamD D
  | γ, 3, v, w => ∃ (D : List Value), v = .tuple #[.agg D.toArray, .bool true] ∧ NamD D
  | γ, 4, v, w => ∃ (D : List Value), v = .agg D.toArray ∧ NamD D
  | γ, 5, v, w => v = .bool true
  | γ, 6, v, w => ∃ (g : Nat) (xs : List Value), γ = some g ∧ v = .pointer (some ⟨g, 0, none⟩) ∧ S ≤ g ∧ xs.length = 31 ∧ Arr w g 31 46 xs
  | γ, 7, v, w => ∃ (g : Nat) (D : List Value), γ = some g ∧ S ≤ g ∧ Arr w g 31 46 D ∧ NamD D
  | _, _, _, _ => True
def vtEp21 (γ : Option Nat) (w w' : World) : Prop := ∃ g, γ = some g ∧ Only g w w' ∧ ∀ xs : List Value, xs.length = 31 → Arr w g 31 46 xs → ∃ ys : List Value, ys.length = 31 ∧ Arr w' g 31 46 ys
def vtEa21 (g : Nat) (w w' : World) : Prop := ∃ xs : Array Value, g = w.heap.size ∧ w' = w.alloc (.cells xs 46)
theorem vtf21_ext (gx : Nat) (mv dv : Value) (S : Nat) : ∀ γ j v w w', j < 8 → (Ext S w w' ∨ (j ≠ 7 ∧ vtEp21 γ w w')) → vtf21 gx mv dv S γ j v w → vtf21 gx mv dv S γ j v w' := by
  intro γ j v w w' hj he h
  match j, hj, he, h with
  | 0, _, he, h => exact h
  | 1, _, he, h => exact h
  | 2, _, he, h => exact h
  | 3, _, he, h => exact h
  | 4, _, he, h => exact h
  | 5, _, he, h => exact h
  | 6, _, he, h => obtain ⟨g, xs, e0, e1, e2, e3, e4⟩ := h; exact he.elim (fun q => ⟨g, xs, e0, e1, e2, e3, e4.ext q e2⟩) (fun q => by obtain ⟨g', eg, _, q3⟩ := q.2; obtain rfl : g = g' := Option.some.inj (e0.symm.trans eg); obtain ⟨ys, h1, h2⟩ := q3 xs e3 e4; exact ⟨g, ys, e0, e1, e2, h1, h2⟩)
  | 7, _, he, h => obtain ⟨g, D, e0, e1, e2, e3⟩ := h; exact he.elim (fun q => ⟨g, D, e0, e1, e2.ext q e1, e3⟩) (fun q => absurd rfl q.1)
  | n + 8, hn, _, _ => exact absurd hn (by omega)
theorem vtf21_new (gx : Nat) (mv dv : Value) (S : Nat) : ∀ g j v w w', j < 8 → j ≠ 6 → vtEa21 g w w' → vtf21 gx mv dv S none j v w → vtf21 gx mv dv S (some g) j v w' := by
  intro g j v w w' hj hjp he h
  match j, hj, hjp, h with
  | 0, _, hjp, h => exact h
  | 1, _, hjp, h => exact h
  | 2, _, hjp, h => exact h
  | 3, _, hjp, h => exact h
  | 4, _, hjp, h => exact h
  | 5, _, hjp, h => exact h
  | 6, _, hjp, h => exact absurd rfl hjp
  | 7, _, hjp, h => obtain ⟨g, D, e0, _⟩ := h; cases e0
  | n + 8, hn, _, _ => exact absurd hn (by omega)
def vtD21 : List Nat := [122, 123, 124, 121, 125, 126, 24]
def vtd21 (k : Nat) : Nat := [122, 123, 124, 121, 125, 126, 24, 999].getD k 0
theorem vtd21_mem : ∀ k, k < 8 → k ≠ 7 → vtd21 k < 164 ∧ vtd21 k ∈ vtD21 := by decide
theorem vtd21_inj : ∀ i, i < 8 → ∀ k, k < 8 → k ≠ i → vtd21 i ≠ vtd21 k := by decide
set_option maxHeartbeats 4000000 in
set_option maxRecDepth 100000 in
theorem vtreg21 {Q : Exit → Act → World → Prop} {id : Nat} {ops : Array Oper} (hops : ops = ((Tryd.f3.body).bind (opsOf 21)).getD #[]) (a0 : Act) (w0 : World) (gx : Nat) (mv dv : Value) (hsz : a0.tmps.size = 164)
    (h13 : ag a0 13 = .pointer (some ⟨gx, 0, none⟩)) (hx : Arr w0 gx 2 26 [mv, dv]) (hdc : ∀ W, Below w0.heap.size w0 W → Calls Tryd.prog 20 #[.agg #[mv, dv], .agg #[.int .i64 0, .int .i64 1, .int .i64 1]] W (fun e w' => ∃ D : List Value, e = .returned (.tuple #[.agg D.toArray, .bool true]) ∧ NamD D ∧ Below W.heap.size W w'))
    (hQ : ∀ (vs : Nat → Value) (w' : World) (g : Nat) (D : List Value), vs 24 = .pointer (some ⟨g, 0, none⟩) → vs 25 = .bool true → w0.heap.size ≤ g → Arr w' g 31 46 D → NamD D → Below w0.heap.size w0 w' → ∀ a', a' = (vtD21 ++ [25]).foldl (fun b s => b.put (some s) (vs s)) a0 → Q .normal a' w') :
    (Code.region id ops true).wp Tryd.prog Q a0 w0 := by
  have hg0 : Below w0.heap.size w0 w0.drew := below_drewN (Below.refl _ _) 1
  have hlt : ∀ k, k < 8 → k ≠ 7 → vtd21 k < a0.tmps.size := fun k hk h => by have := (vtd21_mem k hk h).1; omega
  refine wp_region_factsG 8 6 7 vtD21 vtd21 (vtf21 gx mv dv w0.heap.size) (fun γ w => Below w0.heap.size w0 w ∧ ∀ g, γ = some g → g < w.heap.size) w0.heap.size vtEa21 vtEp21 (fun k => k) (by kernel_rfl) (by subst hops; kernel_rfl) (by subst hops; kernel_rfl) (by subst hops; kernel_rfl) (by decide) (vtf21_ext gx mv dv w0.heap.size) (vtf21_new gx mv dv w0.heap.size) ⟨hg0, fun _ h => by cases h⟩ ?_ ?_ ?_
  · intro γ j a w hj hjp ho hG hd
    have hg := hG.1
    have hgs := hg.size
    match j, hj, hjp, hd with
    | 0, hk, hjp, hd =>
      have s : (ops[0]?).map sig = some (some 122, .load 26 (.tmp 13), 26, none) := by subst hops; kernel_rfl
      have hgd : GdOk ops a none := trivial
      have e0 : ag a 13 = .pointer (some ⟨gx, 0, none⟩) := (ho.off 13 (by decide)).trans h13
      refine op_loadg s hgd gx 0 e0 [mv, dv] _ ((hx.later hg).range) Tryd.underlying26 rfl info_prog ?_
      exact PostE.put (i := 0) ho (vtd21_mem 0 hk (by decide)).2 (hlt 0 hk (by decide)) (fun k hk2 hne _ => vtd21_inj 0 hk k hk2 hne) (.inl (Ext.refl _ _)) rfl hG
    | 1, hk, hjp, hd =>
      have s : (ops[1]?).map sig = some (some 123, .call { callee := .value (.func 15), args := #[.const (.int .i64 1)], argTypes := #[3] }, 28, none) := by subst hops; kernel_rfl
      have hgd : GdOk ops a none := trivial
      refine op_callg s hgd (w' := w) (f := 15) (args := #[.int .i64 1]) ?_ ?_
      · simp only [execOp]
        go_simp
      · refine ((show Calls Tryd.prog _ #[.int .i64 1] w (fun e w' => e = .returned (.agg #[.int .i64 0, .int .i64 1, .int .i64 1]) ∧ Below w.heap.size w w') from ID_any 1 (by omega) w)).mono ?_
        rintro e w' ⟨rfl, hb⟩
        exact ⟨_, rfl, PostE.put (i := 1) ho (vtd21_mem 1 hk (by decide)).2 (hlt 1 hk (by decide)) (fun k hk2 hne _ => vtd21_inj 1 hk k hk2 hne) (.inl (Ext.of hb)) rfl ⟨later hg hb, fun g h => Nat.lt_of_lt_of_le (hG.2 g h) hb.size⟩⟩
    | 2, hk, hjp, hd =>
      have s : (ops[2]?).map sig = some (some 124, .call { callee := .value (.func 20), args := #[.tmp 122, .tmp 123], argTypes := #[26, 28] }, 47, none) := by subst hops; kernel_rfl
      have hgd : GdOk ops a none := trivial
      have d0 := hd 0 (by decide) (by subst hops; kernel_rfl)
      have d1 := hd 1 (by decide) (by subst hops; kernel_rfl)
      have e0 : ag a 122 = .agg #[mv, dv] := d0
      have e1 : ag a 123 = .agg #[.int .i64 0, .int .i64 1, .int .i64 1] := d1
      refine op_callg s hgd (w' := w) (f := 20) (args := #[.agg #[mv, dv], .agg #[.int .i64 0, .int .i64 1, .int .i64 1]]) ?_ ?_
      · simp only [execOp]
        go_simp
        refine ⟨by simpa [ag] using e0, by simpa [ag] using e1⟩
      · refine (hdc w hg).mono ?_
        rintro e w' ⟨D, rfl, hD, hb⟩
        exact ⟨_, rfl, PostE.put (i := 2) ho (vtd21_mem 2 hk (by decide)).2 (hlt 2 hk (by decide)) (fun k hk2 hne _ => vtd21_inj 2 hk k hk2 hne) (.inl (Ext.of hb)) ⟨D, rfl, hD⟩ ⟨later hg hb, fun g h => Nat.lt_of_lt_of_le (hG.2 g h) hb.size⟩⟩
    | 3, hk, hjp, hd =>
      have s : (ops[3]?).map sig = some (some 121, .move (.tmp 124), 47, none) := by subst hops; kernel_rfl
      have hgd : GdOk ops a none := trivial
      have d2 := hd 2 (by decide) (by subst hops; kernel_rfl)
      obtain ⟨D, e0, hD⟩ := d2
      have e0 : ag a 124 = .tuple #[.agg D.toArray, .bool true] := e0
      refine op_valg s hgd (w' := w) (v := .tuple #[.agg D.toArray, .bool true]) ?_ ?_
      · exact congrArg (fun x => Result.ok (Next.value x) w) e0
      · exact PostE.put (i := 3) ho (vtd21_mem 3 hk (by decide)).2 (hlt 3 hk (by decide)) (fun k hk2 hne _ => vtd21_inj 3 hk k hk2 hne) (.inl (Ext.refl _ _)) ⟨D, rfl, hD⟩ hG
    | 4, hk, hjp, hd =>
      have s : (ops[4]?).map sig = some (some 125, .extract (.tmp 121) 0, 46, none) := by subst hops; kernel_rfl
      have hgd : GdOk ops a none := trivial
      have d3 := hd 3 (by decide) (by subst hops; kernel_rfl)
      obtain ⟨D, e0, hD⟩ := d3
      have e0 : ag a 121 = .tuple #[.agg D.toArray, .bool true] := e0
      refine op_valg s hgd (w' := w) (v := .agg D.toArray) ?_ ?_
      · simp only [execOp, eval_tmp, e0]
        go_simp
      · exact PostE.put (i := 4) ho (vtd21_mem 4 hk (by decide)).2 (hlt 4 hk (by decide)) (fun k hk2 hne _ => vtd21_inj 4 hk k hk2 hne) (.inl (Ext.refl _ _)) ⟨D, rfl, hD⟩ hG
    | 5, hk, hjp, hd =>
      have s : (ops[5]?).map sig = some (some 126, .extract (.tmp 121) 1, 4, none) := by subst hops; kernel_rfl
      have hgd : GdOk ops a none := trivial
      have d3 := hd 3 (by decide) (by subst hops; kernel_rfl)
      obtain ⟨D, e0, hD⟩ := d3
      have e0 : ag a 121 = .tuple #[.agg D.toArray, .bool true] := e0
      refine op_valg s hgd (w' := w) (v := .bool true) ?_ ?_
      · simp only [execOp, eval_tmp, e0]
        go_simp
      · exact PostE.put (i := 5) ho (vtd21_mem 5 hk (by decide)).2 (hlt 5 hk (by decide)) (fun k hk2 hne _ => vtd21_inj 5 hk k hk2 hne) (.inl (Ext.refl _ _)) rfl hG
    | 6, hk, hjp, hd =>
      have s : (ops[6]?).map sig = some (some 24, .alloc 46, 0, none) := by subst hops; kernel_rfl
      have hgd : GdOk ops a none := trivial
      exact absurd rfl hjp
    | 7, hk, hjp, hd =>
      have s : (ops[7]?).map sig = some (none, .store 46 (.tmp 24) (.tmp 125), 0, none) := by subst hops; kernel_rfl
      have hgd : GdOk ops a none := trivial
      have d4 := hd 4 (by decide) (by subst hops; kernel_rfl)
      have d6 := hd 6 (by decide) (by subst hops; kernel_rfl)
      obtain ⟨D, e0, hD⟩ := d4
      have e0 : ag a 125 = .agg D.toArray := e0
      obtain ⟨g, xs, eg, e1, hgS, hl3, hA⟩ := d6
      have e1 : ag a 24 = .pointer (some ⟨g, 0, none⟩) := e1
      refine wpOp_ofg s hgd fun o h1 h2 h3 => ?_
      refine wp_store_mid _ _ _ h2 g 0 D.toArray e1 e0 (hA.thereAt (by rw [List.size_toArray, hD.1]; exact Nat.le_refl 31)) (by rw [List.size_toArray, hD.1]; exact info_def) (all_oneCell_toArray (cs := D) hD.2.1) ?_
      rw [h1]
      have hA2 := hA.setCells (o := 0) D
      rw [setAll_all xs D (by rw [hD.1, hl3])] at hA2
      have hO := Only.setCells g 0 D w
      have hb := below_setCells D 0 w hg hgS
      exact ⟨ho, fun _ _ _ _ => rfl, .inr ⟨rfl, g, eg, hO, fun ys hy hys => ⟨D, hD.1, by have h5 := hys.setCells (o := 0) D; rw [setAll_all ys D (by rw [hD.1, hy])] at h5; exact h5⟩⟩, ⟨g, D, eg, hgS, hA2, hD⟩, hb, fun g' h => Nat.lt_of_lt_of_le (hG.2 g' h) hO.bel.size⟩
    | n + 8, hn, _, _ => exact absurd hn (by omega)
  · intro a w ho hG hd
    have hg := hG.1
    have hgs := hg.size
    have s : (ops[6]?).map sig = some (some 24, .alloc 46, 0, none) := by subst hops; kernel_rfl
    have hgd : GdOk ops a none := trivial
    have hb := new_later w (.cells z31.toArray 46)
    refine op_valg s hgd (w' := w.alloc (.cells z31.toArray 46)) (v := .pointer (some ⟨w.heap.size, 0, none⟩)) ?_ ?_
    · simp only [execOp]
      go_simp
      first | done | rfl
    · exact ⟨w.heap.size, PostE.put (i := 6) ho (vtd21_mem 6 (by decide) (by decide)).2 (hlt 6 (by decide) (by decide)) (fun k hk2 hne _ => vtd21_inj 6 (by decide) k hk2 hne) ⟨_, rfl, rfl⟩ ⟨w.heap.size, z31, rfl, rfl, hgs, rfl, Arr.new' w _ _ 31 z31 rfl rfl (by decide)⟩ ⟨later hg hb, fun g h => by cases h; simp⟩⟩
  · intro γ a w ho hG hf
    have hg := hG.1
    have s : (ops[8]?).map sig = some (some 25, .assign (.tmp 126), 4, none) := by subst hops; kernel_rfl
    have hgd : GdOk ops a none := trivial
    obtain ⟨g, xs, eg, e1, hgS, _⟩ := hf 6 (by decide)
    have e1 : ag a 24 = .pointer (some ⟨g, 0, none⟩) := e1
    obtain ⟨g', D, eg', _, hA, hD⟩ := hf 7 (by decide)
    obtain rfl : g = g' := Option.some.inj (eg.symm.trans eg')
    have e11 : ag a 126 = .bool true := hf 5 (by decide)
    refine op_valg s hgd (w' := w) (v := .bool true) ?_ ?_
    · exact congrArg (fun x => Result.ok (Next.value x) w) e11
    · have ho2 : Off (vtD21 ++ [25]) a0 (a.put (some 25) (.bool true)) := (ho.mono (fun s hs => List.mem_append_left _ hs)).put (by decide)
      exact hQ (ag (a.put (some 25) (.bool true))) w g D ((ag_ne (by decide)).trans e1) (ag_put (by rw [ho.size, hsz]; decide)) hgS hA hD hg _ (ho2.eq (fun s hs => by rw [hsz]; revert s; decide))
end Go.Proofs.YtkpoiljioadfgaaDoor

