import Derived.Test.YtjbleefpafnhhaaDoorZ33
import Derived.Test.YtjbleefpafnhhaaDoorZ34

/-
  ValueParts: its regions that draw their order, and what holds of parts.
-/
set_option linter.unusedVariables false
set_option linter.unusedSimpArgs false
namespace Go.Proofs.YtjbleefpafnhhaaDoor
open Go.RowKit

theorem opg_skip {P : Program} {ops : Array Oper} {Q : Exit → Act → World → Prop} {i : Nat} {K : Act → World → Prop} {a : Act} {w : World} {d : Option Tmp} {op : Op} {ty : TypeId} {j : Nat} {b b' : Bool}
    (hs : (ops[i]?).map sig = some (d, op, ty, some (j, b))) (hy : yielded ops a.tmps j = some b') (hb : b' ≠ b) (hK : K (a.put d undef) w) : wpOp P ops Q i K a w := by
  unfold wpOp
  cases ho : ops[i]? with
  | none => rw [ho] at hs; simp at hs
  | some o =>
    rw [ho] at hs
    simp only [Option.map_some, sig, Option.some.injEq, Prod.mk.injEq] at hs
    obtain ⟨h1, h2, h3, h4⟩ := hs
    have hw : Region.wanted o (yielded ops a.tmps) = false := by
      unfold Region.wanted
      simp [h4, hy, hb]
    simp only [hw]
    rw [h1]; exact hK
theorem ftL_get {P : List Df} {T : Nat → Ty} : ∀ {xs : List Tr} {i j : Nat} {x : Tr}, ftL P xs T i = true → xs[j]? = some x → ft P x (T (i + j)) = true
  | [], i, j, x, _, h => by simp at h
  | y :: ys, i, 0, x, hf, h => by
    rw [ftL, Bool.and_eq_true] at hf
    simp at h; subst h; exact hf.1
  | y :: ys, i, j + 1, x, hf, h => by
    rw [ftL, Bool.and_eq_true] at hf
    have := ftL_get (i := i + 1) (j := j) hf.2 (by simpa using h)
    rwa [show i + 1 + j = i + (j + 1) by omega] at this
theorem kid_nodes : ∀ {xs : List Tr} {j : Nat} {x : Tr}, xs[j]? = some x → x.nodes ≤ nodesL xs ∧ x.dep ≤ depL xs
  | [], j, x, h => by simp at h
  | y :: ys, 0, x, h => by simp at h; subst h; rw [nodesL, depL]; omega
  | y :: ys, j + 1, x, h => by
    have := kid_nodes (xs := ys) (j := j) (by simpa using h)
    rw [nodesL, depL]; omega
/-- Valid's answer, from the document's words. -/
theorem pv_true {P : List Df} {x : Tr} {t : Ty} (hf : ft P x t = true) (hn : x.nodes ≤ 256) (hd : x.dep ≤ 24) : (pv P x t 24 0).1 = true := ((pv_ok P x t 24 0 (by omega)).2.2).2 ⟨hf, by omega, hd⟩
theorem pv_eq {P : List Df} {x : Tr} {t : Ty} (hf : ft P x t = true) (hd : x.dep ≤ 24) : (pv P x t 24 0).1 = decide (x.nodes ≤ 256) := by
  have h := (pv_ok P x t 24 0 (by omega)).2.2
  by_cases hn : x.nodes ≤ 256
  · rw [decide_eq_true hn]; exact h.2 ⟨hf, by omega, hd⟩
  · rw [decide_eq_false hn]
    cases hb : (pv P x t 24 0).1 with
    | false => rfl
    | true => have := (h.1 hb).2.1; omega
theorem pv_num (P : List Df) (n : Int) : (pv P (lf n) tI 24 0).1 = decide (-1099511627776 ≤ n ∧ n ≤ 1099511627776) := by
  have h := (pv_ok P (lf n) tI 24 0 (by omega)).2.2
  have hn : (lf n).nodes = 1 := by unfold lf; rw [nodes_node]; rfl
  have hd : (lf n).dep = 1 := by unfold lf; rw [dep_node]; rfl
  by_cases hr : -1099511627776 ≤ n ∧ n ≤ 1099511627776
  · rw [decide_eq_true hr]; exact h.2 ⟨ft_I P n hr, by omega, by omega⟩
  · rw [decide_eq_false hr]
    cases hb : (pv P (lf n) tI 24 0).1 with
    | false => rfl
    | true =>
      have := (h.1 hb).1
      exfalso; apply hr
      unfold lf at this
      rw [ft_form, vty_I P 23, shK_I] at this
      simp only [Bool.true_and, decide_true, Bool.and_eq_true] at this
      have h2 := this.1
      unfold hfit at h2
      rw [if_pos rfl] at h2
      simp at h2
      omega
theorem wp_region_factsT {P : Program} {ops : Array Oper} {Q : Exit → Act → World → Prop} {id : Nat} {a0 : Act} {w0 : World} (last p : Nat) (D : List Nat) (ds : Nat → Nat) (F : Nat → Value → World → Prop) (G : World → Prop) (B : Nat) (Ep : World → World → Prop) (rk : Nat → Nat) (p5 p6 : Nat) (T : Act → World → Prop) (h56 : p5 < last ∧ p6 < last ∧ p5 ≠ p6)
    (hT : ∀ a w a' w', T a w → ag a' (ds p5) = ag a (ds p5) → ag a' (ds p6) = ag a (ds p6) → (Ext B w w' ∨ Ep w w') → T a' w')
    (hm : P.follows .mixedOrders = true) (hsz : ops.size = last + 1) (hac : acyR ops rk = true) (hnd : needB ops last = true)
    (hF : ∀ k v w w', k < last → (Ext B w w' ∨ (k ≠ p ∧ Ep w w')) → F k v w → F k v w') (h0 : G w0.drew)
    (hs : ∀ i a w, i < last → Off D a0 a → G w → (∀ k, k < last → depB ops i k = true → F k (ag a (ds k)) w) →
      wpOp P ops Q i (fun a' w' => PostE ops D ds last a0 a i F (fun w' => Ext B w w' ∨ (i = p ∧ Ep w w')) G a' w' ∧ (i = p5 → F p6 (ag a (ds p6)) w → T a' w') ∧ (i = p6 → F p5 (ag a (ds p5)) w → T a' w')) a w)
    (hl : ∀ a w, Off D a0 a → G w → T a w → (∀ k, k < last → F k (ag a (ds k)) w) → wpOp P ops Q last (fun a' w' => Q .normal a' w') a w) :
    (Code.region id ops true).wp P Q a0 w0 := by
  refine wp_region_inv (fun listed a w => listed.size = last + 1 ∧ ((listed.getD last false = true ∧ (∀ k, k < last + 1 → listed.getD k false = true) ∧ Q .normal a w) ∨ (listed.getD last false = false ∧ (∀ i k, i < last → listed.getD i false = true → depB ops i k = true → listed.getD k false = true) ∧ Off D a0 a ∧ G w ∧ (listed.getD p5 false = true → listed.getD p6 false = true → T a w) ∧ ∀ k, k < last → listed.getD k false = true → F k (ag a (ds k)) w))) hm ?_ ?_ ?_
  · have hz : ∀ k, (Array.replicate ops.size false).getD k false = false := fun k => by
      simp only [Array.getD_eq_getD_getElem?, Array.getElem?_replicate]; split <;> rfl
    refine ⟨by simp [hsz], .inr ⟨hz _, fun i k _ h => absurd h (by rw [hz]; simp), Off.refl _ _, h0, fun h => absurd h (by rw [hz]; simp), fun k _ h => absurd h (by rw [hz]; simp)⟩⟩
  · rintro listed a w ⟨hls, h | ⟨h1, _⟩⟩ hr
    · exact h.2.2
    · exfalso
      have hall : ∀ n k, rk k ≤ n → k ≤ last → listed.getD k false = true := by
        intro n
        induction n using Nat.strongRecOn with
        | _ n ih =>
          intro k hkn hk
          cases hb : listed.getD k false with
          | true => rfl
          | false =>
            have := ready_ofR (ops := ops) (listed := listed) (rk := rk) (i := k) (by omega) (by rw [← hb]; exact getD_in (by omega) _ _) (fun j hj hr => ih (rk j) (by omega) j (Nat.le_refl _) (by omega)) hac
            rw [hr] at this
            cases this
      rw [hall (rk last) last (Nat.le_refl _) (Nat.le_refl _)] at h1
      cases h1
  · rintro listed a w i ⟨hls, h⟩ hi
    obtain ⟨hi1, hi2, _⟩ := ready_mem hi
    have hi3 : listed.getD i false = false := by rw [← hi2]; exact getD_in (by omega) _ _
    rcases h with ⟨_, h, _⟩ | ⟨h1, hcl, ho, hg, ht, hf⟩
    · rw [h i (by omega)] at hi3; cases hi3
    · by_cases hil : i = last
      · subst hil
        have hall : ∀ n k, k < i → i ≤ k + n → listed.getD k false = true := by
          intro n
          induction n with
          | zero => intro k h1 h2; omega
          | succ n ih =>
            intro k hk hn
            have hx := List.all_eq_true.1 hnd k (List.mem_range.2 hk)
            obtain ⟨j, hj, hx⟩ := List.any_eq_true.1 hx
            rw [Bool.and_eq_true, decide_eq_true_eq] at hx
            have hj := List.mem_range.1 hj
            by_cases hji : j = i
            · rw [hji] at hx; exact ready_dep hi hx.2
            · exact hcl j k (by omega) (ih j (by omega) (by omega)) hx.2
        have hall2 : ∀ k, k < i → listed.getD k false = true := fun k hk => hall i k hk (by omega)
        refine wpOp_mono (fun a' w' hq => ?_) (hl a w ho hg (ht (hall2 p5 h56.1) (hall2 p6 h56.2.1)) (fun k hk => hf k hk (hall2 k hk)))
        refine ⟨by simp [hls], .inl ⟨?_, ?_, hq⟩⟩
        · rw [getD_set (by omega), if_pos rfl]
        · intro k hk
          rw [getD_set (by omega)]
          split
          · rfl
          · exact hall2 k (by omega)
      · have hil' : i < last := by omega
        refine wpOp_mono ?_ (hs i a w hil' ho hg (fun k hk hd => hf k hk (ready_dep hi hd)))
        rintro a' w' ⟨⟨ho', hk', he, hv, hg'⟩, x5, x6⟩
        have hnd : ∀ k, k < last → k ≠ i → listed.getD k false = true → depB ops k i = false := fun k hk hki hkl => by
          cases hb : depB ops k i with
          | false => rfl
          | true => have := hcl k i hk hkl hb; rw [hi3] at this; cases this
        refine ⟨by simp [hls], .inr ⟨?_, ?_, ho', hg', ?_, ?_⟩⟩
        · rw [getD_set (by omega), if_neg (by omega)]; exact h1
        · intro j k hj hjl hd
          rw [getD_set (by omega)] at hjl ⊢
          split
          · rfl
          · by_cases hji : j = i
            · rw [hji] at hd; exact ready_dep hi hd
            · rw [if_neg hji] at hjl; exact hcl j k hj hjl hd
        · intro hl5 hl6
          rw [getD_set (by omega)] at hl5 hl6
          by_cases h5 : i = p5
          · rw [if_neg (fun e => h56.2.2 (h5.symm.trans e.symm))] at hl6
            exact x5 h5 (hf p6 h56.2.1 hl6)
          · rw [if_neg (fun e => h5 e.symm)] at hl5
            by_cases h6 : i = p6
            · exact x6 h6 (hf p5 h56.1 hl5)
            · rw [if_neg (fun e => h6 e.symm)] at hl6
              exact hT a w a' w' (ht hl5 hl6) (hk' p5 h56.1 (fun e => h5 e.symm) (hnd p5 h56.1 (fun e => h5 e.symm) hl5)) (hk' p6 h56.2.1 (fun e => h6 e.symm) (hnd p6 h56.2.1 (fun e => h6 e.symm) hl6)) (he.imp (fun h => h) (fun h => h.2))
        · intro k hk hkl
          by_cases hki : k = i
          · subst hki; exact hv
          · rw [getD_set (by omega), if_neg hki] at hkl
            rw [hk' k hk hki (by
              cases hb : depB ops k i with
              | false => rfl
              | true => have := hcl k i hk hkl hb; rw [hi3] at this; cases this)]
            exact hF k _ w w' hk (he.imp (fun h => h) (fun h => ⟨fun e => hki (e.trans h.1.symm), h.2⟩)) (hf k hk hkl)
/-- The parts of a value that fits a definition. -/
theorem part_fits {P : List Df} (hS : Snd P) {j : Nat} (hj : j < P.length) {k n : Int} {ks : List Tr} (hf : ft P (.node k n ks) (tD j) = true) :
    (P[j].kind = 0 → k = 2 ∧ ks.length = P[j].slots.length ∧ ∀ (i : Nat) (x : Tr) (s : Sl), ks[i]? = some x → P[j].slots[i]? = some s → ft P x s.ty = true) ∧
    (P[j].kind ≠ 0 → k = 3 ∧ ∃ m : Nat, n = (m : Int) ∧ m < P[j].slots.length ∧ ∀ (i : Nat) (x : Tr) (s : Sl), ks[i]? = some x → P[j].slots[m]? = some s → ft P x s.ty = true) := by
  rw [ft_form, Bool.and_eq_true, Bool.and_eq_true, Bool.and_eq_true, decide_eq_true_eq, hS.shK_ hj, hS.shS_ hj] at hf
  obtain ⟨-, h1, h2, h3⟩ := hf
  constructor
  · intro h0
    rw [if_pos h0] at h1
    subst h1
    unfold hfit at h2
    rw [if_neg (by decide), if_neg (by decide), if_pos rfl] at h2
    simp at h2
    refine ⟨rfl, by omega, fun i x s hx hs => ?_⟩
    have := ftL_get h3 hx
    rw [Nat.zero_add] at this
    have e : kty (tD j) P[j].slots 2 n i = s.ty := by unfold kty; rw [if_pos rfl, hs]; rfl
    rwa [e] at this
  · intro h0
    rw [if_neg h0] at h1
    subst h1
    unfold hfit at h2
    rw [if_neg (by decide), if_neg (by decide), if_neg (by decide), if_pos rfl] at h2
    simp at h2
    refine ⟨rfl, n.toNat, by omega, by omega, fun i x s hx hs => ?_⟩
    have := ftL_get h3 hx
    rw [Nat.zero_add] at this
    have e : kty (tD j) P[j].slots 3 n i = s.ty := by unfold kty; rw [if_neg (by decide), if_pos rfl, hs]; rfl
    rwa [e] at this

/-! ### Region 2. -/
def fl2 (gP gd0 o jd n cap : Nat) (mv : Value) (C : List Value) (wh : Int) (S : Nat) : Nat → Value → World → Prop
  | 0, v, w => v = .pointer (some ⟨gP, 1, none⟩)
  | 1, v, w => v = .slice (some ⟨gd0, o, none⟩) n cap
  | 2, v, w => v = .int .i64 wh
  | 3, v, w => v = .pointer (some ⟨gP, 1, none⟩)
  | 4, v, w => v = .slice (some ⟨gd0, o, none⟩) n cap
  | 5, v, w => v = .int .i64 (n : Int)
  | 6, v, w => v = .int .i64 (jd : Int)
  | 7, v, w => v = .pointer (some ⟨gd0, o + jd * 31, none⟩)
  | 8, v, w => v = .agg (C : List Value).toArray
  | 9, v, w => ∃ gd, v = .pointer (some ⟨gd, 0, none⟩) ∧ S ≤ gd ∧ Arr w gd 31 46 z31
  | _, _, _ => True
theorem fl2_ext (gP gd0 o jd n cap : Nat) (mv : Value) (C : List Value) (wh : Int) (S : Nat) : ∀ j v w w', j < 10 → (Ext S w w' ∨ (j ≠ 999 ∧ Never w w')) → fl2 gP gd0 o jd n cap mv C wh S j v w → fl2 gP gd0 o jd n cap mv C wh S j v w' := by
  intro j v w w' hj he h
  match j, hj, he, h with
  | 0, _, he, h => exact h
  | 1, _, he, h => exact h
  | 2, _, he, h => exact h
  | 3, _, he, h => exact h
  | 4, _, he, h => exact h
  | 5, _, he, h => exact h
  | 6, _, he, h => exact h
  | 7, _, he, h => exact h
  | 8, _, he, h => exact h
  | 9, _, he, h => 
    obtain ⟨gd, e1, e2, e3⟩ := h
    rcases he with he | ⟨_, hn⟩
    · exact ⟨gd, e1, e2, e3.ext he e2⟩
    · exact absurd hn id
  | n + 10, hn, _, _ => exact absurd hn (by omega)
def Dl2 : List Nat := [22, 23, 24, 25, 26, 27, 28, 29, 30, 10]
def dl2 (k : Nat) : Nat := [22, 23, 24, 25, 26, 27, 28, 29, 30, 10].getD k 0
theorem dl2_mem : ∀ k, k < 10 → dl2 k < 127 ∧ dl2 k ∈ Dl2 := by decide
theorem dl2_inj : ∀ i, i < 10 → ∀ k, k < 10 → k ≠ i → dl2 i ≠ dl2 k := by decide

set_option maxHeartbeats 2000000 in
set_option maxRecDepth 100000 in
theorem regl2 {Q : Exit → Act → World → Prop} {id : Nat} {ops : Array Oper} (hops : ops = ((Tryd.f9.body).bind (opsOf 2)).getD #[]) (a0 : Act) (w0 : World) (gP gd0 o jd n cap : Nat) (mv : Value) (C : List Value) (wh : Int) (hsz : a0.tmps.size = 127)
    (h9 : ag a0 9 = .pointer (some ⟨gP, 0, none⟩)) (h2 : ag a0 2 = .int .i64 wh) (hP : Arr w0 gP 2 26 [mv, (.slice (some ⟨gd0, o, none⟩) n cap)]) (hn0 : 0 < n) (hn4 : n ≤ 4) (hjd : ar wh n = jd) (hw : i64r wh) (hC : w0.rangeAt gd0 (o + jd * 31) C) (hCl : C.length = 31) (hC1 : ∀ u ∈ C, u.oneCell' = true)
    (hQ : ∀ (vs : Nat → Value) (w' : World) (gd : Nat), vs 10 = .pointer (some ⟨gd, 0, none⟩) → w0.heap.size ≤ gd → Arr w' gd 31 46 C → Below w0.heap.size w0 w' → ∀ a', a' = Dl2.foldl (fun b s => b.put (some s) (vs s)) a0 → Q .normal a' w') :
    (Code.region id ops true).wp Tryd.prog Q a0 w0 := by
  have hg0 : Below w0.heap.size w0 w0.drew := below_drewN (Below.refl _ _) 1
  have hlt : ∀ k, k < 10 → dl2 k < a0.tmps.size := fun k hk => by have := (dl2_mem k hk).1; omega
  refine wp_region_factsE 10 999 Dl2 dl2 (fl2 gP gd0 o jd n cap mv C wh w0.heap.size) (fun w => Below w0.heap.size w0 w) w0.heap.size Never (fun k => k) (by kernel_rfl) (by subst hops; kernel_rfl) (by subst hops; kernel_rfl) (by subst hops; kernel_rfl) (fl2_ext gP gd0 o jd n cap mv C wh w0.heap.size) hg0 ?_ ?_
  · intro j a w hj ho hg hd
    have hgs := hg.size
    match j, hj, hd with
    | 0, hk, hd =>
      have s : (ops[0]?).map sig = some (some 22, .fieldAddr 26 (.tmp 9) 1, 0, none) := by subst hops; kernel_rfl
      have hgd : GdOk ops a none := trivial
      have e : ag a 9 = _ := (ho.off 9 (by decide)).trans h9
      refine op_valg s hgd (w' := w) (v := .pointer (some ⟨gP, 1, none⟩)) ?_ ?_
      · simp only [execOp, eval_tmp, e]
        go_simp
      · exact PostE.put (i := 0) ho (dl2_mem 0 hk).2 (hlt 0 hk) (fun k hk2 hne _ => dl2_inj 0 hk k hk2 hne) (.inl (Ext.refl _ _)) rfl hg
    | 1, hk, hd =>
      have s : (ops[1]?).map sig = some (some 23, .load 24 (.tmp 22), 24, none) := by subst hops; kernel_rfl
      have hgd : GdOk ops a none := trivial
      have d0 := hd 0 (by decide) (by subst hops; kernel_rfl)
      have e : ag a 22 = _ := d0
      have hc := (hP.later hg).cell (j := 1) (v := (.slice (some ⟨gd0, o, none⟩) n cap)) rfl
      refine op_valg s hgd (w' := w) (v := .slice (some ⟨gd0, o, none⟩) n cap) ?_ ?_
      · simp only [execOp, eval_tmp, e]
        go_simp
      · exact PostE.put (i := 1) ho (dl2_mem 1 hk).2 (hlt 1 hk) (fun k hk2 hne _ => dl2_inj 1 hk k hk2 hne) (.inl (Ext.refl _ _)) rfl hg
    | 2, hk, hd =>
      have s : (ops[2]?).map sig = some (some 24, .move (.tmp 2), 3, none) := by subst hops; kernel_rfl
      have hgd : GdOk ops a none := trivial
      have e : ag a 2 = .int .i64 wh := (ho.off 2 (by decide)).trans h2
      refine op_valg s hgd (w' := w) (v := .int .i64 wh) ?_ ?_
      · exact congrArg (fun x => Result.ok (Next.value x) w) e
      · exact PostE.put (i := 2) ho (dl2_mem 2 hk).2 (hlt 2 hk) (fun k hk2 hne _ => dl2_inj 2 hk k hk2 hne) (.inl (Ext.refl _ _)) rfl hg
    | 3, hk, hd =>
      have s : (ops[3]?).map sig = some (some 25, .fieldAddr 26 (.tmp 9) 1, 0, none) := by subst hops; kernel_rfl
      have hgd : GdOk ops a none := trivial
      have e : ag a 9 = _ := (ho.off 9 (by decide)).trans h9
      refine op_valg s hgd (w' := w) (v := .pointer (some ⟨gP, 1, none⟩)) ?_ ?_
      · simp only [execOp, eval_tmp, e]
        go_simp
      · exact PostE.put (i := 3) ho (dl2_mem 3 hk).2 (hlt 3 hk) (fun k hk2 hne _ => dl2_inj 3 hk k hk2 hne) (.inl (Ext.refl _ _)) rfl hg
    | 4, hk, hd =>
      have s : (ops[4]?).map sig = some (some 26, .load 24 (.tmp 25), 24, none) := by subst hops; kernel_rfl
      have hgd : GdOk ops a none := trivial
      have d3 := hd 3 (by decide) (by subst hops; kernel_rfl)
      have e : ag a 25 = _ := d3
      have hc := (hP.later hg).cell (j := 1) (v := (.slice (some ⟨gd0, o, none⟩) n cap)) rfl
      refine op_valg s hgd (w' := w) (v := .slice (some ⟨gd0, o, none⟩) n cap) ?_ ?_
      · simp only [execOp, eval_tmp, e]
        go_simp
      · exact PostE.put (i := 4) ho (dl2_mem 4 hk).2 (hlt 4 hk) (fun k hk2 hne _ => dl2_inj 4 hk k hk2 hne) (.inl (Ext.refl _ _)) rfl hg
    | 5, hk, hd =>
      have s : (ops[5]?).map sig = some (some 27, .call { callee := .builtin .len, args := #[.tmp 26], argTypes := #[24] }, 3, none) := by subst hops; kernel_rfl
      have hgd : GdOk ops a none := trivial
      have d4 := hd 4 (by decide) (by subst hops; kernel_rfl)
      have e : ag a 26 = (.slice (some ⟨gd0, o, none⟩) n cap) := d4
      refine op_valg s hgd (w' := w) (v := .int .i64 (n : Int)) ?_ ?_
      · simp only [execOp]
        go_simp
        rw [show a.tmps[26]?.getD undef = (.slice (some ⟨gd0, o, none⟩) n cap) by simpa [ag] using e]
        go_simp
      · exact PostE.put (i := 5) ho (dl2_mem 5 hk).2 (hlt 5 hk) (fun k hk2 hne _ => dl2_inj 5 hk k hk2 hne) (.inl (Ext.refl _ _)) rfl hg
    | 6, hk, hd =>
      have s : (ops[6]?).map sig = some (some 28, .call { callee := .value (.func 12), args := #[.tmp 24, .tmp 27], argTypes := #[3, 3] }, 3, none) := by subst hops; kernel_rfl
      have hgd : GdOk ops a none := trivial
      have d2 := hd 2 (by decide) (by subst hops; kernel_rfl)
      have d5 := hd 5 (by decide) (by subst hops; kernel_rfl)
      have e0 : ag a 24 = .int .i64 wh := d2
      have e1 : ag a 27 = .int .i64 (n : Int) := d5
      refine op_callg s hgd (w' := w) (f := 12) (args := #[.int .i64 wh, .int .i64 (n : Int)]) ?_ ?_
      · simp only [execOp]
        go_simp
        refine ⟨by simpa [ag] using e0, by simpa [ag] using e1⟩
      · refine ((show Calls Tryd.prog _ _ w (fun e w' => e = .returned (.int .i64 (jd : Int)) ∧ w' = w) from hjd ▸ Around_any wh n hn0 (by omega) hw w)).mono ?_
        rintro e w' ⟨rfl, rfl⟩
        exact ⟨_, rfl, PostE.put (i := 6) ho (dl2_mem 6 hk).2 (hlt 6 hk) (fun k hk2 hne _ => dl2_inj 6 hk k hk2 hne) (.inl (Ext.refl _ _)) rfl hg⟩
    | 7, hk, hd =>
      have s : (ops[7]?).map sig = some (some 29, .indexAddr 24 (.tmp 23) (.tmp 28), 0, none) := by subst hops; kernel_rfl
      have hgd : GdOk ops a none := trivial
      have d1 := hd 1 (by decide) (by subst hops; kernel_rfl)
      have d6 := hd 6 (by decide) (by subst hops; kernel_rfl)
      have e1 : ag a 23 = (.slice (some ⟨gd0, o, none⟩) n cap) := d1
      have e6 : ag a 28 = .int .i64 (jd : Int) := d6
      have hjn : (jd : Int) < (n : Int) := by have := ar_lt wh n hn0; omega
      have hj0 : (0 : Int) ≤ (jd : Int) := by omega
      refine op_valg s hgd (w' := w) (v := .pointer (some ⟨gd0, o + jd * 31, none⟩)) ?_ ?_
      · simp only [execOp, eval_tmp, e1, e6]
        go_simp
      · exact PostE.put (i := 7) ho (dl2_mem 7 hk).2 (hlt 7 hk) (fun k hk2 hne _ => dl2_inj 7 hk k hk2 hne) (.inl (Ext.refl _ _)) rfl hg
    | 8, hk, hd =>
      have s : (ops[8]?).map sig = some (some 30, .load 46 (.tmp 29), 46, none) := by subst hops; kernel_rfl
      have hgd : GdOk ops a none := trivial
      have d7 := hd 7 (by decide) (by subst hops; kernel_rfl)
      have e : a.eval (.tmp 29) = .pointer (some ⟨gd0, o + jd * 31, none⟩) := d7
      refine op_loadg s hgd gd0 (o + jd * 31) e C _ (range_below hC hg) Tryd.underlying46 rfl (by rw [hCl]; exact info_def) ?_
      exact PostE.put (i := 8) ho (dl2_mem 8 hk).2 (hlt 8 hk) (fun k hk2 hne _ => dl2_inj 8 hk k hk2 hne) (.inl (Ext.refl _ _)) rfl hg
    | 9, hk, hd =>
      have s : (ops[9]?).map sig = some (some 10, .alloc 46, 0, none) := by subst hops; kernel_rfl
      have hgd : GdOk ops a none := trivial
      refine op_valg s hgd (w' := w.alloc (.cells z31.toArray 46)) (v := .pointer (some ⟨w.heap.size, 0, none⟩)) ?_ ?_
      · simp only [execOp]
        go_simp
        rfl
      · exact PostE.put (i := 9) ho (dl2_mem 9 hk).2 (hlt 9 hk) (fun k hk2 hne _ => dl2_inj 9 hk k hk2 hne) (.inl (Ext.of (new_later w _))) ⟨_, rfl, hgs, z31_new w⟩ (later hg (new_later w _))
    | n + 10, hn, _ => exact absurd hn (by omega)
  · intro a w ho hg hf
    have s : (ops[10]?).map sig = some (none, .store 46 (.tmp 10) (.tmp 30), 0, none) := by subst hops; kernel_rfl
    have hgd : GdOk ops a none := trivial
    obtain ⟨gd, e10, hgS, hA⟩ := hf 9 (by decide)
    have e10 : ag a 10 = _ := e10
    have e30 : ag a 30 = .agg C.toArray := hf 8 (by decide)
    refine wpOp_ofg s hgd fun o h1 h2 h3 => ?_
    refine wp_store_mid _ _ _ h2 gd 0 C.toArray e10 e30 (hA.thereAt (by rw [List.size_toArray, hCl]; exact Nat.le_refl _)) (by rw [List.size_toArray, hCl]; exact info_def) (all_oneCell_toArray hC1) ?_
    rw [h1]
    have hA2 := hA.setCells (o := 0) C
    rw [setAll_all z31 C (by rw [hCl]; rfl)] at hA2
    exact hQ (ag a) _ gd e10 hgS hA2 (below_setCells _ 0 w hg hgS) _ (ho.eq (fun s hs => by rw [hsz]; revert s; decide))

def Tie3 (jd : Nat) (P : List Df) (S : Nat) (a : Act) (w : World) : Prop := ∃ (gd : Nat) (x : Tr) (xk xn : Int) (xA : Option Addr) (xl xc : Nat), ag a 11 = .pointer (some ⟨gd, 0, none⟩) ∧ S ≤ gd ∧ Arr w gd 3 53 zc3 ∧ ag a 36 = .agg #[.int .i64 xk, .int .i64 xn, .slice xA xl xc] ∧ TrF (fun g => S ≤ g ∧ g ≠ gd) w x (.agg #[.int .i64 xk, .int .i64 xn, .slice xA xl xc]) ∧ (ft P x (tD jd) = true ∧ x.nodes ≤ 256 ∧ x.dep ≤ 10)
theorem Tie3.ext {jd : Nat} {P : List Df} {S : Nat} : ∀ a w a' w', Tie3 jd P S a w → ag a' 36 = ag a 36 → ag a' 11 = ag a 11 → (Ext S w w' ∨ Never w w') → Tie3 jd P S a' w' := by
  rintro a w a' w' ⟨gd, x, xk, xn, xA, xl, xc, h1, h2, h3, h4, h5, h6⟩ e1 e2 he
  rcases he with he | he
  · exact ⟨gd, x, xk, xn, xA, xl, xc, e2.trans h1, h2, h3.ext he h2, e1.trans h4, h5.keep (fun _ h => h) (fun g h hl => he.2 g h.1 hl), h6⟩
  · exact absurd he id

/-! ### Region 3. -/
def fl3 (gP gd jd : Nat) (mv dv lv : Value) (C R : List Value) (P : List Df) (S : Nat) : Nat → Value → World → Prop
  | 0, v, w => v = .agg ([mv, dv] : List Value).toArray
  | 1, v, w => v = .pointer (some ⟨gd, 0, none⟩)
  | 2, v, w => v = .agg #[.int .i64 0, .int .i64 1, .int .i64 (1 + (jd : Int))]
  | 3, v, w => v = .agg #[.int .i64 3, .int .i64 0, .int .i64 1, .int .i64 (1 + (jd : Int)), .slice none 0 0]
  | 4, v, w => v = lv
  | 5, v, w => ∃ (x : Tr) (xk xn : Int) (xA : Option Addr) (xl xc : Nat), v = .agg #[.int .i64 xk, .int .i64 xn, .slice xA xl xc] ∧ TrF (S ≤ ·) w x (.agg #[.int .i64 xk, .int .i64 xn, .slice xA xl xc]) ∧ (ft P x (tD jd) = true ∧ x.nodes ≤ 256 ∧ x.dep ≤ 10)
  | 6, v, w => ∃ gd, v = .pointer (some ⟨gd, 0, none⟩) ∧ S ≤ gd ∧ Arr w gd 3 53 zc3
  | _, _, _ => True
theorem fl3_ext (gP gd jd : Nat) (mv dv lv : Value) (C R : List Value) (P : List Df) (S : Nat) : ∀ j v w w', j < 7 → (Ext S w w' ∨ (j ≠ 999 ∧ Never w w')) → fl3 gP gd jd mv dv lv C R P S j v w → fl3 gP gd jd mv dv lv C R P S j v w' := by
  intro j v w w' hj he h
  match j, hj, he, h with
  | 0, _, he, h => exact h
  | 1, _, he, h => exact h
  | 2, _, he, h => exact h
  | 3, _, he, h => exact h
  | 4, _, he, h => exact h
  | 5, _, he, h => 
    obtain ⟨x, xk, xn, xA, xl, xc, e1, e2, e3⟩ := h
    rcases he with he | ⟨_, hn⟩
    · exact ⟨x, xk, xn, xA, xl, xc, e1, e2.keep (fun _ h => h) (fun g h hl => he.2 g h hl), e3⟩
    · exact absurd hn id
  | 6, _, he, h => 
    obtain ⟨gd, e1, e2, e3⟩ := h
    rcases he with he | ⟨_, hn⟩
    · exact ⟨gd, e1, e2, e3.ext he e2⟩
    · exact absurd hn id
  | n + 7, hn, _, _ => exact absurd hn (by omega)
def Dl3 : List Nat := [31, 32, 33, 34, 35, 36, 11]
def dl3 (k : Nat) : Nat := [31, 32, 33, 34, 35, 36, 11].getD k 0
theorem dl3_mem : ∀ k, k < 7 → dl3 k < 127 ∧ dl3 k ∈ Dl3 := by decide
theorem dl3_inj : ∀ i, i < 7 → ∀ k, k < 7 → k ≠ i → dl3 i ≠ dl3 k := by decide

set_option maxHeartbeats 2000000 in
set_option maxRecDepth 100000 in
theorem regl3 {Q : Exit → Act → World → Prop} {id : Nat} {ops : Array Oper} (hops : ops = ((Tryd.f9.body).bind (opsOf 3)).getD #[]) (a0 : Act) (w0 : World) (gP gd jd : Nat) (mv dv lv : Value) (C R : List Value) (P : List Df) (hsz : a0.tmps.size = 127)
    (h9 : ag a0 9 = .pointer (some ⟨gP, 0, none⟩)) (h10 : ag a0 10 = .pointer (some ⟨gd, 0, none⟩)) (h1 : ag a0 1 = lv) (hP : Arr w0 gP 2 26 [mv, dv]) (hD : Arr w0 gd 31 46 C) (hR : C = [.int .i64 0, .int .i64 1, .int .i64 (1 + (jd : Int))] ++ R) (HV : ∀ W, Below w0.heap.size w0 W → Calls Tryd.prog 23 #[.agg #[mv, dv], .agg #[.int .i64 3, .int .i64 0, .int .i64 1, .int .i64 (1 + (jd : Int)), .slice none 0 0], lv] W (VVal P (tD jd) W))
    (hQ : ∀ (vs : Nat → Value) (w' : World) (gv : Nat) (x : Tr) (xk xn : Int) (xA : Option Addr) (xl xc : Nat), vs 11 = .pointer (some ⟨gv, 0, none⟩) → w0.heap.size ≤ gv → Arr w' gv 3 53 [.int .i64 xk, .int .i64 xn, .slice xA xl xc] → TrAt w' x (.agg #[.int .i64 xk, .int .i64 xn, .slice xA xl xc]) → (ft P x (tD jd) = true ∧ x.nodes ≤ 256 ∧ x.dep ≤ 10) → Below w0.heap.size w0 w' → ∀ a', a' = Dl3.foldl (fun b s => b.put (some s) (vs s)) a0 → Q .normal a' w') :
    (Code.region id ops true).wp Tryd.prog Q a0 w0 := by
  have hg0 : Below w0.heap.size w0 w0.drew := below_drewN (Below.refl _ _) 1
  have hlt : ∀ k, k < 7 → dl3 k < a0.tmps.size := fun k hk => by have := (dl3_mem k hk).1; omega
  refine wp_region_factsT 7 999 Dl3 dl3 (fl3 gP gd jd mv dv lv C R P w0.heap.size) (fun w => Below w0.heap.size w0 w) w0.heap.size Never (fun k => k) 5 6 (Tie3 jd P w0.heap.size) ⟨by decide, by decide, by decide⟩ Tie3.ext (by kernel_rfl) (by subst hops; kernel_rfl) (by subst hops; kernel_rfl) (by subst hops; kernel_rfl) (fl3_ext gP gd jd mv dv lv C R P w0.heap.size) hg0 ?_ ?_
  · intro j a w hj ho hg hd
    have hgs := hg.size
    match j, hj, hd with
    | 0, hk, hd =>
      have s : (ops[0]?).map sig = some (some 31, .load 26 (.tmp 9), 26, none) := by subst hops; kernel_rfl
      have hgd : GdOk ops a none := trivial
      have e : a.eval (.tmp 9) = .pointer (some ⟨gP, 0, none⟩) := (ho.off 9 (by decide)).trans h9
      refine op_loadg s hgd gP 0 e [mv, dv] _ ((hP).later hg).range Tryd.underlying26 rfl info_prog ?_
      exact ⟨PostE.put (i := 0) ho (dl3_mem 0 hk).2 (hlt 0 hk) (fun k hk2 hne _ => dl3_inj 0 hk k hk2 hne) (.inl (Ext.refl _ _)) rfl hg, ⟨fun h => absurd h (by decide), fun h => absurd h (by decide)⟩⟩
    | 1, hk, hd =>
      have s : (ops[1]?).map sig = some (some 32, .fieldAddr 46 (.tmp 10) 0, 0, none) := by subst hops; kernel_rfl
      have hgd : GdOk ops a none := trivial
      have e : ag a 10 = _ := (ho.off 10 (by decide)).trans h10
      refine op_valg s hgd (w' := w) (v := .pointer (some ⟨gd, 0, none⟩)) ?_ ?_
      · simp only [execOp, eval_tmp, e]
        go_simp
      · exact ⟨PostE.put (i := 1) ho (dl3_mem 1 hk).2 (hlt 1 hk) (fun k hk2 hne _ => dl3_inj 1 hk k hk2 hne) (.inl (Ext.refl _ _)) rfl hg, ⟨fun h => absurd h (by decide), fun h => absurd h (by decide)⟩⟩
    | 2, hk, hd =>
      have s : (ops[2]?).map sig = some (some 33, .load 28 (.tmp 32), 28, none) := by subst hops; kernel_rfl
      have hgd : GdOk ops a none := trivial
      have d1 := hd 1 (by decide) (by subst hops; kernel_rfl)
      have e : a.eval (.tmp 32) = .pointer (some ⟨gd, 0, none⟩) := d1
      refine op_loadg s hgd gd 0 e [.int .i64 0, .int .i64 1, .int .i64 (1 + (jd : Int))] _ (range_left (ys := R) (by have := (hD.later hg).range; rwa [hR] at this)) Tryd.underlying28 rfl info_id ?_
      exact ⟨PostE.put (i := 2) ho (dl3_mem 2 hk).2 (hlt 2 hk) (fun k hk2 hne _ => dl3_inj 2 hk k hk2 hne) (.inl (Ext.refl _ _)) rfl hg, ⟨fun h => absurd h (by decide), fun h => absurd h (by decide)⟩⟩
    | 3, hk, hd =>
      have s : (ops[3]?).map sig = some (some 34, .call { callee := .value (.func 14), args := #[.tmp 33], argTypes := #[28] }, 31, none) := by subst hops; kernel_rfl
      have hgd : GdOk ops a none := trivial
      have d2 := hd 2 (by decide) (by subst hops; kernel_rfl)
      have e0 : ag a 33 = .agg #[.int .i64 0, .int .i64 1, .int .i64 (1 + (jd : Int))] := d2
      refine op_callg s hgd (w' := w) (f := 14) (args := #[.agg #[.int .i64 0, .int .i64 1, .int .i64 (1 + (jd : Int))]]) ?_ ?_
      · simp only [execOp]
        go_simp
        simpa [ag] using e0
      · refine (Of_any 0 1 (1 + (jd : Int)) w).mono ?_
        rintro e w' ⟨rfl, hb⟩
        exact ⟨_, rfl, PostE.put (i := 3) ho (dl3_mem 3 hk).2 (hlt 3 hk) (fun k hk2 hne _ => dl3_inj 3 hk k hk2 hne) (.inl (Ext.of hb)) rfl (later hg hb), ⟨fun h => absurd h (by decide), fun h => absurd h (by decide)⟩⟩
    | 4, hk, hd =>
      have s : (ops[4]?).map sig = some (some 35, .move (.tmp 1), 22, none) := by subst hops; kernel_rfl
      have hgd : GdOk ops a none := trivial
      have e : ag a 1 = lv := (ho.off 1 (by decide)).trans h1
      refine op_valg s hgd (w' := w) (v := lv) ?_ ?_
      · exact congrArg (fun x => Result.ok (Next.value x) w) e
      · exact ⟨PostE.put (i := 4) ho (dl3_mem 4 hk).2 (hlt 4 hk) (fun k hk2 hne _ => dl3_inj 4 hk k hk2 hne) (.inl (Ext.refl _ _)) rfl hg, ⟨fun h => absurd h (by decide), fun h => absurd h (by decide)⟩⟩
    | 5, hk, hd =>
      have s : (ops[5]?).map sig = some (some 36, .call { callee := .value (.func 23), args := #[.tmp 31, .tmp 34, .tmp 35], argTypes := #[26, 31, 22] }, 53, none) := by subst hops; kernel_rfl
      have hgd : GdOk ops a none := trivial
      have d0 := hd 0 (by decide) (by subst hops; kernel_rfl)
      have d3 := hd 3 (by decide) (by subst hops; kernel_rfl)
      have d4 := hd 4 (by decide) (by subst hops; kernel_rfl)
      have e0 : ag a 31 = .agg #[mv, dv] := d0
      have e1 : ag a 34 = .agg #[.int .i64 3, .int .i64 0, .int .i64 1, .int .i64 (1 + (jd : Int)), .slice none 0 0] := d3
      have e2 : ag a 35 = lv := d4
      refine op_callg s hgd (w' := w) (f := 23) (args := #[.agg #[mv, dv], .agg #[.int .i64 3, .int .i64 0, .int .i64 1, .int .i64 (1 + (jd : Int)), .slice none 0 0], lv]) ?_ ?_
      · simp only [execOp]
        go_simp
        refine ⟨by simpa [ag] using e0, by simpa [ag] using e1, by simpa [ag] using e2⟩
      · refine (HV w hg).mono ?_
        rintro e w' ⟨x, xk, xn, xA, xl, xc, rfl, hT, hF, hb⟩
        refine ⟨_, rfl, PostE.put (i := 5) ho (dl3_mem 5 hk).2 (hlt 5 hk) (fun k hk2 hne _ => dl3_inj 5 hk k hk2 hne) (.inl (Ext.of hb)) ⟨x, xk, xn, xA, xl, xc, rfl, hT.mono (fun g h => Nat.le_trans hgs h), hF⟩ (later hg hb), fun _ h6 => ?_, fun h => absurd h (by decide)⟩
        obtain ⟨gd', e6, h6S, h6A⟩ := h6
        have h6l := h6A.lt
        exact ⟨gd', x, xk, xn, xA, xl, xc, (ag_ne (by decide)).trans e6, h6S, h6A.later hb, ag_put (by rw [ho.size, hsz]; decide), hT.mono (fun g h => ⟨Nat.le_trans hgs h, by omega⟩), hF⟩
    | 6, hk, hd =>
      have s : (ops[6]?).map sig = some (some 11, .alloc 53, 0, none) := by subst hops; kernel_rfl
      have hgd : GdOk ops a none := trivial
      refine op_valg s hgd (w' := w.alloc (.cells zc3.toArray 53)) (v := .pointer (some ⟨w.heap.size, 0, none⟩)) ?_ ?_
      · simp only [execOp]
        go_simp
        rfl
      · refine ⟨PostE.put (i := 6) ho (dl3_mem 6 hk).2 (hlt 6 hk) (fun k hk2 hne _ => dl3_inj 6 hk k hk2 hne) (.inl (Ext.of (new_later w _))) ⟨_, rfl, hgs, Arr.new' w _ _ 3 zc3 rfl rfl (by decide)⟩ (later hg (new_later w _)), fun h => absurd h (by decide), fun _ h5 => ?_⟩
        obtain ⟨x, xk, xn, xA, xl, xc, e5, hT, hF⟩ := h5
        exact ⟨w.heap.size, x, xk, xn, xA, xl, xc, ag_put (by rw [ho.size, hsz]; decide), hgs, Arr.new' w _ _ 3 zc3 rfl rfl (by decide), (ag_ne (by decide)).trans e5, (TrF.both hT hT.at_.old).keep (fun g h => ⟨h.1, by omega⟩) (fun g h _ => (new_later w _).block g h.2), hF⟩
    | n + 7, hn, _ => exact absurd hn (by omega)
  · intro a w ho hg hti hf
    have s : (ops[7]?).map sig = some (none, .store 53 (.tmp 11) (.tmp 36), 0, none) := by subst hops; kernel_rfl
    have hgd : GdOk ops a none := trivial
    obtain ⟨gd', x, xk, xn, xA, xl, xc, e10, hgS, hA, e36, hT, hF⟩ := hti
    refine wpOp_ofg s hgd fun o h1 h2 h3 => ?_
    refine wp_store_mid _ _ _ h2 gd' 0 #[.int .i64 xk, .int .i64 xn, .slice xA xl xc] e10 e36 (hA.thereAt (Nat.le_refl 3)) info_val (all_oneCell_toArray (cs := [.int .i64 xk, .int .i64 xn, .slice xA xl xc]) (List.all_eq_true.mp (by rfl))) ?_
    rw [h1]
    have hA2 := hA.setCells (o := 0) [.int .i64 xk, .int .i64 xn, .slice xA xl xc]
    rw [setAll_all zc3 [.int .i64 xk, .int .i64 xn, .slice xA xl xc] rfl] at hA2
    have hO := Only.setCells gd' 0 [.int .i64 xk, .int .i64 xn, .slice xA xl xc] w
    exact hQ (ag a) _ gd' x xk xn xA xl xc e10 hgS hA2 (hT.keep (fun _ h => h) (fun g h _ => hO.2 g h.2)).at_ hF (below_setCells _ 0 w hg hgS) _ (ho.eq (fun s hs => by rw [hsz]; revert s; decide))
end Go.Proofs.YtjbleefpafnhhaaDoor
