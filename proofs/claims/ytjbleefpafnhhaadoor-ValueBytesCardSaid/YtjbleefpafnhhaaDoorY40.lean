import Derived.Test.YtjbleefpafnhhaaDoorY33
import Derived.Test.YtjbleefpafnhhaaDoorY34
import Derived.Test.YtjbleefpafnhhaaDoorY35
import Derived.Test.YtjbleefpafnhhaaDoorY39

set_option linter.unusedVariables false
set_option linter.unusedSimpArgs false
namespace Go.Proofs.YtjbleefpafnhhaaDoor
open Go.RowKit
theorem eqg_dig : Tryd.prog.eqGuardType Tryd.prog.depth 78 = false := by kernel_rfl
theorem run_eqDig (w : World) (d : List Nat) (h : d.length = 16) : (binOp .eql 78 (.agg (bs d).toArray) (.agg (bs d).toArray)).run Tryd.prog w = .ok (.bool true) w := by
  have e : ∀ l : List Nat, bs l = (l.map Int.ofNat).map (Value.int .u8) := fun l => by simp [bs, U8, List.map_map, Function.comp_def]
  have h2 := run_eqArr (P := Tryd.prog) w 9998 16 78 5 .u8 Tryd.underlying78 Tryd.underlying5 (by have := info_u8; simp only [Option.map_eq_some_iff] at this ⊢; obtain ⟨i, hi, hx⟩ := this; exact ⟨i, hi, by simp at hx; exact hx.2.1⟩) (d.map Int.ofNat) (d.map Int.ofNat) (by simpa using h) (by simpa using h)
  show ((Op.equalIn 10000 78 (.agg (bs d).toArray) (.agg (bs d).toArray)) >>= fun r => pure (Value.bool r)).run Tryd.prog w = _
  rw [Sem.run_bind, e, h2]; simp
theorem wp_eqlArr {P : Program} {o : Oper} {a : Act} {w : World} {K : Act → World → Prop} {Q : Exit → Act → World → Prop} {b : Bool} (ty : TypeId) (x y : Operand) (u : TypeId) (ho : o.op = .binOp .eql ty x y u)
    (X Y : Array Value) (hx : a.eval x = .agg X) (hy : a.eval y = .agg Y) (heg : P.eqGuardType P.depth ty = false) (hrun : (binOp .eql ty (.agg X) (.agg Y)).run P w = .ok (.bool b) w)
    (h : K (a.put o.dst (.bool b)) w) : Oper.wp P o a w K Q := by
  unfold Oper.wp execOp
  simp only [ho, hx, hy, Sem.run_bind, run_eqGuard_agg _ _ _ _ _ _ _ heg, hrun, Result.andThen_ok, Sem.run_pure]
  exact h
theorem OwnB.ext {S : Nat} {w w' : World} {v : Value} {xs : List Nat} (h : OwnB w S v xs) (he : Ext S w w') : OwnB w' S v xs := by
  refine ⟨h.1, ?_⟩
  rcases h.2 with h5 | ⟨g, cap, cur, hv, hg, hh, r⟩
  · exact .inl h5
  · refine .inr ⟨g, cap, cur, hv, hg, ?_, r⟩
    rw [he.2 g hg (Array.getElem?_eq_some_iff.1 hh).1]
    exact hh
def vbf8 (g11 g12 : Nat) (C11 C12 : List Value) (x y : Tr) (c : Int) (q : Bool) : Nat → Value → World → Prop
  | 0, v, w => v = .agg C11.toArray
  | 1, v, w => v = .agg C12.toArray
  | 2, v, w => v = .int .i64 c
  | 3, v, w => v = .bool q
  | _, _, _ => True
theorem vbf8_ext (g11 g12 : Nat) (C11 C12 : List Value) (x y : Tr) (c : Int) (q : Bool) (S : Nat) : ∀ j v w w', j < 4 → (Ext S w w' ∨ (j ≠ 999 ∧ Never w w')) → vbf8 g11 g12 C11 C12 x y c q j v w → vbf8 g11 g12 C11 C12 x y c q j v w' := by
  intro j v w w' hj he h
  match j, hj, he, h with
  | 0, _, he, h => exact h
  | 1, _, he, h => exact h
  | 2, _, he, h => exact h
  | 3, _, he, h => exact h
  | n + 4, hn, _, _ => exact absurd hn (by omega)
def vbD8 : List Nat := [57, 58, 59, 60]
def vbd8 (k : Nat) : Nat := [57, 58, 59, 60].getD k 0
theorem vbd8_mem : ∀ k, k < 4 → vbd8 k < 133 ∧ vbd8 k ∈ vbD8 := by decide
theorem vbd8_inj : ∀ i, i < 4 → ∀ k, k < 4 → k ≠ i → vbd8 i ≠ vbd8 k := by decide
set_option maxHeartbeats 4000000 in
set_option maxRecDepth 100000 in
theorem vbreg8 {Q : Exit → Act → World → Prop} {id : Nat} {ops : Array Oper} (hops : ops = ((Tryd.f8.body).bind (opsOf 8)).getD #[]) (a0 : Act) (w0 : World) (g11 g12 : Nat) (C11 C12 : List Value) (x y : Tr) (c : Int) (q : Bool) (hsz : a0.tmps.size = 133)
    (h11 : ag a0 11 = .pointer (some ⟨g11, 0, none⟩)) (h12 : ag a0 12 = .pointer (some ⟨g12, 0, none⟩)) (v11 : VarAt w0 g11 x C11) (v12 : VarAt w0 g12 y C12) (hc : x.cp y = c) (hq : decide (c = 0) = q) (hq2 : (c == 0) = q)
    (hQ : ∀ (vs : Nat → Value) (w' : World), vs 18 = .bool q → Below w0.heap.size w0 w' → ∀ a', a' = (vbD8 ++ [18]).foldl (fun b s => b.put (some s) (vs s)) a0 → Q .normal a' w') :
    (Code.region id ops false).wp Tryd.prog Q a0 w0 := by
  have hg0 : Below w0.heap.size w0 w0 := Below.refl _ _
  have hlt : ∀ k, k < 4 → vbd8 k < a0.tmps.size := fun k hk => by have := (vbd8_mem k hk).1; omega
  refine wp_region_seqE 4 999 vbD8 vbd8 (vbf8 g11 g12 C11 C12 x y c q) (fun w => Below w0.heap.size w0 w) w0.heap.size Never (by subst hops; kernel_rfl) (by subst hops; kernel_rfl) (vbf8_ext g11 g12 C11 C12 x y c q w0.heap.size) hg0 ?_ ?_
  · intro j a w hj ho hg hd
    have hgs := hg.size
    match j, hj, hd with
    | 0, hk, hd =>
      have s : (ops[0]?).map sig = some (some 57, .load 53 (.tmp 11), 53, none) := by subst hops; kernel_rfl
      have hgd : GdOk ops a none := trivial
      have e0 : ag a 11 = .pointer (some ⟨g11, 0, none⟩) := (ho.off 11 (by decide)).trans h11
      refine op_loadg s hgd g11 0 e0 C11 _ (range_below v11.rg hg) Tryd.underlying53 rfl (by rw [v11.ln]; exact info_val) ?_
      exact PostE.put (i := 0) ho (vbd8_mem 0 hk).2 (hlt 0 hk) (fun k hk2 hne _ => vbd8_inj 0 hk k hk2 hne) (.inl (Ext.refl _ _)) rfl hg
    | 1, hk, hd =>
      have s : (ops[1]?).map sig = some (some 58, .load 53 (.tmp 12), 53, none) := by subst hops; kernel_rfl
      have hgd : GdOk ops a none := trivial
      have e0 : ag a 12 = .pointer (some ⟨g12, 0, none⟩) := (ho.off 12 (by decide)).trans h12
      refine op_loadg s hgd g12 0 e0 C12 _ (range_below v12.rg hg) Tryd.underlying53 rfl (by rw [v12.ln]; exact info_val) ?_
      exact PostE.put (i := 1) ho (vbd8_mem 1 hk).2 (hlt 1 hk) (fun k hk2 hne _ => vbd8_inj 1 hk k hk2 hne) (.inl (Ext.refl _ _)) rfl hg
    | 2, hk, hd =>
      have s : (ops[2]?).map sig = some (some 59, .call { callee := .value (.func 32), args := #[.tmp 57, .tmp 58], argTypes := #[53, 53] }, 3, none) := by subst hops; kernel_rfl
      have hgd : GdOk ops a none := trivial
      have d0 := hd 0 (by decide) (by subst hops; kernel_rfl)
      have d1 := hd 1 (by decide) (by subst hops; kernel_rfl)
      have e0 : ag a 57 = .agg C11.toArray := d0
      have e1 : ag a 58 = .agg C12.toArray := d1
      refine op_callg s hgd (w' := w) (f := 32) (args := #[.agg C11.toArray, .agg C12.toArray]) ?_ ?_
      · simp only [execOp]
        go_simp
        refine ⟨by simpa [ag] using e0, by simpa [ag] using e1⟩
      · refine ((show Calls Tryd.prog _ _ w (NumRes c w) from hc ▸ compare_any x.nodes x (Nat.le_refl _) y w _ _ (v11.later hg).tr (v12.later hg).tr)).mono ?_
        rintro e w' ⟨rfl, hb⟩
        exact ⟨_, rfl, PostE.put (i := 2) ho (vbd8_mem 2 hk).2 (hlt 2 hk) (fun k hk2 hne _ => vbd8_inj 2 hk k hk2 hne) (.inl (Ext.of hb)) rfl (later hg hb)⟩
    | 3, hk, hd =>
      have s : (ops[3]?).map sig = some (some 60, .binOp .eql 3 (.tmp 59) (.const (.int .i64 0)) 3, 4, none) := by subst hops; kernel_rfl
      have hgd : GdOk ops a none := trivial
      have d2 := hd 2 (by decide) (by subst hops; kernel_rfl)
      have e0 : ag a 59 = .int .i64 c := d2
      refine op_valg s hgd (w' := w) (v := .bool q) ?_ ?_
      · simp only [execOp, eval_tmp, e0]
        go_simp
      · exact PostE.put (i := 3) ho (vbd8_mem 3 hk).2 (hlt 3 hk) (fun k hk2 hne _ => vbd8_inj 3 hk k hk2 hne) (.inl (Ext.refl _ _)) rfl hg
    | n + 4, hn, _ => exact absurd hn (by omega)
  · intro a w ho hg hf
    have s : (ops[4]?).map sig = some (some 18, .assign (.tmp 60), 4, none) := by subst hops; kernel_rfl
    have hgd : GdOk ops a none := trivial
    have d3 := hf 3 (by decide)
    have e0 : ag a 60 = .bool q := d3
    refine op_valg s hgd (w' := w) (v := .bool q) ?_ ?_
    · exact congrArg (fun x => Result.ok (Next.value x) w) e0
    · have ho2 : Off (vbD8 ++ [18]) a0 (a.put (some 18) (.bool q)) := (ho.mono (fun s hs => List.mem_append_left _ hs)).put (by decide)
      exact hQ (ag (a.put (some 18) (.bool q))) w (ag_put (by rw [ho.size, hsz]; decide)) hg _ (ho2.eq (fun s hs => by rw [hsz]; revert s; decide))
def vbf9 (g11 g15 : Nat) (C11 C15 : List Value) (x : Tr) (q : Bool) (la lb ca cb : Nat) (Aa Ab : Option Addr) (SA SB : ByteArray) : Nat → Value → World → Prop
  | 0, v, w => v = .int .i64 0
  | 1, v, w => v = .bool false
  | 2, v, w => v = .bool false
  | 3, v, w => v = .int .i64 (la : Int)
  | 4, v, w => v = .slice Aa la ca
  | 5, v, w => v = .int .i64 (la : Int)
  | 6, v, w => v = .bool false
  | 7, v, w => v = .bool false
  | 8, v, w => v = .bool false
  | 9, v, w => v = .agg C15.toArray
  | 10, v, w => v = .agg C11.toArray
  | 11, v, w => v = .int .i64 0
  | 12, v, w => v = .bool false
  | 13, v, w => v = .bool false
  | 14, v, w => v = .bool false
  | 15, v, w => v = .slice Aa la ca
  | 16, v, w => v = .string SA
  | 17, v, w => v = .slice Ab lb cb
  | 18, v, w => v = .string SB
  | 19, v, w => v = .bool q
  | 20, v, w => v = .bool q
  | 21, v, w => v = .bool false
  | _, _, _ => True
theorem vbf9_ext (g11 g15 : Nat) (C11 C15 : List Value) (x : Tr) (q : Bool) (la lb ca cb : Nat) (Aa Ab : Option Addr) (SA SB : ByteArray) (S : Nat) : ∀ j v w w', j < 22 → (Ext S w w' ∨ (j ≠ 999 ∧ Never w w')) → vbf9 g11 g15 C11 C15 x q la lb ca cb Aa Ab SA SB j v w → vbf9 g11 g15 C11 C15 x q la lb ca cb Aa Ab SA SB j v w' := by
  intro j v w w' hj he h
  match j, hj, he, h with
  | 0, _, he, h => exact h
  | 1, _, he, h => exact h
  | 2, _, he, h => exact h
  | 3, _, he, h => exact h
  | 4, _, he, h => exact h
  | 5, _, he, h => exact h
  | 6, _, he, h => exact h
  | 7, _, he, h => exact h
  | 8, _, he, h => exact h
  | 9, _, he, h => exact h
  | 10, _, he, h => exact h
  | 11, _, he, h => exact h
  | 12, _, he, h => exact h
  | 13, _, he, h => exact h
  | 14, _, he, h => exact h
  | 15, _, he, h => exact h
  | 16, _, he, h => exact h
  | 17, _, he, h => exact h
  | 18, _, he, h => exact h
  | 19, _, he, h => exact h
  | 20, _, he, h => exact h
  | 21, _, he, h => exact h
  | n + 22, hn, _, _ => exact absurd hn (by omega)
def vbD9 : List Nat := [61, 62, 63, 64, 65, 66, 67, 68, 69, 70, 71, 72, 73, 74, 75, 76, 77, 78, 79, 80, 81, 82]
def vbd9 (k : Nat) : Nat := [61, 62, 63, 64, 65, 66, 67, 68, 69, 70, 71, 72, 73, 74, 75, 76, 77, 78, 79, 80, 81, 82].getD k 0
theorem vbd9_mem : ∀ k, k < 22 → vbd9 k < 133 ∧ vbd9 k ∈ vbD9 := by decide
theorem vbd9_inj : ∀ i, i < 22 → ∀ k, k < 22 → k ≠ i → vbd9 i ≠ vbd9 k := by decide
set_option maxHeartbeats 4000000 in
set_option maxRecDepth 100000 in
theorem vbreg9 {Q : Exit → Act → World → Prop} {id : Nat} {ops : Array Oper} (hops : ops = ((Tryd.f8.body).bind (opsOf 9)).getD #[]) (a0 : Act) (w0 : World) (g11 g15 : Nat) (C11 C15 : List Value) (x : Tr) (q : Bool) (la lb ca cb : Nat) (Aa Ab : Option Addr) (SA SB : ByteArray) (hsz : a0.tmps.size = 133)
    (h11 : ag a0 11 = .pointer (some ⟨g11, 0, none⟩)) (h15 : ag a0 15 = .pointer (some ⟨g15, 0, none⟩)) (h13 : ag a0 13 = .slice Aa la ca) (h14 : ag a0 14 = .slice Ab lb cb) (h16 : ag a0 16 = .int .i64 (la : Int)) (h17 : ag a0 17 = .int .i64 0) (h18 : ag a0 18 = .bool q) (v11 : VarAt w0 g11 x C11) (v15 : VarAt w0 g15 x C15) (hc : x.cp x = 0) (hA : ∀ W, Below w0.heap.size w0 W → (convert 69 9 (.slice Aa la ca)).run Tryd.prog W = .ok (.string SA) W) (hB : ∀ W, Below w0.heap.size w0 W → (convert 69 9 (.slice Ab lb cb)).run Tryd.prog W = .ok (.string SB) W) (hq : (SA.toList == SB.toList) = q)
    (hQ : ∀ (vs : Nat → Value) (w' : World), vs 83 = .bool false → Below w0.heap.size w0 w' → ∀ a', a' = (vbD9 ++ [83]).foldl (fun b s => b.put (some s) (vs s)) a0 → Q .normal a' w') :
    (Code.region id ops false).wp Tryd.prog Q a0 w0 := by
  have hg0 : Below w0.heap.size w0 w0 := Below.refl _ _
  have hlt : ∀ k, k < 22 → vbd9 k < a0.tmps.size := fun k hk => by have := (vbd9_mem k hk).1; omega
  refine wp_region_seqE 22 999 vbD9 vbd9 (vbf9 g11 g15 C11 C15 x q la lb ca cb Aa Ab SA SB) (fun w => Below w0.heap.size w0 w) w0.heap.size Never (by subst hops; kernel_rfl) (by subst hops; kernel_rfl) (vbf9_ext g11 g15 C11 C15 x q la lb ca cb Aa Ab SA SB w0.heap.size) hg0 ?_ ?_
  · intro j a w hj ho hg hd
    have hgs := hg.size
    match j, hj, hd with
    | 0, hk, hd =>
      have s : (ops[0]?).map sig = some (some 61, .move (.tmp 17), 62, none) := by subst hops; kernel_rfl
      have hgd : GdOk ops a none := trivial
      have e0 : ag a 17 = .int .i64 0 := (ho.off 17 (by decide)).trans h17
      refine op_valg s hgd (w' := w) (v := .int .i64 0) ?_ ?_
      · exact congrArg (fun x => Result.ok (Next.value x) w) e0
      · exact PostE.put (i := 0) ho (vbd9_mem 0 hk).2 (hlt 0 hk) (fun k hk2 hne _ => vbd9_inj 0 hk k hk2 hne) (.inl (Ext.refl _ _)) rfl hg
    | 1, hk, hd =>
      have s : (ops[1]?).map sig = some (some 62, .binOp .neq 62 (.tmp 61) (.const (.int .i64 0)) 62, 4, none) := by subst hops; kernel_rfl
      have hgd : GdOk ops a none := trivial
      have d0 := hd 0 (by decide) (by subst hops; kernel_rfl)
      have e0 : ag a 61 = .int .i64 0 := d0
      refine op_valg s hgd (w' := w) (v := .bool false) ?_ ?_
      · simp only [execOp, eval_tmp, e0]
        go_simp
      · exact PostE.put (i := 1) ho (vbd9_mem 1 hk).2 (hlt 1 hk) (fun k hk2 hne _ => vbd9_inj 1 hk k hk2 hne) (.inl (Ext.refl _ _)) rfl hg
    | 2, hk, hd =>
      have s : (ops[2]?).map sig = some (some 63, .move (.tmp 62), 4, none) := by subst hops; kernel_rfl
      have hgd : GdOk ops a none := trivial
      have d1 := hd 1 (by decide) (by subst hops; kernel_rfl)
      have e0 : ag a 62 = .bool false := d1
      refine op_valg s hgd (w' := w) (v := .bool false) ?_ ?_
      · exact congrArg (fun x => Result.ok (Next.value x) w) e0
      · exact PostE.put (i := 2) ho (vbd9_mem 2 hk).2 (hlt 2 hk) (fun k hk2 hne _ => vbd9_inj 2 hk k hk2 hne) (.inl (Ext.refl _ _)) rfl hg
    | 3, hk, hd =>
      have s : (ops[3]?).map sig = some (some 64, .move (.tmp 16), 3, some (2, false)) := by subst hops; kernel_rfl
      have hgd : GdOk ops a (some (2, false)) := yielded_of (d := 63) (by subst hops; kernel_rfl) (hd 2 (by decide) (by subst hops; kernel_rfl))
      have e0 : ag a 16 = .int .i64 (la : Int) := (ho.off 16 (by decide)).trans h16
      refine op_valg s hgd (w' := w) (v := .int .i64 (la : Int)) ?_ ?_
      · exact congrArg (fun x => Result.ok (Next.value x) w) e0
      · exact PostE.put (i := 3) ho (vbd9_mem 3 hk).2 (hlt 3 hk) (fun k hk2 hne _ => vbd9_inj 3 hk k hk2 hne) (.inl (Ext.refl _ _)) rfl hg
    | 4, hk, hd =>
      have s : (ops[4]?).map sig = some (some 65, .move (.tmp 13), 69, some (2, false)) := by subst hops; kernel_rfl
      have hgd : GdOk ops a (some (2, false)) := yielded_of (d := 63) (by subst hops; kernel_rfl) (hd 2 (by decide) (by subst hops; kernel_rfl))
      have e0 : ag a 13 = .slice Aa la ca := (ho.off 13 (by decide)).trans h13
      refine op_valg s hgd (w' := w) (v := .slice Aa la ca) ?_ ?_
      · exact congrArg (fun x => Result.ok (Next.value x) w) e0
      · exact PostE.put (i := 4) ho (vbd9_mem 4 hk).2 (hlt 4 hk) (fun k hk2 hne _ => vbd9_inj 4 hk k hk2 hne) (.inl (Ext.refl _ _)) rfl hg
    | 5, hk, hd =>
      have s : (ops[5]?).map sig = some (some 66, .call { callee := .builtin .len, args := #[.tmp 65], argTypes := #[69] }, 3, some (2, false)) := by subst hops; kernel_rfl
      have hgd : GdOk ops a (some (2, false)) := yielded_of (d := 63) (by subst hops; kernel_rfl) (hd 2 (by decide) (by subst hops; kernel_rfl))
      have d4 := hd 4 (by decide) (by subst hops; kernel_rfl)
      have e0 : ag a 65 = .slice Aa la ca := d4
      refine op_valg s hgd (w' := w) (v := .int .i64 (la : Int)) ?_ ?_
      · simp only [execOp]
        go_simp
        rw [show a.tmps[65]?.getD undef = (.slice Aa la ca) by simpa [ag] using e0]
        go_simp
      · exact PostE.put (i := 5) ho (vbd9_mem 5 hk).2 (hlt 5 hk) (fun k hk2 hne _ => vbd9_inj 5 hk k hk2 hne) (.inl (Ext.refl _ _)) rfl hg
    | 6, hk, hd =>
      have s : (ops[6]?).map sig = some (some 67, .binOp .neq 3 (.tmp 64) (.tmp 66) 3, 4, some (2, false)) := by subst hops; kernel_rfl
      have hgd : GdOk ops a (some (2, false)) := yielded_of (d := 63) (by subst hops; kernel_rfl) (hd 2 (by decide) (by subst hops; kernel_rfl))
      have d3 := hd 3 (by decide) (by subst hops; kernel_rfl)
      have d5 := hd 5 (by decide) (by subst hops; kernel_rfl)
      have e0 : ag a 64 = .int .i64 (la : Int) := d3
      have e1 : ag a 66 = .int .i64 (la : Int) := d5
      refine op_valg s hgd (w' := w) (v := .bool false) ?_ ?_
      · simp only [execOp, eval_tmp, e0, e1]
        go_simp
      · exact PostE.put (i := 6) ho (vbd9_mem 6 hk).2 (hlt 6 hk) (fun k hk2 hne _ => vbd9_inj 6 hk k hk2 hne) (.inl (Ext.refl _ _)) rfl hg
    | 7, hk, hd =>
      have s : (ops[7]?).map sig = some (some 68, .pick (.tmp 63) (.const (.bool true)) (.tmp 67), 4, none) := by subst hops; kernel_rfl
      have hgd : GdOk ops a none := trivial
      have d2 := hd 2 (by decide) (by subst hops; kernel_rfl)
      have d6 := hd 6 (by decide) (by subst hops; kernel_rfl)
      have e0 : ag a 63 = .bool false := d2
      have e1 : ag a 67 = .bool false := d6
      refine op_valg s hgd (w' := w) (v := .bool false) ?_ ?_
      · simp only [execOp, eval_tmp, e0, e1]
        go_simp
      · exact PostE.put (i := 7) ho (vbd9_mem 7 hk).2 (hlt 7 hk) (fun k hk2 hne _ => vbd9_inj 7 hk k hk2 hne) (.inl (Ext.refl _ _)) rfl hg
    | 8, hk, hd =>
      have s : (ops[8]?).map sig = some (some 69, .move (.tmp 68), 4, none) := by subst hops; kernel_rfl
      have hgd : GdOk ops a none := trivial
      have d7 := hd 7 (by decide) (by subst hops; kernel_rfl)
      have e0 : ag a 68 = .bool false := d7
      refine op_valg s hgd (w' := w) (v := .bool false) ?_ ?_
      · exact congrArg (fun x => Result.ok (Next.value x) w) e0
      · exact PostE.put (i := 8) ho (vbd9_mem 8 hk).2 (hlt 8 hk) (fun k hk2 hne _ => vbd9_inj 8 hk k hk2 hne) (.inl (Ext.refl _ _)) rfl hg
    | 9, hk, hd =>
      have s : (ops[9]?).map sig = some (some 70, .load 53 (.tmp 15), 53, some (8, false)) := by subst hops; kernel_rfl
      have hgd : GdOk ops a (some (8, false)) := yielded_of (d := 69) (by subst hops; kernel_rfl) (hd 8 (by decide) (by subst hops; kernel_rfl))
      have e0 : ag a 15 = .pointer (some ⟨g15, 0, none⟩) := (ho.off 15 (by decide)).trans h15
      refine op_loadg s hgd g15 0 e0 C15 _ (range_below v15.rg hg) Tryd.underlying53 rfl (by rw [v15.ln]; exact info_val) ?_
      exact PostE.put (i := 9) ho (vbd9_mem 9 hk).2 (hlt 9 hk) (fun k hk2 hne _ => vbd9_inj 9 hk k hk2 hne) (.inl (Ext.refl _ _)) rfl hg
    | 10, hk, hd =>
      have s : (ops[10]?).map sig = some (some 71, .load 53 (.tmp 11), 53, some (8, false)) := by subst hops; kernel_rfl
      have hgd : GdOk ops a (some (8, false)) := yielded_of (d := 69) (by subst hops; kernel_rfl) (hd 8 (by decide) (by subst hops; kernel_rfl))
      have e0 : ag a 11 = .pointer (some ⟨g11, 0, none⟩) := (ho.off 11 (by decide)).trans h11
      refine op_loadg s hgd g11 0 e0 C11 _ (range_below v11.rg hg) Tryd.underlying53 rfl (by rw [v11.ln]; exact info_val) ?_
      exact PostE.put (i := 10) ho (vbd9_mem 10 hk).2 (hlt 10 hk) (fun k hk2 hne _ => vbd9_inj 10 hk k hk2 hne) (.inl (Ext.refl _ _)) rfl hg
    | 11, hk, hd =>
      have s : (ops[11]?).map sig = some (some 72, .call { callee := .value (.func 32), args := #[.tmp 70, .tmp 71], argTypes := #[53, 53] }, 3, some (8, false)) := by subst hops; kernel_rfl
      have hgd : GdOk ops a (some (8, false)) := yielded_of (d := 69) (by subst hops; kernel_rfl) (hd 8 (by decide) (by subst hops; kernel_rfl))
      have d9 := hd 9 (by decide) (by subst hops; kernel_rfl)
      have d10 := hd 10 (by decide) (by subst hops; kernel_rfl)
      have e0 : ag a 70 = .agg C15.toArray := d9
      have e1 : ag a 71 = .agg C11.toArray := d10
      refine op_callg s hgd (w' := w) (f := 32) (args := #[.agg C15.toArray, .agg C11.toArray]) ?_ ?_
      · simp only [execOp]
        go_simp
        refine ⟨by simpa [ag] using e0, by simpa [ag] using e1⟩
      · refine ((show Calls Tryd.prog _ _ w (NumRes 0 w) from hc ▸ compare_any x.nodes x (Nat.le_refl _) x w _ _ (v15.later hg).tr (v11.later hg).tr)).mono ?_
        rintro e w' ⟨rfl, hb⟩
        exact ⟨_, rfl, PostE.put (i := 11) ho (vbd9_mem 11 hk).2 (hlt 11 hk) (fun k hk2 hne _ => vbd9_inj 11 hk k hk2 hne) (.inl (Ext.of hb)) rfl (later hg hb)⟩
    | 12, hk, hd =>
      have s : (ops[12]?).map sig = some (some 73, .binOp .neq 3 (.tmp 72) (.const (.int .i64 0)) 3, 4, some (8, false)) := by subst hops; kernel_rfl
      have hgd : GdOk ops a (some (8, false)) := yielded_of (d := 69) (by subst hops; kernel_rfl) (hd 8 (by decide) (by subst hops; kernel_rfl))
      have d11 := hd 11 (by decide) (by subst hops; kernel_rfl)
      have e0 : ag a 72 = .int .i64 0 := d11
      refine op_valg s hgd (w' := w) (v := .bool false) ?_ ?_
      · simp only [execOp, eval_tmp, e0]
        go_simp
      · exact PostE.put (i := 12) ho (vbd9_mem 12 hk).2 (hlt 12 hk) (fun k hk2 hne _ => vbd9_inj 12 hk k hk2 hne) (.inl (Ext.refl _ _)) rfl hg
    | 13, hk, hd =>
      have s : (ops[13]?).map sig = some (some 74, .pick (.tmp 69) (.const (.bool true)) (.tmp 73), 4, none) := by subst hops; kernel_rfl
      have hgd : GdOk ops a none := trivial
      have d8 := hd 8 (by decide) (by subst hops; kernel_rfl)
      have d12 := hd 12 (by decide) (by subst hops; kernel_rfl)
      have e0 : ag a 69 = .bool false := d8
      have e1 : ag a 73 = .bool false := d12
      refine op_valg s hgd (w' := w) (v := .bool false) ?_ ?_
      · simp only [execOp, eval_tmp, e0, e1]
        go_simp
      · exact PostE.put (i := 13) ho (vbd9_mem 13 hk).2 (hlt 13 hk) (fun k hk2 hne _ => vbd9_inj 13 hk k hk2 hne) (.inl (Ext.refl _ _)) rfl hg
    | 14, hk, hd =>
      have s : (ops[14]?).map sig = some (some 75, .move (.tmp 74), 4, none) := by subst hops; kernel_rfl
      have hgd : GdOk ops a none := trivial
      have d13 := hd 13 (by decide) (by subst hops; kernel_rfl)
      have e0 : ag a 74 = .bool false := d13
      refine op_valg s hgd (w' := w) (v := .bool false) ?_ ?_
      · exact congrArg (fun x => Result.ok (Next.value x) w) e0
      · exact PostE.put (i := 14) ho (vbd9_mem 14 hk).2 (hlt 14 hk) (fun k hk2 hne _ => vbd9_inj 14 hk k hk2 hne) (.inl (Ext.refl _ _)) rfl hg
    | 15, hk, hd =>
      have s : (ops[15]?).map sig = some (some 76, .move (.tmp 13), 69, some (14, false)) := by subst hops; kernel_rfl
      have hgd : GdOk ops a (some (14, false)) := yielded_of (d := 75) (by subst hops; kernel_rfl) (hd 14 (by decide) (by subst hops; kernel_rfl))
      have e0 : ag a 13 = .slice Aa la ca := (ho.off 13 (by decide)).trans h13
      refine op_valg s hgd (w' := w) (v := .slice Aa la ca) ?_ ?_
      · exact congrArg (fun x => Result.ok (Next.value x) w) e0
      · exact PostE.put (i := 15) ho (vbd9_mem 15 hk).2 (hlt 15 hk) (fun k hk2 hne _ => vbd9_inj 15 hk k hk2 hne) (.inl (Ext.refl _ _)) rfl hg
    | 16, hk, hd =>
      have s : (ops[16]?).map sig = some (some 77, .convert 69 9 (.tmp 76), 9, some (14, false)) := by subst hops; kernel_rfl
      have hgd : GdOk ops a (some (14, false)) := yielded_of (d := 75) (by subst hops; kernel_rfl) (hd 14 (by decide) (by subst hops; kernel_rfl))
      have d15 := hd 15 (by decide) (by subst hops; kernel_rfl)
      have e0 : ag a 76 = .slice Aa la ca := d15
      have hcv := hA w hg
      refine op_valg s hgd (w' := w) (v := .string SA) ?_ ?_
      · simp only [execOp, eval_tmp, e0]
        go_simp
      · exact PostE.put (i := 16) ho (vbd9_mem 16 hk).2 (hlt 16 hk) (fun k hk2 hne _ => vbd9_inj 16 hk k hk2 hne) (.inl (Ext.refl _ _)) rfl hg
    | 17, hk, hd =>
      have s : (ops[17]?).map sig = some (some 78, .move (.tmp 14), 69, some (14, false)) := by subst hops; kernel_rfl
      have hgd : GdOk ops a (some (14, false)) := yielded_of (d := 75) (by subst hops; kernel_rfl) (hd 14 (by decide) (by subst hops; kernel_rfl))
      have e0 : ag a 14 = .slice Ab lb cb := (ho.off 14 (by decide)).trans h14
      refine op_valg s hgd (w' := w) (v := .slice Ab lb cb) ?_ ?_
      · exact congrArg (fun x => Result.ok (Next.value x) w) e0
      · exact PostE.put (i := 17) ho (vbd9_mem 17 hk).2 (hlt 17 hk) (fun k hk2 hne _ => vbd9_inj 17 hk k hk2 hne) (.inl (Ext.refl _ _)) rfl hg
    | 18, hk, hd =>
      have s : (ops[18]?).map sig = some (some 79, .convert 69 9 (.tmp 78), 9, some (14, false)) := by subst hops; kernel_rfl
      have hgd : GdOk ops a (some (14, false)) := yielded_of (d := 75) (by subst hops; kernel_rfl) (hd 14 (by decide) (by subst hops; kernel_rfl))
      have d17 := hd 17 (by decide) (by subst hops; kernel_rfl)
      have e0 : ag a 78 = .slice Ab lb cb := d17
      have hcv := hB w hg
      refine op_valg s hgd (w' := w) (v := .string SB) ?_ ?_
      · simp only [execOp, eval_tmp, e0]
        go_simp
      · exact PostE.put (i := 18) ho (vbd9_mem 18 hk).2 (hlt 18 hk) (fun k hk2 hne _ => vbd9_inj 18 hk k hk2 hne) (.inl (Ext.refl _ _)) rfl hg
    | 19, hk, hd =>
      have s : (ops[19]?).map sig = some (some 80, .binOp .eql 9 (.tmp 77) (.tmp 79) 9, 4, some (14, false)) := by subst hops; kernel_rfl
      have hgd : GdOk ops a (some (14, false)) := yielded_of (d := 75) (by subst hops; kernel_rfl) (hd 14 (by decide) (by subst hops; kernel_rfl))
      have d16 := hd 16 (by decide) (by subst hops; kernel_rfl)
      have d18 := hd 18 (by decide) (by subst hops; kernel_rfl)
      have e0 : ag a 77 = .string SA := d16
      have e1 : ag a 79 = .string SB := d18
      refine op_valg s hgd (w' := w) (v := .bool q) ?_ ?_
      · simp only [execOp, eval_tmp, e0, e1]
        go_simp
      · exact PostE.put (i := 19) ho (vbd9_mem 19 hk).2 (hlt 19 hk) (fun k hk2 hne _ => vbd9_inj 19 hk k hk2 hne) (.inl (Ext.refl _ _)) rfl hg
    | 20, hk, hd =>
      have s : (ops[20]?).map sig = some (some 81, .move (.tmp 18), 4, some (14, false)) := by subst hops; kernel_rfl
      have hgd : GdOk ops a (some (14, false)) := yielded_of (d := 75) (by subst hops; kernel_rfl) (hd 14 (by decide) (by subst hops; kernel_rfl))
      have e0 : ag a 18 = .bool q := (ho.off 18 (by decide)).trans h18
      refine op_valg s hgd (w' := w) (v := .bool q) ?_ ?_
      · exact congrArg (fun x => Result.ok (Next.value x) w) e0
      · exact PostE.put (i := 20) ho (vbd9_mem 20 hk).2 (hlt 20 hk) (fun k hk2 hne _ => vbd9_inj 20 hk k hk2 hne) (.inl (Ext.refl _ _)) rfl hg
    | 21, hk, hd =>
      have s : (ops[21]?).map sig = some (some 82, .binOp .neq 4 (.tmp 80) (.tmp 81) 4, 4, some (14, false)) := by subst hops; kernel_rfl
      have hgd : GdOk ops a (some (14, false)) := yielded_of (d := 75) (by subst hops; kernel_rfl) (hd 14 (by decide) (by subst hops; kernel_rfl))
      have d19 := hd 19 (by decide) (by subst hops; kernel_rfl)
      have d20 := hd 20 (by decide) (by subst hops; kernel_rfl)
      have e0 : ag a 80 = .bool q := d19
      have e1 : ag a 81 = .bool q := d20
      refine op_valg s hgd (w' := w) (v := .bool false) ?_ ?_
      · simp only [execOp, eval_tmp, e0, e1]
        go_simp
      · exact PostE.put (i := 21) ho (vbd9_mem 21 hk).2 (hlt 21 hk) (fun k hk2 hne _ => vbd9_inj 21 hk k hk2 hne) (.inl (Ext.refl _ _)) rfl hg
    | n + 22, hn, _ => exact absurd hn (by omega)
  · intro a w ho hg hf
    have s : (ops[22]?).map sig = some (some 83, .pick (.tmp 75) (.const (.bool true)) (.tmp 82), 4, none) := by subst hops; kernel_rfl
    have hgd : GdOk ops a none := trivial
    have d14 := hf 14 (by decide)
    have d21 := hf 21 (by decide)
    have e0 : ag a 75 = .bool false := d14
    have e1 : ag a 82 = .bool false := d21
    refine op_valg s hgd (w' := w) (v := .bool false) ?_ ?_
    · simp only [execOp, eval_tmp, e0, e1]
      go_simp
    · have ho2 : Off (vbD9 ++ [83]) a0 (a.put (some 83) (.bool false)) := (ho.mono (fun s hs => List.mem_append_left _ hs)).put (by decide)
      exact hQ (ag (a.put (some 83) (.bool false))) w (ag_put (by rw [ho.size, hsz]; decide)) hg _ (ho2.eq (fun s hs => by rw [hsz]; revert s; decide))
def vbf13 (la lb ca cb : Nat) (Aa Ab : Option Addr) (SA SB : ByteArray) (SP : ByteArray) : Nat → Value → World → Prop
  | 0, v, w => v = .slice Ab lb cb
  | 1, v, w => v = .slice Aa la ca
  | 2, v, w => v = .int .i64 (la : Int)
  | 3, v, w => v = .slice Ab la cb
  | 4, v, w => v = .string SP
  | 5, v, w => v = .slice Aa la ca
  | 6, v, w => v = .string SA
  | 7, v, w => v = .bool false
  | _, _, _ => True
theorem vbf13_ext (la lb ca cb : Nat) (Aa Ab : Option Addr) (SA SB : ByteArray) (SP : ByteArray) (S : Nat) : ∀ j v w w', j < 8 → (Ext S w w' ∨ (j ≠ 999 ∧ Never w w')) → vbf13 la lb ca cb Aa Ab SA SB SP j v w → vbf13 la lb ca cb Aa Ab SA SB SP j v w' := by
  intro j v w w' hj he h
  match j, hj, he, h with
  | 0, _, he, h => exact h
  | 1, _, he, h => exact h
  | 2, _, he, h => exact h
  | 3, _, he, h => exact h
  | 4, _, he, h => exact h
  | 5, _, he, h => exact h
  | 6, _, he, h => exact h
  | 7, _, he, h => exact h
  | n + 8, hn, _, _ => exact absurd hn (by omega)
def vbD13 : List Nat := [90, 91, 92, 93, 94, 95, 96, 97]
def vbd13 (k : Nat) : Nat := [90, 91, 92, 93, 94, 95, 96, 97].getD k 0
theorem vbd13_mem : ∀ k, k < 8 → vbd13 k < 133 ∧ vbd13 k ∈ vbD13 := by decide
theorem vbd13_inj : ∀ i, i < 8 → ∀ k, k < 8 → k ≠ i → vbd13 i ≠ vbd13 k := by decide
set_option maxHeartbeats 4000000 in
set_option maxRecDepth 100000 in
theorem vbreg13 {Q : Exit → Act → World → Prop} {id : Nat} {ops : Array Oper} (hops : ops = ((Tryd.f8.body).bind (opsOf 13)).getD #[]) (a0 : Act) (w0 : World) (la lb ca cb : Nat) (Aa Ab : Option Addr) (SA SB : ByteArray) (SP : ByteArray) (hsz : a0.tmps.size = 133)
    (h13 : ag a0 13 = .slice Aa la ca) (h14 : ag a0 14 = .slice Ab lb cb) (hA : ∀ W, Below w0.heap.size w0 W → (convert 69 9 (.slice Aa la ca)).run Tryd.prog W = .ok (.string SA) W) (hP : ∀ W, Below w0.heap.size w0 W → (convert 69 9 (.slice Ab la cb)).run Tryd.prog W = .ok (.string SP) W) (hne : (SP.toList == SA.toList) = false) (hm0 : Option.map (fun x => Addr.add x 0) Ab = Ab) (hle : (la : Int) ≤ (cb : Int)) (hle0 : (0 : Int) ≤ (la : Int)) (hlen : la ≤ cb)
    (hQ : ∀ (vs : Nat → Value) (w' : World), vs 19 = .bool false → Below w0.heap.size w0 w' → ∀ a', a' = (vbD13 ++ [19]).foldl (fun b s => b.put (some s) (vs s)) a0 → Q .normal a' w') :
    (Code.region id ops true).wp Tryd.prog Q a0 w0 := by
  have hg0 : Below w0.heap.size w0 w0.drew := below_drewN (Below.refl _ _) 1
  have hlt : ∀ k, k < 8 → vbd13 k < a0.tmps.size := fun k hk => by have := (vbd13_mem k hk).1; omega
  refine wp_region_factsE 8 999 vbD13 vbd13 (vbf13 la lb ca cb Aa Ab SA SB SP) (fun w => Below w0.heap.size w0 w) w0.heap.size Never (fun k => k) (by kernel_rfl) (by subst hops; kernel_rfl) (by subst hops; kernel_rfl) (by subst hops; kernel_rfl) (vbf13_ext la lb ca cb Aa Ab SA SB SP w0.heap.size) hg0 ?_ ?_
  · intro j a w hj ho hg hd
    have hgs := hg.size
    match j, hj, hd with
    | 0, hk, hd =>
      have s : (ops[0]?).map sig = some (some 90, .move (.tmp 14), 69, none) := by subst hops; kernel_rfl
      have hgd : GdOk ops a none := trivial
      have e0 : ag a 14 = .slice Ab lb cb := (ho.off 14 (by decide)).trans h14
      refine op_valg s hgd (w' := w) (v := .slice Ab lb cb) ?_ ?_
      · exact congrArg (fun x => Result.ok (Next.value x) w) e0
      · exact PostE.put (i := 0) ho (vbd13_mem 0 hk).2 (hlt 0 hk) (fun k hk2 hne _ => vbd13_inj 0 hk k hk2 hne) (.inl (Ext.refl _ _)) rfl hg
    | 1, hk, hd =>
      have s : (ops[1]?).map sig = some (some 91, .move (.tmp 13), 69, none) := by subst hops; kernel_rfl
      have hgd : GdOk ops a none := trivial
      have e0 : ag a 13 = .slice Aa la ca := (ho.off 13 (by decide)).trans h13
      refine op_valg s hgd (w' := w) (v := .slice Aa la ca) ?_ ?_
      · exact congrArg (fun x => Result.ok (Next.value x) w) e0
      · exact PostE.put (i := 1) ho (vbd13_mem 1 hk).2 (hlt 1 hk) (fun k hk2 hne _ => vbd13_inj 1 hk k hk2 hne) (.inl (Ext.refl _ _)) rfl hg
    | 2, hk, hd =>
      have s : (ops[2]?).map sig = some (some 92, .call { callee := .builtin .len, args := #[.tmp 91], argTypes := #[69] }, 3, none) := by subst hops; kernel_rfl
      have hgd : GdOk ops a none := trivial
      have d1 := hd 1 (by decide) (by subst hops; kernel_rfl)
      have e0 : ag a 91 = .slice Aa la ca := d1
      refine op_valg s hgd (w' := w) (v := .int .i64 (la : Int)) ?_ ?_
      · simp only [execOp]
        go_simp
        rw [show a.tmps[91]?.getD undef = (.slice Aa la ca) by simpa [ag] using e0]
        go_simp
      · exact PostE.put (i := 2) ho (vbd13_mem 2 hk).2 (hlt 2 hk) (fun k hk2 hne _ => vbd13_inj 2 hk k hk2 hne) (.inl (Ext.refl _ _)) rfl hg
    | 3, hk, hd =>
      have s : (ops[3]?).map sig = some (some 93, .slice 69 (.tmp 90) none (some (.tmp 92)) none, 69, none) := by subst hops; kernel_rfl
      have hgd : GdOk ops a none := trivial
      have d0 := hd 0 (by decide) (by subst hops; kernel_rfl)
      have d2 := hd 2 (by decide) (by subst hops; kernel_rfl)
      have e0 : ag a 90 = .slice Ab lb cb := d0
      have e1 : ag a 92 = .int .i64 (la : Int) := d2
      refine op_valg s hgd (w' := w) (v := .slice Ab la cb) ?_ ?_
      · simp only [execOp]
        go_simp
        rw [show a.tmps[90]?.getD undef = (.slice Ab lb cb) by simpa [ag] using e0]
        rw [show a.tmps[92]?.getD undef = (.int .i64 (la : Int)) by simpa [ag] using e1]
        go_simp
      · exact PostE.put (i := 3) ho (vbd13_mem 3 hk).2 (hlt 3 hk) (fun k hk2 hne _ => vbd13_inj 3 hk k hk2 hne) (.inl (Ext.refl _ _)) rfl hg
    | 4, hk, hd =>
      have s : (ops[4]?).map sig = some (some 94, .convert 69 9 (.tmp 93), 9, none) := by subst hops; kernel_rfl
      have hgd : GdOk ops a none := trivial
      have d3 := hd 3 (by decide) (by subst hops; kernel_rfl)
      have e0 : ag a 93 = .slice Ab la cb := d3
      have hcv := hP w hg
      refine op_valg s hgd (w' := w) (v := .string SP) ?_ ?_
      · simp only [execOp, eval_tmp, e0]
        go_simp
      · exact PostE.put (i := 4) ho (vbd13_mem 4 hk).2 (hlt 4 hk) (fun k hk2 hne _ => vbd13_inj 4 hk k hk2 hne) (.inl (Ext.refl _ _)) rfl hg
    | 5, hk, hd =>
      have s : (ops[5]?).map sig = some (some 95, .move (.tmp 13), 69, none) := by subst hops; kernel_rfl
      have hgd : GdOk ops a none := trivial
      have e0 : ag a 13 = .slice Aa la ca := (ho.off 13 (by decide)).trans h13
      refine op_valg s hgd (w' := w) (v := .slice Aa la ca) ?_ ?_
      · exact congrArg (fun x => Result.ok (Next.value x) w) e0
      · exact PostE.put (i := 5) ho (vbd13_mem 5 hk).2 (hlt 5 hk) (fun k hk2 hne _ => vbd13_inj 5 hk k hk2 hne) (.inl (Ext.refl _ _)) rfl hg
    | 6, hk, hd =>
      have s : (ops[6]?).map sig = some (some 96, .convert 69 9 (.tmp 95), 9, none) := by subst hops; kernel_rfl
      have hgd : GdOk ops a none := trivial
      have d5 := hd 5 (by decide) (by subst hops; kernel_rfl)
      have e0 : ag a 95 = .slice Aa la ca := d5
      have hcv := hA w hg
      refine op_valg s hgd (w' := w) (v := .string SA) ?_ ?_
      · simp only [execOp, eval_tmp, e0]
        go_simp
      · exact PostE.put (i := 6) ho (vbd13_mem 6 hk).2 (hlt 6 hk) (fun k hk2 hne _ => vbd13_inj 6 hk k hk2 hne) (.inl (Ext.refl _ _)) rfl hg
    | 7, hk, hd =>
      have s : (ops[7]?).map sig = some (some 97, .binOp .eql 9 (.tmp 94) (.tmp 96) 9, 4, none) := by subst hops; kernel_rfl
      have hgd : GdOk ops a none := trivial
      have d4 := hd 4 (by decide) (by subst hops; kernel_rfl)
      have d6 := hd 6 (by decide) (by subst hops; kernel_rfl)
      have e0 : ag a 94 = .string SP := d4
      have e1 : ag a 96 = .string SA := d6
      refine op_valg s hgd (w' := w) (v := .bool false) ?_ ?_
      · simp only [execOp, eval_tmp, e0, e1]
        go_simp
      · exact PostE.put (i := 7) ho (vbd13_mem 7 hk).2 (hlt 7 hk) (fun k hk2 hne _ => vbd13_inj 7 hk k hk2 hne) (.inl (Ext.refl _ _)) rfl hg
    | n + 8, hn, _ => exact absurd hn (by omega)
  · intro a w ho hg hf
    have s : (ops[8]?).map sig = some (some 19, .assign (.tmp 97), 4, none) := by subst hops; kernel_rfl
    have hgd : GdOk ops a none := trivial
    have d7 := hf 7 (by decide)
    have e0 : ag a 97 = .bool false := d7
    refine op_valg s hgd (w' := w) (v := .bool false) ?_ ?_
    · exact congrArg (fun x => Result.ok (Next.value x) w) e0
    · have ho2 : Off (vbD13 ++ [19]) a0 (a.put (some 19) (.bool false)) := (ho.mono (fun s hs => List.mem_append_left _ hs)).put (by decide)
      exact hQ (ag (a.put (some 19) (.bool false))) w (ag_put (by rw [ho.size, hsz]; decide)) hg _ (ho2.eq (fun s hs => by rw [hsz]; revert s; decide))
def vbf14 (la lb ca cb : Nat) (Aa Ab : Option Addr) (SA SB : ByteArray) (EA EB : List Nat) (q : Bool) (S : Nat) : Nat → Value → World → Prop
  | 0, v, w => v = .slice Aa la ca
  | 1, v, w => v = .string SA
  | 2, v, w => OwnB w S v EA
  | 3, v, w => v = .string (mkS EA)
  | 4, v, w => v = .slice Ab lb cb
  | 5, v, w => v = .string SB
  | 6, v, w => OwnB w S v EB
  | 7, v, w => v = .string (mkS EB)
  | 8, v, w => v = .bool q
  | _, _, _ => True
theorem vbf14_ext (la lb ca cb : Nat) (Aa Ab : Option Addr) (SA SB : ByteArray) (EA EB : List Nat) (q : Bool) (S : Nat) : ∀ j v w w', j < 9 → (Ext S w w' ∨ (j ≠ 999 ∧ Never w w')) → vbf14 la lb ca cb Aa Ab SA SB EA EB q S j v w → vbf14 la lb ca cb Aa Ab SA SB EA EB q S j v w' := by
  intro j v w w' hj he h
  match j, hj, he, h with
  | 0, _, he, h => exact h
  | 1, _, he, h => exact h
  | 2, _, he, h => exact he.elim (fun q => OwnB.ext h q) (fun q => absurd q.2 id)
  | 3, _, he, h => exact h
  | 4, _, he, h => exact h
  | 5, _, he, h => exact h
  | 6, _, he, h => exact he.elim (fun q => OwnB.ext h q) (fun q => absurd q.2 id)
  | 7, _, he, h => exact h
  | 8, _, he, h => exact h
  | n + 9, hn, _, _ => exact absurd hn (by omega)
def vbD14 : List Nat := [98, 99, 100, 101, 102, 103, 104, 105, 106]
def vbd14 (k : Nat) : Nat := [98, 99, 100, 101, 102, 103, 104, 105, 106].getD k 0
theorem vbd14_mem : ∀ k, k < 9 → vbd14 k < 133 ∧ vbd14 k ∈ vbD14 := by decide
theorem vbd14_inj : ∀ i, i < 9 → ∀ k, k < 9 → k ≠ i → vbd14 i ≠ vbd14 k := by decide
set_option maxHeartbeats 4000000 in
set_option maxRecDepth 100000 in
theorem vbreg14 {Q : Exit → Act → World → Prop} {id : Nat} {ops : Array Oper} (hops : ops = ((Tryd.f8.body).bind (opsOf 14)).getD #[]) (a0 : Act) (w0 : World) (la lb ca cb : Nat) (Aa Ab : Option Addr) (SA SB : ByteArray) (EA EB : List Nat) (q : Bool) (hsz : a0.tmps.size = 133)
    (h13 : ag a0 13 = .slice Aa la ca) (h14 : ag a0 14 = .slice Ab lb cb) (hA : ∀ W, Below w0.heap.size w0 W → (convert 69 9 (.slice Aa la ca)).run Tryd.prog W = .ok (.string SA) W) (hB : ∀ W, Below w0.heap.size w0 W → (convert 69 9 (.slice Ab lb cb)).run Tryd.prog W = .ok (.string SB) W) (hEA : Hid (EA = enc (SA.size : Int) ++ sb SA)) (hEB : Hid (EB = enc (SB.size : Int) ++ sb SB)) (hsA : SA.size + 32 ≤ 140737488355328) (hsB : SB.size + 32 ≤ 140737488355328) (hq : ((mkS EA).toList == (mkS EB).toList) = q)
    (hQ : ∀ (vs : Nat → Value) (w' : World), vs 20 = .bool q → Below w0.heap.size w0 w' → ∀ a', a' = (vbD14 ++ [20]).foldl (fun b s => b.put (some s) (vs s)) a0 → Q .normal a' w') :
    (Code.region id ops true).wp Tryd.prog Q a0 w0 := by
  have hg0 : Below w0.heap.size w0 w0.drew := below_drewN (Below.refl _ _) 1
  have hlt : ∀ k, k < 9 → vbd14 k < a0.tmps.size := fun k hk => by have := (vbd14_mem k hk).1; omega
  refine wp_region_factsE 9 999 vbD14 vbd14 (vbf14 la lb ca cb Aa Ab SA SB EA EB q w0.heap.size) (fun w => Below w0.heap.size w0 w) w0.heap.size Never (fun k => k) (by kernel_rfl) (by subst hops; kernel_rfl) (by subst hops; kernel_rfl) (by subst hops; kernel_rfl) (vbf14_ext la lb ca cb Aa Ab SA SB EA EB q w0.heap.size) hg0 ?_ ?_
  · intro j a w hj ho hg hd
    have hgs := hg.size
    match j, hj, hd with
    | 0, hk, hd =>
      have s : (ops[0]?).map sig = some (some 98, .move (.tmp 13), 69, none) := by subst hops; kernel_rfl
      have hgd : GdOk ops a none := trivial
      have e0 : ag a 13 = .slice Aa la ca := (ho.off 13 (by decide)).trans h13
      refine op_valg s hgd (w' := w) (v := .slice Aa la ca) ?_ ?_
      · exact congrArg (fun x => Result.ok (Next.value x) w) e0
      · exact PostE.put (i := 0) ho (vbd14_mem 0 hk).2 (hlt 0 hk) (fun k hk2 hne _ => vbd14_inj 0 hk k hk2 hne) (.inl (Ext.refl _ _)) rfl hg
    | 1, hk, hd =>
      have s : (ops[1]?).map sig = some (some 99, .convert 69 9 (.tmp 98), 9, none) := by subst hops; kernel_rfl
      have hgd : GdOk ops a none := trivial
      have d0 := hd 0 (by decide) (by subst hops; kernel_rfl)
      have e0 : ag a 98 = .slice Aa la ca := d0
      have hcv := hA w hg
      refine op_valg s hgd (w' := w) (v := .string SA) ?_ ?_
      · simp only [execOp, eval_tmp, e0]
        go_simp
      · exact PostE.put (i := 1) ho (vbd14_mem 1 hk).2 (hlt 1 hk) (fun k hk2 hne _ => vbd14_inj 1 hk k hk2 hne) (.inl (Ext.refl _ _)) rfl hg
    | 2, hk, hd =>
      have s : (ops[2]?).map sig = some (some 100, .call { callee := .value (.func 42), args := #[.tmp 99], argTypes := #[9] }, 69, none) := by subst hops; kernel_rfl
      have hgd : GdOk ops a none := trivial
      have d1 := hd 1 (by decide) (by subst hops; kernel_rfl)
      have e0 : ag a 99 = .string SA := d1
      refine op_callg s hgd (w' := w) (f := 42) (args := #[.string SA]) ?_ ?_
      · simp only [execOp]
        go_simp
        simpa [ag] using e0
      · refine (Bytes_any SA w (by omega)).mono ?_
        rintro e w' ⟨v', rfl, ho2, hb⟩
        exact ⟨_, rfl, PostE.put (i := 2) ho (vbd14_mem 2 hk).2 (hlt 2 hk) (fun k hk2 hne _ => vbd14_inj 2 hk k hk2 hne) (.inl (Ext.of hb)) (by rw [hEA.out]; exact ho2.less hgs) (later hg hb)⟩
    | 3, hk, hd =>
      have s : (ops[3]?).map sig = some (some 101, .convert 69 9 (.tmp 100), 9, none) := by subst hops; kernel_rfl
      have hgd : GdOk ops a none := trivial
      have d2 := hd 2 (by decide) (by subst hops; kernel_rfl)
      have hw : OwnB w w0.heap.size (ag a 100) EA := d2
      obtain ⟨A, cap, hv, _⟩ := hw.shape
      rw [hv] at hw
      have hcv : (convert 69 9 (.slice A EA.length cap)).run Tryd.prog w = .ok (.string (mkS EA)) w := run_conv w.heap.size _ cap A EA w rfl hw.rd
      refine op_valg s hgd (w' := w) (v := .string (mkS EA)) ?_ ?_
      · simp only [execOp, eval_tmp, hv]
        generalize EA.length = L at hcv ⊢
        go_simp
      · exact PostE.put (i := 3) ho (vbd14_mem 3 hk).2 (hlt 3 hk) (fun k hk2 hne _ => vbd14_inj 3 hk k hk2 hne) (.inl (Ext.refl _ _)) rfl hg
    | 4, hk, hd =>
      have s : (ops[4]?).map sig = some (some 102, .move (.tmp 14), 69, none) := by subst hops; kernel_rfl
      have hgd : GdOk ops a none := trivial
      have e0 : ag a 14 = .slice Ab lb cb := (ho.off 14 (by decide)).trans h14
      refine op_valg s hgd (w' := w) (v := .slice Ab lb cb) ?_ ?_
      · exact congrArg (fun x => Result.ok (Next.value x) w) e0
      · exact PostE.put (i := 4) ho (vbd14_mem 4 hk).2 (hlt 4 hk) (fun k hk2 hne _ => vbd14_inj 4 hk k hk2 hne) (.inl (Ext.refl _ _)) rfl hg
    | 5, hk, hd =>
      have s : (ops[5]?).map sig = some (some 103, .convert 69 9 (.tmp 102), 9, none) := by subst hops; kernel_rfl
      have hgd : GdOk ops a none := trivial
      have d4 := hd 4 (by decide) (by subst hops; kernel_rfl)
      have e0 : ag a 102 = .slice Ab lb cb := d4
      have hcv := hB w hg
      refine op_valg s hgd (w' := w) (v := .string SB) ?_ ?_
      · simp only [execOp, eval_tmp, e0]
        go_simp
      · exact PostE.put (i := 5) ho (vbd14_mem 5 hk).2 (hlt 5 hk) (fun k hk2 hne _ => vbd14_inj 5 hk k hk2 hne) (.inl (Ext.refl _ _)) rfl hg
    | 6, hk, hd =>
      have s : (ops[6]?).map sig = some (some 104, .call { callee := .value (.func 42), args := #[.tmp 103], argTypes := #[9] }, 69, none) := by subst hops; kernel_rfl
      have hgd : GdOk ops a none := trivial
      have d5 := hd 5 (by decide) (by subst hops; kernel_rfl)
      have e0 : ag a 103 = .string SB := d5
      refine op_callg s hgd (w' := w) (f := 42) (args := #[.string SB]) ?_ ?_
      · simp only [execOp]
        go_simp
        simpa [ag] using e0
      · refine (Bytes_any SB w (by omega)).mono ?_
        rintro e w' ⟨v', rfl, ho2, hb⟩
        exact ⟨_, rfl, PostE.put (i := 6) ho (vbd14_mem 6 hk).2 (hlt 6 hk) (fun k hk2 hne _ => vbd14_inj 6 hk k hk2 hne) (.inl (Ext.of hb)) (by rw [hEB.out]; exact ho2.less hgs) (later hg hb)⟩
    | 7, hk, hd =>
      have s : (ops[7]?).map sig = some (some 105, .convert 69 9 (.tmp 104), 9, none) := by subst hops; kernel_rfl
      have hgd : GdOk ops a none := trivial
      have d6 := hd 6 (by decide) (by subst hops; kernel_rfl)
      have hw : OwnB w w0.heap.size (ag a 104) EB := d6
      obtain ⟨A, cap, hv, _⟩ := hw.shape
      rw [hv] at hw
      have hcv : (convert 69 9 (.slice A EB.length cap)).run Tryd.prog w = .ok (.string (mkS EB)) w := run_conv w.heap.size _ cap A EB w rfl hw.rd
      refine op_valg s hgd (w' := w) (v := .string (mkS EB)) ?_ ?_
      · simp only [execOp, eval_tmp, hv]
        generalize EB.length = L at hcv ⊢
        go_simp
      · exact PostE.put (i := 7) ho (vbd14_mem 7 hk).2 (hlt 7 hk) (fun k hk2 hne _ => vbd14_inj 7 hk k hk2 hne) (.inl (Ext.refl _ _)) rfl hg
    | 8, hk, hd =>
      have s : (ops[8]?).map sig = some (some 106, .binOp .eql 9 (.tmp 101) (.tmp 105) 9, 4, none) := by subst hops; kernel_rfl
      have hgd : GdOk ops a none := trivial
      have d3 := hd 3 (by decide) (by subst hops; kernel_rfl)
      have d7 := hd 7 (by decide) (by subst hops; kernel_rfl)
      have e0 : ag a 101 = .string (mkS EA) := d3
      have e1 : ag a 105 = .string (mkS EB) := d7
      refine op_valg s hgd (w' := w) (v := .bool q) ?_ ?_
      · simp only [execOp, eval_tmp, e0, e1]
        go_simp
      · exact PostE.put (i := 8) ho (vbd14_mem 8 hk).2 (hlt 8 hk) (fun k hk2 hne _ => vbd14_inj 8 hk k hk2 hne) (.inl (Ext.refl _ _)) rfl hg
    | n + 9, hn, _ => exact absurd hn (by omega)
  · intro a w ho hg hf
    have s : (ops[9]?).map sig = some (some 20, .assign (.tmp 106), 4, none) := by subst hops; kernel_rfl
    have hgd : GdOk ops a none := trivial
    have d8 := hf 8 (by decide)
    have e0 : ag a 106 = .bool q := d8
    refine op_valg s hgd (w' := w) (v := .bool q) ?_ ?_
    · exact congrArg (fun x => Result.ok (Next.value x) w) e0
    · have ho2 : Off (vbD14 ++ [20]) a0 (a.put (some 20) (.bool q)) := (ho.mono (fun s hs => List.mem_append_left _ hs)).put (by decide)
      exact hQ (ag (a.put (some 20) (.bool q))) w (ag_put (by rw [ho.size, hsz]; decide)) hg _ (ho2.eq (fun s hs => by rw [hsz]; revert s; decide))
def vbtf15 (la lb ca cb : Nat) (Aa Ab : Option Addr) (SA SB : ByteArray) (D : List Nat) (S : Nat) : Nat → Value → World → Prop
  | 0, v, w => v = .bool true
  | 1, v, w => v = .bool false
  | 2, v, w => v = .bool false
  | 3, v, w => v = .slice Aa la ca
  | 4, v, w => v = .string SA
  | 5, v, w => ∃ gk, v = .slice (some ⟨gk, 0, none⟩) 1 1 ∧ S ≤ gk ∧ Arr w gk 1 9 [.string SA]
  | 6, v, w => v = .agg (bs D).toArray
  | 7, v, w => v = .slice Ab lb cb
  | 8, v, w => v = .string SB
  | 9, v, w => ∃ gk, v = .slice (some ⟨gk, 0, none⟩) 1 1 ∧ S ≤ gk ∧ Arr w gk 1 9 [.string SB]
  | 10, v, w => v = .agg (bs D).toArray
  | 11, v, w => v = .bool true
  | 12, v, w => v = .bool true
  | _, _, _ => True
theorem vbtf15_ext (la lb ca cb : Nat) (Aa Ab : Option Addr) (SA SB : ByteArray) (D : List Nat) (S : Nat) : ∀ j v w w', j < 13 → (Ext S w w' ∨ (j ≠ 999 ∧ Never w w')) → vbtf15 la lb ca cb Aa Ab SA SB D S j v w → vbtf15 la lb ca cb Aa Ab SA SB D S j v w' := by
  intro j v w w' hj he h
  match j, hj, he, h with
  | 0, _, he, h => exact h
  | 1, _, he, h => exact h
  | 2, _, he, h => exact h
  | 3, _, he, h => exact h
  | 4, _, he, h => exact h
  | 5, _, he, h => exact he.elim (fun q => h.elim fun gk e => ⟨gk, e.1, e.2.1, e.2.2.ext q e.2.1⟩) (fun q => absurd q.2 id)
  | 6, _, he, h => exact h
  | 7, _, he, h => exact h
  | 8, _, he, h => exact h
  | 9, _, he, h => exact he.elim (fun q => h.elim fun gk e => ⟨gk, e.1, e.2.1, e.2.2.ext q e.2.1⟩) (fun q => absurd q.2 id)
  | 10, _, he, h => exact h
  | 11, _, he, h => exact h
  | 12, _, he, h => exact h
  | n + 13, hn, _, _ => exact absurd hn (by omega)
def vbtD15 : List Nat := [107, 108, 109, 110, 111, 112, 113, 114, 115, 116, 117, 118, 119]
def vbtd15 (k : Nat) : Nat := [107, 108, 109, 110, 111, 112, 113, 114, 115, 116, 117, 118, 119].getD k 0
theorem vbtd15_mem : ∀ k, k < 13 → vbtd15 k < 133 ∧ vbtd15 k ∈ vbtD15 := by decide
theorem vbtd15_inj : ∀ i, i < 13 → ∀ k, k < 13 → k ≠ i → vbtd15 i ≠ vbtd15 k := by decide
set_option maxHeartbeats 4000000 in
set_option maxRecDepth 100000 in
theorem vbtreg15 {Q : Exit → Act → World → Prop} {id : Nat} {ops : Array Oper} (hops : ops = ((Tryd.f8.body).bind (opsOf 15)).getD #[]) (a0 : Act) (w0 : World) (la lb ca cb : Nat) (Aa Ab : Option Addr) (SA SB : ByteArray) (D : List Nat) (hsz : a0.tmps.size = 133)
    (h13 : ag a0 13 = .slice Aa la ca) (h14 : ag a0 14 = .slice Ab lb cb) (h18 : ag a0 18 = .bool true) (hA : ∀ W, Below w0.heap.size w0 W → (convert 69 9 (.slice Aa la ca)).run Tryd.prog W = .ok (.string SA) W) (hB : ∀ W, Below w0.heap.size w0 W → (convert 69 9 (.slice Ab lb cb)).run Tryd.prog W = .ok (.string SB) W) (hK : Kc w0) (hDl : D.length = 16) (hSA : (sha (ofIn 9 [SA])).take 16 = D) (hSB : (sha (ofIn 9 [SB])).take 16 = D) (hzSA : SA.size ≤ 100000) (hzSB : SB.size ≤ 100000)
    (hQ : ∀ (vs : Nat → Value) (w' : World), vs 21 = .bool true → Below w0.heap.size w0 w' → ∀ a', a' = (vbtD15 ++ [21]).foldl (fun b s => b.put (some s) (vs s)) a0 → Q .normal a' w') :
    (Code.region id ops true).wp Tryd.prog Q a0 w0 := by
  have hg0 : Below w0.heap.size w0 w0.drew := below_drewN (Below.refl _ _) 1
  have hlt : ∀ k, k < 13 → vbtd15 k < a0.tmps.size := fun k hk => by have := (vbtd15_mem k hk).1; omega
  refine wp_region_factsE 13 999 vbtD15 vbtd15 (vbtf15 la lb ca cb Aa Ab SA SB D w0.heap.size) (fun w => Below w0.heap.size w0 w) w0.heap.size Never (fun k => k) (by kernel_rfl) (by subst hops; kernel_rfl) (by subst hops; kernel_rfl) (by subst hops; kernel_rfl) (vbtf15_ext la lb ca cb Aa Ab SA SB D w0.heap.size) hg0 ?_ ?_
  · intro j a w hj ho hg hd
    have hgs := hg.size
    match j, hj, hd with
    | 0, hk, hd =>
      have s : (ops[0]?).map sig = some (some 107, .move (.tmp 18), 4, none) := by subst hops; kernel_rfl
      have hgd : GdOk ops a none := trivial
      have e0 : ag a 18 = .bool true := (ho.off 18 (by decide)).trans h18
      refine op_valg s hgd (w' := w) (v := .bool true) ?_ ?_
      · exact congrArg (fun x => Result.ok (Next.value x) w) e0
      · exact PostE.put (i := 0) ho (vbtd15_mem 0 hk).2 (hlt 0 hk) (fun k hk2 hne _ => vbtd15_inj 0 hk k hk2 hne) (.inl (Ext.refl _ _)) rfl hg
    | 1, hk, hd =>
      have s : (ops[1]?).map sig = some (some 108, .unOp .not 4 (.tmp 107), 4, none) := by subst hops; kernel_rfl
      have hgd : GdOk ops a none := trivial
      have d0 := hd 0 (by decide) (by subst hops; kernel_rfl)
      have e0 : ag a 107 = .bool true := d0
      refine op_valg s hgd (w' := w) (v := .bool false) ?_ ?_
      · simp only [execOp, eval_tmp, e0]
        go_simp
      · exact PostE.put (i := 1) ho (vbtd15_mem 1 hk).2 (hlt 1 hk) (fun k hk2 hne _ => vbtd15_inj 1 hk k hk2 hne) (.inl (Ext.refl _ _)) rfl hg
    | 2, hk, hd =>
      have s : (ops[2]?).map sig = some (some 109, .move (.tmp 108), 4, none) := by subst hops; kernel_rfl
      have hgd : GdOk ops a none := trivial
      have d1 := hd 1 (by decide) (by subst hops; kernel_rfl)
      have e0 : ag a 108 = .bool false := d1
      refine op_valg s hgd (w' := w) (v := .bool false) ?_ ?_
      · exact congrArg (fun x => Result.ok (Next.value x) w) e0
      · exact PostE.put (i := 2) ho (vbtd15_mem 2 hk).2 (hlt 2 hk) (fun k hk2 hne _ => vbtd15_inj 2 hk k hk2 hne) (.inl (Ext.refl _ _)) rfl hg
    | 3, hk, hd =>
      have s : (ops[3]?).map sig = some (some 110, .move (.tmp 13), 69, some (2, false)) := by subst hops; kernel_rfl
      have hgd : GdOk ops a (some (2, false)) := yielded_of (d := 109) (by subst hops; kernel_rfl) (hd 2 (by decide) (by subst hops; kernel_rfl))
      have e0 : ag a 13 = .slice Aa la ca := (ho.off 13 (by decide)).trans h13
      refine op_valg s hgd (w' := w) (v := .slice Aa la ca) ?_ ?_
      · exact congrArg (fun x => Result.ok (Next.value x) w) e0
      · exact PostE.put (i := 3) ho (vbtd15_mem 3 hk).2 (hlt 3 hk) (fun k hk2 hne _ => vbtd15_inj 3 hk k hk2 hne) (.inl (Ext.refl _ _)) rfl hg
    | 4, hk, hd =>
      have s : (ops[4]?).map sig = some (some 111, .convert 69 9 (.tmp 110), 9, some (2, false)) := by subst hops; kernel_rfl
      have hgd : GdOk ops a (some (2, false)) := yielded_of (d := 109) (by subst hops; kernel_rfl) (hd 2 (by decide) (by subst hops; kernel_rfl))
      have d3 := hd 3 (by decide) (by subst hops; kernel_rfl)
      have e0 : ag a 110 = .slice Aa la ca := d3
      have hcv := hA w hg
      refine op_valg s hgd (w' := w) (v := .string SA) ?_ ?_
      · simp only [execOp, eval_tmp, e0]
        go_simp
      · exact PostE.put (i := 4) ho (vbtd15_mem 4 hk).2 (hlt 4 hk) (fun k hk2 hne _ => vbtd15_inj 4 hk k hk2 hne) (.inl (Ext.refl _ _)) rfl hg
    | 5, hk, hd =>
      have s : (ops[5]?).map sig = some (some 112, .buildSlice 42 1 #[(0, .tmp 111)], 42, some (2, false)) := by subst hops; kernel_rfl
      have hgd : GdOk ops a (some (2, false)) := yielded_of (d := 109) (by subst hops; kernel_rfl) (hd 2 (by decide) (by subst hops; kernel_rfl))
      have d4 := hd 4 (by decide) (by subst hops; kernel_rfl)
      have e0 : ag a 111 = .string SA := d4
      refine op_valg s hgd (w' := w.alloc (.cells #[.string SA] 9)) (v := .slice (some ⟨w.heap.size, 0, none⟩) 1 1) ?_ ?_
      · simp only [execOp, List.map_toArray, List.map_cons, List.map_nil, eval_tmp, e0]
        go_simp
      · exact PostE.put (i := 5) ho (vbtd15_mem 5 hk).2 (hlt 5 hk) (fun k hk2 hne _ => vbtd15_inj 5 hk k hk2 hne) (.inl (Ext.of (new_later w _))) ⟨_, rfl, hgs, Arr.new' w _ _ 1 _ rfl rfl (by decide)⟩ (later hg (new_later w _))
    | 6, hk, hd =>
      have s : (ops[6]?).map sig = some (some 113, .call { callee := .value (.func 43), args := #[.const (.int .i64 9), .tmp 112], argTypes := #[3, 42] }, 78, some (2, false)) := by subst hops; kernel_rfl
      have hgd : GdOk ops a (some (2, false)) := yielded_of (d := 109) (by subst hops; kernel_rfl) (hd 2 (by decide) (by subst hops; kernel_rfl))
      have d5 := hd 5 (by decide) (by subst hops; kernel_rfl)
      obtain ⟨gk, e0, hk1, hk2⟩ := d5
      have e0 : ag a 112 = .slice (some ⟨gk, 0, none⟩) 1 1 := e0
      have hrd : Rd w w.heap.size (some ⟨gk, 0, none⟩) (ss [SA]) := .inr ⟨gk, 0, rfl, hk2.lt, fun j u hu => by have := hk2.range j u hu; simpa using this⟩
      refine op_callg s hgd (w' := w) (f := 43) (args := #[.int .i64 9, .slice (some ⟨gk, 0, none⟩) 1 1]) ?_ ?_
      · simp only [execOp]
        go_simp
        simpa [ag] using e0
      · refine (show Calls Tryd.prog _ _ w (fun e w' => e = .returned (.agg (bs D).toArray) ∧ Below w.heap.size w w') from hSA ▸ hOf_any 9 _ 1 1 [SA] w (by unfold InR; omega) rfl hrd (by simpa using hzSA) (by omega) (hK.later hg)).mono ?_
        rintro e w' ⟨rfl, hb⟩
        exact ⟨_, rfl, PostE.put (i := 6) ho (vbtd15_mem 6 hk).2 (hlt 6 hk) (fun k hk2 hne _ => vbtd15_inj 6 hk k hk2 hne) (.inl (Ext.of hb)) rfl (later hg hb)⟩
    | 7, hk, hd =>
      have s : (ops[7]?).map sig = some (some 114, .move (.tmp 14), 69, some (2, false)) := by subst hops; kernel_rfl
      have hgd : GdOk ops a (some (2, false)) := yielded_of (d := 109) (by subst hops; kernel_rfl) (hd 2 (by decide) (by subst hops; kernel_rfl))
      have e0 : ag a 14 = .slice Ab lb cb := (ho.off 14 (by decide)).trans h14
      refine op_valg s hgd (w' := w) (v := .slice Ab lb cb) ?_ ?_
      · exact congrArg (fun x => Result.ok (Next.value x) w) e0
      · exact PostE.put (i := 7) ho (vbtd15_mem 7 hk).2 (hlt 7 hk) (fun k hk2 hne _ => vbtd15_inj 7 hk k hk2 hne) (.inl (Ext.refl _ _)) rfl hg
    | 8, hk, hd =>
      have s : (ops[8]?).map sig = some (some 115, .convert 69 9 (.tmp 114), 9, some (2, false)) := by subst hops; kernel_rfl
      have hgd : GdOk ops a (some (2, false)) := yielded_of (d := 109) (by subst hops; kernel_rfl) (hd 2 (by decide) (by subst hops; kernel_rfl))
      have d7 := hd 7 (by decide) (by subst hops; kernel_rfl)
      have e0 : ag a 114 = .slice Ab lb cb := d7
      have hcv := hB w hg
      refine op_valg s hgd (w' := w) (v := .string SB) ?_ ?_
      · simp only [execOp, eval_tmp, e0]
        go_simp
      · exact PostE.put (i := 8) ho (vbtd15_mem 8 hk).2 (hlt 8 hk) (fun k hk2 hne _ => vbtd15_inj 8 hk k hk2 hne) (.inl (Ext.refl _ _)) rfl hg
    | 9, hk, hd =>
      have s : (ops[9]?).map sig = some (some 116, .buildSlice 42 1 #[(0, .tmp 115)], 42, some (2, false)) := by subst hops; kernel_rfl
      have hgd : GdOk ops a (some (2, false)) := yielded_of (d := 109) (by subst hops; kernel_rfl) (hd 2 (by decide) (by subst hops; kernel_rfl))
      have d8 := hd 8 (by decide) (by subst hops; kernel_rfl)
      have e0 : ag a 115 = .string SB := d8
      refine op_valg s hgd (w' := w.alloc (.cells #[.string SB] 9)) (v := .slice (some ⟨w.heap.size, 0, none⟩) 1 1) ?_ ?_
      · simp only [execOp, List.map_toArray, List.map_cons, List.map_nil, eval_tmp, e0]
        go_simp
      · exact PostE.put (i := 9) ho (vbtd15_mem 9 hk).2 (hlt 9 hk) (fun k hk2 hne _ => vbtd15_inj 9 hk k hk2 hne) (.inl (Ext.of (new_later w _))) ⟨_, rfl, hgs, Arr.new' w _ _ 1 _ rfl rfl (by decide)⟩ (later hg (new_later w _))
    | 10, hk, hd =>
      have s : (ops[10]?).map sig = some (some 117, .call { callee := .value (.func 43), args := #[.const (.int .i64 9), .tmp 116], argTypes := #[3, 42] }, 78, some (2, false)) := by subst hops; kernel_rfl
      have hgd : GdOk ops a (some (2, false)) := yielded_of (d := 109) (by subst hops; kernel_rfl) (hd 2 (by decide) (by subst hops; kernel_rfl))
      have d9 := hd 9 (by decide) (by subst hops; kernel_rfl)
      obtain ⟨gk, e0, hk1, hk2⟩ := d9
      have e0 : ag a 116 = .slice (some ⟨gk, 0, none⟩) 1 1 := e0
      have hrd : Rd w w.heap.size (some ⟨gk, 0, none⟩) (ss [SB]) := .inr ⟨gk, 0, rfl, hk2.lt, fun j u hu => by have := hk2.range j u hu; simpa using this⟩
      refine op_callg s hgd (w' := w) (f := 43) (args := #[.int .i64 9, .slice (some ⟨gk, 0, none⟩) 1 1]) ?_ ?_
      · simp only [execOp]
        go_simp
        simpa [ag] using e0
      · refine (show Calls Tryd.prog _ _ w (fun e w' => e = .returned (.agg (bs D).toArray) ∧ Below w.heap.size w w') from hSB ▸ hOf_any 9 _ 1 1 [SB] w (by unfold InR; omega) rfl hrd (by simpa using hzSB) (by omega) (hK.later hg)).mono ?_
        rintro e w' ⟨rfl, hb⟩
        exact ⟨_, rfl, PostE.put (i := 10) ho (vbtd15_mem 10 hk).2 (hlt 10 hk) (fun k hk2 hne _ => vbtd15_inj 10 hk k hk2 hne) (.inl (Ext.of hb)) rfl (later hg hb)⟩
    | 11, hk, hd =>
      have s : (ops[11]?).map sig = some (some 118, .binOp .eql 78 (.tmp 113) (.tmp 117) 78, 4, some (2, false)) := by subst hops; kernel_rfl
      have hgd : GdOk ops a (some (2, false)) := yielded_of (d := 109) (by subst hops; kernel_rfl) (hd 2 (by decide) (by subst hops; kernel_rfl))
      have d6 := hd 6 (by decide) (by subst hops; kernel_rfl)
      have d10 := hd 10 (by decide) (by subst hops; kernel_rfl)
      have e0 : ag a 113 = .agg (bs D).toArray := d6
      have e1 : ag a 117 = .agg (bs D).toArray := d10
      refine wpOp_ofg s hgd fun o h1 h2 h3 => wp_eqlArr _ _ _ _ h2 (bs D).toArray (bs D).toArray e0 e1 eqg_dig (run_eqDig w D hDl) ?_
      rw [h1]
      exact PostE.put (i := 11) ho (vbtd15_mem 11 hk).2 (hlt 11 hk) (fun k hk2 hne _ => vbtd15_inj 11 hk k hk2 hne) (.inl (Ext.refl _ _)) rfl hg
    | 12, hk, hd =>
      have s : (ops[12]?).map sig = some (some 119, .pick (.tmp 109) (.const (.bool true)) (.tmp 118), 4, none) := by subst hops; kernel_rfl
      have hgd : GdOk ops a none := trivial
      have d2 := hd 2 (by decide) (by subst hops; kernel_rfl)
      have d11 := hd 11 (by decide) (by subst hops; kernel_rfl)
      have e0 : ag a 109 = .bool false := d2
      have e1 : ag a 118 = .bool true := d11
      refine op_valg s hgd (w' := w) (v := .bool true) ?_ ?_
      · simp only [execOp, eval_tmp, e0, e1]
        go_simp
      · exact PostE.put (i := 12) ho (vbtd15_mem 12 hk).2 (hlt 12 hk) (fun k hk2 hne _ => vbtd15_inj 12 hk k hk2 hne) (.inl (Ext.refl _ _)) rfl hg
    | n + 13, hn, _ => exact absurd hn (by omega)
  · intro a w ho hg hf
    have s : (ops[13]?).map sig = some (some 21, .assign (.tmp 119), 4, none) := by subst hops; kernel_rfl
    have hgd : GdOk ops a none := trivial
    have d12 := hf 12 (by decide)
    have e0 : ag a 119 = .bool true := d12
    refine op_valg s hgd (w' := w) (v := .bool true) ?_ ?_
    · exact congrArg (fun x => Result.ok (Next.value x) w) e0
    · have ho2 : Off (vbtD15 ++ [21]) a0 (a.put (some 21) (.bool true)) := (ho.mono (fun s hs => List.mem_append_left _ hs)).put (by decide)
      exact hQ (ag (a.put (some 21) (.bool true))) w (ag_put (by rw [ho.size, hsz]; decide)) hg _ (ho2.eq (fun s hs => by rw [hsz]; revert s; decide))
def vbff15 (la lb ca cb : Nat) (Aa Ab : Option Addr) (SA SB : ByteArray) : Nat → Value → World → Prop
  | 0, v, w => v = .bool false
  | 1, v, w => v = .bool true
  | 2, v, w => v = .bool true
  | 3, v, w => v = undef
  | 4, v, w => v = undef
  | 5, v, w => v = undef
  | 6, v, w => v = undef
  | 7, v, w => v = undef
  | 8, v, w => v = undef
  | 9, v, w => v = undef
  | 10, v, w => v = undef
  | 11, v, w => v = undef
  | 12, v, w => v = .bool true
  | _, _, _ => True
theorem vbff15_ext (la lb ca cb : Nat) (Aa Ab : Option Addr) (SA SB : ByteArray) (S : Nat) : ∀ j v w w', j < 13 → (Ext S w w' ∨ (j ≠ 999 ∧ Never w w')) → vbff15 la lb ca cb Aa Ab SA SB j v w → vbff15 la lb ca cb Aa Ab SA SB j v w' := by
  intro j v w w' hj he h
  match j, hj, he, h with
  | 0, _, he, h => exact h
  | 1, _, he, h => exact h
  | 2, _, he, h => exact h
  | 3, _, he, h => exact h
  | 4, _, he, h => exact h
  | 5, _, he, h => exact h
  | 6, _, he, h => exact h
  | 7, _, he, h => exact h
  | 8, _, he, h => exact h
  | 9, _, he, h => exact h
  | 10, _, he, h => exact h
  | 11, _, he, h => exact h
  | 12, _, he, h => exact h
  | n + 13, hn, _, _ => exact absurd hn (by omega)
def vbfD15 : List Nat := [107, 108, 109, 110, 111, 112, 113, 114, 115, 116, 117, 118, 119]
def vbfd15 (k : Nat) : Nat := [107, 108, 109, 110, 111, 112, 113, 114, 115, 116, 117, 118, 119].getD k 0
theorem vbfd15_mem : ∀ k, k < 13 → vbfd15 k < 133 ∧ vbfd15 k ∈ vbfD15 := by decide
theorem vbfd15_inj : ∀ i, i < 13 → ∀ k, k < 13 → k ≠ i → vbfd15 i ≠ vbfd15 k := by decide
set_option maxHeartbeats 4000000 in
set_option maxRecDepth 100000 in
theorem vbfreg15 {Q : Exit → Act → World → Prop} {id : Nat} {ops : Array Oper} (hops : ops = ((Tryd.f8.body).bind (opsOf 15)).getD #[]) (a0 : Act) (w0 : World) (la lb ca cb : Nat) (Aa Ab : Option Addr) (SA SB : ByteArray) (hsz : a0.tmps.size = 133)
    (h13 : ag a0 13 = .slice Aa la ca) (h14 : ag a0 14 = .slice Ab lb cb) (h18 : ag a0 18 = .bool false)
    (hQ : ∀ (vs : Nat → Value) (w' : World), vs 21 = .bool true → Below w0.heap.size w0 w' → ∀ a', a' = (vbfD15 ++ [21]).foldl (fun b s => b.put (some s) (vs s)) a0 → Q .normal a' w') :
    (Code.region id ops true).wp Tryd.prog Q a0 w0 := by
  have hg0 : Below w0.heap.size w0 w0.drew := below_drewN (Below.refl _ _) 1
  have hlt : ∀ k, k < 13 → vbfd15 k < a0.tmps.size := fun k hk => by have := (vbfd15_mem k hk).1; omega
  refine wp_region_factsE 13 999 vbfD15 vbfd15 (vbff15 la lb ca cb Aa Ab SA SB) (fun w => Below w0.heap.size w0 w) w0.heap.size Never (fun k => k) (by kernel_rfl) (by subst hops; kernel_rfl) (by subst hops; kernel_rfl) (by subst hops; kernel_rfl) (vbff15_ext la lb ca cb Aa Ab SA SB w0.heap.size) hg0 ?_ ?_
  · intro j a w hj ho hg hd
    have hgs := hg.size
    match j, hj, hd with
    | 0, hk, hd =>
      have s : (ops[0]?).map sig = some (some 107, .move (.tmp 18), 4, none) := by subst hops; kernel_rfl
      have hgd : GdOk ops a none := trivial
      have e0 : ag a 18 = .bool false := (ho.off 18 (by decide)).trans h18
      refine op_valg s hgd (w' := w) (v := .bool false) ?_ ?_
      · exact congrArg (fun x => Result.ok (Next.value x) w) e0
      · exact PostE.put (i := 0) ho (vbfd15_mem 0 hk).2 (hlt 0 hk) (fun k hk2 hne _ => vbfd15_inj 0 hk k hk2 hne) (.inl (Ext.refl _ _)) rfl hg
    | 1, hk, hd =>
      have s : (ops[1]?).map sig = some (some 108, .unOp .not 4 (.tmp 107), 4, none) := by subst hops; kernel_rfl
      have hgd : GdOk ops a none := trivial
      have d0 := hd 0 (by decide) (by subst hops; kernel_rfl)
      have e0 : ag a 107 = .bool false := d0
      refine op_valg s hgd (w' := w) (v := .bool true) ?_ ?_
      · simp only [execOp, eval_tmp, e0]
        go_simp
      · exact PostE.put (i := 1) ho (vbfd15_mem 1 hk).2 (hlt 1 hk) (fun k hk2 hne _ => vbfd15_inj 1 hk k hk2 hne) (.inl (Ext.refl _ _)) rfl hg
    | 2, hk, hd =>
      have s : (ops[2]?).map sig = some (some 109, .move (.tmp 108), 4, none) := by subst hops; kernel_rfl
      have hgd : GdOk ops a none := trivial
      have d1 := hd 1 (by decide) (by subst hops; kernel_rfl)
      have e0 : ag a 108 = .bool true := d1
      refine op_valg s hgd (w' := w) (v := .bool true) ?_ ?_
      · exact congrArg (fun x => Result.ok (Next.value x) w) e0
      · exact PostE.put (i := 2) ho (vbfd15_mem 2 hk).2 (hlt 2 hk) (fun k hk2 hne _ => vbfd15_inj 2 hk k hk2 hne) (.inl (Ext.refl _ _)) rfl hg
    | 3, hk, hd =>
      have s : (ops[3]?).map sig = some (some 110, .move (.tmp 13), 69, some (2, false)) := by subst hops; kernel_rfl
      have hy : yielded ops a.tmps 2 = some true := yielded_of (d := 109) (by subst hops; kernel_rfl) (hd 2 (by decide) (by subst hops; kernel_rfl))
      refine opg_skip s hy (by decide) ?_
      exact PostE.put (i := 3) ho (vbfd15_mem 3 hk).2 (hlt 3 hk) (fun k hk2 hne _ => vbfd15_inj 3 hk k hk2 hne) (.inl (Ext.refl _ _)) rfl hg
    | 4, hk, hd =>
      have s : (ops[4]?).map sig = some (some 111, .convert 69 9 (.tmp 110), 9, some (2, false)) := by subst hops; kernel_rfl
      have hy : yielded ops a.tmps 2 = some true := yielded_of (d := 109) (by subst hops; kernel_rfl) (hd 2 (by decide) (by subst hops; kernel_rfl))
      refine opg_skip s hy (by decide) ?_
      exact PostE.put (i := 4) ho (vbfd15_mem 4 hk).2 (hlt 4 hk) (fun k hk2 hne _ => vbfd15_inj 4 hk k hk2 hne) (.inl (Ext.refl _ _)) rfl hg
    | 5, hk, hd =>
      have s : (ops[5]?).map sig = some (some 112, .buildSlice 42 1 #[(0, .tmp 111)], 42, some (2, false)) := by subst hops; kernel_rfl
      have hy : yielded ops a.tmps 2 = some true := yielded_of (d := 109) (by subst hops; kernel_rfl) (hd 2 (by decide) (by subst hops; kernel_rfl))
      refine opg_skip s hy (by decide) ?_
      exact PostE.put (i := 5) ho (vbfd15_mem 5 hk).2 (hlt 5 hk) (fun k hk2 hne _ => vbfd15_inj 5 hk k hk2 hne) (.inl (Ext.refl _ _)) rfl hg
    | 6, hk, hd =>
      have s : (ops[6]?).map sig = some (some 113, .call { callee := .value (.func 43), args := #[.const (.int .i64 9), .tmp 112], argTypes := #[3, 42] }, 78, some (2, false)) := by subst hops; kernel_rfl
      have hy : yielded ops a.tmps 2 = some true := yielded_of (d := 109) (by subst hops; kernel_rfl) (hd 2 (by decide) (by subst hops; kernel_rfl))
      refine opg_skip s hy (by decide) ?_
      exact PostE.put (i := 6) ho (vbfd15_mem 6 hk).2 (hlt 6 hk) (fun k hk2 hne _ => vbfd15_inj 6 hk k hk2 hne) (.inl (Ext.refl _ _)) rfl hg
    | 7, hk, hd =>
      have s : (ops[7]?).map sig = some (some 114, .move (.tmp 14), 69, some (2, false)) := by subst hops; kernel_rfl
      have hy : yielded ops a.tmps 2 = some true := yielded_of (d := 109) (by subst hops; kernel_rfl) (hd 2 (by decide) (by subst hops; kernel_rfl))
      refine opg_skip s hy (by decide) ?_
      exact PostE.put (i := 7) ho (vbfd15_mem 7 hk).2 (hlt 7 hk) (fun k hk2 hne _ => vbfd15_inj 7 hk k hk2 hne) (.inl (Ext.refl _ _)) rfl hg
    | 8, hk, hd =>
      have s : (ops[8]?).map sig = some (some 115, .convert 69 9 (.tmp 114), 9, some (2, false)) := by subst hops; kernel_rfl
      have hy : yielded ops a.tmps 2 = some true := yielded_of (d := 109) (by subst hops; kernel_rfl) (hd 2 (by decide) (by subst hops; kernel_rfl))
      refine opg_skip s hy (by decide) ?_
      exact PostE.put (i := 8) ho (vbfd15_mem 8 hk).2 (hlt 8 hk) (fun k hk2 hne _ => vbfd15_inj 8 hk k hk2 hne) (.inl (Ext.refl _ _)) rfl hg
    | 9, hk, hd =>
      have s : (ops[9]?).map sig = some (some 116, .buildSlice 42 1 #[(0, .tmp 115)], 42, some (2, false)) := by subst hops; kernel_rfl
      have hy : yielded ops a.tmps 2 = some true := yielded_of (d := 109) (by subst hops; kernel_rfl) (hd 2 (by decide) (by subst hops; kernel_rfl))
      refine opg_skip s hy (by decide) ?_
      exact PostE.put (i := 9) ho (vbfd15_mem 9 hk).2 (hlt 9 hk) (fun k hk2 hne _ => vbfd15_inj 9 hk k hk2 hne) (.inl (Ext.refl _ _)) rfl hg
    | 10, hk, hd =>
      have s : (ops[10]?).map sig = some (some 117, .call { callee := .value (.func 43), args := #[.const (.int .i64 9), .tmp 116], argTypes := #[3, 42] }, 78, some (2, false)) := by subst hops; kernel_rfl
      have hy : yielded ops a.tmps 2 = some true := yielded_of (d := 109) (by subst hops; kernel_rfl) (hd 2 (by decide) (by subst hops; kernel_rfl))
      refine opg_skip s hy (by decide) ?_
      exact PostE.put (i := 10) ho (vbfd15_mem 10 hk).2 (hlt 10 hk) (fun k hk2 hne _ => vbfd15_inj 10 hk k hk2 hne) (.inl (Ext.refl _ _)) rfl hg
    | 11, hk, hd =>
      have s : (ops[11]?).map sig = some (some 118, .binOp .eql 78 (.tmp 113) (.tmp 117) 78, 4, some (2, false)) := by subst hops; kernel_rfl
      have hy : yielded ops a.tmps 2 = some true := yielded_of (d := 109) (by subst hops; kernel_rfl) (hd 2 (by decide) (by subst hops; kernel_rfl))
      refine opg_skip s hy (by decide) ?_
      exact PostE.put (i := 11) ho (vbfd15_mem 11 hk).2 (hlt 11 hk) (fun k hk2 hne _ => vbfd15_inj 11 hk k hk2 hne) (.inl (Ext.refl _ _)) rfl hg
    | 12, hk, hd =>
      have s : (ops[12]?).map sig = some (some 119, .pick (.tmp 109) (.const (.bool true)) (.tmp 118), 4, none) := by subst hops; kernel_rfl
      have hgd : GdOk ops a none := trivial
      have d2 := hd 2 (by decide) (by subst hops; kernel_rfl)
      have d11 := hd 11 (by decide) (by subst hops; kernel_rfl)
      have e0 : ag a 109 = .bool true := d2
      have e1 : ag a 118 = undef := d11
      refine op_valg s hgd (w' := w) (v := .bool true) ?_ ?_
      · simp only [execOp, eval_tmp, e0, e1]
        go_simp
      · exact PostE.put (i := 12) ho (vbfd15_mem 12 hk).2 (hlt 12 hk) (fun k hk2 hne _ => vbfd15_inj 12 hk k hk2 hne) (.inl (Ext.refl _ _)) rfl hg
    | n + 13, hn, _ => exact absurd hn (by omega)
  · intro a w ho hg hf
    have s : (ops[13]?).map sig = some (some 21, .assign (.tmp 119), 4, none) := by subst hops; kernel_rfl
    have hgd : GdOk ops a none := trivial
    have d12 := hf 12 (by decide)
    have e0 : ag a 119 = .bool true := d12
    refine op_valg s hgd (w' := w) (v := .bool true) ?_ ?_
    · exact congrArg (fun x => Result.ok (Next.value x) w) e0
    · have ho2 : Off (vbfD15 ++ [21]) a0 (a.put (some 21) (.bool true)) := (ho.mono (fun s hs => List.mem_append_left _ hs)).put (by decide)
      exact hQ (ag (a.put (some 21) (.bool true))) w (ag_put (by rw [ho.size, hsz]; decide)) hg _ (ho2.eq (fun s hs => by rw [hsz]; revert s; decide))
def vbf16 (q : Bool) : Nat → Value → World → Prop
  | 0, v, w => v = .bool false
  | 1, v, w => v = .bool true
  | 2, v, w => v = .bool true
  | 3, v, w => v = .bool q
  | 4, v, w => v = .bool q
  | 5, v, w => v = .bool true
  | 6, v, w => v = .bool true
  | 7, v, w => v = .bool true
  | 8, v, w => v = .bool true
  | 9, v, w => v = .bool true
  | 10, v, w => v = .bool true
  | 11, v, w => v = .bool true
  | 12, v, w => v = .bool true
  | _, _, _ => True
theorem vbf16_ext (q : Bool) (S : Nat) : ∀ j v w w', j < 13 → (Ext S w w' ∨ (j ≠ 999 ∧ Never w w')) → vbf16 q j v w → vbf16 q j v w' := by
  intro j v w w' hj he h
  match j, hj, he, h with
  | 0, _, he, h => exact h
  | 1, _, he, h => exact h
  | 2, _, he, h => exact h
  | 3, _, he, h => exact h
  | 4, _, he, h => exact h
  | 5, _, he, h => exact h
  | 6, _, he, h => exact h
  | 7, _, he, h => exact h
  | 8, _, he, h => exact h
  | 9, _, he, h => exact h
  | 10, _, he, h => exact h
  | 11, _, he, h => exact h
  | 12, _, he, h => exact h
  | n + 13, hn, _, _ => exact absurd hn (by omega)
def vbD16 : List Nat := [120, 121, 122, 123, 124, 125, 126, 127, 128, 129, 130, 131, 132]
def vbd16 (k : Nat) : Nat := [120, 121, 122, 123, 124, 125, 126, 127, 128, 129, 130, 131, 132].getD k 0
theorem vbd16_mem : ∀ k, k < 13 → vbd16 k < 133 ∧ vbd16 k ∈ vbD16 := by decide
theorem vbd16_inj : ∀ i, i < 13 → ∀ k, k < 13 → k ≠ i → vbd16 i ≠ vbd16 k := by decide
set_option maxHeartbeats 4000000 in
set_option maxRecDepth 100000 in
theorem vbreg16 {Q : Exit → Act → World → Prop} {id : Nat} {ops : Array Oper} (hops : ops = ((Tryd.f8.body).bind (opsOf 16)).getD #[]) (a0 : Act) (w0 : World) (q : Bool) (hsz : a0.tmps.size = 133)
    (h18 : ag a0 18 = .bool q) (h19 : ag a0 19 = .bool false) (h20 : ag a0 20 = .bool q) (h21 : ag a0 21 = .bool true) (hK : Kv w0)
    (hQ : ∀ (vs : Nat → Value) (w' : World), vs 8 = .bool true → Below w0.heap.size w0 w' → ∀ a', a' = (vbD16 ++ [8]).foldl (fun b s => b.put (some s) (vs s)) a0 → Q .normal a' w') :
    (Code.region id ops false).wp Tryd.prog Q a0 w0 := by
  have hg0 : Below w0.heap.size w0 w0 := Below.refl _ _
  have hlt : ∀ k, k < 13 → vbd16 k < a0.tmps.size := fun k hk => by have := (vbd16_mem k hk).1; omega
  refine wp_region_seqE 13 999 vbD16 vbd16 (vbf16 q) (fun w => Below w0.heap.size w0 w) w0.heap.size Never (by subst hops; kernel_rfl) (by subst hops; kernel_rfl) (vbf16_ext q w0.heap.size) hg0 ?_ ?_
  · intro j a w hj ho hg hd
    have hgs := hg.size
    match j, hj, hd with
    | 0, hk, hd =>
      have s : (ops[0]?).map sig = some (some 120, .move (.tmp 19), 4, none) := by subst hops; kernel_rfl
      have hgd : GdOk ops a none := trivial
      have e0 : ag a 19 = .bool false := (ho.off 19 (by decide)).trans h19
      refine op_valg s hgd (w' := w) (v := .bool false) ?_ ?_
      · exact congrArg (fun x => Result.ok (Next.value x) w) e0
      · exact PostE.put (i := 0) ho (vbd16_mem 0 hk).2 (hlt 0 hk) (fun k hk2 hne _ => vbd16_inj 0 hk k hk2 hne) (.inl (Ext.refl _ _)) rfl hg
    | 1, hk, hd =>
      have s : (ops[1]?).map sig = some (some 121, .unOp .not 4 (.tmp 120), 4, none) := by subst hops; kernel_rfl
      have hgd : GdOk ops a none := trivial
      have d0 := hd 0 (by decide) (by subst hops; kernel_rfl)
      have e0 : ag a 120 = .bool false := d0
      refine op_valg s hgd (w' := w) (v := .bool true) ?_ ?_
      · simp only [execOp, eval_tmp, e0]
        go_simp
      · exact PostE.put (i := 1) ho (vbd16_mem 1 hk).2 (hlt 1 hk) (fun k hk2 hne _ => vbd16_inj 1 hk k hk2 hne) (.inl (Ext.refl _ _)) rfl hg
    | 2, hk, hd =>
      have s : (ops[2]?).map sig = some (some 122, .move (.tmp 121), 4, none) := by subst hops; kernel_rfl
      have hgd : GdOk ops a none := trivial
      have d1 := hd 1 (by decide) (by subst hops; kernel_rfl)
      have e0 : ag a 121 = .bool true := d1
      refine op_valg s hgd (w' := w) (v := .bool true) ?_ ?_
      · exact congrArg (fun x => Result.ok (Next.value x) w) e0
      · exact PostE.put (i := 2) ho (vbd16_mem 2 hk).2 (hlt 2 hk) (fun k hk2 hne _ => vbd16_inj 2 hk k hk2 hne) (.inl (Ext.refl _ _)) rfl hg
    | 3, hk, hd =>
      have s : (ops[3]?).map sig = some (some 123, .move (.tmp 20), 4, some (2, true)) := by subst hops; kernel_rfl
      have hgd : GdOk ops a (some (2, true)) := yielded_of (d := 122) (by subst hops; kernel_rfl) (hd 2 (by decide) (by subst hops; kernel_rfl))
      have e0 : ag a 20 = .bool q := (ho.off 20 (by decide)).trans h20
      refine op_valg s hgd (w' := w) (v := .bool q) ?_ ?_
      · exact congrArg (fun x => Result.ok (Next.value x) w) e0
      · exact PostE.put (i := 3) ho (vbd16_mem 3 hk).2 (hlt 3 hk) (fun k hk2 hne _ => vbd16_inj 3 hk k hk2 hne) (.inl (Ext.refl _ _)) rfl hg
    | 4, hk, hd =>
      have s : (ops[4]?).map sig = some (some 124, .move (.tmp 18), 4, some (2, true)) := by subst hops; kernel_rfl
      have hgd : GdOk ops a (some (2, true)) := yielded_of (d := 122) (by subst hops; kernel_rfl) (hd 2 (by decide) (by subst hops; kernel_rfl))
      have e0 : ag a 18 = .bool q := (ho.off 18 (by decide)).trans h18
      refine op_valg s hgd (w' := w) (v := .bool q) ?_ ?_
      · exact congrArg (fun x => Result.ok (Next.value x) w) e0
      · exact PostE.put (i := 4) ho (vbd16_mem 4 hk).2 (hlt 4 hk) (fun k hk2 hne _ => vbd16_inj 4 hk k hk2 hne) (.inl (Ext.refl _ _)) rfl hg
    | 5, hk, hd =>
      have s : (ops[5]?).map sig = some (some 125, .binOp .eql 4 (.tmp 123) (.tmp 124) 4, 4, some (2, true)) := by subst hops; kernel_rfl
      have hgd : GdOk ops a (some (2, true)) := yielded_of (d := 122) (by subst hops; kernel_rfl) (hd 2 (by decide) (by subst hops; kernel_rfl))
      have d3 := hd 3 (by decide) (by subst hops; kernel_rfl)
      have d4 := hd 4 (by decide) (by subst hops; kernel_rfl)
      have e0 : ag a 123 = .bool q := d3
      have e1 : ag a 124 = .bool q := d4
      refine op_valg s hgd (w' := w) (v := .bool true) ?_ ?_
      · simp only [execOp, eval_tmp, e0, e1]
        go_simp
      · exact PostE.put (i := 5) ho (vbd16_mem 5 hk).2 (hlt 5 hk) (fun k hk2 hne _ => vbd16_inj 5 hk k hk2 hne) (.inl (Ext.refl _ _)) rfl hg
    | 6, hk, hd =>
      have s : (ops[6]?).map sig = some (some 126, .pick (.tmp 122) (.tmp 125) (.const (.bool false)), 4, none) := by subst hops; kernel_rfl
      have hgd : GdOk ops a none := trivial
      have d2 := hd 2 (by decide) (by subst hops; kernel_rfl)
      have d5 := hd 5 (by decide) (by subst hops; kernel_rfl)
      have e0 : ag a 122 = .bool true := d2
      have e1 : ag a 125 = .bool true := d5
      refine op_valg s hgd (w' := w) (v := .bool true) ?_ ?_
      · simp only [execOp, eval_tmp, e0, e1]
        go_simp
      · exact PostE.put (i := 6) ho (vbd16_mem 6 hk).2 (hlt 6 hk) (fun k hk2 hne _ => vbd16_inj 6 hk k hk2 hne) (.inl (Ext.refl _ _)) rfl hg
    | 7, hk, hd =>
      have s : (ops[7]?).map sig = some (some 127, .move (.tmp 126), 4, none) := by subst hops; kernel_rfl
      have hgd : GdOk ops a none := trivial
      have d6 := hd 6 (by decide) (by subst hops; kernel_rfl)
      have e0 : ag a 126 = .bool true := d6
      refine op_valg s hgd (w' := w) (v := .bool true) ?_ ?_
      · exact congrArg (fun x => Result.ok (Next.value x) w) e0
      · exact PostE.put (i := 7) ho (vbd16_mem 7 hk).2 (hlt 7 hk) (fun k hk2 hne _ => vbd16_inj 7 hk k hk2 hne) (.inl (Ext.refl _ _)) rfl hg
    | 8, hk, hd =>
      have s : (ops[8]?).map sig = some (some 128, .move (.tmp 21), 4, some (7, true)) := by subst hops; kernel_rfl
      have hgd : GdOk ops a (some (7, true)) := yielded_of (d := 127) (by subst hops; kernel_rfl) (hd 7 (by decide) (by subst hops; kernel_rfl))
      have e0 : ag a 21 = .bool true := (ho.off 21 (by decide)).trans h21
      refine op_valg s hgd (w' := w) (v := .bool true) ?_ ?_
      · exact congrArg (fun x => Result.ok (Next.value x) w) e0
      · exact PostE.put (i := 8) ho (vbd16_mem 8 hk).2 (hlt 8 hk) (fun k hk2 hne _ => vbd16_inj 8 hk k hk2 hne) (.inl (Ext.refl _ _)) rfl hg
    | 9, hk, hd =>
      have s : (ops[9]?).map sig = some (some 129, .pick (.tmp 127) (.tmp 128) (.const (.bool false)), 4, none) := by subst hops; kernel_rfl
      have hgd : GdOk ops a none := trivial
      have d7 := hd 7 (by decide) (by subst hops; kernel_rfl)
      have d8 := hd 8 (by decide) (by subst hops; kernel_rfl)
      have e0 : ag a 127 = .bool true := d7
      have e1 : ag a 128 = .bool true := d8
      refine op_valg s hgd (w' := w) (v := .bool true) ?_ ?_
      · simp only [execOp, eval_tmp, e0, e1]
        go_simp
      · exact PostE.put (i := 9) ho (vbd16_mem 9 hk).2 (hlt 9 hk) (fun k hk2 hne _ => vbd16_inj 9 hk k hk2 hne) (.inl (Ext.refl _ _)) rfl hg
    | 10, hk, hd =>
      have s : (ops[10]?).map sig = some (some 130, .move (.tmp 129), 4, none) := by subst hops; kernel_rfl
      have hgd : GdOk ops a none := trivial
      have d9 := hd 9 (by decide) (by subst hops; kernel_rfl)
      have e0 : ag a 129 = .bool true := d9
      refine op_valg s hgd (w' := w) (v := .bool true) ?_ ?_
      · exact congrArg (fun x => Result.ok (Next.value x) w) e0
      · exact PostE.put (i := 10) ho (vbd16_mem 10 hk).2 (hlt 10 hk) (fun k hk2 hne _ => vbd16_inj 10 hk k hk2 hne) (.inl (Ext.refl _ _)) rfl hg
    | 11, hk, hd =>
      have s : (ops[11]?).map sig = some (some 131, .call { callee := .value (.func 22), args := #[], argTypes := #[] }, 4, some (10, true)) := by subst hops; kernel_rfl
      have hgd : GdOk ops a (some (10, true)) := yielded_of (d := 130) (by subst hops; kernel_rfl) (hd 10 (by decide) (by subst hops; kernel_rfl))
      refine op_callg s hgd (w' := w) (f := 22) (args := #[]) ?_ ?_
      · simp only [execOp]
        go_simp
      · refine (lives_any w (hK.later hg)).mono ?_
        rintro e w' ⟨rfl, hb⟩
        exact ⟨_, rfl, PostE.put (i := 11) ho (vbd16_mem 11 hk).2 (hlt 11 hk) (fun k hk2 hne _ => vbd16_inj 11 hk k hk2 hne) (.inl (Ext.of hb)) rfl (later hg hb)⟩
    | 12, hk, hd =>
      have s : (ops[12]?).map sig = some (some 132, .pick (.tmp 130) (.tmp 131) (.const (.bool false)), 4, none) := by subst hops; kernel_rfl
      have hgd : GdOk ops a none := trivial
      have d10 := hd 10 (by decide) (by subst hops; kernel_rfl)
      have d11 := hd 11 (by decide) (by subst hops; kernel_rfl)
      have e0 : ag a 130 = .bool true := d10
      have e1 : ag a 131 = .bool true := d11
      refine op_valg s hgd (w' := w) (v := .bool true) ?_ ?_
      · simp only [execOp, eval_tmp, e0, e1]
        go_simp
      · exact PostE.put (i := 12) ho (vbd16_mem 12 hk).2 (hlt 12 hk) (fun k hk2 hne _ => vbd16_inj 12 hk k hk2 hne) (.inl (Ext.refl _ _)) rfl hg
    | n + 13, hn, _ => exact absurd hn (by omega)
  · intro a w ho hg hf
    have s : (ops[13]?).map sig = some (some 8, .assign (.tmp 132), 4, none) := by subst hops; kernel_rfl
    have hgd : GdOk ops a none := trivial
    have d12 := hf 12 (by decide)
    have e0 : ag a 132 = .bool true := d12
    refine op_valg s hgd (w' := w) (v := .bool true) ?_ ?_
    · exact congrArg (fun x => Result.ok (Next.value x) w) e0
    · have ho2 : Off (vbD16 ++ [8]) a0 (a.put (some 8) (.bool true)) := (ho.mono (fun s hs => List.mem_append_left _ hs)).put (by decide)
      exact hQ (ag (a.put (some 8) (.bool true))) w (ag_put (by rw [ho.size, hsz]; decide)) hg _ (ho2.eq (fun s hs => by rw [hsz]; revert s; decide))
end Go.Proofs.YtjbleefpafnhhaaDoor

