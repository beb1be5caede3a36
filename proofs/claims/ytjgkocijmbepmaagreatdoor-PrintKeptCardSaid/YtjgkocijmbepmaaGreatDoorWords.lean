/-
  Words for memory that all walks of this seat use: a slice that reads as a list of cells, and append onto a row of the call's own with the frame stated below a block.
-/
import Derived.Test.YtjgkocijmbepmaaGreatDoorRows
import Derived.Test.YtjgkocijmbepmaaGreatDoorPlain
import Derived.WalkKit
import Derived.WalkSpells
import Derived.WalkLawsBesides
import Derived.Handy
import Derived.Lib.Hide
import Derived.Deep.Draws
import Derived.Deep.LoopGhost
import Derived.Deep.QuietTactic
import Derived.BigQuiet
import Derived.Deep.DeepFit
import Derived.Lib.AppendStr
import Derived.Deep.MidRow
set_option linter.unusedVariables false
namespace Go.Proofs.YtjgkocijmbepmaaGreatDoor
open Go.RowKit

/-- A byte as a value. -/
def U8 (x : Nat) : Value := .int .u8 (x : Int)
/-- Bytes as values. -/
def bs (l : List Nat) : List Value := l.map U8
theorem bs_len (l : List Nat) : (bs l).length = l.length := by simp [bs]
theorem bs_app (l m : List Nat) : bs (l ++ m) = bs l ++ bs m := by simp [bs]
theorem bs_one (x : Nat) : bs [x] = [.int .u8 (x : Int)] := rfl
theorem bs_nil : bs [] = [] := rfl
theorem bs_get (l : List Nat) (j : Nat) (h : j < l.length) : (bs l)[j]? = some (.int .u8 ((l[j]?.getD 0 : Nat) : Int)) := by
  simp [bs, U8, List.getElem?_map, List.getElem?_eq_getElem h]
theorem bs_cell (l : List Nat) : ∀ u ∈ bs l, u.oneCell' = true := by
  intro u hu
  simp only [bs, List.mem_map] at hu
  obtain ⟨x, _, rfl⟩ := hu
  rfl

/-- Where a slice's cells lie: nothing is asked of an empty one. -/
def Rd (w : World) (B : Nat) (A : Option Addr) (xs : List Value) : Prop :=
  xs = [] ∨ ∃ b o, A = some ⟨b, o, none⟩ ∧ b < B ∧ ∀ j u, xs[j]? = some u → w.cell? ⟨b, o + j, none⟩ = some u

section
variable {w w' : World} {B B' : Nat} {A : Option Addr} {xs : List Value}
theorem Rd.nil (w : World) (B : Nat) (A : Option Addr) : Rd w B A [] := .inl rfl
theorem Rd.keep (h : Rd w B A xs) (hk : ∀ p : Addr, p.block < B → w'.cell? p = w.cell? p) : Rd w' B A xs := by
  rcases h with h | ⟨b, o, hA, hb, hc⟩
  · exact .inl h
  · exact .inr ⟨b, o, hA, hb, fun j u hu => (hk _ hb).trans (hc j u hu)⟩
theorem Rd.more (h : Rd w B A xs) (hB : B ≤ B') : Rd w B' A xs := by
  rcases h with h | ⟨b, o, hA, hb, hc⟩
  · exact .inl h
  · exact .inr ⟨b, o, hA, by omega, hc⟩
theorem Rd.below (h : Rd w B A xs) (hb : Below B w w') : Rd w' B A xs := h.keep fun _ hp => hb.cell hp
theorem Rd.drewN (h : Rd w B A xs) (k : Nat) : Rd (w.drewN k) B A xs := h
theorem Rd.at_ (h : Rd w B A xs) (h0 : xs ≠ []) : ∃ b o, A = some ⟨b, o, none⟩ ∧ b < B ∧ ∀ j u, xs[j]? = some u → w.cell? ⟨b, o + j, none⟩ = some u := by
  rcases h with h | h
  · exact absurd h h0
  · exact h
theorem Rd.take (h : Rd w B A xs) (n : Nat) : Rd w B A (xs.take n) := by
  rcases h with h | ⟨b, o, hA, hb, hc⟩
  · exact .inl (by rw [h]; simp)
  · refine .inr ⟨b, o, hA, hb, fun j u hu => hc j u ?_⟩
    rw [List.getElem?_take] at hu
    split at hu
    · exact hu
    · cases hu
theorem Rd.drop {b o : Nat} (h : Rd w B (some ⟨b, o, none⟩) xs) (n : Nat) : Rd w B (some ⟨b, o + n, none⟩) (xs.drop n) := by
  rcases h with h | ⟨b', o', hA, hb, hc⟩
  · exact .inl (by rw [h]; simp)
  · cases hA
    refine .inr ⟨b, o + n, rfl, hb, fun j u hu => ?_⟩
    rw [List.getElem?_drop] at hu
    rw [Nat.add_assoc]
    exact hc _ u hu
/-- What the call owns reads so. -/
theorem Rd.own {base e n cap : Nat} {size : Nat} (h : w.ownsRow base e size (.slice A n cap) n xs) : Rd w w.heap.size A xs := by
  rcases h.2 with ⟨hv, hn⟩ | ⟨g, c, cur, hv, _, hg, _, _, _, _⟩
  · left
    have := h.1
    rw [hn] at this
    exact List.eq_nil_of_length_eq_zero (by simpa using this)
  · cases hv
    refine .inr ⟨g, 0, rfl, (Array.getElem?_eq_some_iff.1 hg).1, fun j u hu => ?_⟩
    have hc := h.cells (g := g) rfl j u hu
    have ha : (⟨g, 0, none⟩ : Addr).add j = ⟨g, 0 + j, none⟩ := by unfold Addr.add; split <;> simp_all
    rw [ha] at hc
    exact hc
end

/-- The shape of what the call owns. -/
theorem own_shape {w : World} {base e n size : Nat} {v : Value} {xs : List Value} (h : w.ownsRow base e size v n xs) :
    ∃ A cap, v = .slice A n cap ∧ n ≤ cap ∧ cap ≤ maxLen ∧ (A = none → n = 0) := by
  rcases h.2 with ⟨rfl, rfl⟩ | ⟨g, c, cur, rfl, _, _, hn, hc, _, _⟩
  · exact ⟨none, 0, rfl, Nat.le_refl _, by simp [maxLen], fun _ => rfl⟩
  · exact ⟨_, c, rfl, hn, hc, fun e => by cases e⟩
theorem own_some {w : World} {base e n size : Nat} {v : Value} {xs : List Value} (h : w.ownsRow base e size v n xs) (h0 : 0 < n) :
    ∃ g cap, v = .slice (some ⟨g, 0, none⟩) n cap ∧ base ≤ g ∧ n ≤ cap ∧ cap ≤ maxLen := by
  rcases h.2 with ⟨rfl, rfl⟩ | ⟨g, c, cur, rfl, hb, _, hn, hc, _, _⟩
  · omega
  · exact ⟨g, c, rfl, hb, hn, hc⟩
theorem own_below {w w' : World} {B base e n size : Nat} {v : Value} {xs : List Value} (h : w.ownsRow base e size v n xs) (hb : Below B w w') (hl : ∀ k, v.ownBlock = some k → k < B) : w'.ownsRow base e size v n xs := by
  refine ⟨h.1, ?_⟩
  rcases h.2 with h2 | ⟨g, cap, cur, hv, hg, hh, r⟩
  · exact .inl h2
  · refine .inr ⟨g, cap, cur, hv, hg, ?_, r⟩
    rw [hb.block g (hl g (by rw [hv]; rfl))]
    exact hh
theorem own_below' {w w' : World} {base e n size : Nat} {v : Value} {xs : List Value} (h : w.ownsRow base e size v n xs) (hb : Below w.heap.size w w') : w'.ownsRow base e size v n xs :=
  own_below h hb fun k hk => (h.lt k hk).2
theorem own_alloc {w : World} {base e n size : Nat} {v : Value} {xs : List Value} (h : w.ownsRow base e size v n xs) (o : Obj) : (w.alloc o).ownsRow base e size v n xs := h.alloc o
theorem own_less {w : World} {base base' e n size : Nat} {v : Value} {xs : List Value} (h : w.ownsRow base e size v n xs) (hb : base' ≤ base) : w.ownsRow base' e size v n xs := by
  refine ⟨h.1, ?_⟩
  rcases h.2 with h2 | ⟨g, cap, cur, hv, hg, r⟩
  · exact .inl h2
  · exact .inr ⟨g, cap, cur, hv, by omega, r⟩
theorem below_drewN {B : Nat} {a w : World} (h : Below B a w) (n : Nat) : Below B a (w.drewN n) := ⟨h.os, h.tape, h.output, h.size, h.block⟩

/-- 'append(out, x)', x one cell in a block of its own, which was laid just before: the row, and the frame below 'base'. -/
theorem wpList_put1 {P : Program} {w : World} {base : Nat} {e t : TypeId} {z : Value} {bytes : Nat} {v : Value} {n : Nat} {xs : List Value} {ops : Array Oper} {rest : List Oper} {o : Oper} {a : Act} {Q : Exit → Act → World → Prop} {u : Value} {c : Nat}
    (hown : w.ownsRow base e 1 v n xs) (ht : P.underlying t = some (.slice e)) (hi : (P.info? e).map (fun i => (i.zero, i.size, i.bytes)) = some (some z, 1, bytes)) (hzs : z.cells.size = 1)
    (hu : u.oneCell' = true) (hbase : base ≤ w.heap.size) (h63 : n + 1 ≤ maxLen) (hbytes : (n + 1) * bytes ≤ 140737488355328)
    (hgd : o.guard = none) (s x : Operand) (ho : o.op = .call { callee := .builtin .append, args := #[s, x], argTypes := #[t, t] })
    (hs : a.eval s = v) (hx : a.eval x = .slice (some ⟨w.heap.size, 0, none⟩) 1 c)
    (h : ∀ v' w', w'.ownsRow base e 1 v' (n + 1) (xs ++ [u]) → Below base w w' → wpList P ops Q rest (a.put o.dst v') w') :
    wpList P ops Q (o :: rest) a (w.alloc (.cells #[u] e)) := by
  obtain ⟨i0, hi0, hz0, hz1, hz2⟩ := info_parts hi
  refine wpList_append_own _ hgd s x t ho base e i0 z 1 bytes ht hi0 hz0 hz1 hz2 hzs (by decide) v n xs hs (hown.alloc _) ⟨w.heap.size, 0, none⟩ 1 c [u] hx rfl ?_ ?_ h63 hbytes (by simp; omega) ?_
  · intro j y hj
    match j, hj with
    | 0, hj => simp at hj; subst hj; simp [Addr.add]
  · intro y hy; simp at hy; subst hy; exact hu
  · intro v' w' ho' hg _
    exact h v' w' ho' (((Below.refl base w).alloc hbase _).grown hg (by simp; omega) (fun k hk => (hown.lt k hk).1))

/-! ### Rows of bytes that the call owns. -/
theorem info_u8 : (Tryz.prog.info? 5).map (fun i => (i.zero, i.size, i.bytes)) = some (some (.int .u8 0), 1, 1) := by kernel_rfl
/-- The value is a row of the call's own, from block 'base' on, and holds just these bytes. -/
def OwnB (w : World) (base : Nat) (v : Value) (xs : List Nat) : Prop := w.ownsRow base 5 1 v xs.length (bs xs)
section
variable {w w' : World} {base base' B : Nat} {v : Value} {xs : List Nat}
theorem OwnB.nil (w : World) (base : Nat) : OwnB w base (.slice none 0 0) [] := World.ownsRow_nil w base _ 1
theorem OwnB.shape (h : OwnB w base v xs) : ∃ A cap, v = .slice A xs.length cap ∧ xs.length ≤ cap ∧ cap ≤ maxLen := by
  obtain ⟨A, cap, hv, h1, h2, _⟩ := own_shape h
  exact ⟨A, cap, hv, h1, h2⟩
theorem OwnB.some_ (h : OwnB w base v xs) (h0 : 0 < xs.length) : ∃ g cap, v = .slice (some ⟨g, 0, none⟩) xs.length cap ∧ base ≤ g ∧ g < w.heap.size ∧ xs.length ≤ cap ∧ cap ≤ maxLen := by
  obtain ⟨g, cap, rfl, h1, h2, h3⟩ := own_some h h0
  exact ⟨g, cap, rfl, h1, (World.ownsRow.lt h g rfl).2, h2, h3⟩
theorem OwnB.below (h : OwnB w base v xs) (hb : Below w.heap.size w w') : OwnB w' base v xs := own_below' h hb
theorem OwnB.alloc (h : OwnB w base v xs) (o : Obj) : OwnB (w.alloc o) base v xs := World.ownsRow.alloc h o
theorem OwnB.drewN (h : OwnB w base v xs) (n : Nat) : OwnB (w.drewN n) base v xs := h
theorem OwnB.less (h : OwnB w base v xs) (hb : base' ≤ base) : OwnB w base' v xs := own_less h hb
theorem OwnB.rd {A : Option Addr} {n cap : Nat} (h : OwnB w base (.slice A n cap) xs) : Rd w w.heap.size A (bs xs) := by
  obtain ⟨A', cap', hv, _⟩ := own_shape h
  cases hv
  exact Rd.own h
theorem OwnB.cell {g n cap : Nat} (h : OwnB w base (.slice (some ⟨g, 0, none⟩) n cap) xs) (j : Nat) (hj : j < xs.length) : w.cell? ⟨g, j, none⟩ = some (.int .u8 ((xs[j]?.getD 0 : Nat) : Int)) := by
  obtain ⟨A', cap', hv, _⟩ := own_shape h
  cases hv
  rw [World.ownsRow.cellAt h j (by omega), bs_get _ _ hj]
theorem OwnB.free {g n cap : Nat} (h : OwnB w base (.slice (some ⟨g, 0, none⟩) n cap) xs) (j : Nat) : w.frozen? ⟨g, j, none⟩ = false := by
  obtain ⟨A', cap', hv, _⟩ := own_shape h
  cases hv
  exact World.ownsRow.frozenAt h j
theorem OwnB.set_ {g n cap : Nat} (h : OwnB w base (.slice (some ⟨g, 0, none⟩) n cap) xs) (j x : Nat) {X : Int} (hX : X = (x : Int)) : OwnB (w.setCell ⟨g, j, none⟩ (.int .u8 X)) base (.slice (some ⟨g, 0, none⟩) n cap) (xs.set j x) := by
  subst hX
  obtain ⟨A', cap', hv, _⟩ := own_shape h
  cases hv
  have h2 := (World.ownsRow.stored h j (.int .u8 (x : Int))).1
  unfold OwnB bs
  rw [List.length_set, List.map_set]
  exact h2
end
/-- 'append(out, x)' of one byte. -/
theorem wpList_putB {w : World} {base : Nat} {v : Value} {xs : List Nat} {ops : Array Oper} {rest : List Oper} {o : Oper} {a : Act} {Q : Exit → Act → World → Prop} {x : Nat} {X : Int} {c : Nat}
    (hown : OwnB w base v xs) (hX : X = (x : Int)) (hbase : base ≤ w.heap.size) (hbytes : xs.length + 1 ≤ 140737488355328)
    (hgd : o.guard = none) (s y : Operand) (ho : o.op = .call { callee := .builtin .append, args := #[s, y], argTypes := #[73, 73] })
    (hs : a.eval s = v) (hy : a.eval y = .slice (some ⟨w.heap.size, 0, none⟩) 1 c)
    (h : ∀ v' w', OwnB w' base v' (xs ++ [x]) → Below base w w' → wpList Tryz.prog ops Q rest (a.put o.dst v') w') :
    wpList Tryz.prog ops Q (o :: rest) a (w.alloc (.cells #[.int .u8 X] 5)) := by
  subst hX
  refine wpList_put1 hown Tryz.underlying73 info_u8 rfl rfl hbase (by simp only [maxLen]; omega) (by omega) hgd s y ho hs hy ?_
  intro v' w' h1 h2
  refine h v' w' ?_ h2
  unfold OwnB
  rw [bs_app, bs_one, List.length_append]
  exact h1

/-- A string's bytes. -/
def sb (s : ByteArray) : List Nat := s.data.toList.map UInt8.toNat
theorem sb_len (s : ByteArray) : (sb s).length = s.size := by simp [sb]
theorem sb_cells (s : ByteArray) : Lib.strCells s = bs (sb s) := by
  simp [Lib.strCells, bs, sb, U8, List.map_map]
theorem sb_lt (s : ByteArray) : ∀ d ∈ sb s, d < 256 := by
  intro d hd
  simp only [sb, List.mem_map] at hd
  obtain ⟨x, _, rfl⟩ := hd
  exact x.toNat_lt
theorem sb_inj {s t : ByteArray} (h : sb s = sb t) : s = t := by
  have h2 : s.data.toList = t.data.toList := by
    unfold sb at h
    exact (List.map_inj_right (fun a b hab => UInt8.toNat_inj.1 hab)).1 h
  cases s; cases t
  simp at h2
  simp [h2]

/-- 'append(out, s...)', s a string. -/
theorem wpList_putS {w : World} {base : Nat} {v : Value} {xs : List Nat} {ops : Array Oper} {rest : List Oper} {o : Oper} {a : Act} {Q : Exit → Act → World → Prop} {s : ByteArray}
    (hown : OwnB w base v xs) (hbase : base ≤ w.heap.size) (hbytes : xs.length + s.size ≤ 140737488355328)
    (hgd : o.guard = none) (x y : Operand) (ho : o.op = .call { callee := .builtin .append, args := #[x, y], argTypes := #[73, 9] })
    (hs : a.eval x = v) (hy : a.eval y = .string s)
    (h : ∀ v' w', OwnB w' base v' (xs ++ sb s) → Below base w w' → wpList Tryz.prog ops Q rest (a.put o.dst v') w') :
    wpList Tryz.prog ops Q (o :: rest) a w := by
  obtain ⟨i0, hi0, hz0, hz1, hz2⟩ := info_parts info_u8
  refine Lib.wpList_append_own_string w hgd x y _ _ ho base _ i0 Tryz.underlying73 Tryz.underlying9 hi0 hz0 hz1 hz2 v xs.length (bs xs) hs hown s hy (by simp only [maxLen]; omega) hbytes hbase ?_
  intro v' w' h1 hg _
  refine h v' w' ?_ ((Below.refl base w).grown hg hbase (fun k hk => (World.ownsRow.lt hown k hk).1))
  unfold OwnB
  rw [bs_app, ← sb_cells, List.length_append, sb_len]
  exact h1

theorem run_append_nil_src {P : Program} (w : World) (base : Nat) (t ty e : TypeId) (i : TypeInfo) (size : Nat) (ht : P.underlying t = some (.slice e)) (hi : P.info? e = some i)
    (v : Value) (n : Nat) (xs : List Value) (hown : w.ownsRow base e size v n xs) (c : Nat) : (Builtin.append_ #[t, t] ty #[v, .slice none 0 c]).run P w = .ok v w := by
  rcases hown.2 with ⟨rfl, rfl⟩ | ⟨g, cap, cur, rfl, _, _, hnc, _⟩
  · simp [Builtin.append_, run_underlying ht, sizeOf, typeInfo, hi, Builtin.lenOf, Builtin.firstCells]
  · simp [Builtin.append_, run_underlying ht, sizeOf, typeInfo, hi, Builtin.lenOf, Builtin.firstCells, storeCells, hnc]

/-- 'append(out, l...)', l a slice of bytes, nil or empty or not. -/
theorem wpList_putL {w : World} {base B c m : Nat} {A : Option Addr} {v : Value} {xs ys : List Nat} {ops : Array Oper} {rest : List Oper} {o : Oper} {a : Act} {Q : Exit → Act → World → Prop}
    (hown : OwnB w base v xs) (hr : Rd w B A (bs ys)) (hm : m = ys.length) (hbase : base ≤ w.heap.size) (hbytes : xs.length + ys.length ≤ 140737488355328)
    (hgd : o.guard = none) (x y : Operand) (ho : o.op = .call { callee := .builtin .append, args := #[x, y], argTypes := #[73, 73] })
    (hs : a.eval x = v) (hy : a.eval y = .slice A m c)
    (h : ∀ v' w', OwnB w' base v' (xs ++ ys) → Below base w w' → wpList Tryz.prog ops Q rest (a.put o.dst v') w') :
    wpList Tryz.prog ops Q (o :: rest) a w := by
  subst hm
  obtain ⟨i0, hi0, hz0, hz1, hz2⟩ := info_parts info_u8
  rcases A with _ | ad
  · have hn : ys = [] := by
      rcases hr with h | ⟨b, o, h, _⟩
      · simpa [bs] using h
      · cases h
    subst hn
    have hrun := run_append_nil_src (P := Tryz.prog) w base _ o.type _ i0 1 Tryz.underlying73 hi0 v xs.length (bs xs) hown c
    refine wpList_plain hgd fun K hK => ?_
    unfold Oper.wp execOp
    simp only [ho, resolve, invoke, builtin, Sem.run_bind, Sem.run_pure, Result.andThen_ok, List.map_toArray, List.map_cons, List.map_nil, hs, hy, List.length_nil, hrun]
    exact hK _ _ (h v w (by simpa using hown) (Below.refl _ _))
  · refine wpList_append_own _ hgd x y _ ho base _ i0 (.int .u8 0) 1 1 Tryz.underlying73 hi0 hz0 hz1 hz2 rfl (by decide) v xs.length (bs xs) hs hown ad ys.length c (bs ys) hy (by simp [bs]) ?_ (bs_cell ys) (by simp only [maxLen]; omega) (by omega) hbase ?_
    · intro j u hu
      rcases hr with h | ⟨b, o, h, _, hc⟩
      · rw [h] at hu; simp at hu
      · cases h
        have := hc j u hu
        have ha : (⟨b, o, none⟩ : Addr).add j = ⟨b, o + j, none⟩ := by unfold Addr.add; split <;> simp_all
        rw [ha]; exact this
    · intro v' w' h1 hg _
      refine h v' w' ?_ ((Below.refl base w).grown hg hbase (fun k hk => (World.ownsRow.lt hown k hk).1))
      unfold OwnB
      rw [bs_app, List.length_append]
      exact h1

/-- A whole array or struct stored into a block that was laid just before: the world behind it is known by the block and by what lies below. -/
theorem wpList_store_new {P : Program} {ops : Array Oper} {rest : List Oper} {o : Oper} {a : Act} {w : World} {Q : Exit → Act → World → Prop} {t : TypeId} {old cs : Array Value} (hgd : o.guard = none) (ty : TypeId) (x y : Operand) (ho : o.op = .store ty x y)
    (hx : a.eval x = .pointer (some ⟨w.heap.size, 0, none⟩)) (hy : a.eval y = .agg cs) {n : Nat} (hi : (P.info? ty).map (·.size) = some n) (hcs : cs.size = n) (hold : old.size = n) (h1 : cs.all (·.oneCell') = true)
    (h : ∀ w', Below w.heap.size w w' → w'.heap[w.heap.size]? = some (.cells cs t (0, 0)) → w.heap.size < w'.heap.size → wpList P ops Q rest (a.put o.dst undef) w') : wpList P ops Q (o :: rest) a (w.alloc (.cells old t)) := by
  subst hcs
  refine wpList_store_row hgd ty x y ho w.heap.size cs hx hy t old (heap_alloc_new w _) hi hold h1 ?_
  refine h _ ?_ (setRow_heap _ _ _ _ _ _ (heap_alloc_new w _)) (by simp)
  exact ((Below.refl _ w).alloc (Nat.le_refl _) _).trans ⟨rfl, rfl, rfl, by simp, fun k hk => setRow_other _ _ _ _ (by omega)⟩
theorem Rd.row {w : World} {g : Nat} {t : TypeId} {xs : List Value} {fr : Nat × Nat} (h : w.heap[g]? = some (.cells xs.toArray t fr)) : Rd w w.heap.size (some ⟨g, 0, none⟩) xs :=
  .inr ⟨g, 0, rfl, (Array.getElem?_eq_some_iff.1 h).1, fun j u hu => by rw [cell_of_row w g _ _ _ _ h]; simpa using hu⟩
end Go.Proofs.YtjgkocijmbepmaaGreatDoor
