import Derived.Test.YtbfoajfpnfkfnaaDoorS2
import Derived.Test.YtbfoajfpnfkfnaaDoorG2
set_option linter.unusedVariables false
namespace Go.Proofs.YtbfoajfpnfkfnaaDoor
open Go.RowKit

/-- A row of numbers of the call's own. -/
def OwnI (w : World) (base : Nat) (v : Value) (xs : List Nat) : Prop := w.ownsRow base 3 1 v xs.length (isv xs)
theorem info_int : (Tryd.prog.info? 3).map (fun i => (i.zero, i.size, i.bytes)) = some (some (.int .i64 0), 1, 8) := by kernel_rfl
theorem OwnI.nil (w : World) (base : Nat) : OwnI w base (.slice none 0 0) [] := World.ownsRow_nil w base _ 1
theorem OwnI.below {w w' : World} {base : Nat} {v : Value} {xs : List Nat} (h : OwnI w base v xs) (hb : Below w.heap.size w w') : OwnI w' base v xs := own_below' h hb
/-- 'append(out, x)'. -/
theorem wpList_putI {w : World} {base : Nat} {v : Value} {xs : List Nat} {ops : Array Oper} {rest : List Oper} {o : Oper} {a : Act} {Q : Exit → Act → World → Prop} {x : Nat} {X : Int} {c : Nat}
    (hown : OwnI w base v xs) (hX : X = (x : Int)) (hbase : base ≤ w.heap.size) (hbytes : xs.length ≤ 100000)
    (hgd : o.guard = none) (s y : Operand) (ho : o.op = .call { callee := .builtin .append, args := #[s, y], argTypes := #[51, 51] })
    (hs : a.eval s = v) (hy : a.eval y = .slice (some ⟨w.heap.size, 0, none⟩) 1 c)
    (h : ∀ v' w', OwnI w' base v' (xs ++ [x]) → Below base w w' → wpList Tryd.prog ops Q rest (a.put o.dst v') w') :
    wpList Tryd.prog ops Q (o :: rest) a (w.alloc (.cells #[.int .i64 X] 3)) := by
  subst hX
  refine wpList_put1 hown Tryd.underlying51 info_int rfl rfl hbase (by simp only [maxLen]; omega) (by omega) hgd s y ho hs hy ?_
  intro v' w' h1 h2
  refine h v' w' ?_ h2
  unfold OwnI
  rw [isv_app, List.length_append]
  exact h1
/-- 'append(out, x0, x1, x2, x3)'. -/
theorem wpList_put4 {w : World} {base : Nat} {v : Value} {xs : List Nat} {ops : Array Oper} {rest : List Oper} {o : Oper} {a : Act} {Q : Exit → Act → World → Prop} {ys : List Nat} {cs : Array Value} {c : Nat}
    (hown : OwnI w base v xs) (hcs : cs = (isv ys).toArray) (hl : ys.length = 4) (hbase : base ≤ w.heap.size) (hbytes : xs.length ≤ 100000)
    (hgd : o.guard = none) (s y : Operand) (ho : o.op = .call { callee := .builtin .append, args := #[s, y], argTypes := #[51, 51] })
    (hs : a.eval s = v) (hy : a.eval y = .slice (some ⟨w.heap.size, 0, none⟩) 4 c)
    (h : ∀ v' w', OwnI w' base v' (xs ++ ys) → Below base w w' → wpList Tryd.prog ops Q rest (a.put o.dst v') w') :
    wpList Tryd.prog ops Q (o :: rest) a (w.alloc (.cells cs 3)) := by
  subst hcs
  obtain ⟨i0, hi0, hz0, hz1, hz2⟩ := info_parts info_int
  have hown' : (w.alloc (.cells (isv ys).toArray 3)).ownsRow base 3 1 v xs.length (isv xs) := World.ownsRow.alloc hown _
  refine wpList_append_own _ hgd s y _ ho base _ i0 (.int .i64 0) 1 8 Tryd.underlying51 hi0 hz0 hz1 hz2 rfl (by decide) v xs.length (isv xs) hs hown' ⟨w.heap.size, 0, none⟩ 4 c (isv ys) hy (by rw [isv_len, hl]) ?_ (isv_cell ys) (by simp only [maxLen]; omega) (by omega) (by simp; omega) ?_
  · intro j u hj
    have ha : (⟨w.heap.size, 0, none⟩ : Addr).add j = ⟨w.heap.size, 0 + j, none⟩ := by unfold Addr.add; split <;> simp_all
    rw [ha, cell_of_row (w.alloc (.cells (isv ys).toArray 3)) w.heap.size (0 + j) (isv ys).toArray 3 (0, 0) (heap_alloc_new w _)]
    simpa using hj
  · intro v' w' h1 hg _
    refine h v' w' ?_ (((Below.refl base w).alloc hbase _).grown hg (by simp; omega) (fun k hk => (World.ownsRow.lt hown k hk).1))
    unfold OwnI
    rw [isv_app, List.length_append, hl]
    exact h1
end Go.Proofs.YtbfoajfpnfkfnaaDoor
