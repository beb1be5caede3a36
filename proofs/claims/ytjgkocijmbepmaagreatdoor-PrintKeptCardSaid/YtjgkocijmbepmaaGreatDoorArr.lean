/-
  A variable of the call's own: n cells in a block.
-/
import Derived.Test.YtjgkocijmbepmaaGreatDoorBase
import Derived.Deep.DeepCutAuto
import Derived.StillTailTactics
set_option linter.unusedVariables false
namespace Go.Proofs.YtjgkocijmbepmaaGreatDoor
open Go.RowKit

/-- A variable of the call's own: n words in block g. -/
def Arr (W : World) (g n : Nat) (e : TypeId) (xs : List Value) : Prop := W.ownsRow g e 1 (.slice (some ⟨g, 0, none⟩) n n) n xs
theorem Arr.new (w : World) (e : TypeId) (cs : Array Value) (n : Nat) (hn : cs.size = n) (hm : n ≤ 1000) : Arr (w.alloc (.cells cs e)) w.heap.size n e cs.toList := arr_new w e cs n hn (by simp [maxLen]; omega)
theorem Arr.new' (w : World) (e : TypeId) (cs : Array Value) (n : Nat) (xs : List Value) (hx : cs.toList = xs) (hn : xs.length = n) (hm : n ≤ 1000) : Arr (w.alloc (.cells cs e)) w.heap.size n e xs := by
  subst hx; exact Arr.new w e cs n (by simpa using hn) hm
theorem Arr.below {W W' : World} {g n B : Nat} {e : TypeId} {xs : List Value} (h : Arr W g n e xs) (hb : Below B W W') (hg : g < B) : Arr W' g n e xs :=
  own_below h hb (fun k hk => by simp [Value.ownBlock] at hk; omega)
theorem Arr.later {W W' : World} {g n : Nat} {e : TypeId} {xs : List Value} (h : Arr W g n e xs) (hb : Below W.heap.size W W') : Arr W' g n e xs := own_below' h hb
theorem Arr.cell {W : World} {g n : Nat} {e : TypeId} {xs : List Value} (h : Arr W g n e xs) {j : Nat} {v : Value} (hv : xs[j]? = some v) : W.cell? ⟨g, j, none⟩ = some v := by
  have hj : j < n := by have := (List.getElem?_eq_some_iff.1 hv).1; have := h.1; omega
  rw [World.ownsRow.cellAt h j (by omega)]; exact hv
theorem Arr.free {W : World} {g n : Nat} {e : TypeId} {xs : List Value} (h : Arr W g n e xs) (j : Nat) : W.frozen? ⟨g, j, none⟩ = false := World.ownsRow.frozenAt h j
theorem Arr.set_ {W : World} {g n : Nat} {e : TypeId} {xs : List Value} (h : Arr W g n e xs) (j : Nat) (v : Value) : Arr (W.setCell ⟨g, j, none⟩ v) g n e (xs.set j v) := (World.ownsRow.stored h j v).1
theorem Arr.lt {W : World} {g n : Nat} {e : TypeId} {xs : List Value} (h : Arr W g n e xs) : g < W.heap.size := (World.ownsRow.lt h g rfl).2
theorem Arr.range {W : World} {g n : Nat} {e : TypeId} {xs : List Value} (h : Arr W g n e xs) : W.rangeAt g 0 xs := arr_range h
theorem Arr.other {W : World} {g n b j : Nat} {e : TypeId} {xs : List Value} (h : Arr W g n e xs) (hb : b ≠ g) (v : Value) : Arr (W.setCell ⟨b, j, none⟩ v) g n e xs := by
  refine ⟨h.1, ?_⟩
  rcases h.2 with h2 | ⟨g', cap, cur, hv, hg, hh, r⟩
  · exact .inl h2
  · refine .inr ⟨g', cap, cur, hv, hg, ?_, r⟩
    rw [Below.heap_setCell _ _ _ _ (by cases hv; simp; omega)]
    exact hh
theorem Arr.there {W : World} {g n : Nat} {e : TypeId} {xs : List Value} (h : Arr W g n e xs) : W.there g 0 n := fun j hj => by
  refine ⟨?_, by rw [Nat.zero_add]; exact h.free j⟩
  rw [Nat.zero_add, World.ownsRow.cellAt h j (by omega), List.getElem?_eq_getElem (by have := h.1; omega)]
  rfl

theorem Arr.of_row {W : World} {g n : Nat} {e : TypeId} {xs : List Value} (h : W.heap[g]? = some (.cells xs.toArray e (0, 0))) (hn : xs.length = n) (hm : n ≤ 1000) : Arr W g n e xs :=
  ⟨by omega, .inr ⟨g, n, xs.toArray, rfl, Nat.le_refl _, h, Nat.le_refl _, by simp only [maxLen]; omega, by simpa using hn, by simp [hn.symm]⟩⟩

end Go.Proofs.YtjgkocijmbepmaaGreatDoor
