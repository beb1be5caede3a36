import Derived.Test.YtfbookfaodfmdaaDoorLW1
import Derived.Test.YtfbookfaodfmdaaDoorLW2
import Derived.Test.YtfbookfaodfmdaaDoorLW3
import Derived.Test.YtfbookfaodfmdaaDoorLP5
set_option linter.unusedVariables false
set_option linter.unusedSimpArgs false
namespace Go.Proofs.YtfbookfaodfmdaaDoor
open Go.RowKit

/-- 'append(list, more...)' of strings. -/
theorem wpList_putSs {w : World} {base : Nat} {v : Value} {xs ys : List ByteArray} {ops : Array Oper} {rest : List Oper} {o : Oper} {a : Act} {Q : Exit → Act → World → Prop} {ad : Addr} {m c : Nat}
    (hown : OwnS w base v xs) (hys : ∀ j u, (ss ys)[j]? = some u → w.cell? (ad.add j) = some u) (hn : ys.length = m) (hm : 0 < m) (hbase : base ≤ w.heap.size) (hbytes : xs.length + m ≤ 1000000)
    (hgd : o.guard = none) (s y : Operand) (ho : o.op = .call { callee := .builtin .append, args := #[s, y], argTypes := #[26, 26] })
    (hs : a.eval s = v) (hy : a.eval y = .slice (some ad) m c)
    (h : ∀ v' w', OwnS w' base v' (xs ++ ys) → Below base w w' → wpList Tryd.prog ops Q rest (a.put o.dst v') w') :
    wpList Tryd.prog ops Q (o :: rest) a w := by
  obtain ⟨i0, hi0, hz0, hz1, hz2⟩ := info_parts info_strs
  refine wpList_append_lies w hgd s y _ ho base _ i0 (.string ⟨#[]⟩) 1 16 Tryd.underlying26 hi0 hz0 hz1 hz2 rfl (by decide) v xs.length (ss xs) hs hown ad m c (ss ys) hy (by simp [ss, hn]) hys ?_ hm (by simp only [maxLen]; omega) (by omega) hbase _ rfl ?_
  · intro u hu
    obtain ⟨z, _, rfl⟩ := List.mem_map.1 hu
    rfl
  · intro g cap w' h1 h2 _ _
    refine h _ w' ?_ ((Below.refl base w).grown h2 hbase (fun k hk => (World.ownsRow.lt hown k hk).1))
    unfold OwnS
    unfold ss at h1 ⊢
    rw [List.map_append, List.length_append, hn]
    exact h1
/-- 'append(tokens, Token{..})' in a list of operations. -/
theorem wpList_putT {w : World} {base : Nat} {v : Value} {T : List (List Nat × List Nat)} {ops : Array Oper} {rest : List Oper} {o : Oper} {a : Act} {Q : Exit → Act → World → Prop} {p q : List Nat} {c : Nat} {x y : ByteArray}
    (hown : OwnT w base v T) (hx' : x = mkS p) (hy' : y = mkS q) (hbase : base ≤ w.heap.size) (hbytes : T.length ≤ 1000000)
    (hgd : o.guard = none) (s z : Operand) (ho : o.op = .call { callee := .builtin .append, args := #[s, z], argTypes := #[27, 27] })
    (hs : a.eval s = v) (hy : a.eval z = .slice (some ⟨w.heap.size, 0, none⟩) 1 c)
    (h : ∀ v' w', OwnT w' base v' (T ++ [(p, q)]) → Below base w w' → wpList Tryd.prog ops Q rest (a.put o.dst v') w') :
    wpList Tryd.prog ops Q (o :: rest) a (w.alloc (.cells #[.string x, .string y] 40)) := by
  subst hx' hy'
  obtain ⟨i0, hi0, hz0, hz1, hz2⟩ := info_parts info_tok
  refine wpList_append_lies _ hgd s z _ ho base _ i0 _ 2 32 Tryd.underlying27 hi0 hz0 hz1 hz2 rfl (by decide) v T.length (tv T) hs (World.ownsRow.alloc hown _) ⟨w.heap.size, 0, none⟩ 1 c [.string (mkS p), .string (mkS q)] hy rfl ?_ ?_ (by decide) (by simp only [maxLen]; omega) (by omega) (by simp; omega) _ rfl ?_
  · intro j u hu
    have ha : (⟨w.heap.size, 0, none⟩ : Addr).add j = ⟨w.heap.size, 0 + j, none⟩ := by unfold Addr.add; split <;> simp_all
    rw [ha, cell_of_row (w.alloc _) w.heap.size (0 + j) _ _ (0, 0) (heap_alloc_new w _)]
    simpa using hu
  · intro u hu
    simp at hu
    rcases hu with rfl | rfl <;> rfl
  · intro g cap w' h1 h2 _ _
    refine h _ w' ?_ (((Below.refl base w).alloc hbase _).grown h2 (by simp; omega) (fun k hk => (World.ownsRow.lt hown k hk).1))
    unfold OwnT
    rw [tv_app, tv_one, List.length_append]
    exact h1
theorem OwnT.new (w : World) (p q : List Nat) : OwnT (w.alloc (.cells #[.string (mkS p), .string (mkS q)] 40)) w.heap.size (.slice (some ⟨w.heap.size, 0, none⟩) 1 1) [(p, q)] :=
  ⟨rfl, .inr ⟨w.heap.size, 1, #[.string (mkS p), .string (mkS q)], rfl, Nat.le_refl _, heap_alloc_new w _, Nat.le_refl _, by decide, rfl, rfl⟩⟩

/-- The sum of the sizes. -/
def szs (L : List ByteArray) : Nat := (L.map ByteArray.size).sum
theorem szs_app (a b : List ByteArray) : szs (a ++ b) = szs a + szs b := by simp [szs]
theorem szs_take_le (L : List ByteArray) (k : Nat) : szs (L.take k) ≤ szs L := by
  conv => rhs; rw [← List.take_append_drop k L, szs_app]
  omega
theorem szs_mem {L : List ByteArray} {x : ByteArray} (h : x ∈ L) : x.size ≤ szs L := by
  induction L with
  | nil => cases h
  | cons y L ih =>
    simp only [szs, List.map_cons, List.sum_cons] at ih ⊢
    rcases List.mem_cons.1 h with rfl | h
    · omega
    · have := ih h; omega
theorem szs_pcs (l : List Int) : szs (pcs l) ≤ 480 := by
  have h : ∀ P : List (List Nat), (∀ p ∈ P, p.length ≤ 16) → szs (P.map mkS) ≤ 16 * P.length := by
    intro P
    induction P with
    | nil => intro _; simp [szs]
    | cons p P ih =>
      intro hp
      have h1 := ih fun q hq => hp q (List.mem_cons_of_mem _ hq)
      have h2 := hp p (List.mem_cons_self ..)
      simp only [szs, List.map_cons, List.sum_cons, List.length_cons, mkS_size] at h1 ⊢
      omega
  have h1 := h (pcL l) fun p hp => (pieces_good p (pcL_all l p hp)).2.1
  have h2 := pcL_len l
  unfold pcs
  omega
theorem szs_kws : szs kws ≤ 200 := by decide +kernel

/-- The tokens with their blanks. -/
def tkW (L : List ByteArray) : List (List Nat × List Nat) := (List.range L.length).map fun i => (sb (L.getD i ⟨#[]⟩), gapL ((((L.getD i ⟨#[]⟩).size + i : Nat)) : Int) false)
theorem tkW_len (L : List ByteArray) : (tkW L).length = L.length := by simp [tkW]
theorem tkW_take {L : List ByteArray} {i : Nat} (h : i < L.length) : (tkW L).take (i + 1) = (tkW L).take i ++ [(sb L[i], gapL (((L[i].size + i : Nat)) : Int) false)] := by
  rw [List.take_succ_eq_append_getElem (by rw [tkW_len]; exact h)]
  congr 2
  simp [tkW, List.getElem?_eq_getElem h]
theorem tkW_TB (L : List ByteArray) : TB (tkW L) := fun x hx => by
  obtain ⟨i, _, rfl⟩ := List.mem_map.1 hx
  exact ⟨sb_lt _, (gapL_cb _ _).2⟩
theorem cat_tkW_le (L : List ByteArray) : ∀ k, k ≤ L.length → (cat ((tkW L).take k)).length ≤ szs (L.take k) + 14 * k
  | 0, _ => by simp [cat, szs]
  | k + 1, h => by
    have ih := cat_tkW_le L k (by omega)
    have hk : k < L.length := by omega
    have hg := gapL_len (((L[k].size + k : Nat)) : Int) false
    rw [tkW_take hk, cat_app, List.length_append, List.take_succ_eq_append_getElem hk, szs_app]
    have e1 : (cat [(sb L[k], gapL (((L[k].size + k : Nat)) : Int) false)]).length = (gapL (((L[k].size + k : Nat)) : Int) false).length + L[k].size := by
      simp [cat, sb_len]
    have e2 : szs [L[k]] = L[k].size := by simp [szs]
    rw [e1, e2]
    omega
theorem blk_CB {b : List Nat} (h : CB b) (hl : b.length ≤ 8192) : blk b = true := by
  unfold blk
  rw [sc_ok hl (CB_alone h)]
  rfl
end Go.Proofs.YtfbookfaodfmdaaDoor
