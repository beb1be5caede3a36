/-
  The writer, as the program makes it.
-/
import Derived.Test.YtjgkocijmbepmaaGreatDoorE17
import Derived.Test.YtjgkocijmbepmaaGreatDoorE12
import Derived.Test.YtjgkocijmbepmaaGreatDoorArr
import Derived.Laws.IdiomRangeMap
import Derived.KernelRfl
set_option linter.unusedVariables false
section
set_option linter.unusedVariables false
set_option linter.unusedSimpArgs false
namespace Go.Eng
open Go.RowKit Go.Proofs Go.Proofs.YtjgkocijmbepmaaGreatDoor
def opEs : Array MapEntry := #[⟨.string ⟨#[111, 114]⟩, .agg #[.int .i64 8, .int .i64 1], 0⟩, ⟨.string ⟨#[97, 110, 100]⟩, .agg #[.int .i64 7, .int .i64 2], 1⟩, ⟨.string ⟨#[60]⟩, .agg #[.int .i64 5, .int .i64 3], 2⟩, ⟨.string ⟨#[61, 61]⟩, .agg #[.int .i64 6, .int .i64 3], 3⟩, ⟨.string ⟨#[106, 111, 105, 110]⟩, .agg #[.int .i64 10, .int .i64 4], 4⟩, ⟨.string ⟨#[43]⟩, .agg #[.int .i64 0, .int .i64 5], 5⟩, ⟨.string ⟨#[45]⟩, .agg #[.int .i64 1, .int .i64 5], 6⟩, ⟨.string ⟨#[42]⟩, .agg #[.int .i64 2, .int .i64 6], 7⟩, ⟨.string ⟨#[47]⟩, .agg #[.int .i64 3, .int .i64 6], 8⟩, ⟨.string ⟨#[37]⟩, .agg #[.int .i64 4, .int .i64 6], 9⟩, ⟨.string ⟨#[110, 111, 116]⟩, .agg #[.int .i64 9, .int .i64 7], 10⟩, ⟨.string ⟨#[108, 101, 110]⟩, .agg #[.int .i64 11, .int .i64 7], 11⟩]
def sgC : List Value := [.string ⟨#[43]⟩, .int .i64 5, .string ⟨#[45]⟩, .int .i64 5, .string ⟨#[42]⟩, .int .i64 6, .string ⟨#[47]⟩, .int .i64 6, .string ⟨#[37]⟩, .int .i64 6, .string ⟨#[60]⟩, .int .i64 3, .string ⟨#[61, 61]⟩, .int .i64 3, .string ⟨#[97, 110, 100]⟩, .int .i64 2, .string ⟨#[111, 114]⟩, .int .i64 1, .string ⟨#[110, 111, 116]⟩, .int .i64 7, .string ⟨#[106, 111, 105, 110]⟩, .int .i64 4, .string ⟨#[108, 101, 110]⟩, .int .i64 7]
def Only (g : Nat) (w w' : World) : Prop := Below g w w' ∧ ∀ k, k ≠ g → w'.heap[k]? = w.heap[k]?
theorem arr_same {W W' : World} {g n : Nat} {e : TypeId} {xs : List Value} (h : Arr W g n e xs) (he : W'.heap[g]? = W.heap[g]?) : Arr W' g n e xs := by
  refine ⟨h.1, ?_⟩
  rcases h.2 with h2 | ⟨g', cap, cur, hv, hg, hh, r⟩
  · exact .inl h2
  · refine .inr ⟨g', cap, cur, hv, hg, ?_, r⟩
    cases hv
    rw [he]
    exact hh
def OnlyN (g : Nat) (w w' : World) : Prop := Below 0 w w' ∧ ∀ k, k ≠ g → k < w.heap.size → w'.heap[k]? = w.heap[k]?
theorem OnlyN.refl (g : Nat) (w : World) : OnlyN g w w := ⟨Below.refl _ _, fun _ _ _ => rfl⟩
theorem OnlyN.of {g : Nat} {w w' : World} (h : Below w.heap.size w w') : OnlyN g w w' := ⟨h.mono (Nat.zero_le _), fun k _ hk => h.block k hk⟩
theorem OnlyN.trans {g : Nat} {w w' w'' : World} (h : OnlyN g w w') (h' : OnlyN g w' w'') : OnlyN g w w'' := ⟨h.1.trans h'.1, fun k hk hl => (h'.2 k hk (Nat.lt_of_lt_of_le hl h.1.size)).trans (h.2 k hk hl)⟩
theorem OnlyN.below {g B : Nat} {w w' : World} (h : OnlyN g w w') (hB : B ≤ g) (hB2 : B ≤ w.heap.size) : Below B w w' := ⟨h.1.os, h.1.tape, h.1.output, h.1.size, fun k hk => h.2 k (by omega) (by omega)⟩
theorem OnlyN.set (g i : Nat) (v : Value) (w : World) : OnlyN g w (w.setCell ⟨g, i, none⟩ v) := ⟨(Below.refl _ w).setCell (p := ⟨g, i, none⟩) (Nat.zero_le _) _, fun k hk _ => Below.heap_setCell _ _ _ _ (fun e => hk (by simpa using e))⟩
def sgB (s : Nat → Bool) : List Value := [if s 5 = true then Value.string ⟨#[43]⟩ else .string ⟨#[]⟩, if s 5 = true then Value.int .i64 5 else .int .i64 0, if s 6 = true then Value.string ⟨#[45]⟩ else .string ⟨#[]⟩, if s 6 = true then Value.int .i64 5 else .int .i64 0, if s 7 = true then Value.string ⟨#[42]⟩ else .string ⟨#[]⟩, if s 7 = true then Value.int .i64 6 else .int .i64 0, if s 8 = true then Value.string ⟨#[47]⟩ else .string ⟨#[]⟩, if s 8 = true then Value.int .i64 6 else .int .i64 0, if s 9 = true then Value.string ⟨#[37]⟩ else .string ⟨#[]⟩, if s 9 = true then Value.int .i64 6 else .int .i64 0, if s 2 = true then Value.string ⟨#[60]⟩ else .string ⟨#[]⟩, if s 2 = true then Value.int .i64 3 else .int .i64 0, if s 3 = true then Value.string ⟨#[61, 61]⟩ else .string ⟨#[]⟩, if s 3 = true then Value.int .i64 3 else .int .i64 0, if s 1 = true then Value.string ⟨#[97, 110, 100]⟩ else .string ⟨#[]⟩, if s 1 = true then Value.int .i64 2 else .int .i64 0, if s 0 = true then Value.string ⟨#[111, 114]⟩ else .string ⟨#[]⟩, if s 0 = true then Value.int .i64 1 else .int .i64 0, if s 10 = true then Value.string ⟨#[110, 111, 116]⟩ else .string ⟨#[]⟩, if s 10 = true then Value.int .i64 7 else .int .i64 0, if s 4 = true then Value.string ⟨#[106, 111, 105, 110]⟩ else .string ⟨#[]⟩, if s 4 = true then Value.int .i64 4 else .int .i64 0, if s 11 = true then Value.string ⟨#[108, 101, 110]⟩ else .string ⟨#[]⟩, if s 11 = true then Value.int .i64 7 else .int .i64 0]
theorem sgB_none : Value.slice none 0 0 :: sgB (fun _ => false) = [.slice none 0 0, .string ⟨#[]⟩, .int .i64 0, .string ⟨#[]⟩, .int .i64 0, .string ⟨#[]⟩, .int .i64 0, .string ⟨#[]⟩, .int .i64 0, .string ⟨#[]⟩, .int .i64 0, .string ⟨#[]⟩, .int .i64 0, .string ⟨#[]⟩, .int .i64 0, .string ⟨#[]⟩, .int .i64 0, .string ⟨#[]⟩, .int .i64 0, .string ⟨#[]⟩, .int .i64 0, .string ⟨#[]⟩, .int .i64 0, .string ⟨#[]⟩, .int .i64 0] := rfl
theorem sgB_all : sgB (fun _ => true) = sgC := rfl
theorem old_ops : ∀ x ∈ opEs.toList, x.born < 12 := by decide
theorem nodup_ops : (opEs.toList.map (·.born)).Nodup := by decide
theorem sgB_step (e : MapEntry) (he : e ∈ opEs.toList) : ∃ (n l : Nat) (tk : ByteArray), e.key = .string tk ∧ e.val = .agg #[.int .i64 (n : Int), .int .i64 (l : Int)] ∧ n < 12 ∧ ∀ s : Nat → Bool, (((Value.slice none 0 0 :: sgB s).set (1 + n * 2) (.string tk)).set (1 + n * 2 + 1) (.int .i64 (l : Int))) = Value.slice none 0 0 :: sgB (fun y => s y || y == e.born) := by
  have h : e ∈ opEs.toList := he
  simp only [opEs, List.mem_cons, List.not_mem_nil, or_false] at h
  rcases h with rfl | rfl | rfl | rfl | rfl | rfl | rfl | rfl | rfl | rfl | rfl | rfl
  · exact ⟨8, 1, ⟨#[111, 114]⟩, rfl, rfl, by decide, fun s => by simp [sgB]⟩
  · exact ⟨7, 2, ⟨#[97, 110, 100]⟩, rfl, rfl, by decide, fun s => by simp [sgB]⟩
  · exact ⟨5, 3, ⟨#[60]⟩, rfl, rfl, by decide, fun s => by simp [sgB]⟩
  · exact ⟨6, 3, ⟨#[61, 61]⟩, rfl, rfl, by decide, fun s => by simp [sgB]⟩
  · exact ⟨10, 4, ⟨#[106, 111, 105, 110]⟩, rfl, rfl, by decide, fun s => by simp [sgB]⟩
  · exact ⟨0, 5, ⟨#[43]⟩, rfl, rfl, by decide, fun s => by simp [sgB]⟩
  · exact ⟨1, 5, ⟨#[45]⟩, rfl, rfl, by decide, fun s => by simp [sgB]⟩
  · exact ⟨2, 6, ⟨#[42]⟩, rfl, rfl, by decide, fun s => by simp [sgB]⟩
  · exact ⟨3, 6, ⟨#[47]⟩, rfl, rfl, by decide, fun s => by simp [sgB]⟩
  · exact ⟨4, 6, ⟨#[37]⟩, rfl, rfl, by decide, fun s => by simp [sgB]⟩
  · exact ⟨9, 7, ⟨#[110, 111, 116]⟩, rfl, rfl, by decide, fun s => by simp [sgB]⟩
  · exact ⟨11, 7, ⟨#[108, 101, 110]⟩, rfl, rfl, by decide, fun s => by simp [sgB]⟩
theorem run_setIt {P : Program} (W : World) (it : Nat) (a : Option Nat) (b : Nat) (c : Array Nat) (d : Nat) (o' : Obj) (h : W.heap[it]? = some (.mapIter a b c d)) : (setObj it o').run P W = .ok () { W with heap := W.heap.setIfInBounds it o' } := by
  simp [setObj, Sem.run, h]
theorem next_ops {P : Program} (W : World) (ty : TypeId) (it bm : Nat) (seen : Array Nat) (hi : W.heap[it]? = some (.mapIter (some bm) 12 seen 12)) (hb : W.heap[bm]? = some (.map opEs 12)) :
    ((leftOf opEs seen).size = 0 ∧ (Instr.next (.pointer (some ⟨it, 0, none⟩)) false ty).run P W = .ok (.tuple #[.bool false]) W) ∨
    ∃ e ∈ (leftOf opEs seen).toList, ∃ W', (Instr.next (.pointer (some ⟨it, 0, none⟩)) false ty).run P W = .ok (.tuple #[.bool true, e.key, e.val]) W' ∧ W'.heap[it]? = some (.mapIter (some bm) 12 (seen.push e.born) 12) ∧ Only it W W' := by
  have hlt := (Array.getElem?_eq_some_iff.1 hi).1
  have hg1 : (getObj it).run P W = .ok (.mapIter (some bm) 12 seen 12) W := by simp [getObj, Sem.run, hi]
  have hg2 : (getObj bm).run P W = .ok (.map opEs 12) W := by simp [getObj, Sem.run, hb]
  simp only [Instr.next, Sem.run_bind, hg1, hg2, Result.andThen, next_test_false seen opEs 12 12 old_ops (Nat.le_refl _), Bool.false_eq_true, if_false]
  unfold leftOf
  have hmem : ∀ x ∈ (Array.filter (fun e => !seen.contains e.born) opEs).toList, x.born < 12 := fun x hx => old_ops x (by simp at hx ⊢; exact hx.1)
  generalize Array.filter (fun e => !seen.contains e.born) opEs = L at hmem ⊢
  have e1 : L.filter (fun x => decide (x.born < 12)) = L := Array.filter_eq_self.2 (fun x hx => by simpa using hmem x (by simpa using hx))
  have e2 : L.filter (fun x => decide (x.born ≥ 12)) = #[] := by
    rw [Array.filter_eq_empty_iff]
    intro x hx
    have := hmem x (by simpa using hx)
    simp
    omega
  simp only [e1, e2, Array.append_empty]
  by_cases h0 : L.size = 0
  · left
    have : L = #[] := Array.eq_empty_of_size_eq_zero h0
    subst this
    refine ⟨rfl, ?_⟩
    simp [choose, Sem.run, Question.forced]
  · right
    have hne : L.isEmpty = false := by simp [Array.isEmpty, h0]
    simp only [hne, Bool.false_eq_true, if_false, Array.empty_append, Array.size_map]
    have hch : ∃ (j : Nat) (w1 : World), j < L.size ∧ (w1.heap = W.heap ∧ w1.os = W.os ∧ w1.tape = W.tape ∧ w1.output = W.output) ∧ (choose (Question.mapNext L.size)).run P W = .ok j w1 := by
      by_cases hf : L.size ≤ 1
      · exact ⟨0, W, by omega, ⟨rfl, rfl, rfl, rfl⟩, by simp [choose, Sem.run, Question.forced, hf]⟩
      · exact ⟨_, W.drew, Nat.mod_lt _ (by omega), ⟨rfl, rfl, rfl, rfl⟩, by
          simp only [choose, Sem.run, Question.forced, decide_eq_true_eq, hf, if_false, Question.cut]
          rfl⟩
    obtain ⟨j, w1, hj, ⟨hh, ho, ht, hu⟩, hrun⟩ := hch
    refine ⟨L[j], by simp, { w1 with heap := w1.heap.setIfInBounds it (.mapIter (some bm) 12 (seen.push L[j].born) 12) }, ?_, ?_, ⟨⟨ho, ht, hu, by simp [hh], fun k hk => ?_⟩, fun k hk => ?_⟩⟩
    · simp only [hrun, Array.getElem?_map, Array.getElem?_eq_getElem hj, Option.map_some, Sem.run_bind, run_setIt w1 it _ _ _ _ _ (by rw [hh]; exact hi), Result.andThen]
      rfl
    · rw [hh]; simp [Array.getElem?_setIfInBounds_self_of_lt hlt]
    · rw [← hh]; simp [Array.getElem?_setIfInBounds_ne (show it ≠ k by omega)]
    · rw [← hh]; simp [Array.getElem?_setIfInBounds_ne (Ne.symm hk)]
theorem entry_ops {P : Program} (W : World) (it bm : Nat) (seen : Array Nat) (e : MapEntry) (he : e ∈ opEs.toList) (hi : W.heap[it]? = some (.mapIter (some bm) 12 (seen.push e.born) 12)) (hb : W.heap[bm]? = some (.map opEs 12)) :
    (Instr.entry (.pointer (some ⟨it, 0, none⟩))).run P W = .ok (.tuple #[e.key, e.val]) W := by
  have hf : opEs.find? (·.born == e.born) = some e := by rw [← Array.find?_toList]; exact find_born e opEs.toList nodup_ops he
  have hg1 : (getObj it).run P W = .ok (.mapIter (some bm) 12 (seen.push e.born) 12) W := by simp [getObj, Sem.run, hi]
  have hg2 : (getObj bm).run P W = .ok (.map opEs 12) W := by simp [getObj, Sem.run, hb]
  simp only [Instr.entry, Sem.run_bind, hg1, hg2, Result.andThen, Array.back?_push, bne_self_eq_false, Bool.false_eq_true, if_false, hf]
  rfl
theorem range_ops {P : Program} (W : World) (t k e : TypeId) (bm : Nat) (ht : P.underlying t = some (.map k e)) (hb : W.heap[bm]? = some (.map opEs 12)) :
    (Instr.range t (.map (some bm))).run P W = .ok (.pointer (some ⟨W.heap.size, 0, none⟩)) (W.alloc (.mapIter (some bm) 12 #[] 12)) := run_range_map W t k e bm opEs 12 ht hb
theorem sgB_full (s : Nat → Bool) (h : ∀ i, i < 12 → s i = true) : sgB s = sgC := by
  simp [sgB, sgC, h 0, h 1, h 2, h 3, h 4, h 5, h 6, h 7, h 8, h 9, h 10, h 11]
theorem seen_all (seen : Array Nat) (h : ∀ x ∈ opEs.toList, seen.contains x.born = true) (i : Nat) (hi : i < 12) : seen.contains i = true := by
  have hm : ∃ e ∈ opEs.toList, e.born = i := by
    revert hi
    revert i
    decide
  obtain ⟨e, he, rfl⟩ := hm
  exact h e he
def itM (it : Nat) (W : World) : Nat := (leftOf opEs (W.iterSeen it)).size
theorem itM_eq {W : World} {it bm : Nat} {seen : Array Nat} (h : W.heap[it]? = some (.mapIter (some bm) 12 seen 12)) : itM it W = (leftOf opEs seen).size := by unfold itM World.iterSeen; rw [h]
noncomputable def Mn : Prm := { GL := fun _ => none, okF := okL Tryz.prog, SH := fun _ => [], argS := fun _ => none, resS := fun _ => none, ro := fun _ => 0, ban := 0 }
set_option maxRecDepth 100000 in
theorem ops_run : callQ Tryz.prog Mn (fun _ _ _ => none) 100 3 42 [] [] = some (.mp 0, [.ot (some (opEs, 12))]) := by kernel_rfl
theorem mixT : Tryz.prog.follows .mixedOrders = true := by kernel_rfl
set_option maxRecDepth 100000 in
theorem operators_any (w : World) : Calls Tryz.prog 42 #[] w fun e w' => ∃ r, e = .returned (.map (some r)) ∧ w.heap.size ≤ r ∧ Below w.heap.size w w' ∧ w'.heap[r]? = some (.map opEs 12) := by
  have hE : ES Tryz.prog Mn.GL Mn.bn (fun _ _ _ => none) := fun f args objs r objs' h => by cases h
  have hS := callF_sound (P := Tryz.prog) (M := Mn) (base := fun _ _ _ => none) (fu := 100) (hint := fun _ => noH) hE (okL_ok _) mixT 3
  have h0 := callQ_spec (P := Tryz.prog) (M := Mn) (base := fun _ _ _ => none) (fu := 100) 3 _ _ _ _ ops_run
  have hI : Inv Mn.GL (fun _ => none) (fun _ _ => False) w (HPl []) := ⟨fun id ob h => by have h : ([] : List Ob)[id]? = some ob := h; simp at h, fun id ob h => by have h : ([] : List Ob)[id]? = some ob := h; simp at h, fun id id' ob ob' i i' b h => by have h : ([] : List Ob)[id]? = some ob := h; simp at h, fun id i h => (by cases h), fun g o h => h.elim, fun g cs h => by simp [Mn] at h⟩
  have := hS _ [] [] _ _ h0 w (fun _ => none) (fun _ _ => False) [] hI (repl_nil.2 rfl)
  refine this.mono ?_
  rintro e w' ⟨v, G', Z', rfl, hst, hI', hr⟩
  rw [Rep] at hr
  obtain ⟨r, hG, rfl⟩ := hr
  obtain ⟨r', k1, k2⟩ := hI'.good 0 (.ot (some (opEs, 12))) rfl _ rfl
  rw [hG] at k1
  cases k1
  refine ⟨r, rfl, ?_, ⟨hst.bel.os, hst.bel.tape, hst.bel.output, hst.bel.size, fun k hk => hst.far k hk fun id i _ h => (by cases h)⟩, k2⟩
  rcases hst.nb 0 _ r hG rfl with h | ⟨id0, i, _, h, _⟩
  · exact h
  · cases h
set_option maxHeartbeats 4000000 in
set_option maxRecDepth 100000 in
theorem newwriter_any (w : World) : Calls Tryz.prog 27 #[] w fun e w' => e = .returned (.pointer (some ⟨w.heap.size, 0, none⟩)) ∧ Below w.heap.size w w' ∧ Arr w' w.heap.size 25 92 (.slice none 0 0 :: sgC) := by
  have hbl : ∀ W, (Instr.build 92 #[]).run Tryz.prog W = .ok (.agg #[.slice none 0 0, .string ⟨#[]⟩, .int .i64 0, .string ⟨#[]⟩, .int .i64 0, .string ⟨#[]⟩, .int .i64 0, .string ⟨#[]⟩, .int .i64 0, .string ⟨#[]⟩, .int .i64 0, .string ⟨#[]⟩, .int .i64 0, .string ⟨#[]⟩, .int .i64 0, .string ⟨#[]⟩, .int .i64 0, .string ⟨#[]⟩, .int .i64 0, .string ⟨#[]⟩, .int .i64 0, .string ⟨#[]⟩, .int .i64 0, .string ⟨#[]⟩, .int .i64 0]) W := fun W => run_build W _ _ _ (by kernel_rfl)
  have V0 := new_later w (.cells #[.slice none 0 0, .string ⟨#[]⟩, .int .i64 0, .string ⟨#[]⟩, .int .i64 0, .string ⟨#[]⟩, .int .i64 0, .string ⟨#[]⟩, .int .i64 0, .string ⟨#[]⟩, .int .i64 0, .string ⟨#[]⟩, .int .i64 0, .string ⟨#[]⟩, .int .i64 0, .string ⟨#[]⟩, .int .i64 0, .string ⟨#[]⟩, .int .i64 0, .string ⟨#[]⟩, .int .i64 0, .string ⟨#[]⟩, .int .i64 0, .string ⟨#[]⟩, .int .i64 0] 92)
  have HA0 : Hid (Arr (w.alloc (.cells #[.slice none 0 0, .string ⟨#[]⟩, .int .i64 0, .string ⟨#[]⟩, .int .i64 0, .string ⟨#[]⟩, .int .i64 0, .string ⟨#[]⟩, .int .i64 0, .string ⟨#[]⟩, .int .i64 0, .string ⟨#[]⟩, .int .i64 0, .string ⟨#[]⟩, .int .i64 0, .string ⟨#[]⟩, .int .i64 0, .string ⟨#[]⟩, .int .i64 0, .string ⟨#[]⟩, .int .i64 0, .string ⟨#[]⟩, .int .i64 0, .string ⟨#[]⟩, .int .i64 0] 92)) w.heap.size 25 92 (.slice none 0 0 :: sgB (fun _ => false))) := Lib.hid (Arr.new' w _ _ 25 _ rfl rfl (by decide))
  have HV0 := Lib.hid V0
  have HOp := Lib.hid (operators_any (w.alloc (.cells #[.slice none 0 0, .string ⟨#[]⟩, .int .i64 0, .string ⟨#[]⟩, .int .i64 0, .string ⟨#[]⟩, .int .i64 0, .string ⟨#[]⟩, .int .i64 0, .string ⟨#[]⟩, .int .i64 0, .string ⟨#[]⟩, .int .i64 0, .string ⟨#[]⟩, .int .i64 0, .string ⟨#[]⟩, .int .i64 0, .string ⟨#[]⟩, .int .i64 0, .string ⟨#[]⟩, .int .i64 0, .string ⟨#[]⟩, .int .i64 0, .string ⟨#[]⟩, .int .i64 0] 92)))
  clear V0
  go_enter Tryz.func27, Tryz.ntmps27
  go_upto_region 2 with fail
  generalize w.alloc (.cells #[.slice none 0 0, .string ⟨#[]⟩, .int .i64 0, .string ⟨#[]⟩, .int .i64 0, .string ⟨#[]⟩, .int .i64 0, .string ⟨#[]⟩, .int .i64 0, .string ⟨#[]⟩, .int .i64 0, .string ⟨#[]⟩, .int .i64 0, .string ⟨#[]⟩, .int .i64 0, .string ⟨#[]⟩, .int .i64 0, .string ⟨#[]⟩, .int .i64 0, .string ⟨#[]⟩, .int .i64 0, .string ⟨#[]⟩, .int .i64 0, .string ⟨#[]⟩, .int .i64 0] 92) = wa at HA0 HV0 HOp ⊢
  go_upto_region 3 with (go_at_call 42; (with_reducible refine HOp.out.mono ?_); rintro e w1 ⟨bm, rfl, hbm, hb, hmp⟩; have hrg := range_ops w1 59 _ _ bm Tryz.underlying59 hmp; have HB1 := Lib.hid hb; have HM1 := Lib.hid hmp; clear hb hmp HOp)
  clear hrg hbl
  have HG : Hid (w.heap.size < bm ∧ bm < w1.heap.size) := Lib.hid ⟨Nat.lt_of_lt_of_le HA0.out.lt hbm, (Array.getElem?_eq_some_iff.1 HM1.out).1⟩
  have hnl := new_later w1 (.mapIter (some bm) 12 #[] 12)
  have HA1 := Lib.hid ((HA0.out.later HB1.out).later hnl)
  have HM2 : Hid ((w1.alloc (.mapIter (some bm) 12 #[] 12)).heap[bm]? = some (.map opEs 12)) := Lib.hid ((hnl.block _ HG.out.2).trans HM1.out)
  have HI1 : Hid ((w1.alloc (.mapIter (some bm) 12 #[] 12)).heap[w1.heap.size]? = some (.mapIter (some bm) 12 #[] 12)) := Lib.hid (heap_alloc_new w1 _)
  have HV1 := Lib.hid (later (later HV0.out HB1.out) hnl)
  clear hnl HA0 HM1 HB1 HV0
  generalize hit : w1.heap.size = it at HG HI1 ⊢
  generalize w1.alloc (.mapIter (some bm) 12 #[] 12) = w2 at HA1 HM2 HI1 HV1 ⊢
  clear hit w1
  go_loopw [] (fun W => ∃ seen : Array Nat, W.heap[it]? = some (.mapIter (some bm) 12 seen 12) ∧ W.heap[bm]? = some (.map opEs 12) ∧ Arr W w.heap.size 25 92 (.slice none 0 0 :: sgB (fun y => seen.contains y)) ∧ Below w.heap.size w W) (fun W => itM it W)
  case atStart => exact ⟨#[], HI1.out, HM2.out, by simpa using HA1.out, HV1.out⟩
  case round =>
    obtain ⟨seen, hi, hb, hA, hV⟩ := hrel
    have HMe := Lib.hid (itM_eq hi)
    have HA := Lib.hid hA
    have HV := Lib.hid hV
    have HBm := Lib.hid hb
    rcases next_ops (P := Tryz.prog) wr 0 it bm seen hi hb with ⟨h0, hrun⟩ | ⟨e, he, W', hrun, hi', ho⟩
    · have hall := all_seen opEs seen h0
      have HF : Hid (Arr wr w.heap.size 25 92 (.slice none 0 0 :: sgC)) := Lib.hid (by rw [← sgB_full (fun y => seen.contains y) (fun i hi => seen_all seen hall i hi)]; exact hA)
      clear hi hb hA hV h0 hall
      go_wp2_with fail
      go_ret
      exact ⟨rfl, HV.out, HF.out⟩
    · have hmem := (mem_left he).1
      have HSh := Lib.hid (left_shrinks opEs seen e he)
      obtain ⟨n, l, tk, hk, hv, hn, hst⟩ := sgB_step e hmem
      have hent := entry_ops (P := Tryz.prog) W' it bm seen e hmem hi' ((ho.2 bm (by have := HG.out; omega)).trans hb)
      rw [hk, hv] at hrun hent
      have HI' := Lib.hid hi'
      have HBm' := Lib.hid ((ho.2 bm (by have := HG.out; omega)).trans hb)
      have HA' := Lib.hid (arr_same hA (ho.2 w.heap.size (by have := HG.out; omega)))
      have HV' := Lib.hid (hV.trans (ho.1.mono (by have := HG.out; omega)))
      have HSt := Lib.hid (hst (fun y => seen.contains y))
      clear hi hb hA hV hi' ho hk hv hst HA HV HBm he hmem
      go_upto_region 5 with fail
      have hV2 := new_later W' (.cells #[.int .i64 (n : Int), .int .i64 (l : Int)] 94)
      have B0 : Arr (W'.alloc (.cells #[.int .i64 (n : Int), .int .i64 (l : Int)] 94)) W'.heap.size 2 94 [.int .i64 (n : Int), .int .i64 (l : Int)] := Arr.new' W' _ _ 2 _ rfl rfl (by decide)
      have y0 := B0.cell (j := 0) (v := .int .i64 (n : Int)) rfl
      have y1 := B0.cell (j := 1) (v := .int .i64 (l : Int)) rfl
      have hA2 := HA'.out.later hV2
      have HA2 := Lib.hid hA2
      have hlen : (Value.slice none 0 0 :: sgB (fun y => seen.contains y)).length = 25 := rfl
      obtain ⟨u1, hu1⟩ : ∃ u, (Value.slice none 0 0 :: sgB (fun y => seen.contains y))[1 + n * 2]? = some u := ⟨_, List.getElem?_eq_getElem (by omega)⟩
      obtain ⟨u2, hu2⟩ : ∃ u, (Value.slice none 0 0 :: sgB (fun y => seen.contains y))[1 + n * 2 + 1]? = some u := ⟨_, List.getElem?_eq_getElem (by omega)⟩
      have c1 := hA2.cell hu1
      have c2 := hA2.cell hu2
      have f1 := hA2.free (1 + n * 2)
      have f2 := hA2.free (1 + n * 2 + 1)
      have hn0 : (0 : Int) ≤ (n : Int) := by omega
      have hn1 : (n : Int) < 12 := by omega
      have HV2 := Lib.hid (HV'.out.trans (hV2.mono HV'.out.size))
      have HI2 := Lib.hid ((hV2.block it (Array.getElem?_eq_some_iff.1 HI'.out).1).trans HI'.out)
      have HBm2 := Lib.hid ((hV2.block bm (Array.getElem?_eq_some_iff.1 HBm'.out).1).trans HBm'.out)
      clear hA2 hu1 hu2 hV2 B0 hrun hent HI' HBm' HA' HV' hlen
      go_region
      clear y0 y1 c1 c2 f1 f2
      have hs1 := OnlyN.set w.heap.size (1 + n * 2) (.string tk) (W'.alloc (.cells #[.int .i64 (n : Int), .int .i64 (l : Int)] 94))
      have hs2 := OnlyN.set w.heap.size (1 + n * 2 + 1) (.int .i64 (l : Int)) ((W'.alloc (.cells #[.int .i64 (n : Int), .int .i64 (l : Int)] 94)).setCell ⟨w.heap.size, 1 + n * 2, none⟩ (.string tk))
      have hs3 := OnlyN.of (g := w.heap.size) (below_drewN (Below.refl _ (((W'.alloc (.cells #[.int .i64 (n : Int), .int .i64 (l : Int)] 94)).setCell ⟨w.heap.size, 1 + n * 2, none⟩ (.string tk)).setCell ⟨w.heap.size, 1 + n * 2 + 1, none⟩ (.int .i64 (l : Int)))) 1)
      have HS := Lib.hid (hs1.trans (hs2.trans hs3))
      have HA3 := Lib.hid (((HA2.out.set_ (1 + n * 2) (.string tk)).set_ (1 + n * 2 + 1) (.int .i64 (l : Int))).later (below_drewN (Below.refl _ _) 1))
      rw [HSt.out] at HA3
      clear hs1 hs2 hs3 HA2 HSt
      generalize hwz : World.drewN (((W'.alloc (.cells #[.int .i64 (n : Int), .int .i64 (l : Int)] 94)).setCell ⟨w.heap.size, 1 + n * 2, none⟩ (.string tk)).setCell ⟨w.heap.size, 1 + n * 2 + 1, none⟩ (.int .i64 (l : Int))) 1 = wz at HS HA3
      have HI3 : Hid (wz.heap[it]? = some (.mapIter (some bm) 12 (seen.push e.born) 12)) := Lib.hid ((HS.out.2 it (by have := HG.out; omega) (Array.getElem?_eq_some_iff.1 HI2.out).1).trans HI2.out)
      have HM3 : Hid (wz.heap[bm]? = some (.map opEs 12)) := Lib.hid ((HS.out.2 bm (by have := HG.out; omega) (Array.getElem?_eq_some_iff.1 HBm2.out).1).trans HBm2.out)
      have HV3 : Hid (Below w.heap.size w wz) := Lib.hid (HV2.out.trans (HS.out.below (Nat.le_refl _) HV2.out.size))
      have HA4 : Hid (Arr wz w.heap.size 25 92 (.slice none 0 0 :: sgB (fun y => (seen.push e.born).contains y))) := Lib.hid (by
        have e1 : (fun y => (seen.push e.born).contains y) = fun y => seen.contains y || y == e.born := by funext y; exact contains_push seen e.born y
        rw [e1]
        exact HA3.out)
      have HMs : Hid (itM it wz < itM it wr) := Lib.hid (by rw [itM_eq HI3.out, HMe.out]; exact HSh.out)
      clear HS HI2 HBm2 HV2 HA3 HMe HSh
      have hwz2 : (((W'.alloc (.cells #[.int .i64 (n : Int), .int .i64 (l : Int)] 94)).setCell ⟨w.heap.size, 1 + n * 2, none⟩ (.string tk)).setCell ⟨w.heap.size, 1 + n * 2 + 1, none⟩ (.int .i64 (l : Int))).drew = wz := hwz
      rw [hwz2]
      clear hwz hwz2
      go_roundw
      case rel => exact ⟨_, _, _, _, _, _, _, _, _, _, _, _, _, _, _, _, _, ⟨seen.push e.born, HI3.out, HM3.out, HA4.out, HV3.out⟩, rfl⟩
      case measure => exact HMs.out
end Go.Eng
end
