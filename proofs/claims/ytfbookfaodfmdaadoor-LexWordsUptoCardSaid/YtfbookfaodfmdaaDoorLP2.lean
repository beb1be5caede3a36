import Derived.Test.YtfbookfaodfmdaaDoorLH
import Derived.Test.YtfbookfaodfmdaaDoorLG2
set_option linter.unusedVariables false
set_option linter.unusedSimpArgs false
namespace Go.Proofs.YtfbookfaodfmdaaDoor
open Go.RowKit

theorem ok_bytes {L : List Nat} {T : List (List Nat × List Nat)} {e : List Nat} (hL : ∀ d ∈ L, d < 256) (h : S [] L = .ok T e) : TB T ∧ (∀ d ∈ e, d < 256) := by
  obtain ⟨rfl, _, _⟩ := (S_iff _ _ _).1 h
  refine ⟨fun x hx => ⟨fun d hd => hL d ?_, fun d hd => hL d ?_⟩, fun d hd => hL d (by simp [hd])⟩
  · exact List.mem_append_left _ (List.mem_flatMap.2 ⟨x, hx, by simp [hd]⟩)
  · exact List.mem_append_left _ (List.mem_flatMap.2 ⟨x, hx, by simp [hd]⟩)
theorem cat_mem_len {T : List (List Nat × List Nat)} {x : List Nat × List Nat} (h : x ∈ T) : x.2.length + x.1.length ≤ (cat T).length := by
  induction T with
  | nil => cases h
  | cons y T ih =>
    rw [cat_cons, List.length_append, List.length_append]
    rcases List.mem_cons.1 h with rfl | h
    · omega
    · have := ih h; omega
theorem tok_len_le {T : List (List Nat × List Nat)} (h : ∀ x ∈ T, x.1 ≠ []) : T.length ≤ (cat T).length := by
  induction T with
  | nil => simp
  | cons y T ih =>
    have h1 := ih fun x hx => h x (List.mem_cons_of_mem _ hx)
    have h2 := h y (List.mem_cons_self ..)
    rw [cat_cons, List.length_append, List.length_append, List.length_cons]
    have : 0 < y.1.length := List.length_pos_iff.2 h2
    omega
theorem lossless_tok {L : List Nat} {T : List (List Nat × List Nat)} {e : List Nat} (hL : ∀ d ∈ L, d < 256) (hl : L.length ≤ 8192) (h : S [] L = .ok T e) (x : List Nat × List Nat) (hx : x ∈ T) :
    SC (sb (mkS (x.2 ++ x.1))) = ([x], [], -1) ∧ SC (sb (mkS x.2)) = ([], x.2, -1) ∧ (x.2 ++ x.1).length ≤ 8192 := by
  obtain ⟨hTB, _⟩ := ok_bytes hL h
  obtain ⟨rfl, hc, _⟩ := (S_iff _ _ _).1 h
  have hg := hc.good x hx
  have hle := cat_mem_len hx
  rw [List.length_append] at hl
  have hb := hTB x hx
  obtain ⟨t, b⟩ := x
  simp only at hb hle hg ⊢
  refine ⟨?_, ?_, by rw [List.length_append]; omega⟩
  · rw [sb_mkS _ (by intro d hd; rcases List.mem_append.1 hd with hd | hd; exact hb.2 d hd; exact hb.1 d hd)]
    exact sc_ok (by rw [List.length_append]; omega) (S_one hg)
  · rw [sb_mkS _ hb.2]
    exact sc_ok (by omega) (CB_alone hg.1)

/-- The two texts lie in a row. -/
def Row2' (g : Nat) (W : World) : Prop := ∀ j, j < 2 → ∃ x : ByteArray, x.size ≤ 281474976710656 ∧ W.cell? ⟨g, j, none⟩ = some (.string x)
theorem Row2'.new (W : World) (x y : ByteArray) (hx : x.size ≤ 281474976710656) (hy : y.size ≤ 281474976710656) (t : TypeId) : Row2' W.heap.size (W.alloc (.cells #[.string x, .string y] t)) := by
  intro j hj
  rcases (by omega : j = 0 ∨ j = 1) with rfl | rfl
  · exact ⟨x, hx, by rw [cell_of_row _ _ _ _ _ _ (heap_alloc_new W _)]; rfl⟩
  · exact ⟨y, hy, by rw [cell_of_row _ _ _ _ _ _ (heap_alloc_new W _)]; rfl⟩
/-- Scan of what cannot be read. -/
theorem Scan_none {s : ByteArray} {n : Int} (h2 : s.size ≤ 281474976710656) (h : SC (sb s) = ([], [], n)) (w : World) (hk : Kx w) :
    Calls Tryd.prog 11 #[.string s] w fun e w' => ∃ A c, e = .returned (.tuple #[.slice A 0 c, .string ⟨#[]⟩, .int .i64 n]) ∧ Below w.heap.size w w' := by
  refine (Scan_any s h2 w hk).mono ?_
  rw [h]
  rintro e w' ⟨v, rfl, ho, hb⟩
  obtain ⟨A, c, rfl, _⟩ := ho.shape
  exact ⟨A, c, rfl, hb⟩
/-- Scan of what is read. -/
theorem Scan_read {s : ByteArray} {T : List (List Nat × List Nat)} {E : List Nat} (h2 : s.size ≤ 281474976710656) (h : SC (sb s) = (T, E, -1)) (k : Nat) (hk' : T.length = k) (w : World) (hk : Kx w) :
    Calls Tryd.prog 11 #[.string s] w fun e w' => ∃ A c, e = .returned (.tuple #[.slice A k c, .string (mkS E), .int .i64 (-1)]) ∧ Rd w' w'.heap.size A (tv T) ∧ Below w.heap.size w w' := by
  refine (Scan_any s h2 w hk).mono ?_
  rw [h]
  rintro e w' ⟨v, rfl, ho, hb⟩
  obtain ⟨A, c, rfl, _, _, hr⟩ := ho.shape
  exact ⟨A, c, by rw [hk'], hr, hb⟩
theorem Blank_yes {s : ByteArray} {E : List Nat} (h2 : s.size ≤ 281474976710656) (h : SC (sb s) = ([], E, -1)) (w : World) (hk : Kx w) :
    Calls Tryd.prog 21 #[.string s] w fun e w' => e = .returned (.bool true) ∧ Below w.heap.size w w' := by
  refine (Blank_any s h2 w hk).mono ?_
  unfold blk
  rw [h]
  exact fun e w' h => h
end Go.Proofs.YtfbookfaodfmdaaDoor
