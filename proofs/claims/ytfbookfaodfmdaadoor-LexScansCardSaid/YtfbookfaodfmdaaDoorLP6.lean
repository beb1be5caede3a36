import Derived.Test.YtfbookfaodfmdaaDoorLR4
import Derived.Test.YtfbookfaodfmdaaDoorLP4
import Derived.Lib.ConvBytes
set_option linter.unusedVariables false
set_option linter.unusedSimpArgs false
namespace Go.Proofs.YtfbookfaodfmdaaDoor
open Go.RowKit

theorem sb_get (x : ByteArray) (j : Nat) : (x.data.toList.getD j 0).toNat = (sb x).getD j 0 := by
  unfold sb
  rw [List.getD_eq_getElem?_getD, List.getD_eq_getElem?_getD, List.getElem?_map]
  cases x.data.toList[j]? <;> rfl
/-- '[]byte(s)', its cells. -/
theorem conv_str (W : World) (x : ByteArray) : ∃ W' C, (convert 9 24 (.string x)).run Tryd.prog W = .ok (.slice (some ⟨W.heap.size, 0, none⟩) x.size C) W' ∧ Below W.heap.size W W' ∧ W.heap.size < W'.heap.size ∧
    ∀ j, j < x.size → W'.cell? ⟨W.heap.size, j, none⟩ = some (.int .u8 (((sb x).getD j 0 : Nat) : Int)) ∧ W'.frozen? ⟨W.heap.size, j, none⟩ = false := by
  refine ⟨Lib.bytesWorld W 5 x, grownCap W x.size 0 5, ?_, ⟨rfl, rfl, rfl, by rw [Lib.bytesWorld_size]; omega, fun k hk => Lib.bytesWorld_at_old W 5 x k hk⟩, by rw [Lib.bytesWorld_size]; omega, ?_⟩
  · rw [Lib.run_convert_string_bytes (P := Tryd.prog) W 9 24 5 x Tryd.underlying9 Tryd.underlying24 Tryd.underlying5]
  · intro j hj
    refine ⟨?_, ?_⟩
    · rw [Lib.bytesWorld_cell W 5 x j hj, sb_get]
    · unfold World.frozen?
      rw [Lib.bytesWorld_at_new]
      have : j < (Lib.bytesCells W 5 x).size := by
        simp only [Lib.bytesCells, Array.size_append, Array.size_map, Array.size_replicate]
        have : x.data.size = x.size := rfl
        omega
      simp
      omega
/-- One byte of it is set. -/
theorem conv_set {W : World} {g : Nat} {L : List Nat} (hc : ∀ j, j < L.length → W.cell? ⟨g, j, none⟩ = some (.int .u8 ((L.getD j 0 : Nat) : Int))) (hg : g < W.heap.size) (j c : Nat) (hj : j < L.length) :
    Rd (W.setCell ⟨g, j, none⟩ (.int .u8 (c : Int))) (W.setCell ⟨g, j, none⟩ (.int .u8 (c : Int))).heap.size (some ⟨g, 0, none⟩) (bs (L.set j c)) := by
  have hsz : (W.setCell ⟨g, j, none⟩ (.int .u8 (c : Int))).heap.size = W.heap.size := by simp
  refine .inr ⟨g, 0, rfl, by rw [hsz]; exact hg, fun i u hu => ?_⟩
  rw [Nat.zero_add]
  have hi : i < L.length := by
    have := (List.getElem?_eq_some_iff.1 hu).1
    rw [bs_len, List.length_set] at this; exact this
  have h := bs_get (L.set j c) i (by rw [List.length_set]; exact hi)
  rw [hu] at h
  rw [Option.some.inj h]
  by_cases e : i = j
  · subst e
    rw [World.cell?_setCell_same _ _ _ (hc i hi)]
    simp [List.getElem?_set, hi, U8]
  · rw [World.cell?_setCell_other _ _ _ _ (by intro h; cases h; exact e rfl), hc i hi]
    have : (L.set j c)[i]? = L[i]? := by rw [List.getElem?_set_ne (fun h => e h.symm)]
    simp [List.getD, this, List.getElem?_eq_getElem hi, U8]
theorem sc_len (L : List Nat) : (SC L).1.length ≤ 8192 := by
  rcases sc_cases L with ⟨_, hc⟩ | ⟨hl, T, e, h1, hc⟩ | ⟨_, n, _, hc, _⟩
  · rw [hc]; simp
  · rw [hc]
    obtain ⟨_, hch, _⟩ := (S_iff _ _ _).1 h1
    have h2 : (cat T).length + e.length = L.length := by rw [← List.length_append, ← ((S_iff _ _ _).1 h1).1]
    have := tok_len_le (T := T) (fun y hy => (hch.good y hy).2.1)
    simp only; omega
  · rw [hc]; simp
/-- Both readings of one text. -/
theorem Scan_both {s : ByteArray} {T : List (List Nat × List Nat)} {E : List Nat} {n : Int} (h2 : s.size ≤ 281474976710656) (h : SC (sb s) = (T, E, n)) (k : Nat) (hk' : T.length = k) (w : World) (hk : Kx w) :
    Calls Tryd.prog 11 #[.string s] w fun e w' => ∃ A c, e = .returned (.tuple #[.slice A k c, .string (mkS E), .int .i64 n]) ∧ Rd w' w'.heap.size A (tv T) ∧ Below w.heap.size w w' := by
  refine (Scan_any s h2 w hk).mono ?_
  rw [h]
  rintro e w' ⟨v, rfl, ho, hb⟩
  obtain ⟨A, c, rfl, _, _, hr⟩ := ho.shape
  exact ⟨A, c, by rw [hk'], hr, hb⟩
theorem RScan_both {s : ByteArray} {T : List (List Nat × List Nat)} {E : List Nat} {n : Int} (h2 : s.size ≤ 281474976710656) (h : SC (sb s) = (T, E, n)) (k : Nat) (hk' : T.length = k) (w : World) :
    Calls Tryd.prog 12 #[.string s] w fun e w' => ∃ A c, e = .returned (.tuple #[.slice A k c, .string (mkS E), .int .i64 n]) ∧ Rd w' w'.heap.size A (tv T) ∧ Below w.heap.size w w' := by
  refine (RScan_any s h2 w).mono ?_
  rw [h]
  rintro e w' ⟨v, rfl, ho, hb⟩
  obtain ⟨A, c, hv, _, _, _⟩ := own_shape ho
  subst hv
  exact ⟨A, c, by rw [← hk'], Rd.own ho, hb⟩
/-- Six texts lie in a row. -/
def Row6 (g : Nat) (W : World) : Prop := ∀ j, j < 6 → ∃ x : ByteArray, x.size ≤ 281474976710656 ∧ W.cell? ⟨g, j, none⟩ = some (.string x)
theorem Row6.new (W : World) (a b c d e f : ByteArray) (ha : a.size ≤ 281474976710656) (hb : b.size ≤ 281474976710656) (hc : c.size ≤ 281474976710656) (hd : d.size ≤ 281474976710656) (he : e.size ≤ 281474976710656) (hf : f.size ≤ 281474976710656) (t : TypeId) :
    Row6 W.heap.size (W.alloc (.cells #[.string a, .string b, .string c, .string d, .string e, .string f] t)) := by
  intro j hj
  rcases (by omega : j = 0 ∨ j = 1 ∨ j = 2 ∨ j = 3 ∨ j = 4 ∨ j = 5) with rfl | rfl | rfl | rfl | rfl | rfl
  · exact ⟨a, ha, by rw [cell_of_row _ _ _ _ _ _ (heap_alloc_new W _)]; rfl⟩
  · exact ⟨b, hb, by rw [cell_of_row _ _ _ _ _ _ (heap_alloc_new W _)]; rfl⟩
  · exact ⟨c, hc, by rw [cell_of_row _ _ _ _ _ _ (heap_alloc_new W _)]; rfl⟩
  · exact ⟨d, hd, by rw [cell_of_row _ _ _ _ _ _ (heap_alloc_new W _)]; rfl⟩
  · exact ⟨e, he, by rw [cell_of_row _ _ _ _ _ _ (heap_alloc_new W _)]; rfl⟩
  · exact ⟨f, hf, by rw [cell_of_row _ _ _ _ _ _ (heap_alloc_new W _)]; rfl⟩
end Go.Proofs.YtfbookfaodfmdaaDoor
