import Derived.Test.YtecfhhnmokdkiaaU
set_option linter.unusedVariables false
namespace Go.Proofs.Ytecfhhnmokdkiaa
open Go.RowKit

theorem s7c (W : World) : Calls Try.prog 16 #[.slice (some ⟨W.heap.size + 1, 0, none⟩) 1 1] ((W.alloc (.cells #[.int .u8 1, .int .u8 2, .int .u8 0, .int .u8 0, .int .u8 0, .int .u8 0, .int .u8 0, .int .u8 0, .int .u8 0, .int .u8 0, .int .u8 0, .int .u8 0, .int .u8 0, .int .u8 0, .int .u8 0, .int .u8 0] 51)).alloc (.cells #[.int .u8 1, .int .u8 2, .int .u8 0, .int .u8 0, .int .u8 0, .int .u8 0, .int .u8 0, .int .u8 0, .int .u8 0, .int .u8 0, .int .u8 0, .int .u8 0, .int .u8 0, .int .u8 0, .int .u8 0, .int .u8 0] 51)) fun e w' =>
    ∃ A c, e = .returned (.slice A 18 c) ∧ Rd w' w'.heap.size A (bs ([129, 1] ++ D16)) ∧ 18 ≤ c ∧ c ≤ maxLen ∧ Below W.heap.size W w' ∧ w'.heap[W.heap.size]? = some (.cells #[.int .u8 1, .int .u8 2, .int .u8 0, .int .u8 0, .int .u8 0, .int .u8 0, .int .u8 0, .int .u8 0, .int .u8 0, .int .u8 0, .int .u8 0, .int .u8 0, .int .u8 0, .int .u8 0, .int .u8 0, .int .u8 0] 51 (0, 0)) ∧ W.heap.size < w'.heap.size := by
  have h := s7 (W.alloc (.cells #[.int .u8 1, .int .u8 2, .int .u8 0, .int .u8 0, .int .u8 0, .int .u8 0, .int .u8 0, .int .u8 0, .int .u8 0, .int .u8 0, .int .u8 0, .int .u8 0, .int .u8 0, .int .u8 0, .int .u8 0, .int .u8 0] 51))
  rw [World.size_alloc] at h
  refine h.mono fun e w' ⟨A, c, h1, h2, h3, h4, h5⟩ => ⟨A, c, h1, h2, h4, h5, (new_later W _).trans (h3.mono (by omega)), (h3.block _ (by omega)).trans (heap_alloc_new W _), by have := h3.size; rw [World.size_alloc] at this; omega⟩
theorem row_later {w w' : World} {g : Nat} {o : Obj} (h : w.heap[g]? = some o) (hb : Below w.heap.size w w') : w'.heap[g]? = some o := (hb.block g (Array.getElem?_eq_some_iff.1 h).1).trans h
theorem row_range {w : World} {g : Nat} {cs : List Value} {t : TypeId} {fr : Nat × Nat} (h : w.heap[g]? = some (.cells cs.toArray t fr)) : w.rangeAt g 0 cs := fun j v hv => by
  rw [cell_of_row w g _ _ _ _ h]; simpa using hv

/-- A whole array is read where a guard says yes. -/
theorem wpList_load_guarded {P : Program} {ops : Array Oper} {rest : List Oper} {op : Oper} {a : Act} {w : World} {Q : Exit → Act → World → Prop} (hw : Region.wanted op (yielded ops a.tmps) = true) (ty : TypeId) (x : Operand) (ho : op.op = .load ty x)
    (b o : Nat) (hx : a.eval x = .pointer (some ⟨b, o, none⟩)) (cs : List Value) (d : TypeDesc) (hc : w.rangeAt b o cs)
    (hu : P.underlying ty = some d) (hd : d.isRow = true) (hi : (P.info? ty).map (·.size) = some cs.length)
    (h : wpList P ops Q rest (a.put op.dst (.agg cs.toArray)) w) : wpList P ops Q (op :: rest) a w :=
  wpList_step fun K hK => by
    rw [if_pos hw]
    exact wp_load_mid ty x ho b o hx cs d hc hu hd hi (hK _ _ h)

set_option maxHeartbeats 8000000 in
set_option maxRecDepth 100000 in
theorem sanity_any (w : World) : Calls Try.prog 6 #[] w fun e w' => e = .returned (.bool true) ∧ Below w.heap.size w w' := by
  go_enter Try.func6, Try.ntmps6
  go_wp2_with (first
    | (go_at_call 18; ((with_reducible refine (s1 _).mono ?_); rintro e w1 ⟨rfl, hb1⟩))
    | (go_at_call 18; ((with_reducible refine (s2 _).mono ?_); rintro e w2 ⟨rfl, hb2⟩))
    | (go_at_call 18; ((with_reducible refine (s3 _).mono ?_); rintro e w3 ⟨rfl, hb3⟩))
    | (go_at_call 20; ((with_reducible refine (s4 _).mono ?_); rintro e w4 ⟨rfl, hb4⟩))
    | (go_at_call 22; ((with_reducible refine (s5 _).mono ?_); rintro e w5 ⟨A5, c5, rfl, h5, hb5⟩; have hB5 := later (later (later (later hb1 hb2) hb3) hb4) hb5; clear hb1 hb2 hb3 hb4 hb5))
    | (go_at_call 16; ((with_reducible refine (s7c _).mono ?_); rintro e w7 ⟨A7, c7, rfl, h7, hc71, hc72, hb7, hrow, hsz7⟩; have h5a := h5.later hb7; have hB7 := later hB5 hb7; clear hb7 hB5 h5))
    | (go_at_call 28; ((with_reducible refine (s7b _ A7 c7 h7 hc71 hc72).mono ?_); rintro e w8 ⟨A17, c17, rfl, h17, hb8⟩; have h5b := h5a.later hb8; have hrow8 := row_later hrow hb8; have hB8 := later hB7 hb8; clear hb8 hB7 h5a hrow h7 hc71 hc72 hsz7))
    | (go_at_call 25; ((with_reducible refine (s8 _).mono ?_); rintro e w9 ⟨A20, c20, rfl, h20, hb9⟩; have h5c := h5b.later hb9; have hrow9 := row_later hrow8 hb9; have h17a := h17.later hb9; have hB9 := later hB8 hb9; clear hb9 hB8 h5b hrow8 h17))
    | (go_at_call 27; ((with_reducible refine (s9 _ _ _ h20).mono ?_); rintro e w10 ⟨rfl, hb10⟩))
    | (go_at_call 14; ((with_reducible refine (s10 _).mono ?_); rintro e w11 ⟨A82, c82, rfl, h82, hb11⟩))
    | (go_at_call 7; ((with_reducible refine (q6 _ _ _ h82).mono ?_); rintro e w12 ⟨rfl, hb12⟩; have hbx := later (later hb10 hb11) hb12; have h5d := h5c.later hbx; have hrow12 := row_later hrow9 hbx; have h17b := h17a.later hbx; have hB12 := later hB9 hbx; clear hbx hB9 h5c hrow9 h17a h20 h82 hb10 hb11 hb12))
    | (go_at_call 8; ((with_reducible refine (s11 _).mono ?_); rintro e w13 ⟨A88, c88, rfl, h88, hb13⟩))
    | (go_at_call 7; ((with_reducible refine (q3 _ _ _ h88).mono ?_); rintro e w14 ⟨rfl, hb14⟩; have hby := later hb13 hb14; have h5e := h5d.later hby; have hrow14 := row_later hrow12 hby; have h17c := h17b.later hby; have hB14 := later hB12 hby; clear hby hB12 h5d hrow12 h17b h88 hb13 hb14))
    | (go_at_call 24; ((with_reducible refine (s12 _ _ _ h5e).mono ?_); rintro e w15 ⟨rfl, hb15⟩))
    | (go_at_call 10; ((with_reducible refine (s13 _).mono ?_); rintro e w16 ⟨A138, c138, rfl, h138, hb16⟩))
    | (go_at_call 7; ((with_reducible refine (q4 _ _ _ h138).mono ?_); rintro e w17 ⟨rfl, hb17⟩))
    | (go_at_call 12; ((with_reducible refine (s14 _).mono ?_); rintro e w18 ⟨A144, c144, rfl, h144, hb18⟩))
    | (go_at_call 7; ((with_reducible refine (q5 _ _ _ h144).mono ?_); rintro e w19 ⟨rfl, hb19⟩; have hbz := later (later (later (later hb15 hb16) hb17) hb18) hb19; have hrow19 := row_later hrow14 hbz; have h17d := h17c.later hbz; have hB19 := later hB14 hbz; have hrg := Lib.hid (row_range hrow19); clear hbz hB14 hrow14 hrow19 h17c hb15 hb16 hb17 hb18 hb19 h5e h138 h144))
    | (refine wpList_load_guarded rfl _ (.tmp 16) rfl _ _ rfl [.int .u8 1, .int .u8 2, .int .u8 0, .int .u8 0, .int .u8 0, .int .u8 0, .int .u8 0, .int .u8 0, .int .u8 0, .int .u8 0, .int .u8 0, .int .u8 0, .int .u8 0, .int .u8 0, .int .u8 0, .int .u8 0] _ hrg.out Try.underlying51 rfl info_dig ?_)
    | (go_at_call 30; ((with_reducible refine (s15 _ _ _ h17d).mono ?_); rintro e w20 ⟨rfl, hb20⟩)))
  go_ret
  exact ⟨rfl, later hB19 hb20⟩
end Go.Proofs.Ytecfhhnmokdkiaa
