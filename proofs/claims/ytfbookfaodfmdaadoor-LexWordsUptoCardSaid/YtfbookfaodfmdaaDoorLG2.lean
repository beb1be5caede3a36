import Derived.Test.YtfbookfaodfmdaaDoorLF3
import Derived.Test.YtfbookfaodfmdaaDoorLB2
import Derived.Test.YtfbookfaodfmdaaDoorLSB
set_option linter.unusedVariables false
set_option linter.unusedSimpArgs false
namespace Go.Proofs.YtfbookfaodfmdaaDoor
open Go.RowKit

/-- A strings.Builder of the call's own that holds bytes. -/
def IsBld (W : World) (B b : Nat) (X : List Nat) : Prop := Lib.IsBuilderF 62 5 B b (bs X) W
theorem ownF_below {w w' : World} {base e n size : Nat} {v : Value} {xs : List Value} (h : w.ownsRowF base e size v n xs) (hb : Below w.heap.size w w') : w'.ownsRowF base e size v n xs := by
  refine ⟨h.1, ?_⟩
  rcases h.2 with h2 | ⟨g, cap, cur, fz, hv, hg, hh, r⟩
  · exact .inl h2
  · refine .inr ⟨g, cap, cur, fz, hv, hg, ?_, r⟩
    rw [hb.block g (h.lt g (by rw [hv]; rfl)).2]
    exact hh
theorem at_later {T e : TypeId} {B b : Nat} {p : Value} {xs : List Value} {W W' : World} (h : Lib.BuilderAtF T e B b p xs W) (hb : Below W.heap.size W W') : Lib.BuilderAtF T e B b p xs W' := by
  obtain ⟨hB, v, hh, hown, hne⟩ := h
  exact ⟨hB, v, row_later hh hb, ownF_below hown hb, hne⟩
theorem IsBld.later {W W' : World} {B b : Nat} {X : List Nat} (h : IsBld W B b X) (hb : Below W.heap.size W W') : IsBld W' B b X := by
  rcases h with h | h
  · exact .inl (at_later h hb)
  · exact .inr (at_later h hb)
theorem IsBld.fresh (w : World) : IsBld (w.alloc (.cells #[.pointer none, .slice none 0 0] 62)) w.heap.size w.heap.size [] := by
  rcases Lib.fresh_isBuilder 62 5 w with h | h
  · exact .inl (Lib.BuilderAtF.of h)
  · exact .inr (Lib.BuilderAtF.of h)
theorem IsBld.lt {W : World} {B b : Nat} {X : List Nat} (h : IsBld W B b X) : b < W.heap.size := by
  rcases h with ⟨_, v, hh, _⟩ | ⟨_, v, hh, _⟩
  · exact (Array.getElem?_eq_some_iff.1 hh).1
  · exact (Array.getElem?_eq_some_iff.1 hh).1
theorem bld_write (B b : Nat) (X Y : List Nat) (W : World) (h : IsBld W B b X) (hY : (∀ d ∈ Y, d < 256)) (hl : X.length + Y.length ≤ 1000000) (hB : B ≤ W.heap.size) :
    Calls Tryd.prog 41 #[.pointer (some ⟨b, 0, none⟩), .string (mkS Y)] W fun e w' => e = .returned (.tuple #[.int .i64 (Y.length : Int), .nilIface]) ∧ IsBld w' B b (X ++ Y) ∧ Below B W w' ∧ Lib.OthersKept 5 (some b) W w' := by
  refine (Tryd.b_write B b (bs X) (mkS Y) W h (by rw [bs_len, mkS_size]; omega) hB).mono fun e w' ⟨he, h1, h2, h3⟩ => ⟨?_, ?_, h2, h3⟩
  · rw [he, mkS_size]
  · rw [sb_cells, sb_mkS Y hY, ← bs_app] at h1
    exact .inr h1
theorem byteCells_eq (X : List Nat) (hX : (∀ d ∈ X, d < 256)) : Lib.byteCells (X.map UInt8.ofNat) = bs X := by
  unfold Lib.byteCells bs
  rw [List.map_map]
  refine List.map_congr_left fun x hx => ?_
  show Value.int .u8 ((UInt8.ofNat x).toNat : Int) = .int .u8 (x : Int)
  rw [UInt8.toNat_ofNat_of_lt' (hX x hx)]
theorem bld_string (B b : Nat) (X : List Nat) (W : World) (h : IsBld W B b X) (hX : (∀ d ∈ X, d < 256)) (hB : B ≤ W.heap.size) :
    Calls Tryd.prog 42 #[.pointer (some ⟨b, 0, none⟩)] W fun e w' => e = .returned (.string (mkS X)) ∧ Below B W w' :=
  (Tryd.b_string B b (X.map UInt8.ofNat) W (by rw [byteCells_eq X hX]; exact h) hB).mono fun e w' ⟨he, _, h2, _⟩ => ⟨he, h2⟩

/-- All bytes of tokens are bytes. -/
def TB (T : List (List Nat × List Nat)) : Prop := ∀ x ∈ T, (∀ d ∈ x.1, d < 256) ∧ ∀ d ∈ x.2, d < 256
theorem cat_bytes {T : List (List Nat × List Nat)} (h : TB T) : ∀ d ∈ cat T, d < 256 := by
  intro d hd
  unfold cat at hd
  rw [List.mem_flatMap] at hd
  obtain ⟨x, hx, hd⟩ := hd
  rcases List.mem_append.1 hd with h1 | h1
  · exact (h x hx).2 d h1
  · exact (h x hx).1 d h1
theorem info_tok_size : (Tryd.prog.info? 40).map (·.size) = some 2 := by kernel_rfl
theorem cat_take (T : List (List Nat × List Nat)) (j : Nat) (h : j < T.length) : cat (T.take (j + 1)) = cat (T.take j) ++ (T[j]'h).2 ++ (T[j]'h).1 := by
  rw [List.take_succ_eq_append_getElem h, cat_app]; simp [cat]
theorem cat_take_le (T : List (List Nat × List Nat)) (j : Nat) : (cat (T.take j)).length ≤ (cat T).length := by
  have h : cat T = cat (T.take j) ++ cat (T.drop j) := by rw [← cat_app, List.take_append_drop]
  rw [h, List.length_append]; omega
set_option maxHeartbeats 2000000 in
set_option maxRecDepth 100000 in
theorem Text_any (m cap : Nat) (A : Option Addr) (T : List (List Nat × List Nat)) (E : List Nat) (w : World) (hm : m = T.length) (hm2 : m ≤ 100000) (hT : TB T) (hE : ∀ d ∈ E, d < 256) (hl : (cat T).length + E.length ≤ 100000) (hr : Rd w w.heap.size A (tv T)) :
    Calls Tryd.prog 27 #[.slice A m cap, .string (mkS E)] w fun e w' => e = .returned (.string (mkS (cat T ++ E))) ∧ Below w.heap.size w w' := by
  have HM := Lib.hid hm
  have HR := Lib.hid hr
  have HT := Lib.hid hT
  have HE := Lib.hid hE
  have HL := Lib.hid hl
  have V0 := new_later w (.cells #[.pointer none, .slice none 0 0] 62)
  have B0 := IsBld.fresh w
  clear hm hr hT hE hl
  go_enter Tryd.func27, Tryd.ntmps27
  go_upto_region 2 with fail
  generalize w.alloc (.cells #[.pointer none, .slice none 0 0] 62) = W0 at V0 B0 ⊢
  go_wp2_with fail
  go_loopw [7, 10] (fun _ i W => ∃ j : Nat, j ≤ m ∧ i = .int .i64 (j : Int) ∧ IsBld W w.heap.size w.heap.size (cat (T.take j)) ∧ Below w.heap.size w W) (fun _ i _ => m - (intOf i).toNat)
  case atStart => exact ⟨0, Nat.zero_le _, rfl, B0, V0⟩
  case round =>
    obtain ⟨j, hj, rfl, B1, V1⟩ := hrel
    clear B0 V0
    by_cases hlt : j < m
    · have hjl : j < T.length := by have := HM.out; omega
      have hji : (j : Int) < (m : Int) := by omega
      have hj0 : (0 : Int) ≤ (j : Int) := by omega
      obtain ⟨b, o, rfl, hbB, hc1, hc2⟩ := tok_at HR.out j hjl
      have hc3 := (V1.cell (p := ⟨b, o + 2 * j, none⟩) hbB).trans hc1
      have hc4 := (V1.cell (p := ⟨b, o + 2 * j + 1, none⟩) hbB).trans hc2
      have hTj := HT.out _ (List.getElem_mem hjl)
      have hct := cat_take T j hjl
      have hcl := cat_take_le T (j + 1)
      have hcl0 := cat_take_le T j
      have hll := HL.out
      generalize T[j] = X at hc3 hc4 hTj hct
      obtain ⟨x, y⟩ := X
      simp only at hc3 hc4 hTj hct
      have HCR : Hid (wr.rangeAt b (o + j * 2) [.string (mkS x), .string (mkS y)]) := Lib.hid (by
        intro q v hq
        rw [show o + 2 * j = o + j * 2 by omega] at hc3 hc4
        match q, hq with
        | 0, hq => simp at hq; subst hq; exact hc3
        | 1, hq => simp at hq; subst hq; exact hc4)
      have hlen : (cat (T.take j)).length + y.length + x.length ≤ 100000 := by
        rw [hct, List.length_append, List.length_append] at hcl; omega
      have HCT := Lib.hid hct
      generalize cat (T.take j) = C at B1 HCT hlen
      have HI2 : Hid ((Tryd.prog.info? 40).map (·.size) = some ([.string (mkS x), .string (mkS y)] : List Value).length) := Lib.hid info_tok_size
      have HOC : Hid (∀ v ∈ ([.string (mkS x), .string (mkS y)] : List Value), v.oneCell' = true) := Lib.hid (by intro v hv; simp at hv; rcases hv with rfl | rfl <;> rfl)
      have HNE : Hid ((some wr.heap.size : Option Nat) ≠ some w.heap.size) := Lib.hid (by have := B1.lt; simp; omega)
      have HNT : Hid (∀ c fz, Obj.cells #[Value.string (mkS x), .string (mkS y)] 40 (0, 0) ≠ .cells c 5 fz) := Lib.hid (by intro c fz h; cases h)
      have HX := Lib.hid hTj.1
      have HY := Lib.hid hTj.2
      have H1 : Hid (C.length + y.length ≤ 1000000) := Lib.hid (by omega)
      have H2 : Hid ((C ++ y).length + x.length ≤ 1000000) := Lib.hid (by rw [List.length_append]; omega)
      clear hc1 hc2 hc3 hc4 hjl hTj hct hcl hcl0 hll hlen
      go_wp2_with (first
        | (with_reducible refine wpList_load_mid rfl _ (.tmp 12) rfl b (o + j * 2) rfl [.string (mkS x), .string (mkS y)] _ HCR.out Tryd.underlying40 rfl HI2.out ?_)
        | (with_reducible refine wpList_store_new rfl _ (.tmp 7) (.tmp 13) rfl rfl rfl info_tok_size rfl rfl (all_oneCell_toArray HOC.out) ?_; intro w5 hb5 hrow5 hsz5; have B5 := B1.later hb5; have V5 := later V1 hb5; have hd1 : w5.cell? ⟨wr.heap.size, 1, none⟩ = some (.string (mkS y)) := (cell_of_row _ _ _ _ _ _ hrow5))
        | (go_at_call 41; (with_reducible refine (bld_write _ _ C y w5 B5 HY.out H1.out V5.size).mono ?_); rintro e w6 ⟨rfl, B6, hb6, hk6⟩; have hrow6 := hk6 wr.heap.size _ hrow5 HNE.out HNT.out; have V6 := V5.trans hb6; have hd0 : w6.cell? ⟨wr.heap.size, 0, none⟩ = some (.string (mkS x)) := (cell_of_row _ _ _ _ _ _ hrow6); clear hd1 B5)
        | (go_at_call 41; (with_reducible refine (bld_write _ _ (C ++ y) x w6 B6 HX.out H2.out V6.size).mono ?_); rintro e w7 ⟨rfl, B7, hb7, _⟩; have V7 := V6.trans hb7))
      go_roundw
      case rel => exact ⟨j + 1, by omega, by go_num, by rw [HCT.out]; exact B7, V7⟩
      case measure => simp [intOf]; omega
    · obtain rfl : j = m := by omega
      rw [List.take_of_length_le (by rw [HM.out]; exact Nat.le_refl _)] at B1
      have HCB := Lib.hid (cat_bytes HT.out)
      have H1 : Hid ((cat T).length + E.length ≤ 1000000) := Lib.hid (by have := HL.out; omega)
      have HB2 : Hid (∀ d ∈ cat T ++ E, d < 256) := Lib.hid (by
        intro d hd
        rcases List.mem_append.1 hd with h | h
        · exact HCB.out d h
        · exact HE.out d h)
      go_wp2_with (first
        | (go_at_call 41; (with_reducible refine (bld_write _ _ (cat T) E wr B1 HE.out H1.out V1.size).mono ?_); rintro e w6 ⟨rfl, B6, hb6, _⟩; have V6 := V1.trans hb6)
        | (go_at_call 42; (with_reducible refine (bld_string _ _ (cat T ++ E) w6 B6 HB2.out V6.size).mono ?_); rintro e w7 ⟨rfl, hb7⟩; have V7 := V6.trans hb7))
      go_ret
      exact ⟨rfl, V7⟩
end Go.Proofs.YtfbookfaodfmdaaDoor
