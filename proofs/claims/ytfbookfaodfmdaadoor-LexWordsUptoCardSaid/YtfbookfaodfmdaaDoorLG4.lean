import Derived.Test.YtfbookfaodfmdaaDoorLG3
set_option linter.unusedVariables false
set_option linter.unusedSimpArgs false
namespace Go.Proofs.YtfbookfaodfmdaaDoor
open Go.RowKit

/-- The tokens of the document's generator. -/
def pwords : List (List Nat) := [[102], [120, 49], [99, 97, 115, 101], [80, 111, 105, 110, 116], [97, 86, 101, 114, 121, 76, 111, 110, 103, 78, 97, 109, 101, 49, 50, 51], [105, 102], [90, 57], [110, 111, 116]]
def psigns : List (List Nat) := [[40], [41], [123], [125], [91], [93], [44], [58], [46], [61], [61, 61], [45, 62], [43], [45], [42], [47], [37], [60]]
def pnums : List (List Nat) := [[48], [55], [52, 50], [49, 50, 51, 52, 53, 54, 55, 56, 57, 48, 49, 50, 51, 52, 53, 54]]
def pieceK (k : Nat) : List Nat := if k % 5 = 0 ∨ k % 5 = 1 then pwords.getD (k / 5 % 8) [] else if k % 5 = 2 then pnums.getD (k / 5 % 4) [] else psigns.getD (k / 5 % 18) []
def pieceL (n : Int) : List Nat := pieceK (ar n 1000000)
theorem words_cells : #[Value.string ⟨#[102]⟩, .string ⟨#[120, 49]⟩, .string ⟨#[99, 97, 115, 101]⟩, .string ⟨#[80, 111, 105, 110, 116]⟩, .string ⟨#[97, 86, 101, 114, 121, 76, 111, 110, 103, 78, 97, 109, 101, 49, 50, 51]⟩, .string ⟨#[105, 102]⟩, .string ⟨#[90, 57]⟩, .string ⟨#[110, 111, 116]⟩] = (pwords.map fun x => Value.string (mkS x)).toArray := rfl
theorem signs_cells : #[Value.string ⟨#[40]⟩, .string ⟨#[41]⟩, .string ⟨#[123]⟩, .string ⟨#[125]⟩, .string ⟨#[91]⟩, .string ⟨#[93]⟩, .string ⟨#[44]⟩, .string ⟨#[58]⟩, .string ⟨#[46]⟩, .string ⟨#[61]⟩, .string ⟨#[61, 61]⟩, .string ⟨#[45, 62]⟩, .string ⟨#[43]⟩, .string ⟨#[45]⟩, .string ⟨#[42]⟩, .string ⟨#[47]⟩, .string ⟨#[37]⟩, .string ⟨#[60]⟩] = (psigns.map fun x => Value.string (mkS x)).toArray := rfl
theorem nums_cells : #[Value.string ⟨#[48]⟩, .string ⟨#[55]⟩, .string ⟨#[52, 50]⟩, .string ⟨#[49, 50, 51, 52, 53, 54, 55, 56, 57, 48, 49, 50, 51, 52, 53, 54]⟩] = (pnums.map fun x => Value.string (mkS x)).toArray := rfl
theorem piece_mem (k : Nat) : pieceK k ∈ pwords ++ pnums ++ psigns := by
  unfold pieceK
  have h1 : k / 5 % 8 < pwords.length := Nat.mod_lt _ (by decide)
  have h2 : k / 5 % 4 < pnums.length := Nat.mod_lt _ (by decide)
  have h3 : k / 5 % 18 < psigns.length := Nat.mod_lt _ (by decide)
  rw [List.mem_append, List.mem_append]
  split
  · left; left; rw [List.getD_eq_getElem?_getD, List.getElem?_eq_getElem h1]; exact List.getElem_mem h1
  · split
    · left; right; rw [List.getD_eq_getElem?_getD, List.getElem?_eq_getElem h2]; exact List.getElem_mem h2
    · right; rw [List.getD_eq_getElem?_getD, List.getElem?_eq_getElem h3]; exact List.getElem_mem h3

set_option maxHeartbeats 2000000 in
set_option maxRecDepth 100000 in
theorem Piece_any (n : Int) (hn : InR n) (w : World) :
    Calls Tryd.prog 29 #[.int .i64 n] w fun e w' => e = .returned (.string (mkS (pieceL n))) ∧ Below w.heap.size w w' := by
  have HA : Hid (∀ W, Calls Tryd.prog 10 #[.int .i64 n, .int .i64 1000000] W fun e w' => e = .returned (.int .i64 ((ar n 1000000 : Nat) : Int)) ∧ w' = W) := Lib.hid fun W => Around_any n 1000000 (by decide) (by decide) hn W
  obtain ⟨Z, hZ⟩ : ∃ Z, pieceL n = Z := ⟨_, rfl⟩
  rw [hZ]
  unfold pieceL pieceK at hZ
  have hb := ar_lt n 1000000 (by decide)
  generalize ar n 1000000 = k at HA hb hZ
  have hk0 : (0 : Int) ≤ (k : Int) := by omega
  have hk1 : (k : Int) < 1000000 := by omega
  have e1 : (k : Int).tmod 5 = ((k % 5 : Nat) : Int) := mod_i k 5
  have e3 : (k : Int).tdiv 5 = ((k / 5 : Nat) : Int) := div_i k 5
  have e4 : ((k / 5 : Nat) : Int).tmod 8 = ((k / 5 % 8 : Nat) : Int) := mod_i (k / 5) 8
  have e5 : ((k / 5 : Nat) : Int).tmod 4 = ((k / 5 % 4 : Nat) : Int) := mod_i (k / 5) 4
  have e6 : ((k / 5 : Nat) : Int).tmod 18 = ((k / 5 % 18 : Nat) : Int) := mod_i (k / 5) 18
  have b1 : k / 5 % 8 < 8 := Nat.mod_lt _ (by decide)
  have b2 : k / 5 % 4 < 4 := Nat.mod_lt _ (by decide)
  have b3 : k / 5 % 18 < 18 := Nat.mod_lt _ (by decide)
  have b5 : k % 5 < 5 := Nat.mod_lt _ (by decide)
  have V1 := new_later w (.cells #[Value.string ⟨#[102]⟩, .string ⟨#[120, 49]⟩, .string ⟨#[99, 97, 115, 101]⟩, .string ⟨#[80, 111, 105, 110, 116]⟩, .string ⟨#[97, 86, 101, 114, 121, 76, 111, 110, 103, 78, 97, 109, 101, 49, 50, 51]⟩, .string ⟨#[105, 102]⟩, .string ⟨#[90, 57]⟩, .string ⟨#[110, 111, 116]⟩] 9)
  have c1 := tab_cell w pwords 9 (k / 5 % 8) b1
  rw [← words_cells] at c1
  have g1 : (w.alloc (.cells #[Value.string ⟨#[102]⟩, .string ⟨#[120, 49]⟩, .string ⟨#[99, 97, 115, 101]⟩, .string ⟨#[80, 111, 105, 110, 116]⟩, .string ⟨#[97, 86, 101, 114, 121, 76, 111, 110, 103, 78, 97, 109, 101, 49, 50, 51]⟩, .string ⟨#[105, 102]⟩, .string ⟨#[90, 57]⟩, .string ⟨#[110, 111, 116]⟩] 9)).heap.size = w.heap.size + 1 := by simp
  have HC2 : Hid (∀ W : World, (W.alloc (.cells #[Value.string ⟨#[40]⟩, .string ⟨#[41]⟩, .string ⟨#[123]⟩, .string ⟨#[125]⟩, .string ⟨#[91]⟩, .string ⟨#[93]⟩, .string ⟨#[44]⟩, .string ⟨#[58]⟩, .string ⟨#[46]⟩, .string ⟨#[61]⟩, .string ⟨#[61, 61]⟩, .string ⟨#[45, 62]⟩, .string ⟨#[43]⟩, .string ⟨#[45]⟩, .string ⟨#[42]⟩, .string ⟨#[47]⟩, .string ⟨#[37]⟩, .string ⟨#[60]⟩] 9)).cell? ⟨W.heap.size, k / 5 % 18, none⟩ = some (.string (mkS (psigns.getD (k / 5 % 18) [])))) := Lib.hid fun W => by
    have := tab_cell W psigns 9 (k / 5 % 18) b3
    rwa [← signs_cells] at this
  have HC3 : Hid (∀ W : World, (W.alloc (.cells #[Value.string ⟨#[48]⟩, .string ⟨#[55]⟩, .string ⟨#[52, 50]⟩, .string ⟨#[49, 50, 51, 52, 53, 54, 55, 56, 57, 48, 49, 50, 51, 52, 53, 54]⟩] 9)).cell? ⟨W.heap.size, k / 5 % 4, none⟩ = some (.string (mkS (pnums.getD (k / 5 % 4) [])))) := Lib.hid fun W => by
    have := tab_cell W pnums 9 (k / 5 % 4) b2
    rwa [← nums_cells] at this
  have hq0 : (0 : Int) ≤ ((k / 5 : Nat) : Int) := by omega
  have hq1 : ((k / 5 : Nat) : Int) < 1000000 := by omega
  generalize pwords.getD (k / 5 % 8) [] = G1 at c1 hZ
  generalize psigns.getD (k / 5 % 18) [] = G2 at HC2 hZ
  generalize pnums.getD (k / 5 % 4) [] = G3 at HC3 hZ
  generalize k / 5 % 8 = j1 at e4 b1 c1
  generalize k / 5 % 4 = j2 at e5 b2 HC3
  generalize k / 5 % 18 = j3 at e6 b3 HC2
  generalize k / 5 = q at e3 e4 e5 e6 hq0 hq1
  generalize k % 5 = r at e1 b5 hZ
  have j1a : (0 : Int) ≤ (j1 : Int) := by omega
  have j1b : (j1 : Int) < 8 := by omega
  have j2a : (0 : Int) ≤ (j2 : Int) := by omega
  have j2b : (j2 : Int) < 4 := by omega
  have j3a : (0 : Int) ≤ (j3 : Int) := by omega
  have j3b : (j3 : Int) < 18 := by omega
  have HZ := Lib.hid hZ
  clear b1 b2 b3 hb hZ
  go_enter Tryd.func29, Tryd.ntmps29
  go_upto_region 3 with (go_at_call 10; (with_reducible refine (HA.out _).mono ?_); rintro e w' ⟨rfl, hw⟩; rw [hw])
  generalize w.alloc (.cells #[Value.string ⟨#[102]⟩, .string ⟨#[120, 49]⟩, .string ⟨#[99, 97, 115, 101]⟩, .string ⟨#[80, 111, 105, 110, 116]⟩, .string ⟨#[97, 86, 101, 114, 121, 76, 111, 110, 103, 78, 97, 109, 101, 49, 50, 51]⟩, .string ⟨#[105, 102]⟩, .string ⟨#[90, 57]⟩, .string ⟨#[110, 111, 116]⟩] 9) = W1 at c1 V1 g1 ⊢
  have V2 := later V1 (new_later W1 (.cells #[Value.string ⟨#[40]⟩, .string ⟨#[41]⟩, .string ⟨#[123]⟩, .string ⟨#[125]⟩, .string ⟨#[91]⟩, .string ⟨#[93]⟩, .string ⟨#[44]⟩, .string ⟨#[58]⟩, .string ⟨#[46]⟩, .string ⟨#[61]⟩, .string ⟨#[61, 61]⟩, .string ⟨#[45, 62]⟩, .string ⟨#[43]⟩, .string ⟨#[45]⟩, .string ⟨#[42]⟩, .string ⟨#[47]⟩, .string ⟨#[37]⟩, .string ⟨#[60]⟩] 9))
  have c2 := HC2.out W1
  have c1' : (W1.alloc (.cells #[Value.string ⟨#[40]⟩, .string ⟨#[41]⟩, .string ⟨#[123]⟩, .string ⟨#[125]⟩, .string ⟨#[91]⟩, .string ⟨#[93]⟩, .string ⟨#[44]⟩, .string ⟨#[58]⟩, .string ⟨#[46]⟩, .string ⟨#[61]⟩, .string ⟨#[61, 61]⟩, .string ⟨#[45, 62]⟩, .string ⟨#[43]⟩, .string ⟨#[45]⟩, .string ⟨#[42]⟩, .string ⟨#[47]⟩, .string ⟨#[37]⟩, .string ⟨#[60]⟩] 9)).cell? ⟨w.heap.size, j1, none⟩ = some (.string (mkS G1)) := ((new_later W1 (.cells #[Value.string ⟨#[40]⟩, .string ⟨#[41]⟩, .string ⟨#[123]⟩, .string ⟨#[125]⟩, .string ⟨#[91]⟩, .string ⟨#[93]⟩, .string ⟨#[44]⟩, .string ⟨#[58]⟩, .string ⟨#[46]⟩, .string ⟨#[61]⟩, .string ⟨#[61, 61]⟩, .string ⟨#[45, 62]⟩, .string ⟨#[43]⟩, .string ⟨#[45]⟩, .string ⟨#[42]⟩, .string ⟨#[47]⟩, .string ⟨#[37]⟩, .string ⟨#[60]⟩] 9)).cell (by rw [g1]; exact Nat.lt_succ_self _)).trans c1
  clear c1
  go_upto_region 4 with fail
  generalize W1.alloc (.cells #[Value.string ⟨#[40]⟩, .string ⟨#[41]⟩, .string ⟨#[123]⟩, .string ⟨#[125]⟩, .string ⟨#[91]⟩, .string ⟨#[93]⟩, .string ⟨#[44]⟩, .string ⟨#[58]⟩, .string ⟨#[46]⟩, .string ⟨#[61]⟩, .string ⟨#[61, 61]⟩, .string ⟨#[45, 62]⟩, .string ⟨#[43]⟩, .string ⟨#[45]⟩, .string ⟨#[42]⟩, .string ⟨#[47]⟩, .string ⟨#[37]⟩, .string ⟨#[60]⟩] 9) = W2 at c1' c2 V2 ⊢
  have V3 := Lib.hid (later V2 (new_later W2 (.cells #[Value.string ⟨#[48]⟩, .string ⟨#[55]⟩, .string ⟨#[52, 50]⟩, .string ⟨#[49, 50, 51, 52, 53, 54, 55, 56, 57, 48, 49, 50, 51, 52, 53, 54]⟩] 9)))
  have c3 := Lib.hid (HC3.out W2)
  have HV2 := Lib.hid V2
  rw [g1] at c2
  clear V1 V2 HC2 HC3 g1
  by_cases h0 : r = 0
  · subst h0
    have HZ2 : Hid (G1 = Z) := Lib.hid (by have h := HZ.out; rwa [if_pos (.inl rfl)] at h)
    go_wp2_with fail
    go_ret
    exact ⟨by rw [← HZ2.out]; rfl, HV2.out⟩
  have h0b : (((r : Nat) : Int) == 0) = false := by rw [beq_eq_false_iff_ne]; omega
  by_cases h1 : r = 1
  · subst h1
    have HZ2 : Hid (G1 = Z) := Lib.hid (by have h := HZ.out; rwa [if_pos (.inr rfl)] at h)
    go_wp2_with fail
    go_ret
    exact ⟨by rw [← HZ2.out]; rfl, HV2.out⟩
  have h1b : (((r : Nat) : Int) == 1) = false := by rw [beq_eq_false_iff_ne]; omega
  by_cases h2 : r = 2
  · subst h2
    have HZ2 : Hid (G3 = Z) := Lib.hid (by have h := HZ.out; rwa [if_neg (by decide), if_pos rfl] at h)
    have c4 := c3.out
    go_wp2_with fail
    go_ret
    exact ⟨by rw [← HZ2.out]; rfl, V3.out⟩
  · have h2b : (((r : Nat) : Int) == 2) = false := by rw [beq_eq_false_iff_ne]; omega
    have HZ2 : Hid (G2 = Z) := Lib.hid (by have h := HZ.out; rwa [if_neg (by omega), if_neg h2] at h)
    have hr5 : r = 3 ∨ r = 4 := by omega
    clear h0 h1 h2 b5 HZ e4 e5 c1' h0b h1b h2b
    rcases hr5 with rfl | rfl
    · go_wp2_with fail
      go_ret
      exact ⟨by rw [← HZ2.out]; rfl, HV2.out⟩
    · go_wp2_with fail
      go_ret
      exact ⟨by rw [← HZ2.out]; rfl, HV2.out⟩
end Go.Proofs.YtfbookfaodfmdaaDoor
