import Derived.Test.YtfbookfaodfmdaaDoorLF1
set_option linter.unusedVariables false
set_option linter.unusedSimpArgs false
namespace Go.Proofs.YtfbookfaodfmdaaDoor
open Go.RowKit

/-- The blanks of the document's generator. -/
def gaps : List (List Nat) := [[], [32], [10], [32, 32], [35, 32, 97, 32, 40, 98, 10], [32, 35, 10, 32], [10, 10], [35, 255, 35, 32, 49, 10]]
def gapK (k : Nat) : List Nat := if k % 3 = 0 then gaps.getD (k % 8) [] ++ gaps.getD (k / 8 % 8) [] else gaps.getD (k % 8) []
def gapL (n : Int) (some : Bool) : List Nat := if gapK (ar n 1000000) = [] ∧ some = true then [32] else gapK (ar n 1000000)
theorem gap_cells : #[Value.string ⟨#[]⟩, .string ⟨#[32]⟩, .string ⟨#[10]⟩, .string ⟨#[32, 32]⟩, .string ⟨#[35, 32, 97, 32, 40, 98, 10]⟩, .string ⟨#[32, 35, 10, 32]⟩, .string ⟨#[10, 10]⟩, .string ⟨#[35, 255, 35, 32, 49, 10]⟩] = (gaps.map fun x => Value.string (mkS x)).toArray := rfl
theorem tab_cell (W : World) (L : List (List Nat)) (t : TypeId) (j : Nat) (h : j < L.length) : (W.alloc (.cells (L.map fun x => Value.string (mkS x)).toArray t)).cell? ⟨W.heap.size, j, none⟩ = some (.string (mkS (L.getD j []))) := by
  rw [cell_of_row _ _ _ _ _ _ (heap_alloc_new W _)]
  simp [List.getElem?_eq_getElem h]
theorem mkS_app (a b : List Nat) : mkS a ++ mkS b = mkS (a ++ b) := by
  apply sb_inj
  simp [sb, mkS, ByteArray.data_append]
theorem mod_i (k m : Nat) : (k : Int).tmod (m : Int) = ((k % m : Nat) : Int) := by rw [Int.tmod_eq_emod_of_nonneg (by omega), Int.natCast_emod]
theorem div_i (k m : Nat) : (k : Int).tdiv (m : Int) = ((k / m : Nat) : Int) := by rw [Int.tdiv_eq_ediv_of_nonneg (by omega), Int.natCast_ediv]
theorem gaps_len (j : Nat) (h : j < 8) : (gaps.getD j []).length ≤ 7 := by
  match j, h with
  | 0, _ => decide
  | 1, _ => decide
  | 2, _ => decide
  | 3, _ => decide
  | 4, _ => decide
  | 5, _ => decide
  | 6, _ => decide
  | 7, _ => decide

theorem mkS_empty (l : List Nat) : (mkS l).toList.isEmpty = decide (l = []) := by
  rw [ByteArray.toList_eq]
  cases l <;> simp [mkS]

set_option maxHeartbeats 1000000 in
set_option maxRecDepth 100000 in
theorem Gap_any (n z : Int) (hn : InR n) (w : World) :
    Calls Tryd.prog 18 #[.int .i64 n, .int .i64 z] w fun e w' => e = .returned (.string (mkS (gapL n (decide (z ≠ 0))))) ∧ Below w.heap.size w w' := by
  have HA : Hid (∀ W, Calls Tryd.prog 10 #[.int .i64 n, .int .i64 1000000] W fun e w' => e = .returned (.int .i64 ((ar n 1000000 : Nat) : Int)) ∧ w' = W) := Lib.hid fun W => Around_any n 1000000 (by decide) (by decide) hn W
  obtain ⟨Z, hZ⟩ : ∃ Z, gapL n (decide (z ≠ 0)) = Z := ⟨_, rfl⟩
  rw [hZ]
  unfold gapL at hZ
  have hb := ar_lt n 1000000 (by decide)
  generalize ar n 1000000 = k at HA hb hZ
  have hk0 : (0 : Int) ≤ (k : Int) := by omega
  have hk1 : (k : Int) < 1000000 := by omega
  have e1 : (k : Int).tmod 8 = ((k % 8 : Nat) : Int) := mod_i k 8
  have e2 : (k : Int).tmod 3 = ((k % 3 : Nat) : Int) := mod_i k 3
  have e3 : (k : Int).tdiv 8 = ((k / 8 : Nat) : Int) := div_i k 8
  have e4 : ((k / 8 : Nat) : Int).tmod 8 = ((k / 8 % 8 : Nat) : Int) := mod_i (k / 8) 8
  have b1 : k % 8 < 8 := Nat.mod_lt _ (by decide)
  have b2 : k / 8 % 8 < 8 := Nat.mod_lt _ (by decide)
  have c1 := tab_cell w gaps 9 (k % 8) b1
  have c2 := tab_cell w gaps 9 (k / 8 % 8) b2
  rw [← gap_cells] at c1 c2
  unfold gapK at hZ
  have l1 := gaps_len _ b1
  have l2 := gaps_len _ b2
  generalize gaps.getD (k % 8) [] = G1 at c1 l1 hZ
  generalize gaps.getD (k / 8 % 8) [] = G2 at c2 l2 hZ
  have V0 := new_later w (.cells #[Value.string ⟨#[]⟩, .string ⟨#[32]⟩, .string ⟨#[10]⟩, .string ⟨#[32, 32]⟩, .string ⟨#[35, 32, 97, 32, 40, 98, 10]⟩, .string ⟨#[32, 35, 10, 32]⟩, .string ⟨#[10, 10]⟩, .string ⟨#[35, 255, 35, 32, 49, 10]⟩] 9)
  have hs : ¬ (mkS G1).size + (mkS G2).size > 9223372036854775807 := by rw [mkS_size, mkS_size]; omega
  have ha := mkS_app G1 G2
  have hq0 : (0 : Int) ≤ ((k / 8 : Nat) : Int) := by omega
  have hq1 : ((k / 8 : Nat) : Int) < 1000000 := by omega
  have b3 : k % 3 < 3 := Nat.mod_lt _ (by decide)
  have hz : ((k % 3 : Nat) : Int) = 0 ↔ k % 3 = 0 := by omega
  generalize k % 8 = j1 at e1 b1 c1
  generalize k / 8 % 8 = j2 at e4 b2 c2
  generalize k / 8 = q at e3 e4 hq0 hq1
  generalize k % 3 = r at e2 b3 hz hZ
  have j1a : (0 : Int) ≤ (j1 : Int) := by omega
  have j1b : (j1 : Int) < 8 := by omega
  have j2a : (0 : Int) ≤ (j2 : Int) := by omega
  have j2b : (j2 : Int) < 8 := by omega
  have HZ := Lib.hid hZ
  clear b1 b2 hb hZ
  go_enter Tryd.func18, Tryd.ntmps18
  go_upto_region 3 with (go_at_call 10; (with_reducible refine (HA.out _).mono ?_); rintro e w' ⟨rfl, hw⟩; rw [hw])
  generalize w.alloc (.cells #[Value.string ⟨#[]⟩, .string ⟨#[32]⟩, .string ⟨#[10]⟩, .string ⟨#[32, 32]⟩, .string ⟨#[35, 32, 97, 32, 40, 98, 10]⟩, .string ⟨#[32, 35, 10, 32]⟩, .string ⟨#[10, 10]⟩, .string ⟨#[35, 255, 35, 32, 49, 10]⟩] 9) = W at c1 c2 V0 ⊢
  have HV := Lib.hid V0
  clear V0 l1 l2
  by_cases h3 : r = 0
  · subst h3
    have HZ2 : Hid ((if (G1 ++ G2) = [] ∧ decide (z ≠ 0) = true then [32] else G1 ++ G2) = Z) := Lib.hid (by have h := HZ.out; simpa using h)
    have hE := mkS_empty (G1 ++ G2)
    generalize G1 ++ G2 = G at ha hE HZ2
    by_cases hG : G = []
    · rw [decide_eq_true hG] at hE
      have HG := Lib.hid hG
      clear hG
      by_cases hz0 : z = 0
      · subst hz0
        go_wp2_with fail
        go_ret
        exact ⟨by rw [← HZ2.out, if_neg (by simp)]; rfl, HV.out⟩
      · have hzb : (z != 0) = true := by simpa using hz0
        go_wp2_with fail
        go_ret
        exact ⟨by rw [← HZ2.out, if_pos ⟨HG.out, by simpa using hz0⟩]; rfl, HV.out⟩
    · rw [decide_eq_false hG] at hE
      go_wp2_with fail
      go_ret
      exact ⟨by rw [← HZ2.out, if_neg (fun h => hG h.1)]; rfl, HV.out⟩
  · have hr3 : (((r : Nat) : Int) == 0) = false := by rw [beq_eq_false_iff_ne]; omega
    have HZ2 : Hid ((if G1 = [] ∧ decide (z ≠ 0) = true then [32] else G1) = Z) := Lib.hid (by have h := HZ.out; rw [if_neg h3] at h; exact h)
    have hE := mkS_empty G1
    by_cases hG : G1 = []
    · rw [decide_eq_true hG] at hE
      have HG := Lib.hid hG
      clear hG
      by_cases hz0 : z = 0
      · subst hz0
        go_wp2_with fail
        go_ret
        exact ⟨by rw [← HZ2.out, if_neg (by simp)]; rfl, HV.out⟩
      · have hzb : (z != 0) = true := by simpa using hz0
        go_wp2_with fail
        go_ret
        exact ⟨by rw [← HZ2.out, if_pos ⟨HG.out, by simpa using hz0⟩]; rfl, HV.out⟩
    · rw [decide_eq_false hG] at hE
      go_wp2_with fail
      go_ret
      exact ⟨by rw [← HZ2.out, if_neg (fun h => hG h.1)]; rfl, HV.out⟩
end Go.Proofs.YtfbookfaodfmdaaDoor
