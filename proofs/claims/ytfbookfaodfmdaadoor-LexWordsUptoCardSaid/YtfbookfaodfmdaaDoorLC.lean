import Derived.Test.YtfbookfaodfmdaaDoorArr
import Derived.Test.YtfbookfaodfmdaaDoorLA
import Derived.Lib.Bytealg
import Derived.Lib.Strings
import Derived.Laws.Strings3
set_option linter.unusedVariables false
namespace Go.Proofs.YtfbookfaodfmdaaDoor
open Go.RowKit

/-- The two tables lie where the program has laid them. -/
def Kx (w : World) : Prop := 2 ≤ w.heap.size ∧ (∀ (j x : Nat), kt[j]? = some x → w.cell? ⟨0, j, none⟩ = some (.int .u8 (x : Int))) ∧ ∀ (j : Nat) (x : List Nat), sg[j]? = some x → w.cell? ⟨1, j, none⟩ = some (.string (mkS x))
theorem Kx.later {w w' : World} (h : Kx w) (hb : Below w.heap.size w w') : Kx w' :=
  ⟨Nat.le_trans h.1 hb.size, fun t x hx => (hb.cell (by have := h.1; show (0 : Nat) < _; omega)).trans (h.2.1 t x hx), fun t x hx => (hb.cell (by have := h.1; show (1 : Nat) < _; omega)).trans (h.2.2 t x hx)⟩

set_option maxHeartbeats 400000 in
set_option maxRecDepth 100000 in
theorem kindOf_any (c : Nat) (hc : c < 256) (w : World) (hk : Kx w) :
    Calls Tryd.prog 30 #[.int .u8 (c : Int)] w fun e w' => e = .returned (.int .u8 ((kd c : Nat) : Int)) ∧ w' = w := by
  have h0 : (0 : Int) ≤ (c : Int) := by omega
  have h1 : (c : Int) < 256 := by omega
  by_cases hlt : c < 126
  · have h2 : (c : Int) < 126 := by omega
    have h3 : kt[c]? = some (kd c) := by
      unfold kd; rw [List.getD_eq_getElem?_getD, List.getElem?_eq_getElem (by rw [kt_len]; exact hlt)]; rfl
    have hcell := hk.2.1 c _ h3
    generalize kd c = K at hcell
    clear h3 hk
    go_enter Tryd.func30, Tryd.ntmps30
    go_wp2_with fail
    go_ret
    exact ⟨rfl, rfl⟩
  · have h2 : (126 : Int) ≤ (c : Int) := by omega
    rw [kd_big (by omega)]
    clear hk
    go_enter Tryd.func30, Tryd.ntmps30
    go_wp2_with fail
    go_ret
    exact ⟨rfl, rfl⟩

theorem index_cmt : ∀ l : List UInt8, (Lib.indexByte l 10 = -1 ∧ cmt (l.map UInt8.toNat) = l.length) ∨ (Lib.indexByte l 10 = ((cmt (l.map UInt8.toNat) : Nat) : Int) ∧ cmt (l.map UInt8.toNat) < l.length)
  | [] => .inl ⟨rfl, rfl⟩
  | b :: l => by
    have ih := index_cmt l
    unfold Lib.indexByte
    rw [List.map_cons, cmt_cons]
    by_cases h : b = 10
    · subst h
      exact .inr ⟨rfl, by simp⟩
    · have h1 : (b == 10) = false := by simpa using h
      have h2 : b.toNat ≠ 10 := fun e => h (UInt8.toNat_inj.1 (by rw [e]; rfl))
      rw [h1, if_neg h2]
      simp only [Bool.false_eq_true, if_false, List.length_cons]
      rcases ih with ⟨e, h3⟩ | ⟨e, h3⟩
      · left; rw [e]; simp; omega
      · right
        rw [e]
        have h4 : (((cmt (l.map UInt8.toNat) : Nat) : Int) == -1) = false := by
          rw [beq_eq_false_iff_ne]; omega
        rw [h4]
        simp; omega

set_option maxHeartbeats 400000 in
set_option maxRecDepth 100000 in
theorem sliteIndexByte_any (s : ByteArray) (w : World) :
    Calls Tryd.prog 47 #[.string s, .int .u8 10] w fun e w' => e = .returned (.int .i64 (Lib.indexByte s.data.toList 10)) ∧ w' = w := by
  go_enter Tryd.func47, Tryd.ntmps47
  go_wp2
  rw [run_callFunc_extern Tryd.func50 (by kernel_rfl) (by kernel_rfl) (by kernel_rfl) (e := Extern.BytealgIndexByte.indexByte) (by kernel_rfl), Lib.run_indexByteString]
  simp only [Result.andThen]
  rw [Oper.upon_value]
  go_wp2
  go_ret
  exact ⟨rfl, rfl⟩
set_option maxHeartbeats 400000 in
set_option maxRecDepth 100000 in
theorem IndexByte_any (s : ByteArray) (w : World) :
    Calls Tryd.prog 43 #[.string s, .int .u8 10] w fun e w' => e = .returned (.int .i64 (Lib.indexByte s.data.toList 10)) ∧ w' = w := by
  go_enter Tryd.func43, Tryd.ntmps43
  go_wp2_with (go_at_call 47; (with_reducible refine (sliteIndexByte_any _ _).mono ?_); rintro e w' ⟨rfl, hw⟩; rw [hw])
  go_ret
  exact ⟨rfl, rfl⟩
set_option maxHeartbeats 400000 in
set_option maxRecDepth 100000 in
theorem commentSize_any (s : ByteArray) (w : World) :
    Calls Tryd.prog 31 #[.string s] w fun e w' => e = .returned (.int .i64 ((cmt (sb s) : Nat) : Int)) ∧ w' = w := by
  have H := index_cmt s.data.toList
  have HC := Lib.hid fun W => IndexByte_any s W
  have hl : s.data.toList.length = s.size := by rw [← sb_len]; simp [sb]
  rw [hl] at H
  have e1 : s.data.toList.map UInt8.toNat = sb s := rfl
  rw [e1] at H
  generalize cmt (sb s) = C at H ⊢
  generalize Lib.indexByte s.data.toList 10 = I at H HC
  clear hl e1
  rcases H with ⟨rfl, rfl⟩ | ⟨rfl, h⟩
  · go_enter Tryd.func31, Tryd.ntmps31
    go_wp2_with (go_at_call 43; (with_reducible refine (HC.out _).mono ?_); rintro e w' ⟨rfl, hw⟩; rw [hw])
    go_ret
    exact ⟨rfl, rfl⟩
  · have h0 : (0 : Int) ≤ (C : Int) := by omega
    go_enter Tryd.func31, Tryd.ntmps31
    go_wp2_with (go_at_call 43; (with_reducible refine (HC.out _).mono ?_); rintro e w' ⟨rfl, hw⟩; rw [hw])
    go_ret
    exact ⟨rfl, rfl⟩
set_option maxHeartbeats 400000 in
set_option maxRecDepth 100000 in
theorem sliteHasPrefix_any (s p : ByteArray) (w : World) :
    Calls Tryd.prog 48 #[.string s, .string p] w fun e w' => e = .returned (.bool (Lib.hasPrefix s.data.toList p.data.toList)) ∧ w' = w := by
  rw [← Lib.hasPrefix_of_take, ← Lib.size_eq, ← Lib.size_eq]
  go_enter Tryd.func48, Tryd.ntmps48
  go_wp2
  · rename_i h
    go_ret
    refine ⟨?_, rfl⟩
    show Ending.returned (Value.bool ((s.extract 0 p.size).toList == p.toList)) = _
    rw [Lib.extract_toList, Lib.toList_data]
    simp [h]
  · rename_i h
    go_ret
    refine ⟨?_, rfl⟩
    show Ending.returned (Value.bool false) = _
    simp [h]
theorem prefix_sb (s : ByteArray) (x : List Nat) (hx : ∀ d ∈ x, d < 256) : Lib.hasPrefix s.data.toList (mkS x).data.toList = x.isPrefixOf (sb s) := by
  unfold Lib.hasPrefix
  have h : ∀ (p l : List UInt8), p.isPrefixOf l = (p.map UInt8.toNat).isPrefixOf (l.map UInt8.toNat) := by
    intro p
    induction p with
    | nil => intro l; simp
    | cons a p ih =>
      intro l
      cases l with
      | nil => simp
      | cons b l =>
        have hab : (a == b) = (a.toNat == b.toNat) := by
          rw [Bool.eq_iff_iff, beq_iff_eq, beq_iff_eq]
          exact ⟨fun e => by rw [e], fun e => UInt8.toNat_inj.1 e⟩
        simp [List.isPrefixOf, ih l, hab]
  rw [h]
  have : (mkS x).data.toList.map UInt8.toNat = x := sb_mkS x hx
  rw [this]; rfl
set_option maxHeartbeats 400000 in
set_option maxRecDepth 100000 in
theorem HasPrefix_any (s : ByteArray) (x : List Nat) (hx : ∀ d ∈ x, d < 256) (w : World) :
    Calls Tryd.prog 44 #[.string s, .string (mkS x)] w fun e w' => e = .returned (.bool (x.isPrefixOf (sb s))) ∧ w' = w := by
  have H := Lib.hid fun W => sliteHasPrefix_any s (mkS x) W
  rw [prefix_sb s x hx] at H
  go_enter Tryd.func44, Tryd.ntmps44
  go_wp2_with (go_at_call 48; (with_reducible refine (H.out _).mono ?_); rintro e w' ⟨rfl, hw⟩; rw [hw])
  go_ret
  exact ⟨rfl, rfl⟩
end Go.Proofs.YtfbookfaodfmdaaDoor
