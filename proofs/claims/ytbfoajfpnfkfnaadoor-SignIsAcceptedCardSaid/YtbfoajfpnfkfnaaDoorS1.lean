import Derived.Test.YtbfoajfpnfkfnaaDoorH7
set_option linter.unusedVariables false
namespace Go.Proofs.YtbfoajfpnfkfnaaDoor
open Go.RowKit

/-- Numbers as values. -/
def I64 (x : Nat) : Value := .int .i64 (x : Int)
def isv (l : List Nat) : List Value := l.map I64
theorem isv_len (l : List Nat) : (isv l).length = l.length := by simp [isv]
theorem isv_app (l m : List Nat) : isv (l ++ m) = isv l ++ isv m := by simp [isv]
theorem isv_get {l : List Nat} {j x : Nat} (h : l[j]? = some x) : (isv l)[j]? = some (.int .i64 (x : Int)) := by simp [isv, I64, List.getElem?_map, h]
theorem isv_set (l : List Nat) (j x : Nat) : (isv l).set j (.int .i64 (x : Int)) = isv (l.set j x) := by simp [isv, I64, List.map_set]
theorem isv_cell (l : List Nat) : ∀ u ∈ isv l, u.oneCell' = true := by
  intro u hu
  simp only [isv, List.mem_map] at hu
  obtain ⟨x, _, rfl⟩ := hu
  rfl
/-- Four digits, the most significant one first. -/
def dig4 (n : Nat) : List Nat := [n / 64 % 4, n / 16 % 4, n / 4 % 4, n % 4]
/-- A row in which the last k of the four digits behind place o are laid. -/
def putD (l : List Nat) (o n k : Nat) : List Nat := l.take (o + (4 - k)) ++ (dig4 n).drop (4 - k) ++ l.drop (o + 4)
theorem dig4_len (n : Nat) : (dig4 n).length = 4 := rfl
theorem putD_zero (l : List Nat) (o n : Nat) (h : o + 4 ≤ l.length) : putD l o n 0 = l := by
  unfold putD
  rw [show (dig4 n).drop (4 - 0) = [] from rfl, List.append_nil]
  exact List.take_append_drop _ _
theorem putD_len (l : List Nat) (o n k : Nat) (h : o + 4 ≤ l.length) (hk : k ≤ 4) : (putD l o n k).length = l.length := by
  unfold putD
  rw [List.length_append, List.length_append, List.length_take, List.length_drop, List.length_drop, dig4_len]; omega
theorem dig4_get (n k : Nat) (hk : k < 4) : (dig4 n)[3 - k]'(by rw [dig4_len]; omega) = n / 4 ^ k % 4 := by
  rcases k with _ | _ | _ | _ | k
  · simp [dig4]
  · simp [dig4]
  · simp [dig4]
  · simp [dig4]
  · omega
theorem putD_set (l : List Nat) (o n k : Nat) (h : o + 4 ≤ l.length) (hk : k < 4) : (putD l o n k).set (o + (3 - k)) (n / 4 ^ k % 4) = putD l o n (k + 1) := by
  have e1 : o + (4 - k) = (o + (3 - k)) + 1 := by omega
  have e2 : 4 - (k + 1) = 3 - k := by omega
  have e3 : 4 - k = (3 - k) + 1 := by omega
  have hl : o + (3 - k) < l.length := by omega
  have ht : (l.take (o + (3 - k))).length = o + (3 - k) := by rw [List.length_take]; omega
  have hd : (dig4 n).drop (3 - k) = (n / 4 ^ k % 4) :: (dig4 n).drop (3 - k + 1) := by
    rw [List.drop_eq_getElem_cons (by rw [dig4_len]; omega), dig4_get n k hk]
  unfold putD
  rw [e1, e2, hd, e3, List.take_succ_eq_append_getElem hl, List.append_assoc, List.append_assoc, List.append_assoc, List.set_append_right _ _ (by omega), ht, Nat.sub_self]
  simp
theorem info_dg : (Tryd.prog.info? 44).map (·.size) = some 16 := by kernel_rfl
theorem info_heights : (Tryd.prog.info? 76).map (·.size) = some 68 := by kernel_rfl

theorem Only.refl (g : Nat) (w : World) : Only g w w := ⟨Below.refl _ _, fun _ _ => rfl⟩
theorem Only.trans {g : Nat} {w w' w'' : World} (h : Only g w w') (h' : Only g w' w'') : Only g w w'' := ⟨h.1.trans h'.1, fun k hk => (h'.2 k hk).trans (h.2 k hk)⟩
theorem Only.setCell (g j : Nat) (v : Value) (w : World) : Only g w (w.setCell ⟨g, j, none⟩ v) := Only.setCells g j [v] w

set_option maxHeartbeats 1000000 in
set_option maxRecDepth 100000 in
theorem write_any (g o c n : Nat) (l : List Nat) (w : World) (hA : Arr w g 68 76 (isv l)) (ho : o + 4 ≤ 68) (hl : l.length = 68) (hn : n < 1000) (hc : 4 ≤ c) :
    Calls Tryd.prog 64 #[.slice (some ⟨g, o, none⟩) 4 c, .int .i64 (n : Int)] w fun e w' => e = .returned (.tuple #[]) ∧ Arr w' g 68 76 (isv (putD l o n 4)) ∧ Only g w w' := by
  have HL := Lib.hid hl
  have HA := Lib.hid hA
  clear hl hA
  go_enter Tryd.func64, Tryd.ntmps64
  go_wp2_with fail
  go_loopw [1, 4] (fun m i W => ∃ k : Nat, k ≤ 4 ∧ i = .int .i64 (3 - (k : Int)) ∧ m = .int .i64 ((n / 4 ^ k : Nat) : Int) ∧ Arr W g 68 76 (isv (putD l o n k)) ∧ Only g w W) (fun _ i _ => (intOf i + 1).toNat)
  case atStart => exact ⟨0, by omega, rfl, by simp, by rw [putD_zero l o n (by rw [HL.out]; exact ho)]; exact HA.out, Only.refl g w⟩
  case round =>
    obtain ⟨k, hk, rfl, rfl, ha, hO⟩ := hrel
    by_cases hlt : k < 4
    · have HS := Lib.hid (isv_set (putD l o n k) (o + (3 - k)) (n / 4 ^ k % 4))
      rw [putD_set l o n k (by rw [HL.out]; exact ho) hlt] at HS
      have hlen := putD_len l o n k (by rw [HL.out]; exact ho) hk
      have hx : ∃ x, (putD l o n k)[o + (3 - k)]? = some x := ⟨_, List.getElem?_eq_getElem (by rw [hlen, HL.out]; omega)⟩
      obtain ⟨x, hx⟩ := hx
      have hold := ha.cell (isv_get hx)
      have hfr := ha.free (o + (3 - k))
      have hm : n / 4 ^ k ≤ n := Nat.div_le_self _ _
      have hnx : n / 4 ^ k / 4 = n / 4 ^ (k + 1) := by rw [Nat.pow_succ, Nat.div_div_eq_div_mul]
      have HNX := Lib.hid hnx
      have HAK := Lib.hid ha
      clear hlen hx hnx ha
      generalize n / 4 ^ k = M at hm HNX HS ⊢
      obtain ⟨J, HJ⟩ : ∃ J, Hid (3 - k = J) := ⟨_, Lib.hid rfl⟩
      have hJ : (3 : Int) - (k : Int) = (J : Int) := by have := HJ.out; omega
      rw [HJ.out] at hold hfr HS
      have hJ4 : (J : Int) < 4 := by have := HJ.out; omega
      have hJ0 : (0 : Int) ≤ (J : Int) := by omega
      have hJc : J < 4 := by omega
      have hmod : (M : Int).tmod 4 = ((M % 4 : Nat) : Int) := rfl
      have hdiv : (M : Int).tdiv 4 = ((M / 4 : Nat) : Int) := rfl
      rw [hJ]
      go_wp2_with fail
      go_roundw
      case rel =>
        have e1 : (M : Int) % 4 = ((M % 4 : Nat) : Int) := by omega
        rw [e1]
        refine ⟨k + 1, hlt, congrArg (Value.int .i64) (by have := HJ.out; omega), congrArg (Value.int .i64) (by rw [← HNX.out]; omega), ?_, hO.trans (Only.setCell g (o + J) _ wr)⟩
        rw [← HS.out]
        exact HAK.out.set_ _ _
      case measure => simp [intOf]
    · have hk4 : k = 4 := by omega
      subst hk4
      have h34 : (3 : Int) - ((4 : Nat) : Int) = -1 := rfl
      rw [h34]
      go_wp2_with fail
      exact bodyPost_end (v := .tuple #[]) (by simp [results, Tryd.f64]) rfl ⟨rfl, ha, hO⟩
end Go.Proofs.YtbfoajfpnfkfnaaDoor
