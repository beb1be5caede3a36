/-
  Plain facts, no program: the last step of a compression, word by word; the bits of a round.
-/
import Derived.Test.YtbfoajfpnfkfnaaDoorPack
set_option linter.unusedVariables false
namespace Go.Proofs.YtbfoajfpnfkfnaaDoor

def zp (s r : List Nat) (i : Nat) : List Nat := (List.zipWith add32 s r).take i ++ s.drop i
theorem zp_zero (s r : List Nat) : zp s r 0 = s := by simp [zp]
theorem zp_len (s r : List Nat) (i : Nat) (hs : s.length = 8) (hr : r.length = 8) (hi : i ≤ 8) : (zp s r i).length = 8 := by
  unfold zp; rw [List.length_append, List.length_take, List.length_zipWith, List.length_drop]; omega
theorem zp_get (s r : List Nat) (i : Nat) (hs : s.length = 8) (hr : r.length = 8) (hi : i < 8) : (zp s r i)[i]? = some (s.getD i 0) := by
  have hl : ((List.zipWith add32 s r).take i).length = i := by rw [List.length_take, List.length_zipWith]; omega
  unfold zp
  rw [List.getElem?_append_right (by omega), hl, Nat.sub_self, List.getElem?_drop, Nat.add_zero, List.getD_eq_getElem?_getD, List.getElem?_eq_getElem (by omega)]
  rfl
theorem zp_set (s r : List Nat) (i : Nat) (hs : s.length = 8) (hr : r.length = 8) (hi : i < 8) : (zp s r i).set i (add32 (s.getD i 0) (r.getD i 0)) = zp s r (i + 1) := by
  have hl : ((List.zipWith add32 s r).take i).length = i := by rw [List.length_take, List.length_zipWith]; omega
  have hz : i < (List.zipWith add32 s r).length := by rw [List.length_zipWith]; omega
  unfold zp
  have hd : s.drop i = s[i]'(by omega) :: s.drop (i + 1) := List.drop_eq_getElem_cons (by omega)
  rw [List.set_append_right _ _ (by omega), hl, Nat.sub_self, hd, List.set_cons_zero, List.take_succ_eq_append_getElem hz, List.getElem_zipWith]
  rw [List.getD_eq_getElem?_getD, List.getD_eq_getElem?_getD, List.getElem?_eq_getElem (by omega), List.getElem?_eq_getElem (by omega)]
  simp
theorem zp_all (s r : List Nat) (hs : s.length = 8) (hr : r.length = 8) : zp s r 8 = List.zipWith add32 s r := by
  unfold zp
  rw [List.take_of_length_le (by rw [List.length_zipWith]; omega), List.drop_of_length_le (by omega), List.append_nil]
theorem list_len (s : St) : s.list.length = 8 := rfl
end Go.Proofs.YtbfoajfpnfkfnaaDoor
