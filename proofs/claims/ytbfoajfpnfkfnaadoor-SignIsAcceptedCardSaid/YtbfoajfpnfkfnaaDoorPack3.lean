/-
  Plain facts, no program: the last block, byte by byte, and the bytes that come out.
-/
import Derived.Test.YtbfoajfpnfkfnaaDoorSha
set_option linter.unusedVariables false
namespace Go.Proofs.YtbfoajfpnfkfnaaDoor

def bw (p : List Nat) (k n : Nat) : List Nat := p ++ (List.replicate (8 - k) 0 ++ (be64 n).drop (8 - k))
theorem be64_len (n : Nat) : (be64 n).length = 8 := by simp [be64]
theorem be64_all (n : Nat) : AllB (be64 n) := by
  intro x hx
  obtain ⟨i, _, rfl⟩ := List.mem_map.1 hx
  exact Nat.mod_lt _ (by decide)
theorem be64_get (n k : Nat) (hk : k < 8) : (be64 n)[7 - k]? = some (n / 2 ^ (8 * k) % 256) := by
  have h1 : 56 - 8 * (7 - k) = 8 * k := by omega
  have h2 : 7 - k < 8 := by omega
  simp [be64, h2, h1]
theorem bw_zero (p : List Nat) (n : Nat) : bw p 0 n = p ++ List.replicate 8 0 := by
  unfold bw
  rw [List.drop_of_length_le (by rw [be64_len]; omega), List.append_nil]
theorem bw_all (p : List Nat) (n : Nat) : bw p 8 n = p ++ be64 n := by unfold bw; simp
theorem bw_len (p : List Nat) (k n : Nat) (hp : p.length = 56) (hk : k ≤ 8) : (bw p k n).length = 64 := by
  unfold bw; rw [List.length_append, List.length_append, List.length_replicate, List.length_drop, be64_len]; omega
theorem bw_set (p : List Nat) (k n : Nat) (hp : p.length = 56) (hk : k < 8) : (bw p k n).set (63 - k) (n / 2 ^ (8 * k) % 256) = bw p (k + 1) n := by
  have hr : List.replicate (8 - k) 0 = List.replicate (7 - k) 0 ++ [0] := by
    rw [show 8 - k = (7 - k) + 1 by omega, List.replicate_succ']
  have hd : (be64 n).drop (8 - (k + 1)) = (n / 2 ^ (8 * k) % 256) :: (be64 n).drop (8 - k) := by
    have hg := be64_get n k hk
    have hlt : 7 - k < (be64 n).length := by rw [be64_len]; omega
    rw [List.getElem?_eq_getElem hlt] at hg
    rw [show 8 - (k + 1) = 7 - k by omega, List.drop_eq_getElem_cons hlt, Option.some.inj hg]
    congr 2; omega
  unfold bw
  rw [List.set_append_right _ _ (by omega), hp, hr, List.append_assoc, List.set_append_right _ _ (by rw [List.length_replicate]; omega), List.length_replicate]
  rw [show 63 - k - 56 - (7 - k) = 0 by omega]
  rw [hd, show 8 - (k + 1) = 7 - k by omega]
  rfl
theorem outB_get (s : List Nat) (k : Nat) (hk : k < 32) : (outB s)[k]? = some (s.getD (k / 4) 0 / 2 ^ (24 - k % 4 * 8) % 256) := by simp [outB, hk]
theorem bw_block (p : List Nat) (n : Nat) (hp : AllB p) : AllB (p ++ be64 n) := fun d hd => by
  rcases List.mem_append.1 hd with h1 | h1
  · exact hp d h1
  · exact be64_all n d h1
/-- The first part of the last block. -/
theorem mark_one (m : List Nat) (h : m.length % 64 < 56) : sRest m ++ 128 :: List.replicate (63 - m.length % 64) 0 = (sRest m ++ 128 :: List.replicate (55 - m.length % 64) 0) ++ List.replicate 8 0 := by
  rw [show 63 - m.length % 64 = (55 - m.length % 64) + 8 by omega, ← List.replicate_append_replicate]; simp
theorem mark_len (m : List Nat) : (sRest m ++ 128 :: List.replicate (63 - m.length % 64) 0).length = 64 := by
  rw [List.length_append, sRest_len, List.length_cons, List.length_replicate]; omega
theorem mark_all {m : List Nat} (h : AllB m) (k : Nat) : AllB (sRest m ++ 128 :: List.replicate k 0) := fun d hd => by
  rcases List.mem_append.1 hd with h1 | h1
  · exact sRest_all h d h1
  · rcases List.mem_cons.1 h1 with rfl | h2
    · decide
    · rw [(List.mem_replicate.1 h2).2]; decide
end Go.Proofs.YtbfoajfpnfkfnaaDoor
