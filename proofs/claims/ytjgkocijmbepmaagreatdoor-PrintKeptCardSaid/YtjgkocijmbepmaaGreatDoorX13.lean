/- Part of the engine that runs the program by evaluation (X13). No condition of its own. -/
import Derived.Test.YtjgkocijmbepmaaGreatDoorX25
set_option linter.unusedVariables false
section
set_option linter.unusedVariables false
set_option linter.unusedSimpArgs false
namespace Go.Eng
open Go.Proofs
theorem ovr_get (U : List ByteArray) (off : Nat) (Y : List ByteArray) (h : off + Y.length ≤ U.length) (i : Nat) : (ovr U off Y)[i]? = if i < off then U[i]? else if i < off + Y.length then Y[i - off]? else U[i]? := by
  unfold ovr
  have e1 : (U.take off).length = off := by rw [List.length_take]; omega
  by_cases h1 : i < off
  · rw [if_pos h1, List.append_assoc, List.getElem?_append_left (by omega), List.getElem?_take, if_pos h1]
  · rw [if_neg h1]
    by_cases h2 : i < off + Y.length
    · rw [if_pos h2, List.append_assoc, List.getElem?_append_right (by omega), e1, List.getElem?_append_left (by omega)]
    · rw [if_neg h2, List.getElem?_append_right (by rw [List.length_append]; omega), List.length_append, e1, List.getElem?_drop]
      congr 1
      omega
theorem getD_some (l : List ByteArray) (i : Nat) (h : i < l.length) : l[i]? = some (l.getD i ⟨#[]⟩) := by rw [List.getD_eq_getElem?_getD, List.getElem?_eq_getElem h]; rfl
theorem kept_eq (L O N : List ByteArray) : keptP L O N = keptR L O N := by
  unfold keptP keptR
  by_cases hL : L.length = O.length + 1
  · rw [if_pos hL, if_pos hL]
    have hb := bef_le O N
    unfold keP keR
    generalize bef O N = a at *
    generalize beh O N = b at *
    have hUl : (usual N).length = N.length + 1 := by unfold usual; rw [usJ_len]
    have hl1 : (ovr (usual N) 0 (L.take a)).length = N.length + 1 := by rw [ovr_len _ _ _ (by rw [List.length_take, hUl]; omega), hUl]
    have hd : (L.drop (O.length - b)).length = b + 1 := by rw [List.length_drop]; omega
    refine List.ext_getElem? fun i => ?_
    by_cases hi : i < N.length + 1
    · rw [List.getElem?_map, List.getElem?_range hi, Option.map_some]
      have hU := getD_some (usual N) i (by omega)
      have h1 : (ovr (usual N) 0 (L.take a))[i]? = if i < a then some (L.getD i ⟨#[]⟩) else some ((usual N).getD i ⟨#[]⟩) := by
        rw [ovr_get _ _ _ (by rw [List.length_take, hUl]; omega), if_neg (by omega), List.length_take, Nat.sub_zero, hU]
        by_cases hia : i < a
        · rw [if_pos (by omega), if_pos hia, List.getElem?_take, if_pos hia, getD_some L i (by omega)]
        · rw [if_neg (by omega), if_neg hia]
      unfold wR
      by_cases hy : L.getD (O.length - b) ⟨#[]⟩ = ⟨#[]⟩
      · rw [if_pos hy, ovr_get _ _ _ (by rw [List.length_drop, hd, hl1]; omega), List.length_drop, hd, h1]
        by_cases h2 : i < N.length - b + 1
        · rw [if_pos h2]
          by_cases hia : i < a
          · rw [if_pos hia, if_pos hia]
          · rw [if_neg hia, if_neg hia]
            by_cases h3 : N.length - b ≤ i
            · have e : i + O.length - N.length = O.length - b := by omega
              rw [if_pos h3, if_neg (by omega), e, if_pos hy]
            · rw [if_neg h3]
        · have e : i + O.length - N.length = O.length - b + 1 + (i - (N.length - b + 1)) := by omega
          rw [if_neg h2, if_pos (by omega), if_neg (by omega), if_pos (by omega), if_pos (by omega), List.getElem?_drop, List.getElem?_drop, getD_some L _ (by omega), e]
          congr 2
          omega
      · rw [if_neg hy, ovr_get _ _ _ (by rw [hd, hl1]; omega), hd, h1]
        by_cases h2 : i < N.length - b
        · rw [if_pos h2]
          by_cases hia : i < a
          · rw [if_pos hia, if_pos hia]
          · rw [if_neg hia, if_neg hia, if_neg (by omega)]
        · have e : i + O.length - N.length = O.length - b + (i - (N.length - b)) := by omega
          rw [if_neg h2, if_pos (by omega), if_neg (by omega), if_pos (by omega), List.getElem?_drop, getD_some L _ (by omega), e]
          by_cases h4 : N.length - b < i
          · rw [if_pos h4]
          · have e2 : O.length - b + (i - (N.length - b)) = O.length - b := by omega
            rw [if_neg h4, e2, if_neg hy]
    · have hA : (if L.getD (O.length - b) ⟨#[]⟩ = ⟨#[]⟩ then ovr (ovr (usual N) 0 (L.take a)) (N.length - b + 1) ((L.drop (O.length - b)).drop 1) else ovr (ovr (usual N) 0 (L.take a)) (N.length - b) (L.drop (O.length - b))).length = N.length + 1 := by
        split
        · rw [ovr_len _ _ _ (by rw [List.length_drop, hd, hl1]; omega), hl1]
        · rw [ovr_len _ _ _ (by rw [hd, hl1]; omega), hl1]
      rw [List.getElem?_eq_none (by omega), List.getElem?_eq_none (by simp; omega)]
  · rw [if_neg hL, if_neg hL]
end Go.Eng
end
