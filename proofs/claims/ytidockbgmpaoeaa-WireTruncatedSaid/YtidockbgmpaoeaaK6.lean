/-
  Proved: for every int, string, []int, []string and []Digest, splicerylaw01.WireTruncated returns true and leaves its arguments as they were. Conditions: none beyond the row's own.
-/
import Derived.Test.YtidockbgmpaoeaaW6
import Derived.Test.YtidockbgmpaoeaaRow3
set_option linter.unusedVariables false
namespace Go.Proofs.Ytidockbgmpaoeaa.wireTruncated
open Go.ChangeShapes Go.WideShapes Go.ChangeAt Go.RowKit

theorem reach_num : reachBytes = 140737488351232 := by decide
theorem Try.bytesD : Try.prog.bytesOf 57 = 16 := by kernel_rfl
theorem strs_weights {H : Type} {y : ByteArray} {e : TypeId} : ∀ {z : List ByteArray}, y ∈ z → y.size ∈ DataW.weightsAll Try.prog e (strs (H := H) z)
  | x :: z, h => by
    simp only [strs, List.map_cons, DataW.weightsAll, List.mem_append]
    rcases List.mem_cons.1 h with rfl | h
    · exact .inl (by simp [DataW.weights])
    · exact .inr (strs_weights h)

set_option maxRecDepth 100000 in
theorem lifted (os : Os) (started : os.Started) (H : Type) (enc : TypeId × Value → H) :
    ReturnsInHanded {} Try.checked os 9 .any (Rows.wireTruncatedSpec.pre6 enc Try.prog Try.f9 Rows.wireTruncatedRow.domain false) (Rows.wireTruncatedSpec.post enc Try.prog Try.f9 false true false false) := by
  refine returnsInHanded_of_change_sized (C := Try.checked) Try.own started (by kernel_rfl) Try.func9
    (ChangeSpec.witness6 (enc := enc) (C := Try.checked) false ⟨#[], #[.int .i64 0, .string ⟨#[]⟩, .slice none 0 0, .slice none 0 0, .slice none 0 0], []⟩ 8 (by kernel_rfl) (by kernel_rfl) (by kernel_rfl) (by kernel_rfl)) ?_
  intro W base args ds gs before hval0 hW hcnd hsz _
  have hval : ∀ (j : Nat) t v, Try.f9.params[j]? = some t → args[j]? = some v → Value.okWide Try.prog W .any base t v := hval0
  have hW' := hW
  obtain ⟨p, q, hA0, hV, rfl, hfz, hnd⟩ := hW
  have hA : DataW.TrodAll enc Try.prog W 0 (fun _ => true) true Try.f9.params.toList args.toList ds p := hA0
  have hsz' : (DataW.weightsEach Try.prog (Try.f9.params.toList ++ Rows.wireTruncatedSpec.plain.varTypes Try.prog) (ds ++ gs)).all (· ≤ reachBytes) = true := hsz
  rw [Try.params9] at hA hval hsz'
  obtain ⟨v0, vs0, d0, ds0, p0, q0, hargs, rfl, rfl, h0, r0⟩ := trodAll_cons hA
  obtain ⟨v1, vs1, d1, ds1, p1, q1, rfl, rfl, rfl, h1, r1⟩ := trodAll_cons r0
  obtain ⟨v2, vs2, d2, ds2, p2, q2, rfl, rfl, rfl, h2, r2⟩ := trodAll_cons r1
  obtain ⟨v3, vs3, d3, ds3, p3, q3, rfl, rfl, rfl, h3, r3⟩ := trodAll_cons r2
  obtain ⟨v4, vs4, d4, ds4, p4, q4, rfl, rfl, rfl, h4, r4⟩ := trodAll_cons r3
  obtain ⟨rfl, rfl, rfl⟩ := trodAll_nil r4
  obtain rfl : args = #[v0, v1, v2, v3, v4] := by cases args; simp_all
  obtain ⟨rfl, rfl⟩ := trodVars_none hV
  obtain ⟨a0, rfl, rfl, rfl, w0⟩ := open_int Try.underlying3 (hval 0 3 v0 rfl rfl) h0
  obtain ⟨a1, rfl, rfl, rfl, w1⟩ := Go.ChangeMaps.open_string Try.underlying9 (hval 1 9 v1 rfl rfl) h1
  obtain ⟨a2, len2, cap2, rfl⟩ := okWide_slice Try.underlying22 (hval 2 22 v2 rfl rfl)
  obtain ⟨a3, len3, cap3, rfl⟩ := okWide_slice Try.underlying23 (hval 3 23 v3 rfl rfl)
  obtain ⟨a4, len4, cap4, rfl⟩ := okWide_slice Try.underlying24 (hval 4 24 v4 rfl rfl)
  have k2 := h2
  have k3 := h3
  have k4 := h4
  have lt2 : ∀ x ∈ p2, x.block < W.heap.size := by obtain ⟨m, hm⟩ := k2; exact DataW.trod_lt m _ _ _ hm
  have lt3 : ∀ x ∈ p3, x.block < W.heap.size := by obtain ⟨m, hm⟩ := k3; exact DataW.trod_lt m _ _ _ hm
  have lt4 : ∀ x ∈ p4, x.block < W.heap.size := by obtain ⟨m, hm⟩ := k4; exact DataW.trod_lt m _ _ _ hm
  obtain ⟨z2, hm2, hr2, hb2, hc2, hx2, hd2⟩ := open_is h2
  obtain ⟨z3, hm3, hr3, hb3, hc3, hx3, hd3⟩ := open_ss h3
  obtain ⟨z4, hm4, hr4, hb4, hc4, hx4, hd4⟩ := open_ds h4
  have hs1 : a1.size ≤ 140737488351232 := by
    have := sized_string (j := 1) hsz' rfl rfl
    simpa [reachBytes] using this
  have hs2 : len2 * 8 ≤ 140737488351232 := by
    rcases hd2 with ⟨h, _⟩ | ⟨es, rs, rfl, he⟩
    · omega
    · have := sized_slice (j := 2) hsz' rfl rfl Try.underlying22
      rw [Try.bytesI, reach_num] at this
      omega
  have hs3 : ∀ y ∈ z3, y.size ≤ 140737488351232 := by
    intro y hy
    rcases hd3 with ⟨h, _⟩ | ⟨rs, rfl⟩
    · have : z3 = [] := List.eq_nil_of_length_eq_zero (by omega)
      subst this; cases hy
    · have hmem : y.size ∈ (DataW.slice (strs z3) rs : DataW H).weights Try.prog 23 := by
        unfold DataW.weights
        rw [Try.underlying23]
        simp only [List.mem_cons, List.mem_append]
        exact .inr (.inl (strs_weights hy))
      have := List.all_eq_true.1 hsz' _ (DataW.weights_mem_each (j := 3) rfl rfl _ hmem)
      rw [reach_num] at this
      exact of_decide_eq_true this
  have hs4 : len4 ≤ 140737488351232 := by
    rcases hd4 with ⟨h, _⟩ | ⟨es, rs, rfl, he⟩
    · omega
    · have := sized_slice (j := 4) hsz' rfl rfl Try.underlying24
      rw [Try.bytesD, reach_num] at this
      omega
  have bd := bounds_i64 w0
  have hcap3 : len3 ≤ 9223372036854775807 := by unfold maxLen at hx3; omega
  clear hA0 hval0 hsz hsz'
  refine (WireTruncated_any a0 a1 a2 a3 a4 len2 len3 len4 cap2 cap3 cap4 z2 z3 z4 W ⟨by omega, by omega⟩ hs1 hm2 hm3 hm4 hs2 hs3 hs4 hr2 hr3 hr4 hb2 hb4 hcap3).mono fun e W' ⟨he, bel⟩ => ?_
  subst he
  exact ⟨_, rfl, _, _, _, [], _, [], hW', trodAll_mk1 (shut_bool Try.underlying4 _), (trodAll_cons_mk (shut_int Try.underlying3 w0) (trodAll_cons_mk (Go.ChangeMaps.shut_string Try.underlying9 w1) (trodAll_cons_mk (Below.trod Try.laidOut (by kernel_rfl) (of_decide_eq_true (by kernel_rfl)) k2 bel lt2) (trodAll_cons_mk (Below.trod Try.laidOut (by kernel_rfl) (of_decide_eq_true (by kernel_rfl)) k3 bel lt3) (trodAll_cons_mk (Below.trod Try.laidOut (by kernel_rfl) (of_decide_eq_true (by kernel_rfl)) k4 bel lt4) trodAll_mk0))))), rfl, bel.frame _, fun h => by cases h⟩

theorem over : Rows.wireTruncatedRow.holds Try.pinned (OpenSpec.ofChange Rows.wireTruncatedSpec) :=
  OpenClaim.holds_of_wide 9 Try.f9 rfl rfl rfl rfl rfl rfl rfl ⟨rfl, rfl, rfl, rfl, rfl⟩ rfl rfl rfl rfl rfl (by kernel_rfl) Try.func9 (by kernel_rfl)
    (of_decide_eq_true (by kernel_rfl)) (by unfold Func.isWrapper; first | (rw [if_pos (by decide +kernel)]; kernel_rfl) | (rw [if_neg (by decide +kernel)]; exact ⟨rfl, rfl⟩))
    (fun os started H enc _ => lifted os started H enc)

theorem proved : Rows.WireTruncatedSaid := over
#print axioms proved
end Go.Proofs.Ytidockbgmpaoeaa.wireTruncated
