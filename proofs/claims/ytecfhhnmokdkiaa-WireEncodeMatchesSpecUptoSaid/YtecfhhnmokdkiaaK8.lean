/-
  Proved: where what it reads is of bulk at most the seat's bound, for every int, string, []int, []string and []Digest, splicerylaw01.WireEncodeMatchesSpec returns true and leaves its arguments as they were.
-/
import Derived.Test.YtecfhhnmokdkiaaW8
import Derived.Test.YtecfhhnmokdkiaaRow3
import Derived.Deep.CondSized
set_option linter.unusedVariables false
namespace Go.Proofs.Ytecfhhnmokdkiaa.wireEncodeMatchesSpecUpto
open Go.ChangeShapes Go.WideShapes Go.ChangeAt Go.RowKit

theorem one_le {H : Type} (d : DataW H) : 1 ≤ Rows.uptoBulk d := by
  cases d with
  | lit l => cases l <;> simp [Rows.uptoBulk]
  | nil => simp [Rows.uptoBulk]
  | ptr d => simp [Rows.uptoBulk]
  | slice elems spare => simp [Rows.uptoBulk]
  | agg parts => simp [Rows.uptoBulk]
  | iface t d => simp [Rows.uptoBulk]
  | map entries => simp [Rows.uptoBulk]
  | held h => simp [Rows.uptoBulk]
theorem length_le {H : Type} (l : List (DataW H)) : l.length ≤ Rows.uptoBulkAll l := by
  induction l with
  | nil => simp [Rows.uptoBulkAll]
  | cons x r ih => have := one_le x; simp only [Rows.uptoBulkAll, List.length_cons]; omega
theorem strs_bulk {H : Type} (l : List ByteArray) : Rows.uptoBulkAll (strs (H := H) l) = l.length + tot l := by
  induction l with
  | nil => simp [strs, Rows.uptoBulkAll, tot]
  | cons x r ih =>
    unfold strs tot at ih ⊢
    simp only [List.map_cons, Rows.uptoBulkAll, List.sum_cons, List.length_cons]
    rw [ih]
    have e : Rows.uptoBulk (DataW.lit (H := H) (.string x.data.toList)) = x.size + 1 := by simp only [Rows.uptoBulk]; rfl
    rw [e]; omega
theorem slice_bulk {H : Type} {len : Nat} {d : DataW H} (h : (len = 0 ∧ d = .nil) ∨ ∃ es rs, d = .slice es rs ∧ es.length = len) : len ≤ Rows.uptoBulk d := by
  rcases h with ⟨rfl, _⟩ | ⟨es, rs, rfl, rfl⟩
  · omega
  · have := length_le es
    simp only [Rows.uptoBulk]; omega

set_option maxRecDepth 100000 in
theorem lifted (os : Os) (started : os.Started) (H : Type) (enc : TypeId × Value → H) (F : Stop.Interp) :
    ReturnsInHanded {} Try.checked os 3 .any ((Rows.OpenSpec.upto Rows.wireEncodeMatchesSpecSpec).pre6 enc Try.prog Try.f3 Rows.wireEncodeMatchesSpecUptoRow.domain false) (((Rows.OpenSpec.upto Rows.wireEncodeMatchesSpecSpec).at F).post enc Try.prog Try.f3 false true false false) := by
  refine returnsInHanded_of_cond (C := Try.checked) (s := Rows.OpenSpec.upto Rows.wireEncodeMatchesSpecSpec) (k := Rows.uptoSmall) rfl Try.own started (by kernel_rfl) Try.func3
    (OpenSpec.witness (enc := enc) (C := Try.checked) (s := Rows.OpenSpec.upto Rows.wireEncodeMatchesSpecSpec) (k := Rows.uptoSmall) rfl false ⟨#[], #[.int .i64 0, .string ⟨#[]⟩, .slice none 0 0, .slice none 0 0, .slice none 0 0], []⟩ 8 (by kernel_rfl) (by kernel_rfl) (by kernel_rfl)
      (x := ([.lit (.int .i64 0), .lit (.string []), .nil, .nil, .nil], [], [])) (by kernel_rfl) rfl (by kernel_rfl)) ?_
  intro W base args ds gs before hval0 hW _ hk _
  have hval : ∀ (j : Nat) t v, Try.f3.params[j]? = some t → args[j]? = some v → Value.okWide Try.prog W .any base t v := hval0
  have hW' := hW
  obtain ⟨p, q, hA0, hV, rfl, hfz, hnd⟩ := hW
  have hA : DataW.TrodAll enc Try.prog W 0 (fun _ => true) true Try.f3.params.toList args.toList ds p := hA0
  rw [Try.params3] at hA hval
  obtain ⟨v0, vs0, d0, ds0, p0, q0, hargs, rfl, rfl, h0, r0⟩ := trodAll_cons hA
  obtain ⟨v1, vs1, d1, ds1, p1, q1, rfl, rfl, rfl, h1, r1⟩ := trodAll_cons r0
  obtain ⟨v2, vs2, d2, ds2, p2, q2, rfl, rfl, rfl, h2, r2⟩ := trodAll_cons r1
  obtain ⟨v3, vs3, d3, ds3, p3, q3, rfl, rfl, rfl, h3, r3⟩ := trodAll_cons r2
  obtain ⟨v4, vs4, d4, ds4, p4, q4, rfl, rfl, rfl, h4, r4⟩ := trodAll_cons r3
  obtain ⟨rfl, rfl, rfl⟩ := trodAll_nil r4
  obtain rfl : args = #[v0, v1, v2, v3, v4] := by cases args; simp_all
  obtain ⟨rfl, rfl⟩ := trodVars_none hV
  have hb := of_decide_eq_true hk
  simp only [List.append_nil, Rows.uptoBulkAll] at hb
  obtain ⟨a0, rfl, rfl, rfl, w0⟩ := open_int Try.underlying3 (hval 0 3 v0 rfl rfl) h0
  obtain ⟨a1, rfl, rfl, rfl, w1⟩ := Go.ChangeMaps.open_string Try.underlying9 (hval 1 9 v1 rfl rfl) h1
  obtain ⟨a2, len2, cap2, rfl⟩ := okWide_slice Try.underlying22 (hval 2 22 v2 rfl rfl)
  obtain ⟨a3, len3, cap3, rfl⟩ := okWide_slice Try.underlying23 (hval 3 23 v3 rfl rfl)
  obtain ⟨a4, len4, cap4, rfl⟩ := okWide_slice Try.underlying24 (hval 4 24 v4 rfl rfl)
  have k2 := h2
  have k3 := h3
  have k4 := h4
  have lt2 : ∀ x ∈ p2, x.block < W.heap.size := by obtain ⟨m, hm⟩ := k2; exact DataW.trod_lt m _ _ _ hm
  have lt3 : ∀ x ∈ p3, x.block < W.heap.size := by obtain ⟨m, hm⟩ := k3; exact DataW.trod_lt m _ _ _ hm
  have lt4 : ∀ x ∈ p4, x.block < W.heap.size := by obtain ⟨m, hm⟩ := k4; exact DataW.trod_lt m _ _ _ hm
  obtain ⟨z2, hm2, hr2, hb2, hc2, hx2, hd2⟩ := open_is h2
  obtain ⟨z3, hm3, hr3, hb3, hc3, hx3, hd3⟩ := open_ss h3
  obtain ⟨z4, hm4, hr4, hb4, hc4, hx4, hd4⟩ := open_ds h4
  have bd := bounds_i64 w0
  have hs1 : Rows.uptoBulk (DataW.lit (H := H) (.string a1.data.toList)) = a1.size + 1 := by simp only [Rows.uptoBulk]; rfl
  have hs2 := slice_bulk hd2
  have hs3 : len3 + tot z3 ≤ Rows.uptoBulk d3 := by
    rcases hd3 with ⟨h, rfl⟩ | ⟨rs, rfl⟩
    · have : z3 = [] := List.eq_nil_of_length_eq_zero (by omega)
      subst this; simp [Rows.uptoBulk, tot, h]
    · have := strs_bulk (H := H) z3
      simp only [Rows.uptoBulk]; omega
  have hs4 := slice_bulk hd4
  have hbd : a1.size ≤ 1048576 ∧ len2 ≤ 1048576 ∧ len3 + tot z3 ≤ 1048576 ∧ len4 ≤ 1048576 := by
    rw [hs1] at hb
    omega
  clear hA0 hval0 hb hk
  refine (WireEncodeMatchesSpec_any a0 a1 a2 a3 a4 len2 len3 len4 cap2 cap3 cap4 z2 z3 z4 W ⟨by omega, by omega⟩ hbd.1 hm2 hm3 hm4 hbd.2.1 hbd.2.2.1 hbd.2.2.2 hr2 hr3 hr4 hb2 (fun d hd => (hb4 d hd).1)).mono fun e W' ⟨he, bel⟩ => ?_
  subst he
  exact ⟨_, rfl, _, _, _, [], _, [], hW', trodAll_mk1 (shut_bool Try.underlying4 _), (trodAll_cons_mk (shut_int Try.underlying3 w0) (trodAll_cons_mk (Go.ChangeMaps.shut_string Try.underlying9 w1) (trodAll_cons_mk (Below.trod Try.laidOut (by kernel_rfl) (of_decide_eq_true (by kernel_rfl)) k2 bel lt2) (trodAll_cons_mk (Below.trod Try.laidOut (by kernel_rfl) (of_decide_eq_true (by kernel_rfl)) k3 bel lt3) (trodAll_cons_mk (Below.trod Try.laidOut (by kernel_rfl) (of_decide_eq_true (by kernel_rfl)) k4 bel lt4) trodAll_mk0))))), rfl, bel.frame _, fun h => by cases h⟩

theorem over : Rows.wireEncodeMatchesSpecUptoRow.holds Try.pinned (Rows.OpenSpec.upto Rows.wireEncodeMatchesSpecSpec) :=
  OpenClaim.holds_of_cond 3 Try.f3 rfl rfl rfl rfl rfl rfl rfl ⟨rfl, rfl, rfl, rfl, rfl⟩ rfl rfl rfl rfl rfl (by kernel_rfl) Try.func3 (by kernel_rfl)
    (of_decide_eq_true (by kernel_rfl)) (by unfold Func.isWrapper; first | (rw [if_pos (by decide +kernel)]; kernel_rfl) | (rw [if_neg (by decide +kernel)]; exact ⟨rfl, rfl⟩))
    (fun os started H enc _ F => lifted os started H enc F)

theorem proved : Rows.WireEncodeMatchesSpecUptoSaid := over
#print axioms proved
end Go.Proofs.Ytecfhhnmokdkiaa.wireEncodeMatchesSpecUpto
