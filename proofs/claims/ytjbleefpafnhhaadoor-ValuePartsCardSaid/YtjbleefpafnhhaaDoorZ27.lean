import Derived.Test.YtjbleefpafnhhaaDoorZ25
import Derived.Test.YtjbleefpafnhhaaDoorZ26
import Derived.Orders
import Derived.Deep.AppendLies
/-
  value.Def of the example's second definition.
-/
set_option linter.unusedVariables false
set_option linter.unusedSimpArgs false
namespace Go.Proofs.YtjbleefpafnhhaaDoor
open Go.RowKit

theorem ex_fnd : fndI pEx 0 1 2 = 1 := by decide
theorem two_elems {D C A B : List Value} {j : Nat} (hj : j < 2) (hl : D.length = 11) (hA : A.length = 11) (hB : B.length = 11) (hC : C = A ++ B) (h : ∀ t v, D[t]? = some v → C[j * 11 + t]? = some v) : D = if j = 0 then A else B := by
  subst hC
  apply List.ext_getElem?
  intro t
  by_cases ht : t < 11
  · have h1 := h t _ (List.getElem?_eq_getElem (by omega))
    rw [List.getElem?_eq_getElem (by omega), ← h1]
    match j, hj with
    | 0, _ => rw [if_pos rfl, List.getElem?_append_left (by omega)]; congr 1; omega
    | 1, _ => rw [if_neg (by decide), List.getElem?_append_right (by omega)]; congr 1; omega
  · rw [List.getElem?_eq_none (by omega)]
    symm
    apply List.getElem?_eq_none
    split <;> omega
theorem ex_slots {w : World} {g g1 g2 : Nat} (h : ExR w g g1 g2) : Hid (∀ W, Below w.heap.size w W → Calls Tryd.prog 75 #[.slice (some ⟨g2, 0, none⟩) 2 2, .func (.func 76) #[] #[]] W (fun e w' => ∃ h c', e = .returned (.slice (some ⟨h, 0, none⟩) 2 c') ∧ (2 ≤ c' ∧ c' ≤ maxLen) ∧ Below W.heap.size W w')) := Lib.hid fun W hb => by
  refine copylist_slots W g2 0 2 2 ([.int .i64 0, .int .i64 1, .int .i64 5, .string ⟨#[68, 111, 116]⟩, .int .i64 0, .int .i64 0, .int .i64 0, .int .i64 0, .slice none 0 0, .int .i64 0, .int .i64 0] ++ [.int .i64 0, .int .i64 1, .int .i64 6, .string ⟨#[66, 111, 120]⟩, .int .i64 3, .int .i64 0, .int .i64 1, .int .i64 1, .slice none 0 0, .int .i64 0, .int .i64 0]) rfl (range_below h.2.2 hb) (List.all_eq_true.mp (by rfl)) (by decide) ⟨by decide, by simp [maxLen]⟩ (by decide) (Lib.hid fun j D W' hj hl hD hb' => ?_)
  have hD' := two_elems (A := [.int .i64 0, .int .i64 1, .int .i64 5, .string ⟨#[68, 111, 116]⟩, .int .i64 0, .int .i64 0, .int .i64 0, .int .i64 0, .slice none 0 0, .int .i64 0, .int .i64 0]) (B := [.int .i64 0, .int .i64 1, .int .i64 6, .string ⟨#[66, 111, 120]⟩, .int .i64 3, .int .i64 0, .int .i64 1, .int .i64 1, .slice none 0 0, .int .i64 0, .int .i64 0]) hj hl rfl rfl rfl hD
  match j, hj, hD' with
  | 0, _, hD' =>
    rw [if_pos rfl] at hD'
    subst hD'
    refine (copySlot_leaf 0 1 5 0 0 0 0 0 0 ⟨#[68, 111, 116]⟩ W').mono ?_
    rintro e w' ⟨rfl, hb⟩
    exact ⟨_, rfl, ⟨rfl, List.all_eq_true.mp (by rfl)⟩, hb⟩
  | 1, _, hD' =>
    rw [if_neg (by decide)] at hD'
    subst hD'
    refine (copySlot_leaf 0 1 6 3 0 1 1 0 0 ⟨#[66, 111, 120]⟩ W').mono ?_
    rintro e w' ⟨rfl, hb⟩
    exact ⟨_, rfl, ⟨rfl, List.all_eq_true.mp (by rfl)⟩, hb⟩
set_option maxHeartbeats 2000000 in
set_option maxRecDepth 100000 in
theorem Def_ex (w : World) (g g1 g2 : Nat) (h : ExR w g g1 g2) :
    Calls Tryd.prog 20 #[.agg #[.slice none 0 0, .slice (some ⟨g, 0, none⟩) 2 2], .agg #[.int .i64 0, .int .i64 1, .int .i64 2]] w (fun e w' => ∃ hh c2, e = .returned (.tuple #[.agg (dc31 2 1 ⟨#[83, 104, 97, 112, 101]⟩ (.slice (some ⟨hh, 0, none⟩) 2 c2)).toArray, .bool true]) ∧ Below w.heap.size w w') := by
  have P0 := p2_new w (.slice none 0 0) (.slice (some ⟨g, 0, none⟩) 2 2)
  have V0 := new_later w (.cells #[.slice none 0 0, .slice (some ⟨g, 0, none⟩) 2 2] 26)
  have Q0 := i3_new (w.alloc (.cells #[.slice none 0 0, .slice (some ⟨g, 0, none⟩) 2 2] 26)) 0 1 2
  have b1 := new_later (w.alloc (.cells #[.slice none 0 0, .slice (some ⟨g, 0, none⟩) 2 2] 26)) (.cells #[.int .i64 0, .int .i64 1, .int .i64 2] 28)
  have R0 := z31_new ((w.alloc (.cells #[.slice none 0 0, .slice (some ⟨g, 0, none⟩) 2 2] 26)).alloc (.cells #[.int .i64 0, .int .i64 1, .int .i64 2] 28))
  have b2 := new_later ((w.alloc (.cells #[.slice none 0 0, .slice (some ⟨g, 0, none⟩) 2 2] 26)).alloc (.cells #[.int .i64 0, .int .i64 1, .int .i64 2] 28)) (.cells z31.toArray 46)
  have hzd := zero_def
  have hz31 : z31.toArray = #[.int .i64 0, .int .i64 0, .int .i64 0, .int .i64 0, .int .i64 0, .int .i64 0, .int .i64 0, .string ⟨#[]⟩, .slice none 0 0, .int .i64 0, .int .i64 0, .int .i64 0, .int .i64 0, .slice none 0 0, .int .i64 0, .int .i64 0, .int .i64 0, .int .i64 0, .int .i64 0, .int .i64 0, .int .i64 0, .int .i64 0, .int .i64 0, .int .i64 0, .int .i64 0, .int .i64 0, .slice none 0 0, .slice none 0 0, .slice none 0 0, .int .i64 0, .slice none 0 0] := rfl
  rw [hz31] at R0 b2 hzd
  replace P0 := (P0.later b1).later b2
  replace Q0 := Q0.later b2
  have V1 := later (later V0 b1) b2
  rw [World.size_alloc] at Q0
  rw [World.size_alloc, World.size_alloc] at R0
  clear V0 b1 b2
  generalize hW : ((w.alloc (.cells #[.slice none 0 0, .slice (some ⟨g, 0, none⟩) 2 2] 26)).alloc (.cells #[.int .i64 0, .int .i64 1, .int .i64 2] 28)).alloc (.cells #[.int .i64 0, .int .i64 0, .int .i64 0, .int .i64 0, .int .i64 0, .int .i64 0, .int .i64 0, .string ⟨#[]⟩, .slice none 0 0, .int .i64 0, .int .i64 0, .int .i64 0, .int .i64 0, .slice none 0 0, .int .i64 0, .int .i64 0, .int .i64 0, .int .i64 0, .int .i64 0, .int .i64 0, .int .i64 0, .int .i64 0, .int .i64 0, .int .i64 0, .int .i64 0, .int .i64 0, .slice none 0 0, .slice none 0 0, .slice none 0 0, .int .i64 0, .slice none 0 0] 46) = wa at P0 Q0 R0 V1
  have y0 := Q0.cell (j := 0) (v := .int .i64 0) rfl
  have y1 := Q0.cell (j := 1) (v := .int .i64 1) rfl
  have y2 := Q0.cell (j := 2) (v := .int .i64 2) rfl
  have p0 := P0.cell (j := 0) (v := .slice none 0 0) rfl
  have p1 := P0.cell (j := 1) (v := .slice (some ⟨g, 0, none⟩) 2 2) rfl
  have HX := Lib.hid (h.later V1)
  have HP := Lib.hid P0
  have HR := Lib.hid R0
  have HV := Lib.hid V1
  have HFI : Hid (Calls Tryd.prog 49 #[.agg #[.slice none 0 0, .slice (some ⟨g, 0, none⟩) 2 2], .agg #[.int .i64 0, .int .i64 1, .int .i64 2]] wa fun e w' => e = .returned (.int .i64 1) ∧ Below wa.heap.size wa w') := Lib.hid (by
    have := find_any pEx 0 1 2 wa _ HX.out.pr
    rwa [ex_fnd] at this)
  clear P0 Q0 R0 V1 hz31 h
  go_enter Tryd.func20, Tryd.ntmps20
  go_upto_region 1 with fail
  clear hW hzd
  go_upto_region 4 with (go_at_call 49; (with_reducible refine HFI.out.mono ?_); rintro e w2 ⟨rfl, hb2⟩; have HX2 := Lib.hid (HX.out.later hb2); have HR2 := Lib.hid (HR.out.later hb2); have HV2 := Lib.hid (later HV.out hb2); have p1' := (HP.out.later hb2).cell (j := 1) (v := .slice (some ⟨g, 0, none⟩) 2 2) rfl; clear hb2)
  have HRG : Hid (w2.rangeAt g 31 ([.int .i64 0, .int .i64 1, .int .i64 2, .int .i64 1, .int .i64 0, .int .i64 0, .int .i64 0, .string ⟨#[83, 104, 97, 112, 101]⟩, (.slice (some ⟨g2, 0, none⟩) 2 2), .int .i64 0, .int .i64 0, .int .i64 0, .int .i64 0, .slice none 0 0, .int .i64 0, .int .i64 0, .int .i64 0, .int .i64 0, .int .i64 0, .int .i64 0, .int .i64 0, .int .i64 0, .int .i64 0, .int .i64 0, .int .i64 0, .int .i64 0, .slice none 0 0, .slice none 0 0, .slice none 0 0, .int .i64 0, .slice none 0 0])) := Lib.hid (by
    have h := range_right (xs := [.int .i64 0, .int .i64 1, .int .i64 1, .int .i64 0, .int .i64 0, .int .i64 0, .int .i64 0, .string ⟨#[80, 111, 105, 110, 116]⟩, (.slice (some ⟨g1, 0, none⟩) 2 2), .int .i64 0, .int .i64 0, .int .i64 0, .int .i64 0, .slice none 0 0, .int .i64 0, .int .i64 0, .int .i64 0, .int .i64 0, .int .i64 0, .int .i64 0, .int .i64 0, .int .i64 0, .int .i64 0, .int .i64 0, .int .i64 0, .int .i64 0, .slice none 0 0, .slice none 0 0, .slice none 0 0, .int .i64 0, .slice none 0 0]) (ys := [.int .i64 0, .int .i64 1, .int .i64 2, .int .i64 1, .int .i64 0, .int .i64 0, .int .i64 0, .string ⟨#[83, 104, 97, 112, 101]⟩, (.slice (some ⟨g2, 0, none⟩) 2 2), .int .i64 0, .int .i64 0, .int .i64 0, .int .i64 0, .slice none 0 0, .int .i64 0, .int .i64 0, .int .i64 0, .int .i64 0, .int .i64 0, .int .i64 0, .int .i64 0, .int .i64 0, .int .i64 0, .int .i64 0, .int .i64 0, .int .i64 0, .slice none 0 0, .slice none 0 0, .slice none 0 0, .int .i64 0, .slice none 0 0]) HX2.out.1
    simpa using h)
  have HI31 : Hid ((Tryd.prog.info? 46).map (·.size) = some ([.int .i64 0, .int .i64 1, .int .i64 2, .int .i64 1, .int .i64 0, .int .i64 0, .int .i64 0, .string ⟨#[83, 104, 97, 112, 101]⟩, (.slice (some ⟨g2, 0, none⟩) 2 2), .int .i64 0, .int .i64 0, .int .i64 0, .int .i64 0, .slice none 0 0, .int .i64 0, .int .i64 0, .int .i64 0, .int .i64 0, .int .i64 0, .int .i64 0, .int .i64 0, .int .i64 0, .int .i64 0, .int .i64 0, .int .i64 0, .int .i64 0, .slice none 0 0, .slice none 0 0, .slice none 0 0, .int .i64 0, .slice none 0 0] : List Value).length) := Lib.hid info_def
  have HCD : Hid (∀ W, Below w2.heap.size w2 W → Calls Tryd.prog 50 #[.agg #[.int .i64 0, .int .i64 1, .int .i64 2, .int .i64 1, .int .i64 0, .int .i64 0, .int .i64 0, .string ⟨#[83, 104, 97, 112, 101]⟩, (.slice (some ⟨g2, 0, none⟩) 2 2), .int .i64 0, .int .i64 0, .int .i64 0, .int .i64 0, .slice none 0 0, .int .i64 0, .int .i64 0, .int .i64 0, .int .i64 0, .int .i64 0, .int .i64 0, .int .i64 0, .int .i64 0, .int .i64 0, .int .i64 0, .int .i64 0, .int .i64 0, .slice none 0 0, .slice none 0 0, .slice none 0 0, .int .i64 0, .slice none 0 0]] W (fun e w' => ∃ h c', e = .returned (.agg (dc31 2 1 ⟨#[83, 104, 97, 112, 101]⟩ (.slice (some ⟨h, 0, none⟩) 2 c')).toArray) ∧ Below W.heap.size W w')) := Lib.hid fun W hb => copyDef_plain 2 1 ⟨#[83, 104, 97, 112, 101]⟩ g2 2 2 W (ex_slots (HX2.out.later hb))
  go_wp2_with (first
    | (with_reducible refine wpList_load_mid rfl _ (.tmp 16) rfl g 31 rfl ([.int .i64 0, .int .i64 1, .int .i64 2, .int .i64 1, .int .i64 0, .int .i64 0, .int .i64 0, .string ⟨#[83, 104, 97, 112, 101]⟩, (.slice (some ⟨g2, 0, none⟩) 2 2), .int .i64 0, .int .i64 0, .int .i64 0, .int .i64 0, .slice none 0 0, .int .i64 0, .int .i64 0, .int .i64 0, .int .i64 0, .int .i64 0, .int .i64 0, .int .i64 0, .int .i64 0, .int .i64 0, .int .i64 0, .int .i64 0, .int .i64 0, .slice none 0 0, .slice none 0 0, .slice none 0 0, .int .i64 0, .slice none 0 0]) _ HRG.out Tryd.underlying46 rfl HI31.out ?_)
    | (go_at_call 50; (with_reducible refine (HCD.out _ (Below.refl _ _)).mono ?_); rintro e w3 ⟨hh, c2, rfl, hb3⟩; have HR3 := Lib.hid (HR2.out.later hb3); have HV3 := Lib.hid (later HV2.out hb3); clear hb3)
    | (refine wpList_store_arr rfl _ (.tmp 4) (.tmp 18) rfl (w.heap.size + 1 + 1) 0 31 46 _ (dc31 2 1 ⟨#[83, 104, 97, 112, 101]⟩ (.slice (some ⟨hh, 0, none⟩) 2 c2)) z31 rfl rfl rfl HR3.out (show 0 + 31 ≤ 31 by omega) info_def (List.all_eq_true.mp (by rfl)) ?_; intro w4 f4 o4))
  rw [setAll_all z31 (dc31 2 1 ⟨#[83, 104, 97, 112, 101]⟩ (.slice (some ⟨hh, 0, none⟩) 2 c2)) rfl] at f4
  exact bodyPost_ret (results_cellB rfl _ _ (w.heap.size + 1 + 1) (dc31 2 1 ⟨#[83, 104, 97, 112, 101]⟩ (.slice (some ⟨hh, 0, none⟩) 2 c2)) _ rfl f4.range Tryd.underlying46 rfl info_def) rfl ⟨hh, c2, rfl, HV3.out.trans (o4.bel.mono (by omega))⟩
end Go.Proofs.YtjbleefpafnhhaaDoor
/-
  A region that draws its order, by an invariant over the set of the operations done: each operation is walked once, not once an order.
-/
set_option linter.unusedVariables false
set_option linter.unusedSimpArgs false
namespace Go.Proofs.YtjbleefpafnhhaaDoor
open Go.RowKit

theorem ready_mem {md : Region.Mode} {ops : Array Oper} {listed : Array Bool} {i : Nat} (h : i ∈ Region.ready md ops listed) : i < ops.size ∧ listed.getD i true = false ∧ ∃ o, ops[i]? = some o ∧ ∀ e ∈ o.after, Region.binds md e = true → listed.getD e.on false = true := by
  unfold Region.ready at h
  rw [List.mem_filter] at h
  obtain ⟨h1, h2⟩ := h
  rw [Bool.and_eq_true] at h2
  obtain ⟨h2, h3⟩ := h2
  refine ⟨List.mem_range.1 h1, by simpa using h2, ?_⟩
  cases ho : ops[i]? with
  | none => rw [ho] at h3; simp at h3
  | some o =>
    rw [ho] at h3
    refine ⟨o, rfl, fun e he hb => ?_⟩
    have h4 : o.after.all (fun e => !Region.binds md e || listed.getD e.on false) = true := by simpa using h3
    have h5 := Array.all_eq_true'.1 h4 e he
    rw [hb] at h5
    simpa using h5
theorem wpAny_inv {P : Program} {md : Region.Mode} {ops : Array Oper} {Q : Exit → Act → World → Prop} (I : Array Bool → Act → World → Prop)
    (hd : ∀ listed a w, I listed a w → Region.ready md ops listed = [] → Q .normal a w)
    (hs : ∀ listed a w i, I listed a w → i ∈ Region.ready md ops listed → wpOp P ops Q i (fun a' w' => I (listed.setIfInBounds i true) a' w') a w) :
    ∀ (fuel : Nat) (L : List Nat) (listed : Array Bool) (a : Act) (w : World), (∀ i, i < ops.size → listed.getD i true = false → i ∈ L) → L.length ≤ fuel → I listed a w → wpAny P md ops Q fuel listed a w
  | 0, L, listed, a, w, hL, hl, hI => by
    have hr : Region.ready md ops listed = [] := by
      rw [List.eq_nil_iff_forall_not_mem]
      intro i hi
      obtain ⟨h1, h2, _⟩ := ready_mem hi
      have := hL i h1 h2
      have h0 : L = [] := List.length_eq_zero_iff.1 (by omega)
      rw [h0] at this
      exact absurd this (by simp)
    exact ⟨hr, hd _ _ _ hI hr⟩
  | fuel + 1, L, listed, a, w, hL, hl, hI => by
    refine ⟨hd _ _ _ hI, fun i hi => wpOp_mono (fun a' w' h' => ?_) (hs _ _ _ i hI hi)⟩
    obtain ⟨h1, h2, _⟩ := ready_mem hi
    have hm := hL i h1 h2
    refine wpAny_inv I hd hs fuel (L.erase i) _ a' w' (fun k hk hk2 => ?_) (by rw [List.length_erase_of_mem hm]; omega) h'
    by_cases e : k = i
    · subst e
      exfalso
      by_cases hb : k < listed.size
      · rw [Array.getD_eq_getD_getElem?, Array.getElem?_setIfInBounds_self_of_lt hb] at hk2
        simp at hk2
      · rw [Array.getD_eq_getD_getElem?, Array.getElem?_eq_none (by omega)] at h2
        simp at h2
    · rw [Array.getD_eq_getD_getElem?, Array.getElem?_setIfInBounds_ne (by omega), ← Array.getD_eq_getD_getElem?] at hk2
      exact (List.mem_erase_of_ne e).2 (hL k hk hk2)
/-- A region that draws, from nothing listed. -/
theorem wp_region_inv {P : Program} {ops : Array Oper} {Q : Exit → Act → World → Prop} {id : Nat} {a : Act} {w : World} (I : Array Bool → Act → World → Prop) (hm : P.follows .mixedOrders = true)
    (h0 : I (Array.replicate ops.size false) a w.drew)
    (hd : ∀ listed a w, I listed a w → Region.ready .any ops listed = [] → Q .normal a w)
    (hs : ∀ listed a w i, I listed a w → i ∈ Region.ready .any ops listed → wpOp P ops Q i (fun a' w' => I (listed.setIfInBounds i true) a' w') a w) : (Code.region id ops true).wp P Q a w :=
  wp_region_any hm (wpAny_inv I hd hs ops.size (List.range ops.size) _ a _ (fun i hi _ => List.mem_range.2 hi) (by simp) h0)
end Go.Proofs.YtjbleefpafnhhaaDoor
/-
  A drawn region by facts: each operation's value has a fact of its own, shown once from the facts of the operations that it waits for; the store comes last.
-/
set_option linter.unusedVariables false
set_option linter.unusedSimpArgs false
namespace Go.Proofs.YtjbleefpafnhhaaDoor
open Go.RowKit

/-- A slot of a frame. -/
def ag (a : Act) (s : Nat) : Value := a.tmps.getD s undef
theorem eval_tmp (a : Act) (s : Nat) : a.eval (.tmp s) = ag a s := rfl
theorem ag_put {a : Act} {s : Nat} {v : Value} (h : s < a.tmps.size) : ag (a.put (some s) v) s = v := by
  simp only [ag, Act.put, Array.getD_eq_getD_getElem?, Array.getElem?_setIfInBounds_self_of_lt h, Option.getD_some]
theorem ag_ne {a : Act} {s t : Nat} {v : Value} (h : s ≠ t) : ag (a.put (some s) v) t = ag a t := by
  simp only [ag, Act.put, Array.getD_eq_getD_getElem?, Array.getElem?_setIfInBounds_ne h]
/-- Two frames that differ at most in the slots of a list. -/
structure Off (D : List Nat) (a a' : Act) : Prop where
  size : a'.tmps.size = a.tmps.size
  defers : a'.defers = a.defers
  off : ∀ s, s ∉ D → ag a' s = ag a s
theorem Off.refl (D : List Nat) (a : Act) : Off D a a := ⟨rfl, rfl, fun _ _ => rfl⟩
theorem Off.put {D : List Nat} {a a' : Act} {s : Nat} {v : Value} (h : Off D a a') (hs : s ∈ D) : Off D a (a'.put (some s) v) :=
  ⟨by simp [Act.put, h.size], h.defers, fun t ht => by rw [ag_ne (fun e => ht (by rw [← e]; exact hs)), h.off t ht]⟩
theorem act_ext {a b : Act} (h1 : a.tmps.size = b.tmps.size) (h2 : a.defers = b.defers) (h3 : ∀ s, ag a s = ag b s) : a = b := by
  obtain ⟨ta, da⟩ := a
  obtain ⟨tb, db⟩ := b
  have : ta = tb := by
    apply Array.ext h1
    intro i hi hi'
    have := h3 i
    simp only [ag, Array.getD_eq_getD_getElem?] at this
    rw [Array.getElem?_eq_getElem hi, Array.getElem?_eq_getElem hi'] at this
    simpa using this
  subst this
  simp only at h2
  subst h2
  rfl
theorem fold_size (f : Nat → Value) : ∀ (D : List Nat) (a : Act), (D.foldl (fun b s => b.put (some s) (f s)) a).tmps.size = a.tmps.size ∧ (D.foldl (fun b s => b.put (some s) (f s)) a).defers = a.defers
  | [], a => ⟨rfl, rfl⟩
  | s :: D, a => by
    obtain ⟨h1, h2⟩ := fold_size f D (a.put (some s) (f s))
    rw [List.foldl_cons, h1, h2]; exact ⟨by simp [Act.put], rfl⟩
theorem fold_ag (f : Nat → Value) : ∀ (D : List Nat) (a : Act) (t : Nat), (∀ s ∈ D, s < a.tmps.size) → ag (D.foldl (fun b s => b.put (some s) (f s)) a) t = if t ∈ D then f t else ag a t
  | [], a, t, _ => by simp
  | s :: D, a, t, h => by
    rw [List.foldl_cons, fold_ag f D _ t (fun u hu => by simp [Act.put]; exact h u (by simp [hu]))]
    by_cases h1 : t ∈ D
    · simp [h1]
    · by_cases h2 : t = s
      · subst h2; rw [if_neg h1, if_pos (by simp), ag_put (h t (by simp))]
      · rw [if_neg h1, if_neg (by simp [h1, h2]), ag_ne (fun e => h2 e.symm)]
theorem Off.eq {D : List Nat} {a a' : Act} (h : Off D a a') (hD : ∀ s ∈ D, s < a.tmps.size) : a' = D.foldl (fun b s => b.put (some s) (ag a' s)) a := by
  obtain ⟨h1, h2⟩ := fold_size (fun s => ag a' s) D a
  refine act_ext (by rw [h1, h.size]) (by rw [h2, h.defers]) fun t => ?_
  rw [fold_ag (fun s => ag a' s) D a t hD]
  split
  · rfl
  · exact h.off t ‹_›
/-- What an operation is, its place and what it waits for left out. -/
def sig (o : Oper) : Option Tmp × Op × TypeId × Option (Nat × Bool) := (o.dst, o.op, o.type, o.guard)
theorem wpOp_of {P : Program} {ops : Array Oper} {Q : Exit → Act → World → Prop} {i : Nat} {K : Act → World → Prop} {a : Act} {w : World} {d : Option Tmp} {op : Op} {ty : TypeId}
    (hs : (ops[i]?).map sig = some (d, op, ty, none)) (h : ∀ o : Oper, o.dst = d → o.op = op → o.type = ty → o.guard = none → o.wp P a w K Q) : wpOp P ops Q i K a w := by
  unfold wpOp
  cases ho : ops[i]? with
  | none => rw [ho] at hs; simp at hs
  | some o =>
    rw [ho] at hs
    simp only [Option.map_some, sig, Option.some.injEq, Prod.mk.injEq] at hs
    obtain ⟨h1, h2, h3, h4⟩ := hs
    simp only [Region.wanted, h4, if_true]
    exact .inl (h o h1 h2 h3 h4)
theorem execOp_sig {ρ : Operand → Value} {o : Oper} {op : Op} {ty : TypeId} (h1 : o.op = op) (h2 : o.type = ty) : execOp ρ o = execOp ρ ⟨none, op, ty, "", #[], none⟩ := by
  obtain ⟨d, op', ty', pos, af, gd⟩ := o
  simp only at h1 h2
  subst h1 h2
  rfl
theorem op_val {P : Program} {ops : Array Oper} {Q : Exit → Act → World → Prop} {i : Nat} {K : Act → World → Prop} {a : Act} {w w' : World} {d : Option Tmp} {op : Op} {ty : TypeId} {v : Value}
    (hs : (ops[i]?).map sig = some (d, op, ty, none)) (hr : (execOp a.eval ⟨none, op, ty, "", #[], none⟩).run P w = .ok (.value v) w') (hK : K (a.put d v) w') : wpOp P ops Q i K a w :=
  wpOp_of hs fun o h1 h2 h3 _ => by unfold Oper.wp; rw [execOp_sig h2 h3, hr]; subst h1; exact hK
theorem op_call {P : Program} {ops : Array Oper} {Q : Exit → Act → World → Prop} {i : Nat} {K : Act → World → Prop} {a : Act} {w w' : World} {d : Option Tmp} {op : Op} {ty : TypeId} {f : FuncId} {args : Array Value}
    (hs : (ops[i]?).map sig = some (d, op, ty, none)) (hr : (execOp a.eval ⟨none, op, ty, "", #[], none⟩).run P w = .ok (.enter f args) w') (hc : Calls P f args w' fun e w'' => ∃ v, e = .returned v ∧ K (a.put d v) w'') : wpOp P ops Q i K a w :=
  wpOp_of hs fun o h1 h2 h3 _ => by
    unfold Oper.wp; rw [execOp_sig h2 h3, hr, Oper.upon_enter]
    refine hc.mono ?_
    rintro e w'' ⟨v, rfl, hK⟩
    subst h1; exact hK
theorem op_skip {P : Program} {ops : Array Oper} {Q : Exit → Act → World → Prop} {i : Nat} {K : Act → World → Prop} {a : Act} {w w' : World} {d : Option Tmp} {op : Op} {ty : TypeId}
    (hs : (ops[i]?).map sig = some (d, op, ty, none)) (hr : (execOp a.eval ⟨none, op, ty, "", #[], none⟩).run P w = .ok .skip w') (hK : K (a.put d undef) w') : wpOp P ops Q i K a w :=
  wpOp_of hs fun o h1 h2 h3 _ => by unfold Oper.wp; rw [execOp_sig h2 h3, hr]; subst h1; exact hK
/-- One more element, which lies in a block of its own, at a list of the call's own: the operation alone. -/
theorem wp_putG {P : Program} {α : Type} {e t : TypeId} {sz bytes : Nat} {z : Value} {Φ : α → List Value → World → Prop} {w : World} {B : Nat} {v : Value} {acc : List α} {x : α} {C : List Value} {o : Oper} {a : Act} {K : Act → World → Prop} {Q : Exit → Act → World → Prop} {gn c : Nat}
    (hG : GrowG e sz Φ w B v acc) (hC : C.length = sz) (hx : Foot (fun g => B ≤ g ∧ v.ownBlock ≠ some g) (Φ x C) w) (hB : B ≤ w.heap.size) (hacc : (acc.length + 1) * bytes ≤ 140737488355328 ∧ acc.length + 1 ≤ maxLen)
    (ht : P.underlying t = some (.slice e)) (hi : (P.info? e).map (fun i => (i.zero, i.size, i.bytes)) = some (some z, sz, bytes)) (hzs : z.cells.size = sz) (hsz : 0 < sz) (h1c : ∀ u ∈ C, u.oneCell' = true)
    (s y : Operand) (ho : o.op = .call { callee := .builtin .append, args := #[s, y], argTypes := #[t, t] })
    (hs : a.eval s = v) (hy : a.eval y = .slice (some ⟨gn, 0, none⟩) 1 c) (hr : w.rangeAt gn 0 C)
    (h : ∀ g cap w', GrowG e sz Φ w' B (.slice (some ⟨g, 0, none⟩) (acc.length + 1) cap) (acc ++ [x]) → Below B w w' → (∀ k, k < w.heap.size → v.ownBlock ≠ some k → w'.heap[k]? = w.heap[k]?) → (v.ownBlock = some g ∨ w.heap.size ≤ g) → K (a.put o.dst (.slice (some ⟨g, 0, none⟩) (acc.length + 1) cap)) w') :
    o.wp P a w K Q := by
  obtain ⟨L, h1, h2, h3, h4⟩ := hG
  obtain ⟨i0, hi0, hz0, hz1, hz2⟩ := info_parts hi
  refine wp_append_lies w s y t ho B e i0 z sz bytes ht hi0 hz0 hz1 hz2 hzs hsz v acc.length L.flatten hs h1 ⟨gn, 0, none⟩ 1 c C hy (by rw [hC, Nat.one_mul]) (fun j u hu => by rw [show (⟨gn, 0, none⟩ : Addr).add j = ⟨gn, 0 + j, none⟩ by unfold Addr.add; split <;> simp_all]; exact hr j u hu) h1c (by decide) hacc.2 hacc.1 hB w.heap.size rfl ?_
  intro g cap w' hown hg hat hlt
  obtain ⟨a1, a2, a3⟩ := GrowG.grown h1 h2 h3 h4 hC hx hB (Below.refl _ w) hown hg (hat.imp id (fun e => by omega))
  exact h g cap w' a1 a2 a3 (hat.imp id (fun e => by omega))
/-! ### The invariant. -/
/-- What is there since a world of a size stays as it is. -/
def Ext (S : Nat) (w w' : World) : Prop := Below 0 w w' ∧ ∀ g, S ≤ g → g < w.heap.size → w'.heap[g]? = w.heap[g]?
theorem Ext.refl (S : Nat) (w : World) : Ext S w w := ⟨Below.refl _ _, fun _ _ _ => rfl⟩
theorem Ext.of {S : Nat} {w w' : World} (h : Below w.heap.size w w') : Ext S w w' := ⟨h.mono (Nat.zero_le _), fun g _ hg => h.block g hg⟩
def depB (ops : Array Oper) (i k : Nat) : Bool := ((ops[i]?).map (fun o => o.after.any fun e => Region.binds .any e && e.on == k)).getD false
def acyB (ops : Array Oper) : Bool := (List.range ops.size).all fun i => ((ops[i]?).map (fun o => o.after.all fun e => decide (e.on < i))).getD true
def needB (ops : Array Oper) (last : Nat) : Bool := (List.range last).all fun k => (List.range (last + 1)).any fun j => decide (k < j) && depB ops j k
theorem ready_dep {ops : Array Oper} {listed : Array Bool} {i k : Nat} (h : i ∈ Region.ready .any ops listed) (hd : depB ops i k = true) : listed.getD k false = true := by
  obtain ⟨_, _, o, ho, h3⟩ := ready_mem h
  unfold depB at hd
  rw [ho] at hd
  simp only [Option.map_some, Option.getD_some, Array.any_eq_true'] at hd
  obtain ⟨e, he, hb⟩ := hd
  rw [Bool.and_eq_true] at hb
  have := h3 e he hb.1
  have e2 : e.on = k := by simpa using hb.2
  rwa [e2] at this
theorem ready_of {ops : Array Oper} {listed : Array Bool} {i : Nat} (hi : i < ops.size) (h0 : listed.getD i true = false) (h : ∀ k, k < i → listed.getD k false = true) (ha : acyB ops = true) : i ∈ Region.ready .any ops listed := by
  unfold Region.ready
  rw [List.mem_filter]
  refine ⟨List.mem_range.2 hi, ?_⟩
  unfold acyB at ha
  have := List.all_eq_true.1 ha i (List.mem_range.2 hi)
  rw [Array.getElem?_eq_getElem hi] at this ⊢
  simp only [Option.map_some, Option.getD_some] at this ⊢
  rw [h0, Bool.not_false, Bool.true_and, Array.all_eq_true']
  intro e he
  have := Array.all_eq_true'.1 this e he
  rw [h e.on (by simpa using this), Bool.or_true]
theorem getD_set {l : Array Bool} {i k : Nat} {d : Bool} (hi : i < l.size) : (l.setIfInBounds i true).getD k d = if k = i then true else l.getD k d := by
  simp only [Array.getD_eq_getD_getElem?, Array.getElem?_setIfInBounds]
  by_cases h : i = k
  · subst h; simp [hi]
  · rw [if_neg h, if_neg (fun e => h e.symm)]
theorem getD_in {l : Array Bool} {k : Nat} (h : k < l.size) (d d' : Bool) : l.getD k d = l.getD k d' := by
  simp [Array.getD_eq_getD_getElem?, Array.getElem?_eq_getElem h]
theorem wp_region_facts {P : Program} {ops : Array Oper} {Q : Exit → Act → World → Prop} {id : Nat} {a0 : Act} {w0 : World} (last p : Nat) (D : List Nat) (ds : Nat → Nat) (F : Nat → Value → World → Prop) (G : Bool → World → Prop) (B S : Nat)
    (hm : P.follows .mixedOrders = true) (hsz : ops.size = last + 1) (hac : acyB ops = true) (hnd : needB ops last = true)
    (hD : ∀ k, k < last → ds k ∈ D) (hlt : ∀ k, k < last → ds k < a0.tmps.size) (hinj : ∀ i k, i < last → k < last → ds i = ds k → i = k)
    (hF : ∀ k v w w' E, k < last → (E = B ∨ (E = S ∧ k ≠ p)) → Ext E w w' → F k v w → F k v w') (h0 : G false w0.drew)
    (hs : ∀ i a w c, i < last → (i = p → c = false) → Off D a0 a → G c w → (∀ k, k < last → depB ops i k = true → F k (ag a (ds k)) w) →
      wpOp P ops Q i (fun a' w' => ∃ v, a' = a.put (some (ds i)) v ∧ Ext (if i = p then S else B) w w' ∧ F i v w' ∧ G (if i = p then true else c) w') a w)
    (hl : ∀ a w c, Off D a0 a → (p < last → c = true) → G c w → (∀ k, k < last → F k (ag a (ds k)) w) → wpOp P ops Q last (fun a' w' => Q .normal a' w') a w) :
    (Code.region id ops true).wp P Q a0 w0 := by
  refine wp_region_inv (fun listed a w => listed.size = last + 1 ∧ ((listed.getD last false = true ∧ (∀ k, k < last + 1 → listed.getD k false = true) ∧ Q .normal a w) ∨ (listed.getD last false = false ∧ (∀ i k, i < last → listed.getD i false = true → depB ops i k = true → listed.getD k false = true) ∧ Off D a0 a ∧ G (decide (p < last) && listed.getD p false) w ∧ ∀ k, k < last → listed.getD k false = true → F k (ag a (ds k)) w))) hm ?_ ?_ ?_
  · have hz : ∀ k, (Array.replicate ops.size false).getD k false = false := fun k => by
      simp only [Array.getD_eq_getD_getElem?, Array.getElem?_replicate]; split <;> rfl
    refine ⟨by simp [hsz], .inr ⟨hz _, fun i k _ h => absurd h (by rw [hz]; simp), Off.refl _ _, by rw [hz, Bool.and_false]; exact h0, fun k _ h => absurd h (by rw [hz]; simp)⟩⟩
  · rintro listed a w ⟨hls, h | ⟨h1, _⟩⟩ hr
    · exact h.2.2
    · exfalso
      have hall : ∀ k, k ≤ last → listed.getD k false = true := by
        intro k
        induction k using Nat.strongRecOn with
        | _ k ih =>
          intro hk
          cases hb : listed.getD k false with
          | true => rfl
          | false =>
            have := ready_of (ops := ops) (listed := listed) (i := k) (by omega) (by rw [← hb]; exact getD_in (by omega) _ _) (fun j hj => ih j hj (by omega)) hac
            rw [hr] at this
            cases this
      rw [hall last (Nat.le_refl _)] at h1
      cases h1
  · rintro listed a w i ⟨hls, h⟩ hi
    obtain ⟨hi1, hi2, _⟩ := ready_mem hi
    have hi3 : listed.getD i false = false := by rw [← hi2]; exact getD_in (by omega) _ _
    rcases h with ⟨_, h, _⟩ | ⟨h1, hcl, ho, hg, hf⟩
    · rw [h i (by omega)] at hi3; cases hi3
    · by_cases hil : i = last
      · subst hil
        have hall : ∀ n k, k < i → i ≤ k + n → listed.getD k false = true := by
          intro n
          induction n with
          | zero => intro k h1 h2; omega
          | succ n ih =>
            intro k hk hn
            have hx := List.all_eq_true.1 hnd k (List.mem_range.2 hk)
            obtain ⟨j, hj, hx⟩ := List.any_eq_true.1 hx
            rw [Bool.and_eq_true, decide_eq_true_eq] at hx
            have hj := List.mem_range.1 hj
            by_cases hji : j = i
            · rw [hji] at hx; exact ready_dep hi hx.2
            · exact hcl j k (by omega) (ih j (by omega) (by omega)) hx.2
        have hall2 : ∀ k, k < i → listed.getD k false = true := fun k hk => hall i k hk (by omega)
        refine wpOp_mono (fun a' w' hq => ?_) (hl a w _ ho (fun hp => by rw [hall2 p hp]; simp [hp]) hg (fun k hk => hf k hk (hall2 k hk)))
        refine ⟨by simp [hls], .inl ⟨?_, ?_, hq⟩⟩
        · rw [getD_set (by omega), if_pos rfl]
        · intro k hk
          rw [getD_set (by omega)]
          split
          · rfl
          · exact hall2 k (by omega)
      · have hil' : i < last := by omega
        refine wpOp_mono ?_ (hs i a w _ hil' (fun e => by rw [← e, hi3, Bool.and_false]) ho hg (fun k hk hd => hf k hk (ready_dep hi hd)))
        rintro a' w' ⟨v, rfl, he, hv, hg'⟩
        refine ⟨by simp [hls], .inr ⟨?_, ?_, ho.put (hD i hil'), ?_, ?_⟩⟩
        · rw [getD_set (by omega), if_neg (by omega)]; exact h1
        · intro j k hj hjl hd
          rw [getD_set (by omega)] at hjl ⊢
          split
          · rfl
          · by_cases hji : j = i
            · rw [hji] at hd; exact ready_dep hi hd
            · rw [if_neg hji] at hjl; exact hcl j k hj hjl hd
        · rw [getD_set (by omega)]
          by_cases hip : i = p
          · rw [if_pos hip] at hg'
            rw [if_pos hip.symm, Bool.and_true, decide_eq_true (by omega)]; exact hg'
          · rw [if_neg hip] at hg'
            rw [if_neg (fun e => hip e.symm)]; exact hg'
        · intro k hk hkl
          by_cases hki : k = i
          · subst hki
            rw [ag_put (by rw [ho.size]; exact hlt k hk)]; exact hv
          · rw [getD_set (by omega), if_neg hki] at hkl
            rw [ag_ne (fun e => hki (hinj i k hil' hk e).symm)]
            refine hF k _ w w' (if i = p then S else B) hk ?_ he (hf k hk hkl)
            by_cases hip : i = p
            · exact .inr ⟨if_pos hip, fun e => hki (e.trans hip.symm)⟩
            · exact .inl (if_neg hip)
end Go.Proofs.YtjbleefpafnhhaaDoor
