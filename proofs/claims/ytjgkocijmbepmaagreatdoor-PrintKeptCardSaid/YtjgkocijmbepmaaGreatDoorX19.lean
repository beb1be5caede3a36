/-
  The whole of the law's function, from what comes in.
-/
import Derived.Test.YtjgkocijmbepmaaGreatDoorX18
import Derived.Test.YtjgkocijmbepmaaGreatDoorX16
import Derived.Test.YtjgkocijmbepmaaGreatDoorX17
set_option linter.unusedVariables false
section
set_option linter.unusedVariables false
set_option linter.unusedSimpArgs false
namespace Go.Eng
open Go.RowKit Go.Proofs Go.Proofs.YtjgkocijmbepmaaGreatDoor
def bz2 : EnvT := fun f args objs => match f, args, objs with
  | 8, [], [] => some (.lf (.bool true), [])
  | _, _, _ => none
theorem bas_bz2 : Bas bz2 := ⟨fun f args objs h => by
  unfold bz2
  split
  · exact absurd rfl h
  · rfl, rfl⟩
theorem bz2_es : ES Tryz.prog glz Mp.bn bz2 := by
  intro f args objs r objs' h w G Z vs hI hr
  unfold bz2 at h
  split at h
  · cases h
    have := run_es 60 _ [] [] _ _ (callQ_spec 60 _ _ _ _ lives_runs) w G Z vs hI hr
    rw [show Mz.bn 8 ([] : List Ob).length = 0 by show (if _ then 0 else _) = 0; split <;> simp] at this
    rw [mp_bn]
    exact this
  · cases h
set_option maxRecDepth 100000 in
theorem law_es : ES Tryz.prog glz Mp.bn (Cn bz2 4) := callF_sound (P := Tryz.prog) (M := Mp) (base := bz2) (fu := 1000000) (hint := hz) bz2_es (okL_ok _) mixT 4
theorem fs_leaf {Z : Zn} {w : World} : ∀ vs : List Value, (∀ v ∈ vs, v.oneCell' = true) → FsR Z w (vs.map .leaf) vs
  | [], _ => fs_nil.2 rfl
  | v :: vs, h => fs_cons.2 ⟨v, vs, rfl, dt_leaf.2 ⟨rfl, h v (by simp)⟩, fs_leaf vs fun u hu => h u (by simp [hu])⟩
def Zw (W : World) : Zn := fun g _ => g < W.heap.size
theorem tab_fr {W : World} {g : Nat} {vs : List Value} (h : ∀ (j : Nat) (v : Value), vs[j]? = some v → W.cell? ⟨g, j, none⟩ = some v) : FrR (Zw W) W g 0 vs := fun j v hv => by
  rw [Nat.zero_add]
  have h1 := h j v hv
  exact ⟨h1, World.block_lt_of_cell? W _ h1⟩
theorem gok_tabs {W : World} (h : Tabs W) : Gok glz (Zw W) W := by
  intro g cs hg
  unfold glz at hg
  split at hg
  · cases hg
    refine ⟨kN.map fun (x : Nat) => Value.int .u8 (x : Int), tab_fr fun j v hv => ?_, ?_⟩
    · rw [List.getElem?_map] at hv
      obtain ⟨x, hx, rfl⟩ := Option.map_eq_some_iff.1 hv
      exact h.1 j x hx
    · exact fs_leaf (kN.map fun (x : Nat) => Value.int .u8 (x : Int)) fun v hv => by obtain ⟨x, _, rfl⟩ := List.mem_map.1 hv; rfl
  · cases hg
    refine ⟨sB.map Value.string, tab_fr fun j v hv => ?_, ?_⟩
    · rw [List.getElem?_map] at hv
      obtain ⟨x, hx, rfl⟩ := Option.map_eq_some_iff.1 hv
      exact h.2.1 j x hx
    · exact fs_leaf (sB.map Value.string) fun v hv => by obtain ⟨x, _, rfl⟩ := List.mem_map.1 hv; rfl
  · cases hg
    refine ⟨wB.map Value.string, tab_fr fun j v hv => ?_, ?_⟩
    · rw [List.getElem?_map] at hv
      obtain ⟨x, hx, rfl⟩ := Option.map_eq_some_iff.1 hv
      exact h.2.2 j x hx
    · exact fs_leaf (wB.map Value.string) fun v hv => by obtain ⟨x, _, rfl⟩ := List.mem_map.1 hv; rfl
  · cases hg
theorem inv_start {W : World} (h : Tabs W) : Inv glz (fun _ => none) (Zw W) W (HPl []) := ⟨fun id ob h => by have h : ([] : List Ob)[id]? = some ob := h; simp at h, fun id ob h => by have h : ([] : List Ob)[id]? = some ob := h; simp at h, fun id id' ob ob' i i' b h => by have h : ([] : List Ob)[id]? = some ob := h; simp at h, fun id i h => (by cases h), fun g o h => h, gok_tabs h⟩
theorem row_rep {W : World} {A : Option Addr} {cap : Nat} {z : List ByteArray} (h : Rd W W.heap.size A (ssv z)) (hc : z.length ≤ cap) (hm : cap ≤ maxLen) : Rep (fun _ => none) (Zw W) W (.fr 1 (rowS z) false) (.slice A z.length cap) := by
  rw [Rep]
  refine ⟨A, cap, by rw [rowS_len], ⟨by rw [rowS_len]; exact hc, hm, by omega⟩, by simp, rw_of fun j x hx => ?_⟩
  rw [rowS_get] at hx
  obtain ⟨s, hs, rfl⟩ := Option.map_eq_some_iff.1 hx
  rcases h with h | ⟨b, o, hA, hb, hcell⟩
  · unfold ssv at h
    rw [List.map_eq_nil_iff] at h
    subst h
    simp at hs
  · refine ⟨b, o, [.string s], hA, fun k v hv => ?_, rfl, fs_cons.2 ⟨_, [], rfl, dt_leaf.2 ⟨rfl, rfl⟩, fs_nil.2 rfl⟩⟩
    cases k with
    | zero =>
      cases hv
      refine ⟨?_, hb⟩
      have := hcell j (.string s) (by unfold ssv; rw [List.getElem?_map, hs]; rfl)
      simpa using this
    | succ k => simp at hv
theorem printKept_any (W : World) (hT : Tabs W) (A0 A1 A2 : Option Addr) (c0 c1 c2 : Nat) (z0 z1 z2 : List ByteArray) (n : Int) (s : ByteArray) (h0 : Rd W W.heap.size A0 (ssv z0)) (h1 : Rd W W.heap.size A1 (ssv z1)) (h2 : Rd W W.heap.size A2 (ssv z2)) (l0 : z0.length ≤ c0) (l1 : z1.length ≤ c1) (l2 : z2.length ≤ c2) (m0 : c0 ≤ maxLen) (m1 : c1 ≤ maxLen) (m2 : c2 ≤ maxLen) (hn : -9223372036854775808 ≤ n ∧ n ≤ 9223372036854775807) :
    Calls Tryz.prog 3 #[.slice A0 z0.length c0, .slice A1 z1.length c1, .slice A2 z2.length c2, .int .i64 n, .string s] W fun e W' => e = .returned (.bool true) ∧ Below W.heap.size W W' := by
  have := law_es _ _ _ _ _ (main_any bas_bz2 0 z0 z1 z2 n s hn) W (fun _ => none) (Zw W) [.slice A0 z0.length c0, .slice A1 z1.length c1, .slice A2 z2.length c2, .int .i64 n, .string s] (inv_start hT) (repl_cons.2 ⟨_, _, rfl, row_rep h0 l0 m0, repl_cons.2 ⟨_, _, rfl, row_rep h1 l1 m1, repl_cons.2 ⟨_, _, rfl, row_rep h2 l2 m2, repl_cons.2 ⟨_, _, rfl, rep_lf.2 rfl, repl_cons.2 ⟨_, _, rfl, rep_lf.2 rfl, repl_nil.2 rfl⟩⟩⟩⟩⟩)
  refine this.mono ?_
  rintro e W' ⟨v, G', Z', rfl, hst, _, hr⟩
  rw [rep_lf.1 hr]
  exact ⟨rfl, ⟨hst.bel.os, hst.bel.tape, hst.bel.output, hst.bel.size, fun k hk => hst.far k hk fun id i _ h => (by cases h)⟩⟩
end Go.Eng
end
