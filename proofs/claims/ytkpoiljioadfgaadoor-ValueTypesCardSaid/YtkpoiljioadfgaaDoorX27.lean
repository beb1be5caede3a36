import Derived.Test.YtkpoiljioadfgaaDoorX22
import Derived.Test.YtkpoiljioadfgaaDoorX26

set_option linter.unusedVariables false
set_option linter.unusedSimpArgs false
namespace Go.Proofs.YtkpoiljioadfgaaDoor
open Go.RowKit
def dTy (i : Nat) (kd : Nat) (sl : List Sl) : Df := ⟨0, 1, ((i + 1 : Nat) : Int), (kd : Int), 0, 1, 0, nmB i, sl, tI, exZ, 0, []⟩
theorem df_at2 (w : World) (i kd : Nat) (sl : List Sl) (sv : Value) (hs : SlsAt w sv sl) : DfAt w (dTy i kd sl) (df31 ((i + 1 : Nat) : Int) (kd : Int) (nmB i) sv) :=
  ⟨sv, [.int .i64 0, .int .i64 0, .int .i64 0, .int .i64 0, .slice none 0 0], [.int .i64 0, .int .i64 0, .int .i64 0, .int .i64 0, .int .i64 0, .int .i64 0, .int .i64 0, .int .i64 0, .int .i64 0, .int .i64 0, .int .i64 0, .int .i64 0, .slice none 0 0, .slice none 0 0, .slice none 0 0], .slice none 0 0, rfl, rfl, hs, tI_now w, ex_at w, strs_nil w⟩
theorem sls_of {w : World} {B : Nat} {sv : Value} {acc : List Sl} (h : GrowG 66 11 PS w B sv acc) : Foot (B ≤ ·) (fun W => SlsAt W sv acc) w := by
  obtain ⟨A, cap, rfl, h1, h2⟩ := h.shape
  refine h.get.2.imp fun W hW => ⟨A, cap, rfl, ⟨h1, h2⟩, fun j x hx => ?_⟩
  obtain ⟨g, o, C, a, b, c, d⟩ := hW j x hx
  exact ⟨g, o, C, a, b, d⟩
theorem pr_of {w : World} {B : Nat} {M : Nat → Prop} {mv dv : Value} {P : List Df} (h : GrowF 46 31 PD w B M dv P) (hm : mv.oneCell' = true) : PrAt w P (.agg #[mv, dv]) := by
  obtain ⟨A, cap, rfl, h1, h2⟩ := h.shape
  refine ⟨mv, A, cap, rfl, ⟨hm, h1, h2⟩, fun j d hd => ?_⟩
  obtain ⟨g, o, C, a, b, c, e⟩ := h.get.2 j d hd
  exact ⟨g, o, C, a, b, e⟩
structure SndP (P : List Df) : Prop where
  ids : ∀ (i : Nat) (d : Df), P[i]? = some d → d.a = 0 ∧ d.b = 1 ∧ d.c = 1 + (i : Int)
  knd : ∀ (i : Nat) (d : Df), P[i]? = some d → d.kind = 0 ∨ d.kind = 1
  slt : ∀ (i : Nat) (d : Df), P[i]? = some d → 1 ≤ d.slots.length ∧ d.slots.length ≤ 3 ∧ ∀ (j : Nat) (s : Sl), d.slots[j]? = some s → Gd i s.ty
  nm : ∀ d : Df, P[0]? = some d → d.name = ⟨#[80, 111, 105, 110, 116]⟩
theorem SndP.nil : SndP [] := ⟨fun _ _ h => by simp at h, fun _ _ h => by simp at h, fun _ _ h => by simp at h, fun _ h => by simp at h⟩
theorem snoc_get {α : Type} {xs : List α} {x y : α} {i : Nat} (h : (xs ++ [x])[i]? = some y) : xs[i]? = some y ∨ (i = xs.length ∧ y = x) := by
  by_cases hi : i < xs.length
  · rw [List.getElem?_append_left hi] at h; exact .inl h
  · rw [List.getElem?_append_right (by omega)] at h
    have hl := (List.getElem?_eq_some_iff.1 h).1
    simp at hl
    have : i = xs.length := by omega
    subst this
    simp at h
    exact .inr ⟨rfl, h.symm⟩
theorem SndP.snoc {P : List Df} (h : SndP P) (kd : Nat) (hk : kd < 2) (sl : List Sl) (h1 : 1 ≤ sl.length) (h2 : sl.length ≤ 3) (hg : ∀ s ∈ sl, Gd P.length s.ty) : SndP (P ++ [dTy P.length kd sl]) := by
  refine ⟨fun i d hd => ?_, fun i d hd => ?_, fun i d hd => ?_, fun d hd => ?_⟩
  · rcases snoc_get hd with e | ⟨rfl, rfl⟩
    · exact h.ids i d e
    · exact ⟨rfl, rfl, by show ((P.length + 1 : Nat) : Int) = _; omega⟩
  · rcases snoc_get hd with e | ⟨rfl, rfl⟩
    · exact h.knd i d e
    · show (kd : Int) = 0 ∨ (kd : Int) = 1; omega
  · rcases snoc_get hd with e | ⟨rfl, rfl⟩
    · exact h.slt i d e
    · exact ⟨h1, h2, fun j s hs => hg s (List.mem_of_getElem? hs)⟩
  · rcases snoc_get hd with e | ⟨e, rfl⟩
    · exact h.nm d e
    · show nmB P.length = _
      rw [← e]; rfl
theorem SndP.snd {P : List Df} (h : SndP P) (hl : 1 ≤ P.length ∧ P.length ≤ 4) : Snd P := ⟨hl, h.ids, h.knd, h.slt⟩
theorem mod_build (W : World) : (Instr.build 84 #[(0, .agg #[.int .i64 0, .int .i64 1, .int .i64 0]), (1, .string ⟨#[99, 111, 114, 101]⟩)]).run Tryd.prog W = .ok (.agg #[.int .i64 0, .int .i64 1, .int .i64 0, .string ⟨#[99, 111, 114, 101]⟩, .slice none 0 0, .slice none 0 0]) W :=
  run_build W _ _ _ (by kernel_rfl)
theorem growU_keep {w w' : World} {B : Nat} {v : Value} {U : List Unit} (h : GrowG 28 3 PU w B v U) (he : ∀ g, v.ownBlock = some g → w'.heap[g]? = w.heap[g]?) : GrowG 28 3 PU w' B v U := by
  obtain ⟨L, h1, h2, h3, h4⟩ := h
  refine ⟨L, ⟨h1.1, ?_⟩, h2, h3, fun _ _ _ _ _ => Foot.const trivial⟩
  rcases h1.2 with h5 | ⟨g, cap, cur, hv, hg, hh, r⟩
  · exact .inl h5
  · refine .inr ⟨g, cap, cur, hv, hg, ?_, r⟩
    rw [he g (by rw [hv]; rfl)]
    exact hh
end Go.Proofs.YtkpoiljioadfgaaDoor

namespace Go.Proofs.YtkpoiljioadfgaaDoor
open Go.RowKit
def Tie3 (jd : Nat) (P : List Df) (S : Nat) (a : Act) (w : World) : Prop := ∃ (gd : Nat) (x : Tr) (xk xn : Int) (xA : Option Addr) (xl xc : Nat), ag a 11 = .pointer (some ⟨gd, 0, none⟩) ∧ S ≤ gd ∧ Arr w gd 3 53 zc3 ∧ ag a 36 = .agg #[.int .i64 xk, .int .i64 xn, .slice xA xl xc] ∧ TrF (fun g => S ≤ g ∧ g ≠ gd) w x (.agg #[.int .i64 xk, .int .i64 xn, .slice xA xl xc]) ∧ (ft P x (tD jd) = true ∧ x.nodes ≤ 256 ∧ x.dep ≤ 10)
theorem Tie3.ext {jd : Nat} {P : List Df} {S : Nat} : ∀ a w a' w', Tie3 jd P S a w → ag a' 36 = ag a 36 → ag a' 11 = ag a 11 → (Ext S w w' ∨ Never w w') → Tie3 jd P S a' w' := by
  rintro a w a' w' ⟨gd, x, xk, xn, xA, xl, xc, h1, h2, h3, h4, h5, h6⟩ e1 e2 he
  rcases he with he | he
  · exact ⟨gd, x, xk, xn, xA, xl, xc, e2.trans h1, h2, h3.ext he h2, e1.trans h4, h5.keep (fun _ h => h) (fun g h hl => he.2 g h.1 hl), h6⟩
  · exact absurd he id
end Go.Proofs.YtkpoiljioadfgaaDoor

