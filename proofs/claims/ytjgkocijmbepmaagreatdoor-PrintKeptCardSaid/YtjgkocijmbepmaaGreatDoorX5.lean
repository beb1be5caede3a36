/-
  What the machine is told of print, and what it does not run itself.
-/
import Derived.Test.YtjgkocijmbepmaaGreatDoorX3
import Derived.Test.YtjgkocijmbepmaaGreatDoorX4
import Derived.KernelRfl
set_option linter.unusedVariables false
section
set_option linter.unusedVariables false
set_option linter.unusedSimpArgs false
namespace Go.Eng
open Go.RowKit Go.Proofs Go.Proofs.YtjgkocijmbepmaaGreatDoor
def stL (l : List UInt8) : Dt := .leaf (.string ⟨⟨l⟩⟩)
def kindsL : List Dt := [.leaf (.int .u8 0), .leaf (.int .u8 0), .leaf (.int .u8 0), .leaf (.int .u8 0), .leaf (.int .u8 0), .leaf (.int .u8 0), .leaf (.int .u8 0), .leaf (.int .u8 0), .leaf (.int .u8 0), .leaf (.int .u8 0), .leaf (.int .u8 1), .leaf (.int .u8 0), .leaf (.int .u8 0), .leaf (.int .u8 0), .leaf (.int .u8 0), .leaf (.int .u8 0), .leaf (.int .u8 0), .leaf (.int .u8 0), .leaf (.int .u8 0), .leaf (.int .u8 0), .leaf (.int .u8 0), .leaf (.int .u8 0), .leaf (.int .u8 0), .leaf (.int .u8 0), .leaf (.int .u8 0), .leaf (.int .u8 0), .leaf (.int .u8 0), .leaf (.int .u8 0), .leaf (.int .u8 0), .leaf (.int .u8 0), .leaf (.int .u8 0), .leaf (.int .u8 0), .leaf (.int .u8 1), .leaf (.int .u8 0), .leaf (.int .u8 0), .leaf (.int .u8 2), .leaf (.int .u8 0), .leaf (.int .u8 5), .leaf (.int .u8 0), .leaf (.int .u8 0), .leaf (.int .u8 5), .leaf (.int .u8 5), .leaf (.int .u8 5), .leaf (.int .u8 5), .leaf (.int .u8 5), .leaf (.int .u8 5), .leaf (.int .u8 5), .leaf (.int .u8 5), .leaf (.int .u8 3), .leaf (.int .u8 3), .leaf (.int .u8 3), .leaf (.int .u8 3), .leaf (.int .u8 3), .leaf (.int .u8 3), .leaf (.int .u8 3), .leaf (.int .u8 3), .leaf (.int .u8 3), .leaf (.int .u8 3), .leaf (.int .u8 5), .leaf (.int .u8 0), .leaf (.int .u8 5), .leaf (.int .u8 5), .leaf (.int .u8 0), .leaf (.int .u8 0), .leaf (.int .u8 0), .leaf (.int .u8 4), .leaf (.int .u8 4), .leaf (.int .u8 4), .leaf (.int .u8 4), .leaf (.int .u8 4), .leaf (.int .u8 4), .leaf (.int .u8 4), .leaf (.int .u8 4), .leaf (.int .u8 4), .leaf (.int .u8 4), .leaf (.int .u8 4), .leaf (.int .u8 4), .leaf (.int .u8 4), .leaf (.int .u8 4), .leaf (.int .u8 4), .leaf (.int .u8 4), .leaf (.int .u8 4), .leaf (.int .u8 4), .leaf (.int .u8 4), .leaf (.int .u8 4), .leaf (.int .u8 4), .leaf (.int .u8 4), .leaf (.int .u8 4), .leaf (.int .u8 4), .leaf (.int .u8 4), .leaf (.int .u8 4), .leaf (.int .u8 5), .leaf (.int .u8 0), .leaf (.int .u8 5), .leaf (.int .u8 0), .leaf (.int .u8 0), .leaf (.int .u8 0), .leaf (.int .u8 4), .leaf (.int .u8 4), .leaf (.int .u8 4), .leaf (.int .u8 4), .leaf (.int .u8 4), .leaf (.int .u8 4), .leaf (.int .u8 4), .leaf (.int .u8 4), .leaf (.int .u8 4), .leaf (.int .u8 4), .leaf (.int .u8 4), .leaf (.int .u8 4), .leaf (.int .u8 4), .leaf (.int .u8 4), .leaf (.int .u8 4), .leaf (.int .u8 4), .leaf (.int .u8 4), .leaf (.int .u8 4), .leaf (.int .u8 4), .leaf (.int .u8 4), .leaf (.int .u8 4), .leaf (.int .u8 4), .leaf (.int .u8 4), .leaf (.int .u8 4), .leaf (.int .u8 4), .leaf (.int .u8 4), .leaf (.int .u8 5), .leaf (.int .u8 0), .leaf (.int .u8 5)]
def signsL : List Dt := [stL [61, 61], stL [45, 62], stL [40], stL [41], stL [123], stL [125], stL [91], stL [93], stL [44], stL [58], stL [46], stL [61], stL [43], stL [45], stL [42], stL [47], stL [37], stL [60]]
def keysL : List Dt := [stL [114, 101, 99], stL [99, 97, 115, 101], stL [102, 117, 110], stL [111, 110], stL [116, 101, 115, 116], stL [99, 111, 110, 118]]
def glz : Nat → Option (List Dt) := fun g => match g with
  | 0 => some kindsL
  | 1 => some signsL
  | 2 => some keysL
  | _ => none
def roL : List (Nat × Nat) := [(16, 1099511627775), (11, 1099511627775), (12, 1099511627775), (10, 1099511627775), (5, 1099511627775), (86, 1099511627775), (61, 1099511627775), (41, 1099511627775), (39, 1099511627775), (23, 1099511627775), (42, 1099511627775), (24, 1099511627775), (64, 1099511627774), (65, 1099511627774), (67, 1099511627774), (69, 1099511627774), (43, 1099511627774), (44, 1099511627774), (89, 1099511627774), (45, 1099511627774), (161, 1099511627775), (152, 1099511627775), (136, 1099511627774), (123, 1099511627774), (114, 1099511627774), (63, 1099511627775), (93, 1099511627774), (70, 1099511627774), (60, 1099511627775), (46, 1099511627771), (47, 1099511627770), (25, 1099511627770), (17, 1099511627775), (4, 1099511627775), (53, 1099511627775), (81, 1099511627775), (55, 1099511627775), (54, 1099511627775), (109, 1099511627775), (82, 1099511627775), (56, 1099511627775), (110, 1099511627775), (83, 1099511627775), (30, 1099511627775), (57, 1099511627775), (32, 1099511627775), (31, 1099511627775), (18, 1099511627775), (28, 1099511627775), (72, 1099511627775), (38, 1099511627775), (40, 1099511627775), (71, 1099511627775), (49, 1099511627775), (98, 1099511627775), (50, 1099511627775), (99, 1099511627775), (95, 1099511627775), (73, 1099511627775), (96, 1099511627775), (97, 1099511627775), (74, 1099511627775), (75, 1099511627775), (51, 1099511627775), (77, 1099511627775), (68, 1099511627775), (139, 1099511627775), (124, 1099511627775), (115, 1099511627775), (101, 1099511627772), (78, 1099511627772), (76, 1099511627772), (80, 1099511627772), (52, 1099511627774), (29, 1099511627774), (34, 1099511627775), (9, 1099511627775), (21, 1099511627775), (22, 1099511627775), (13, 1099511627775), (58, 1099511627772), (33, 1099511627775), (19, 1099511627775), (35, 1099511627768), (36, 1099511627772), (20, 1099511627775), (8, 1099511627775)]
def roz (f : Nat) : Nat := match roL.lookup f with
  | some m => m
  | none => 0
noncomputable def Mz : Prm := { GL := glz, okF := okL Tryz.prog, SH := fun _ => [], argS := fun _ => none, resS := fun _ => none, ro := roz, ban := 0 }
def sgT : List (List UInt8 × Int) := [([43], 5), ([45], 5), ([42], 6), ([47], 6), ([37], 6), ([60], 3), ([61, 61], 3), ([97, 110, 100], 2), ([111, 114], 1), ([110, 111, 116], 7), ([106, 111, 105, 110], 4), ([108, 101, 110], 7)]
def b27 (args : List TV) (objs : List Ob) : Option (TV × List Ob) := match args, objs with
  | [], [] => some (.pt 0 0, [.vr 92 (.lf (.slice none 0 0) :: sgT.flatMap fun p => [.lf (.string ⟨⟨p.1⟩⟩), .lf (.int .i64 p.2)])])
  | _, _ => none
def bz : EnvT := fun f args objs => match f with
  | 27 => b27 args objs
  | 37 => b37 args objs
  | 59 => b59 args objs
  | 85 => b85 args objs
  | _ => none
theorem sg_cells (G : Gh) (Z : Zn) (w : World) : RepL G Z w (.lf (.slice none 0 0) :: sgT.flatMap fun p => [.lf (.string ⟨⟨p.1⟩⟩), .lf (.int .i64 p.2)]) (.slice none 0 0 :: sgC) := by
  have h : (.lf (.slice none 0 0) :: sgT.flatMap fun p => [TV.lf (.string ⟨⟨p.1⟩⟩), .lf (.int .i64 p.2)]) = (Value.slice none 0 0 :: sgC).map .lf := rfl
  rw [h]
  exact repl_lfs G Z w _
section
variable {GL : Nat → Option (List Dt)} {G : Gh} {Z : Zn} {w : World} {args : List TV} {hp hp' : List Ob} {r : TV} {vs : List Value}
theorem es27 (h : b27 args hp = some (r, hp')) (hI : Inv GL G Z w (HPl hp)) (hr : RepL G Z w args vs) : Calls Tryz.prog 27 vs.toArray w fun e w' => ∃ v G' Z', e = .returned v ∧ Stp G G' Z Z' w w' (TB 0) ∧ Inv GL G' Z' w' (HPl hp') ∧ Rep G' Z' w' r v := by
  unfold b27 at h
  split at h
  · cases h
    rw [repl_nil.1 hr]
    refine (newwriter_any w).mono ?_
    rintro e w' ⟨rfl, hb, hA⟩
    have hn : ∀ id, G id = none := fun id => by
      cases hG : G id with
      | none => rfl
      | some i =>
        obtain ⟨ob, ho⟩ := hI.dom id i hG
        have ho : ([] : List Ob)[id]? = some ob := ho
        simp at ho
    have hheap : w'.heap[w.heap.size]? = some (.cells (Value.slice none 0 0 :: sgC).toArray 92 (0, 0)) := by
      rcases hA.2 with ⟨h1, _⟩ | ⟨g, cap, cur, hv, _, hg, _, _, hcs, htk⟩
      · cases h1
      · cases hv
        have : cur = (Value.slice none 0 0 :: sgC).toArray := by
          apply Array.ext'
          have h2 : cur.toList.length = 25 := by rw [Array.length_toList]; exact hcs
          rw [← htk, List.take_of_length_le (by omega)]
        rw [← this]; exact hg
    have st := stp_new (n := 0) (k := 0) (i0 := (.pointer (some ⟨w.heap.size, 0, none⟩))) hI.zlt (hn 0) (fun b hb => by cases hb; exact Nat.le_refl _) hb w.heap.size (.inl rfl)
    have res := res_new (hp := []) (ob := .vr 92 (.lf (.slice none 0 0) :: sgT.flatMap fun p => [.lf (.string ⟨⟨p.1⟩⟩), .lf (.int .i64 p.2)])) (res := .pt 0 0) (v := .pointer (some ⟨w.heap.size, 0, none⟩)) (i0 := (.pointer (some ⟨w.heap.size, 0, none⟩))) (k := 0) hI (hn 0) (fun b hb => by cases hb; exact Nat.le_refl _) hb w.heap.size (.inl rfl) (by rw [Rep]; exact ⟨w.heap.size, ⟨_, gup_self, rfl⟩, rfl⟩) ⟨w.heap.size, _, gup_self, hheap, sg_cells _ _ _, by decide⟩ (by
      intro i b hi hb o hz
      rw [List.length_nil, gup_self] at hi; cases hi
      cases hb
      rcases hz with hz | ⟨_, hz⟩
      · exact Nat.lt_irrefl _ (hI.zlt _ _ hz)
      · omega)
    have res' := res
    rw [List.nil_append] at res'
    refine ⟨_, _, _, rfl, res.stp.mono fun id h => ?_, inv_full (R := 0) (W := 0) hI (ext_app (hp := []) (l := [_]) (t := .pt 0 0) (R := 0)) (fun id i hT hi => by rw [hn id] at hi; cases hi) res, res.rep⟩
    exact Nat.zero_testBit _
  · cases h
end
theorem bn0 (f n : Nat) (h : roz f = 0) : Mz.bn f n = 0 := by
  unfold Prm.bn
  split
  · rfl
  · show (2 ^ n - 1) &&& roz f = 0
    rw [h, Nat.and_zero]
theorem bz_es : ES Tryz.prog glz Mz.bn bz := by
  intro f args objs r objs' h w G Z vs hI hr
  unfold bz at h
  split at h
  · have h27 : objs = [] := by
      unfold b27 at h
      split at h
      · rfl
      · cases h
    have := es27 h hI hr
    subst h27
    rw [show Mz.bn 27 ([] : List Ob).length = 0 by show (if _ then 0 else _) = 0; split <;> simp]
    exact this
  · rw [bn0 37 _ rfl]; exact es37 h hI hr
  · rw [bn0 59 _ rfl]; exact es59 h hI hr
  · exact es85 h hI hr
  · cases h
set_option maxRecDepth 100000 in
theorem run_es (n : Nat) : ES Tryz.prog glz Mz.bn (callF Tryz.prog Mz bz 1000 (fun _ => noH) n) := callF_sound (P := Tryz.prog) (M := Mz) (base := bz) (fu := 1000) (hint := fun _ => noH) bz_es (okL_ok _) mixT n
end Go.Eng
end
