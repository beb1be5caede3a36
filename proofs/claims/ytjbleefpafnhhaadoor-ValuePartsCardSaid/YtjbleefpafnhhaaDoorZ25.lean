import Derived.Test.YtjbleefpafnhhaaDoorZ08
import Derived.Test.YtjbleefpafnhhaaDoorZ12
import Derived.Test.YtjbleefpafnhhaaDoorZ15
import Derived.Test.YtjbleefpafnhhaaDoorZ16
import Derived.Test.YtjbleefpafnhhaaDoorZ20
import Derived.Test.YtjbleefpafnhhaaDoorZ24
import Derived.Deep.AppendLies
/-
  What the functions come to on the example of the chapter.
-/
set_option linter.unusedVariables false
namespace Go.Proofs.YtjbleefpafnhhaaDoor
open Go.RowKit

def lf (n : Int) : Tr := .node 0 n []
def bxE : Tr := .node 3 1 [.node 2 0 [lf 1, lf (-2)]]
def wrE : Tr := .node 3 1 [lf 1]
def liE : Tr := .node 4 0 [lf 3, lf 0]
def niE : Tr := .node 4 0 [lf 9]
def onE : Tr := .node 4 0 [lf 1, lf 1]
def fiE : Tr := .node 4 0 [lf 5]
theorem ex_vty : vty pEx 24 (tD 1) = true := by decide
theorem ex_vty' : vty pEx 24 (tD 2) = false := by decide
theorem ex_same : (tD 1).same (tD 1) = true := by decide
theorem ex_same' : (tD 1).same (tD 0) = false := by decide
theorem ex_wt : bxE.wt = 4 := by decide +kernel
theorem ex_wt' : liE.wt = 5 := by decide +kernel
theorem ex_sz : bxE.sz = 4 := by decide +kernel
theorem ex_cp1 : (lf 2).cp (.node 1 1 []) = -1 := by decide
theorem ex_cp2 : niE.cp onE = -1 := by decide
theorem ex_cp3 : onE.cp niE = 1 := by decide
theorem ex_zr1 : (zr pEx 24 (tD 0) 0) = (0, .node 2 0 [lf 0, lf 0], 3) := by rfl
theorem ex_zr2 : (zr pEx 24 (tD 1) 0) = (0, .node 3 0 [lf 0], 2) := by rfl
theorem ex_pv1 : (pv pEx bxE (tD 1) 24 0).1 = true := by decide
theorem ex_pv2 : (pv pEx wrE (tD 1) 24 0).1 = false := by decide
theorem ex_en : fiE.en = [129, 4, 128, 129, 1, 128, 129, 5, 128] := by decide +kernel
theorem ex_dz : (dz [129, 4, 128, 129, 1, 128, 129, 5, 128] 24 0 0) = (0, fiE, 9, 2) := by kernel_rfl
end Go.Proofs.YtjbleefpafnhhaaDoor
/-
  slices.Clone of lists of slots, types, expressions.
-/
set_option linter.unusedVariables false
set_option linter.unusedSimpArgs false
namespace Go.Proofs.YtjbleefpafnhhaaDoor
open Go.RowKit

theorem info_slots3 : (Tryd.prog.info? 66).map (fun i => (i.zero, i.size, i.bytes)) = some (some (.agg #[.int .i64 0, .int .i64 0, .int .i64 0, .string ⟨#[]⟩, .int .i64 0, .int .i64 0, .int .i64 0, .int .i64 0, .slice none 0 0, .int .i64 0, .int .i64 0]), 11, 112) := by kernel_rfl
set_option maxHeartbeats 400000 in
set_option maxRecDepth 100000 in
theorem clone_slots (w : World) (g o m cap : Nat) (C : List Value) (hC : C.length = m * 11) (hr : w.rangeAt g o C) (h1 : ∀ u ∈ C, u.oneCell' = true) (hm : 0 < m) (hmc : m ≤ cap ∧ cap ≤ maxLen) (hb : m * 112 ≤ 140737488355328) :
    Calls Tryd.prog 87 #[.slice (some ⟨g, o, none⟩) m cap] w (fun e w' => ∃ h c', e = .returned (.slice (some ⟨h, 0, none⟩) m c') ∧ w'.ownsRow w.heap.size 66 11 (.slice (some ⟨h, 0, none⟩) m c') m C ∧ Below w.heap.size w w') := by
  have heq : ∀ W, (binOp BinOp.eql 40 (.slice (some ⟨g, o, none⟩) m cap) (.slice none 0 0)).run Tryd.prog W = .ok (.bool false) W := fun W => by kernel_rfl
  have HNW : Hid (∀ j u, C[j]? = some u → (w.alloc (.cells #[] 66)).cell? ((⟨g, o, none⟩ : Addr).add j) = some u) := Lib.hid fun j u hu => by
    have h := range_below hr (new_later w (.cells #[] 66)) j u hu
    have ha : (⟨g, o, none⟩ : Addr).add j = ⟨g, o + j, none⟩ := by unfold Addr.add; split <;> simp_all
    rw [ha]; exact h
  have HOW : Hid ((w.alloc (.cells #[] 66)).ownsRow w.heap.size 66 11 (.slice (some ⟨w.heap.size, 0, none⟩) 0 0) 0 []) := Lib.hid (World.ownsRow_made w #[] 0 (Nat.le_refl _) (by simp [maxLen]) rfl)
  obtain ⟨i0, hi0, hz0, hz1, hz2⟩ := info_parts info_slots3
  have HI := Lib.hid (And.intro hi0 (And.intro hz0 (And.intro hz1 hz2)))
  have HH := Lib.hid (And.intro hC (And.intro h1 (And.intro hm (And.intro hmc hb))))
  clear hr hC h1 hm hmc hb hi0 hz0 hz1 hz2
  go_enter Tryd.func87, Tryd.ntmps87
  go_wp2_with (at_builtin; refine wpList_append_lies _ rfl _ _ _ rfl w.heap.size 66 i0 (.agg #[.int .i64 0, .int .i64 0, .int .i64 0, .string ⟨#[]⟩, .int .i64 0, .int .i64 0, .int .i64 0, .int .i64 0, .slice none 0 0, .int .i64 0, .int .i64 0]) 11 112 rfl HI.out.1 HI.out.2.1 HI.out.2.2.1 HI.out.2.2.2 rfl (by omega) (.slice (some ⟨w.heap.size, 0, none⟩) 0 0) 0 [] rfl HOW.out ⟨g, o, none⟩ m cap C rfl HH.out.1 HNW.out HH.out.2.1 HH.out.2.2.1 (by have := HH.out.2.2.2.1; omega) (by have := HH.out.2.2.2.2; omega) (by simp) (w.heap.size + 1) (by simp) ?_; intro h c' w' hown hgr hat hlt; have HO := Lib.hid hown; have HG := Lib.hid hgr; clear hown hgr hat hlt)
  go_ret
  refine ⟨h, c', by simp, ?_, ?_⟩
  · have := HO.out; simpa using this
  · exact ((new_later w (.cells #[] 66)).mono (Nat.le_refl _)).grown HG.out (by simp) (fun k hk => by simp [Value.ownBlock] at hk; omega)

theorem info_types3 : (Tryd.prog.info? 31).map (fun i => (i.zero, i.size, i.bytes)) = some (some (.agg #[.int .i64 0, .int .i64 0, .int .i64 0, .int .i64 0, .slice none 0 0]), 5, 56) := by kernel_rfl
set_option maxHeartbeats 400000 in
set_option maxRecDepth 100000 in
theorem clone_types (w : World) (g o m cap : Nat) (C : List Value) (hC : C.length = m * 5) (hr : w.rangeAt g o C) (h1 : ∀ u ∈ C, u.oneCell' = true) (hm : 0 < m) (hmc : m ≤ cap ∧ cap ≤ maxLen) (hb : m * 56 ≤ 140737488355328) :
    Calls Tryd.prog 92 #[.slice (some ⟨g, o, none⟩) m cap] w (fun e w' => ∃ h c', e = .returned (.slice (some ⟨h, 0, none⟩) m c') ∧ w'.ownsRow w.heap.size 31 5 (.slice (some ⟨h, 0, none⟩) m c') m C ∧ Below w.heap.size w w') := by
  have heq : ∀ W, (binOp BinOp.eql 29 (.slice (some ⟨g, o, none⟩) m cap) (.slice none 0 0)).run Tryd.prog W = .ok (.bool false) W := fun W => by kernel_rfl
  have HNW : Hid (∀ j u, C[j]? = some u → (w.alloc (.cells #[] 31)).cell? ((⟨g, o, none⟩ : Addr).add j) = some u) := Lib.hid fun j u hu => by
    have h := range_below hr (new_later w (.cells #[] 31)) j u hu
    have ha : (⟨g, o, none⟩ : Addr).add j = ⟨g, o + j, none⟩ := by unfold Addr.add; split <;> simp_all
    rw [ha]; exact h
  have HOW : Hid ((w.alloc (.cells #[] 31)).ownsRow w.heap.size 31 5 (.slice (some ⟨w.heap.size, 0, none⟩) 0 0) 0 []) := Lib.hid (World.ownsRow_made w #[] 0 (Nat.le_refl _) (by simp [maxLen]) rfl)
  obtain ⟨i0, hi0, hz0, hz1, hz2⟩ := info_parts info_types3
  have HI := Lib.hid (And.intro hi0 (And.intro hz0 (And.intro hz1 hz2)))
  have HH := Lib.hid (And.intro hC (And.intro h1 (And.intro hm (And.intro hmc hb))))
  clear hr hC h1 hm hmc hb hi0 hz0 hz1 hz2
  go_enter Tryd.func92, Tryd.ntmps92
  go_wp2_with (at_builtin; refine wpList_append_lies _ rfl _ _ _ rfl w.heap.size 31 i0 (.agg #[.int .i64 0, .int .i64 0, .int .i64 0, .int .i64 0, .slice none 0 0]) 5 56 rfl HI.out.1 HI.out.2.1 HI.out.2.2.1 HI.out.2.2.2 rfl (by omega) (.slice (some ⟨w.heap.size, 0, none⟩) 0 0) 0 [] rfl HOW.out ⟨g, o, none⟩ m cap C rfl HH.out.1 HNW.out HH.out.2.1 HH.out.2.2.1 (by have := HH.out.2.2.2.1; omega) (by have := HH.out.2.2.2.2; omega) (by simp) (w.heap.size + 1) (by simp) ?_; intro h c' w' hown hgr hat hlt; have HO := Lib.hid hown; have HG := Lib.hid hgr; clear hown hgr hat hlt)
  go_ret
  refine ⟨h, c', by simp, ?_, ?_⟩
  · have := HO.out; simpa using this
  · exact ((new_later w (.cells #[] 31)).mono (Nat.le_refl _)).grown HG.out (by simp) (fun k hk => by simp [Value.ownBlock] at hk; omega)

theorem info_exprs3 : (Tryd.prog.info? 44).map (fun i => (i.zero, i.size, i.bytes)) = some (some (.agg #[.int .i64 0, .int .i64 0, .int .i64 0, .int .i64 0, .int .i64 0, .int .i64 0, .int .i64 0, .int .i64 0, .int .i64 0, .int .i64 0, .int .i64 0, .int .i64 0, .slice none 0 0, .slice none 0 0, .slice none 0 0]), 15, 168) := by kernel_rfl
set_option maxHeartbeats 400000 in
set_option maxRecDepth 100000 in
theorem clone_exprs (w : World) (g o m cap : Nat) (C : List Value) (hC : C.length = m * 15) (hr : w.rangeAt g o C) (h1 : ∀ u ∈ C, u.oneCell' = true) (hm : 0 < m) (hmc : m ≤ cap ∧ cap ≤ maxLen) (hb : m * 168 ≤ 140737488355328) :
    Calls Tryd.prog 93 #[.slice (some ⟨g, o, none⟩) m cap] w (fun e w' => ∃ h c', e = .returned (.slice (some ⟨h, 0, none⟩) m c') ∧ w'.ownsRow w.heap.size 44 15 (.slice (some ⟨h, 0, none⟩) m c') m C ∧ Below w.heap.size w w') := by
  have heq : ∀ W, (binOp BinOp.eql 41 (.slice (some ⟨g, o, none⟩) m cap) (.slice none 0 0)).run Tryd.prog W = .ok (.bool false) W := fun W => by kernel_rfl
  have HNW : Hid (∀ j u, C[j]? = some u → (w.alloc (.cells #[] 44)).cell? ((⟨g, o, none⟩ : Addr).add j) = some u) := Lib.hid fun j u hu => by
    have h := range_below hr (new_later w (.cells #[] 44)) j u hu
    have ha : (⟨g, o, none⟩ : Addr).add j = ⟨g, o + j, none⟩ := by unfold Addr.add; split <;> simp_all
    rw [ha]; exact h
  have HOW : Hid ((w.alloc (.cells #[] 44)).ownsRow w.heap.size 44 15 (.slice (some ⟨w.heap.size, 0, none⟩) 0 0) 0 []) := Lib.hid (World.ownsRow_made w #[] 0 (Nat.le_refl _) (by simp [maxLen]) rfl)
  obtain ⟨i0, hi0, hz0, hz1, hz2⟩ := info_parts info_exprs3
  have HI := Lib.hid (And.intro hi0 (And.intro hz0 (And.intro hz1 hz2)))
  have HH := Lib.hid (And.intro hC (And.intro h1 (And.intro hm (And.intro hmc hb))))
  clear hr hC h1 hm hmc hb hi0 hz0 hz1 hz2
  go_enter Tryd.func93, Tryd.ntmps93
  go_wp2_with (at_builtin; refine wpList_append_lies _ rfl _ _ _ rfl w.heap.size 44 i0 (.agg #[.int .i64 0, .int .i64 0, .int .i64 0, .int .i64 0, .int .i64 0, .int .i64 0, .int .i64 0, .int .i64 0, .int .i64 0, .int .i64 0, .int .i64 0, .int .i64 0, .slice none 0 0, .slice none 0 0, .slice none 0 0]) 15 168 rfl HI.out.1 HI.out.2.1 HI.out.2.2.1 HI.out.2.2.2 rfl (by omega) (.slice (some ⟨w.heap.size, 0, none⟩) 0 0) 0 [] rfl HOW.out ⟨g, o, none⟩ m cap C rfl HH.out.1 HNW.out HH.out.2.1 HH.out.2.2.1 (by have := HH.out.2.2.2.1; omega) (by have := HH.out.2.2.2.2; omega) (by simp) (w.heap.size + 1) (by simp) ?_; intro h c' w' hown hgr hat hlt; have HO := Lib.hid hown; have HG := Lib.hid hgr; clear hown hgr hat hlt)
  go_ret
  refine ⟨h, c', by simp, ?_, ?_⟩
  · have := HO.out; simpa using this
  · exact ((new_later w (.cells #[] 44)).mono (Nat.le_refl _)).grown HG.out (by simp) (fun k hk => by simp [Value.ownBlock] at hk; omega)
end Go.Proofs.YtjbleefpafnhhaaDoor
/-
  Copies of lists that are nil.
-/
set_option linter.unusedVariables false
set_option linter.unusedSimpArgs false
namespace Go.Proofs.YtjbleefpafnhhaaDoor
open Go.RowKit

set_option maxHeartbeats 400000 in
set_option maxRecDepth 100000 in
theorem clonenil_slots (w : World) : Calls Tryd.prog 87 #[.slice none 0 0] w (fun e w' => e = .returned (.slice none 0 0) ∧ w' = w) := by
  have heq : ∀ W, (binOp BinOp.eql 40 (.slice none 0 0) (.slice none 0 0)).run Tryd.prog W = .ok (.bool true) W := fun W => by kernel_rfl
  go_enter Tryd.func87, Tryd.ntmps87
  go_wp2_with fail
  go_ret
  exact ⟨by simp, by simp⟩

set_option maxHeartbeats 400000 in
set_option maxRecDepth 100000 in
theorem copynil_slots (f : Value) (w : World) : Calls Tryd.prog 75 #[.slice none 0 0, f] w (fun e w' => e = .returned (.slice none 0 0) ∧ w' = w) := by
  have HC := Lib.hid (clonenil_slots w)
  go_enter Tryd.func75, Tryd.ntmps75
  go_wp2_with (go_at_call 87; (with_reducible refine HC.out.mono ?_); rintro e w2 ⟨rfl, hw2⟩; rw [hw2]; clear hw2)
  go_loopw [11] (fun i W => i = .int .i64 0 ∧ W = w) (fun _ _ => 0)
  case atStart => exact ⟨rfl, rfl⟩
  case round =>
    obtain ⟨rfl, hw⟩ := hrel
    subst hw
    go_wp2_with fail
    go_ret
    exact ⟨by simp, by simp⟩

set_option maxHeartbeats 400000 in
set_option maxRecDepth 100000 in
theorem clonenil_types (w : World) : Calls Tryd.prog 92 #[.slice none 0 0] w (fun e w' => e = .returned (.slice none 0 0) ∧ w' = w) := by
  have heq : ∀ W, (binOp BinOp.eql 29 (.slice none 0 0) (.slice none 0 0)).run Tryd.prog W = .ok (.bool true) W := fun W => by kernel_rfl
  go_enter Tryd.func92, Tryd.ntmps92
  go_wp2_with fail
  go_ret
  exact ⟨by simp, by simp⟩

set_option maxHeartbeats 400000 in
set_option maxRecDepth 100000 in
theorem copynil_types (f : Value) (w : World) : Calls Tryd.prog 88 #[.slice none 0 0, f] w (fun e w' => e = .returned (.slice none 0 0) ∧ w' = w) := by
  have HC := Lib.hid (clonenil_types w)
  go_enter Tryd.func88, Tryd.ntmps88
  go_wp2_with (go_at_call 92; (with_reducible refine HC.out.mono ?_); rintro e w2 ⟨rfl, hw2⟩; rw [hw2]; clear hw2)
  go_loopw [11] (fun i W => i = .int .i64 0 ∧ W = w) (fun _ _ => 0)
  case atStart => exact ⟨rfl, rfl⟩
  case round =>
    obtain ⟨rfl, hw⟩ := hrel
    subst hw
    go_wp2_with fail
    go_ret
    exact ⟨by simp, by simp⟩

set_option maxHeartbeats 400000 in
set_option maxRecDepth 100000 in
theorem clonenil_exprs (w : World) : Calls Tryd.prog 93 #[.slice none 0 0] w (fun e w' => e = .returned (.slice none 0 0) ∧ w' = w) := by
  have heq : ∀ W, (binOp BinOp.eql 41 (.slice none 0 0) (.slice none 0 0)).run Tryd.prog W = .ok (.bool true) W := fun W => by kernel_rfl
  go_enter Tryd.func93, Tryd.ntmps93
  go_wp2_with fail
  go_ret
  exact ⟨by simp, by simp⟩

set_option maxHeartbeats 400000 in
set_option maxRecDepth 100000 in
theorem copynil_exprs (f : Value) (w : World) : Calls Tryd.prog 89 #[.slice none 0 0, f] w (fun e w' => e = .returned (.slice none 0 0) ∧ w' = w) := by
  have HC := Lib.hid (clonenil_exprs w)
  go_enter Tryd.func89, Tryd.ntmps89
  go_wp2_with (go_at_call 93; (with_reducible refine HC.out.mono ?_); rintro e w2 ⟨rfl, hw2⟩; rw [hw2]; clear hw2)
  go_loopw [11] (fun i W => i = .int .i64 0 ∧ W = w) (fun _ _ => 0)
  case atStart => exact ⟨rfl, rfl⟩
  case round =>
    obtain ⟨rfl, hw⟩ := hrel
    subst hw
    go_wp2_with fail
    go_ret
    exact ⟨by simp, by simp⟩

set_option maxHeartbeats 400000 in
set_option maxRecDepth 100000 in
theorem clonenil_strs (w : World) : Calls Tryd.prog 79 #[.slice none 0 0] w (fun e w' => e = .returned (.slice none 0 0) ∧ w' = w) := by
  have heq : ∀ W, (binOp BinOp.eql 42 (.slice none 0 0) (.slice none 0 0)).run Tryd.prog W = .ok (.bool true) W := fun W => by kernel_rfl
  go_enter Tryd.func79, Tryd.ntmps79
  go_wp2_with fail
  go_ret
  exact ⟨by simp, by simp⟩
end Go.Proofs.YtjbleefpafnhhaaDoor
/-
  value.copyType and copyExpr where there are no kids.
-/
set_option linter.unusedVariables false
set_option linter.unusedSimpArgs false
namespace Go.Proofs.YtjbleefpafnhhaaDoor
open Go.RowKit

set_option maxHeartbeats 1000000 in
set_option maxRecDepth 100000 in
theorem copyType_leaf (k s q i : Int) (w : World) : Calls Tryd.prog 77 #[.agg (t5 k s q i none 0 0).toArray] w (fun e w' => e = .returned (.agg #[.int .i64 k, .int .i64 s, .int .i64 q, .int .i64 i, .slice none 0 0]) ∧ Below w.heap.size w w') := by
  have P0 := t5_new w k s q i none 0 0
  have V0 := new_later w (.cells (t5 k s q i none 0 0).toArray 31)
  have b2 := new_later (w.alloc (.cells (t5 k s q i none 0 0).toArray 31)) (.cells #[.int .i64 0, .int .i64 0, .int .i64 0, .int .i64 0, .slice none 0 0] 31)
  have R0 := Arr.new' (w.alloc (.cells (t5 k s q i none 0 0).toArray 31)) 31 #[.int .i64 0, .int .i64 0, .int .i64 0, .int .i64 0, .slice none 0 0] 5 z5 rfl rfl (by decide)
  rw [World.size_alloc] at R0
  have P1 := P0.later b2
  have V1 := later V0 b2
  generalize hW : (w.alloc (.cells (t5 k s q i none 0 0).toArray 31)).alloc (.cells #[.int .i64 0, .int .i64 0, .int .i64 0, .int .i64 0, .slice none 0 0] 31) = wa at P1 V1 R0
  have A1 := P1.set_ 4 (.slice none 0 0)
  have R1 := R0.other (b := w.heap.size) (j := 4) (by omega) (.slice none 0 0)
  have HR := Lib.hid R1
  have HV := Lib.hid (V1.setCell (p := ⟨w.heap.size, 4, none⟩) (Nat.le_refl _) (.slice none 0 0))
  have y4 := P1.cell (j := 4) (v := .slice none 0 0) rfl
  have f4 := P1.free 4
  have c0 := A1.cell (j := 0) (v := .int .i64 k) rfl
  have c1 := A1.cell (j := 1) (v := .int .i64 s) rfl
  have c2 := A1.cell (j := 2) (v := .int .i64 q) rfl
  have c3 := A1.cell (j := 3) (v := .int .i64 i) rfl
  have c4 := A1.cell (j := 4) (v := .slice none 0 0) rfl
  have HC := Lib.hid (fun (f : Value) (W : World) => copynil_types f W)
  clear P0 V0 b2 R0 P1 V1 A1 R1
  go_enter Tryd.func77, Tryd.ntmps77
  go_upto_region 1 with fail
  clear hW
  go_wp2_with (first
    | (go_at_call 88; (with_reducible refine (HC.out _ _).mono ?_); rintro e w2 ⟨rfl, hw2⟩; rw [hw2]; clear hw2)
    | (refine wpList_store_arr rfl _ (.tmp 2) (.tmp 7) rfl (w.heap.size + 1) 0 5 31 _ [.int .i64 k, .int .i64 s, .int .i64 q, .int .i64 i, .slice none 0 0] z5 rfl rfl rfl HR.out (show 0 + 5 ≤ 5 by omega) info_type (List.all_eq_true.mp (by rfl)) ?_; intro w7 f7 o7))
  rw [setAll_all z5 [.int .i64 k, .int .i64 s, .int .i64 q, .int .i64 i, .slice none 0 0] rfl] at f7
  exact bodyPost_ret (results_one rfl _ _ (w.heap.size + 1) [.int .i64 k, .int .i64 s, .int .i64 q, .int .i64 i, .slice none 0 0] _ rfl f7.range Tryd.underlying31 rfl info_type) rfl ⟨rfl, HV.out.trans (o7.bel.mono (by omega))⟩
end Go.Proofs.YtjbleefpafnhhaaDoor
/-
  What value.copyDef does to a slot whose type has no kids.
-/
set_option linter.unusedVariables false
set_option linter.unusedSimpArgs false
namespace Go.Proofs.YtjbleefpafnhhaaDoor
open Go.RowKit

def z11 : List Value := [.int .i64 0, .int .i64 0, .int .i64 0, .string ⟨#[]⟩, .int .i64 0, .int .i64 0, .int .i64 0, .int .i64 0, .slice none 0 0, .int .i64 0, .int .i64 0]
theorem info_sl11 : (Tryd.prog.info? 66).map (·.size) = some 11 := by kernel_rfl
set_option maxHeartbeats 1000000 in
set_option maxRecDepth 100000 in
theorem copySlot_leaf (a b c k s q i x y : Int) (nm : ByteArray) (w : World) : Calls Tryd.prog 76 #[.agg #[.int .i64 a, .int .i64 b, .int .i64 c, .string nm, .int .i64 k, .int .i64 s, .int .i64 q, .int .i64 i, .slice none 0 0, .int .i64 x, .int .i64 y]] w
    (fun e w' => e = .returned (.agg #[.int .i64 a, .int .i64 b, .int .i64 c, .string nm, .int .i64 k, .int .i64 s, .int .i64 q, .int .i64 i, .slice none 0 0, .int .i64 x, .int .i64 y]) ∧ Below w.heap.size w w') := by
  have P0 : Arr (w.alloc (.cells #[.int .i64 a, .int .i64 b, .int .i64 c, .string nm, .int .i64 k, .int .i64 s, .int .i64 q, .int .i64 i, .slice none 0 0, .int .i64 x, .int .i64 y] 66)) w.heap.size 11 66 [.int .i64 a, .int .i64 b, .int .i64 c, .string nm, .int .i64 k, .int .i64 s, .int .i64 q, .int .i64 i, .slice none 0 0, .int .i64 x, .int .i64 y] := Arr.new' w _ _ 11 _ rfl rfl (by decide)
  have V0 := new_later w (.cells #[.int .i64 a, .int .i64 b, .int .i64 c, .string nm, .int .i64 k, .int .i64 s, .int .i64 q, .int .i64 i, .slice none 0 0, .int .i64 x, .int .i64 y] 66)
  have b2 := new_later (w.alloc (.cells #[.int .i64 a, .int .i64 b, .int .i64 c, .string nm, .int .i64 k, .int .i64 s, .int .i64 q, .int .i64 i, .slice none 0 0, .int .i64 x, .int .i64 y] 66)) (.cells #[.int .i64 0, .int .i64 0, .int .i64 0, .string ⟨#[]⟩, .int .i64 0, .int .i64 0, .int .i64 0, .int .i64 0, .slice none 0 0, .int .i64 0, .int .i64 0] 66)
  have R0 := Arr.new' (w.alloc (.cells #[.int .i64 a, .int .i64 b, .int .i64 c, .string nm, .int .i64 k, .int .i64 s, .int .i64 q, .int .i64 i, .slice none 0 0, .int .i64 x, .int .i64 y] 66)) 66 #[.int .i64 0, .int .i64 0, .int .i64 0, .string ⟨#[]⟩, .int .i64 0, .int .i64 0, .int .i64 0, .int .i64 0, .slice none 0 0, .int .i64 0, .int .i64 0] 11 z11 rfl rfl (by decide)
  rw [World.size_alloc] at R0
  have P1 := P0.later b2
  have V1 := later V0 b2
  generalize hW : (w.alloc (.cells #[.int .i64 a, .int .i64 b, .int .i64 c, .string nm, .int .i64 k, .int .i64 s, .int .i64 q, .int .i64 i, .slice none 0 0, .int .i64 x, .int .i64 y] 66)).alloc (.cells #[.int .i64 0, .int .i64 0, .int .i64 0, .string ⟨#[]⟩, .int .i64 0, .int .i64 0, .int .i64 0, .int .i64 0, .slice none 0 0, .int .i64 0, .int .i64 0] 66) = wa at P1 V1 R0
  have HR := Lib.hid R0
  have HP := Lib.hid P1
  have HV := Lib.hid V1
  have y4 := P1.cell (j := 4) (v := .int .i64 k) rfl
  have y5 := P1.cell (j := 5) (v := .int .i64 s) rfl
  have y6 := P1.cell (j := 6) (v := .int .i64 q) rfl
  have y7 := P1.cell (j := 7) (v := .int .i64 i) rfl
  have y8 := P1.cell (j := 8) (v := .slice none 0 0) rfl
  have HC : Hid (∀ W, Calls Tryd.prog 77 #[.agg #[.int .i64 k, .int .i64 s, .int .i64 q, .int .i64 i, .slice none 0 0]] W (fun e w' => e = .returned (.agg #[.int .i64 k, .int .i64 s, .int .i64 q, .int .i64 i, .slice none 0 0]) ∧ Below W.heap.size W w')) := Lib.hid fun W => copyType_leaf k s q i W
  clear P0 V0 b2 R0 P1 V1
  go_enter Tryd.func76, Tryd.ntmps76
  go_upto_region 1 with fail
  clear hW
  go_wp2_with (first
    | (go_at_call 77; (with_reducible refine (HC.out _).mono ?_); rintro e w2 ⟨rfl, hb2⟩; have HB2 := Lib.hid hb2; clear hb2)
    | (refine wpList_store_arr rfl _ (.tmp 6) (.tmp 5) rfl w.heap.size 4 11 66 _ [.int .i64 k, .int .i64 s, .int .i64 q, .int .i64 i, .slice none 0 0] [.int .i64 a, .int .i64 b, .int .i64 c, .string nm, .int .i64 k, .int .i64 s, .int .i64 q, .int .i64 i, .slice none 0 0, .int .i64 x, .int .i64 y] rfl rfl rfl (HP.out.later HB2.out) (show 4 + 5 ≤ 11 by omega) info_type (List.all_eq_true.mp (by rfl)) ?_; intro w6 f6 o6; have c0 := f6.cell (j := 0) (v := .int .i64 a) rfl; have c1 := f6.cell (j := 1) (v := .int .i64 b) rfl; have c2 := f6.cell (j := 2) (v := .int .i64 c) rfl; have c3 := f6.cell (j := 3) (v := .string nm) rfl; have c4 := f6.cell (j := 4) (v := .int .i64 k) rfl; have c5 := f6.cell (j := 5) (v := .int .i64 s) rfl; have c6 := f6.cell (j := 6) (v := .int .i64 q) rfl; have c7 := f6.cell (j := 7) (v := .int .i64 i) rfl; have c8 := f6.cell (j := 8) (v := .slice none 0 0) rfl; have c9 := f6.cell (j := 9) (v := .int .i64 x) rfl; have c10 := f6.cell (j := 10) (v := .int .i64 y) rfl; have HR6 := Lib.hid ((HR.out.later HB2.out).only o6 (by omega)); have HO6 := Lib.hid o6; clear f6 o6)
    | (refine wpList_store_arr rfl _ (.tmp 2) (.tmp 7) rfl (w.heap.size + 1) 0 11 66 _ [.int .i64 a, .int .i64 b, .int .i64 c, .string nm, .int .i64 k, .int .i64 s, .int .i64 q, .int .i64 i, .slice none 0 0, .int .i64 x, .int .i64 y] z11 rfl rfl rfl HR6.out (show 0 + 11 ≤ 11 by omega) info_sl11 (List.all_eq_true.mp (by rfl)) ?_; intro w7 f7 o7))
  rw [setAll_all z11 [.int .i64 a, .int .i64 b, .int .i64 c, .string nm, .int .i64 k, .int .i64 s, .int .i64 q, .int .i64 i, .slice none 0 0, .int .i64 x, .int .i64 y] rfl] at f7
  exact bodyPost_ret (results_one rfl _ _ (w.heap.size + 1) [.int .i64 a, .int .i64 b, .int .i64 c, .string nm, .int .i64 k, .int .i64 s, .int .i64 q, .int .i64 i, .slice none 0 0, .int .i64 x, .int .i64 y] _ rfl f7.range Tryd.underlying66 rfl info_sl11) rfl ⟨rfl, ((later HV.out HB2.out).trans (HO6.out.bel.mono (by omega))).trans (o7.bel.mono (by omega))⟩
end Go.Proofs.YtjbleefpafnhhaaDoor
/-
  value.copyExpr of the zero expression.
-/
set_option linter.unusedVariables false
set_option linter.unusedSimpArgs false
namespace Go.Proofs.YtjbleefpafnhhaaDoor
open Go.RowKit

def z15 : List Value := [.int .i64 0, .int .i64 0, .int .i64 0, .int .i64 0, .int .i64 0, .int .i64 0, .int .i64 0, .int .i64 0, .int .i64 0, .int .i64 0, .int .i64 0, .int .i64 0, .slice none 0 0, .slice none 0 0, .slice none 0 0]
theorem info_ex15 : (Tryd.prog.info? 44).map (·.size) = some 15 := by kernel_rfl
set_option maxHeartbeats 1000000 in
set_option maxRecDepth 100000 in
theorem copyExpr_zero (w : World) : Calls Tryd.prog 78 #[.agg #[.int .i64 0, .int .i64 0, .int .i64 0, .int .i64 0, .int .i64 0, .int .i64 0, .int .i64 0, .int .i64 0, .int .i64 0, .int .i64 0, .int .i64 0, .int .i64 0, .slice none 0 0, .slice none 0 0, .slice none 0 0]] w (fun e w' => e = .returned (.agg #[.int .i64 0, .int .i64 0, .int .i64 0, .int .i64 0, .int .i64 0, .int .i64 0, .int .i64 0, .int .i64 0, .int .i64 0, .int .i64 0, .int .i64 0, .int .i64 0, .slice none 0 0, .slice none 0 0, .slice none 0 0]) ∧ Below w.heap.size w w') := by
  have P0 : Arr (w.alloc (.cells #[.int .i64 0, .int .i64 0, .int .i64 0, .int .i64 0, .int .i64 0, .int .i64 0, .int .i64 0, .int .i64 0, .int .i64 0, .int .i64 0, .int .i64 0, .int .i64 0, .slice none 0 0, .slice none 0 0, .slice none 0 0] 44)) w.heap.size 15 44 [.int .i64 0, .int .i64 0, .int .i64 0, .int .i64 0, .int .i64 0, .int .i64 0, .int .i64 0, .int .i64 0, .int .i64 0, .int .i64 0, .int .i64 0, .int .i64 0, .slice none 0 0, .slice none 0 0, .slice none 0 0] := Arr.new' w _ _ 15 _ rfl rfl (by decide)
  have V0 := new_later w (.cells #[.int .i64 0, .int .i64 0, .int .i64 0, .int .i64 0, .int .i64 0, .int .i64 0, .int .i64 0, .int .i64 0, .int .i64 0, .int .i64 0, .int .i64 0, .int .i64 0, .slice none 0 0, .slice none 0 0, .slice none 0 0] 44)
  have b2 := new_later (w.alloc (.cells #[.int .i64 0, .int .i64 0, .int .i64 0, .int .i64 0, .int .i64 0, .int .i64 0, .int .i64 0, .int .i64 0, .int .i64 0, .int .i64 0, .int .i64 0, .int .i64 0, .slice none 0 0, .slice none 0 0, .slice none 0 0] 44)) (.cells #[.int .i64 0, .int .i64 0, .int .i64 0, .int .i64 0, .int .i64 0, .int .i64 0, .int .i64 0, .int .i64 0, .int .i64 0, .int .i64 0, .int .i64 0, .int .i64 0, .slice none 0 0, .slice none 0 0, .slice none 0 0] 44)
  have R0 := Arr.new' (w.alloc (.cells #[.int .i64 0, .int .i64 0, .int .i64 0, .int .i64 0, .int .i64 0, .int .i64 0, .int .i64 0, .int .i64 0, .int .i64 0, .int .i64 0, .int .i64 0, .int .i64 0, .slice none 0 0, .slice none 0 0, .slice none 0 0] 44)) 44 #[.int .i64 0, .int .i64 0, .int .i64 0, .int .i64 0, .int .i64 0, .int .i64 0, .int .i64 0, .int .i64 0, .int .i64 0, .int .i64 0, .int .i64 0, .int .i64 0, .slice none 0 0, .slice none 0 0, .slice none 0 0] 15 z15 rfl rfl (by decide)
  rw [World.size_alloc] at R0
  have P1 := P0.later b2
  have V1 := later V0 b2
  generalize hW : (w.alloc (.cells #[.int .i64 0, .int .i64 0, .int .i64 0, .int .i64 0, .int .i64 0, .int .i64 0, .int .i64 0, .int .i64 0, .int .i64 0, .int .i64 0, .int .i64 0, .int .i64 0, .slice none 0 0, .slice none 0 0, .slice none 0 0] 44)).alloc (.cells #[.int .i64 0, .int .i64 0, .int .i64 0, .int .i64 0, .int .i64 0, .int .i64 0, .int .i64 0, .int .i64 0, .int .i64 0, .int .i64 0, .int .i64 0, .int .i64 0, .slice none 0 0, .slice none 0 0, .slice none 0 0] 44) = wa at P1 V1 R0
  have HR := Lib.hid R0
  have HP := Lib.hid P1
  have HV := Lib.hid V1
  have y8 := P1.cell (j := 8) (v := .int .i64 0) rfl
  have y9 := P1.cell (j := 9) (v := .int .i64 0) rfl
  have y10 := P1.cell (j := 10) (v := .int .i64 0) rfl
  have y11 := P1.cell (j := 11) (v := .int .i64 0) rfl
  have y12 := P1.cell (j := 12) (v := .slice none 0 0) rfl
  have HC : Hid (∀ W, Calls Tryd.prog 77 #[.agg #[.int .i64 0, .int .i64 0, .int .i64 0, .int .i64 0, .slice none 0 0]] W (fun e w' => e = .returned (.agg #[.int .i64 0, .int .i64 0, .int .i64 0, .int .i64 0, .slice none 0 0]) ∧ Below W.heap.size W w')) := Lib.hid fun W => copyType_leaf 0 0 0 0 W
  have HCX := Lib.hid (fun (f : Value) (W : World) => copynil_exprs f W)
  have HCS := Lib.hid (fun (W : World) => clonenil_strs W)
  clear P0 V0 b2 R0 P1 V1
  go_enter Tryd.func78, Tryd.ntmps78
  go_upto_region 1 with fail
  clear hW
  go_wp2_with (first
    | (go_at_call 77; (with_reducible refine (HC.out _).mono ?_); rintro e w2 ⟨rfl, hb2⟩; have HB2 := Lib.hid hb2; clear hb2)
    | (go_at_call 89; (with_reducible refine (HCX.out _ _).mono ?_); rintro e w3 ⟨rfl, hw3⟩; rw [hw3]; clear hw3)
    | (go_at_call 79; (with_reducible refine (HCS.out _).mono ?_); rintro e w4 ⟨rfl, hw4⟩; rw [hw4]; clear hw4)
    | (refine wpList_store_arr rfl _ (.tmp 6) (.tmp 5) rfl w.heap.size 8 15 44 _ [.int .i64 0, .int .i64 0, .int .i64 0, .int .i64 0, .slice none 0 0] [.int .i64 0, .int .i64 0, .int .i64 0, .int .i64 0, .int .i64 0, .int .i64 0, .int .i64 0, .int .i64 0, .int .i64 0, .int .i64 0, .int .i64 0, .int .i64 0, .slice none 0 0, .slice none 0 0, .slice none 0 0] rfl rfl rfl (HP.out.later HB2.out) (show 8 + 5 ≤ 15 by omega) info_type (by decide) ?_; intro w6 f6 o6; have d8 := f6.cell (j := 13) (v := .slice none 0 0) rfl; have d9 := f6.free 13; have A13 := f6.set_ 13 (.slice none 0 0); have e8 := A13.cell (j := 14) (v := .slice none 0 0) rfl; have e9 := A13.free 14; have A14 := A13.set_ 14 (.slice none 0 0); have c0 := A14.cell (j := 0) (v := .int .i64 0) rfl; have c1 := A14.cell (j := 1) (v := .int .i64 0) rfl; have c2 := A14.cell (j := 2) (v := .int .i64 0) rfl; have c3 := A14.cell (j := 3) (v := .int .i64 0) rfl; have c4 := A14.cell (j := 4) (v := .int .i64 0) rfl; have c5 := A14.cell (j := 5) (v := .int .i64 0) rfl; have c6 := A14.cell (j := 6) (v := .int .i64 0) rfl; have c7 := A14.cell (j := 7) (v := .int .i64 0) rfl; have c8 := A14.cell (j := 8) (v := .int .i64 0) rfl; have c9 := A14.cell (j := 9) (v := .int .i64 0) rfl; have c10 := A14.cell (j := 10) (v := .int .i64 0) rfl; have c11 := A14.cell (j := 11) (v := .int .i64 0) rfl; have c12 := A14.cell (j := 12) (v := .slice none 0 0) rfl; have c13 := A14.cell (j := 13) (v := .slice none 0 0) rfl; have c14 := A14.cell (j := 14) (v := .slice none 0 0) rfl; have HR6 := Lib.hid ((((HR.out.later HB2.out).only o6 (by omega)).other (b := w.heap.size) (j := 13) (by omega) (.slice none 0 0)).other (b := w.heap.size) (j := 14) (by omega) (.slice none 0 0)); have HO6 := Lib.hid ((o6.bel.setCell (p := ⟨w.heap.size, 13, none⟩) (Nat.le_refl _) (.slice none 0 0)).setCell (p := ⟨w.heap.size, 14, none⟩) (Nat.le_refl _) (.slice none 0 0)); have k13 := f6.cell (j := 13) (v := .slice none 0 0) rfl; clear f6 o6 A13 A14 k13)
    | (refine wpList_store_arr rfl _ (.tmp 2) (.tmp 15) rfl (w.heap.size + 1) 0 15 44 _ [.int .i64 0, .int .i64 0, .int .i64 0, .int .i64 0, .int .i64 0, .int .i64 0, .int .i64 0, .int .i64 0, .int .i64 0, .int .i64 0, .int .i64 0, .int .i64 0, .slice none 0 0, .slice none 0 0, .slice none 0 0] z15 rfl rfl rfl HR6.out (show 0 + 15 ≤ 15 by omega) info_ex15 (by decide) ?_; intro w7 f7 o7))
  rw [setAll_all z15 [.int .i64 0, .int .i64 0, .int .i64 0, .int .i64 0, .int .i64 0, .int .i64 0, .int .i64 0, .int .i64 0, .int .i64 0, .int .i64 0, .int .i64 0, .int .i64 0, .slice none 0 0, .slice none 0 0, .slice none 0 0] rfl] at f7
  exact bodyPost_ret (results_one rfl _ _ (w.heap.size + 1) [.int .i64 0, .int .i64 0, .int .i64 0, .int .i64 0, .int .i64 0, .int .i64 0, .int .i64 0, .int .i64 0, .int .i64 0, .int .i64 0, .int .i64 0, .int .i64 0, .slice none 0 0, .slice none 0 0, .slice none 0 0] _ rfl f7.range Tryd.underlying44 rfl info_ex15) rfl ⟨rfl, ((later HV.out HB2.out).trans (HO6.out.mono (by omega))).trans (o7.bel.mono (by omega))⟩
end Go.Proofs.YtjbleefpafnhhaaDoor
