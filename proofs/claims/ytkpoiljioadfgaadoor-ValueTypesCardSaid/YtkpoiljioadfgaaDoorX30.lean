import Derived.Test.YtkpoiljioadfgaaDoorX03
import Derived.Test.YtkpoiljioadfgaaDoorX18

set_option linter.unusedVariables false
set_option linter.unusedSimpArgs false
namespace Go.Proofs.YtkpoiljioadfgaaDoor
open Go.RowKit
mutual
def tsm : Ty → Prop
  | .node _ _ _ _ ks => ks.length * 56 ≤ 140737488355328 ∧ tsmL ks
def tsmL : List Ty → Prop
  | [] => True
  | x :: xs => tsm x ∧ tsmL xs
end
theorem tsmL_get : ∀ {xs : List Ty} {j : Nat} {x : Ty}, tsmL xs → xs[j]? = some x → tsm x
  | [], j, x, _, h => by simp at h
  | y :: ys, 0, x, hs, h => by simp at h; subst h; unfold tsmL at hs; exact hs.1
  | y :: ys, j + 1, x, hs, h => by unfold tsmL at hs; exact tsmL_get hs.2 (j := j) (by simpa using h)
theorem tsmL_of : ∀ {xs : List Ty}, (∀ (j : Nat) (x : Ty), xs[j]? = some x → tsm x) → tsmL xs
  | [], _ => by unfold tsmL; trivial
  | x :: xs, h => by unfold tsmL; exact ⟨h 0 x rfl, tsmL_of fun j y hy => h (j + 1) y (by simpa using hy)⟩
mutual
def esm : Ex → Prop
  | .node _ _ _ _ _ _ _ _ ty ks names => tsm ty ∧ ks.length * 168 ≤ 140737488355328 ∧ names.length * 16 ≤ 140737488355328 ∧ esmL ks
def esmL : List Ex → Prop
  | [] => True
  | x :: xs => esm x ∧ esmL xs
end
theorem esmL_get : ∀ {xs : List Ex} {j : Nat} {x : Ex}, esmL xs → xs[j]? = some x → esm x
  | [], j, x, _, h => by simp at h
  | y :: ys, 0, x, hs, h => by simp at h; subst h; unfold esmL at hs; exact hs.1
  | y :: ys, j + 1, x, hs, h => by unfold esmL at hs; exact esmL_get hs.2 (j := j) (by simpa using h)
theorem esmL_of : ∀ {xs : List Ex}, (∀ (j : Nat) (x : Ex), xs[j]? = some x → esm x) → esmL xs
  | [], _ => by unfold esmL; trivial
  | x :: xs, h => by unfold esmL; exact ⟨h 0 x rfl, esmL_of fun j y hy => h (j + 1) y (by simpa using hy)⟩
def dsm (d : Df) : Prop := d.slots.length * 112 ≤ 140737488355328 ∧ (∀ s ∈ d.slots, tsm s.ty) ∧ tsm d.res ∧ esm d.body ∧ d.lay.length * 16 ≤ 140737488355328
theorem dsm_take {d : Df} (h : dsm d) (n : Nat) : dsm { d with slots := d.slots.take n } := by
  obtain ⟨h1, h2, h3, h4, h5⟩ := h
  refine ⟨?_, fun s hs => h2 s (List.mem_of_mem_take hs), h3, h4, h5⟩
  have : (d.slots.take n).length ≤ d.slots.length := by rw [List.length_take]; omega
  show (d.slots.take n).length * 112 ≤ _
  omega
theorem rowOf {α : Type} {w : World} {g sz : Nat} {Φ : α → List Value → Prop} (hc : ∀ x D, Φ x D → D.length = sz ∧ ∀ u ∈ D, u.oneCell' = true) : ∀ (ks : List α) (o : Nat), (∀ j x, ks[j]? = some x → ∃ cs, w.rangeAt g (o + j * sz) cs ∧ Φ x cs) →
    ∃ C : List Value, C.length = ks.length * sz ∧ w.rangeAt g o C ∧ (∀ u ∈ C, u.oneCell' = true) ∧ ∀ j x (D : List Value), ks[j]? = some x → D.length = sz → (∀ t v, D[t]? = some v → C[j * sz + t]? = some v) → Φ x D
  | [], o, _ => ⟨[], by simp, fun j v hv => by simp at hv, by simp, by simp⟩
  | x :: xs, o, h => by
    obtain ⟨cs, hr, hp⟩ := h 0 x rfl
    rw [Nat.zero_mul, Nat.add_zero] at hr
    obtain ⟨hl, h1⟩ := hc x cs hp
    obtain ⟨C, c1, c2, c3, c4⟩ := rowOf hc xs (o + sz) (fun j y hy => by
      have := h (j + 1) y (by simpa using hy)
      rwa [show o + (j + 1) * sz = o + sz + j * sz by rw [Nat.succ_mul]; omega] at this)
    refine ⟨cs ++ C, by rw [List.length_append, hl, c1, List.length_cons, Nat.succ_mul]; omega, fun j v hv => ?_, fun u hu => ?_, fun j y D hy hD hd => ?_⟩
    · by_cases hj : j < sz
      · rw [List.getElem?_append_left (by omega)] at hv; exact hr j v hv
      · rw [List.getElem?_append_right (by omega), hl] at hv
        have := c2 (j - sz) v hv
        rwa [show o + sz + (j - sz) = o + j by omega] at this
    · rcases List.mem_append.1 hu with h | h
      · exact h1 u h
      · exact c3 u h
    · cases j with
      | zero =>
        simp at hy; subst hy
        have : D = cs := List.ext_getElem? fun t => by
          by_cases ht : t < sz
          · have h5 := hd t _ (List.getElem?_eq_getElem (by omega))
            rw [Nat.zero_mul, Nat.zero_add, List.getElem?_append_left (by omega)] at h5
            rw [h5, List.getElem?_eq_getElem]
          · rw [List.getElem?_eq_none (by omega), List.getElem?_eq_none (by omega)]
        rw [this]; exact hp
      | succ j =>
        exact c4 j y D (by simpa using hy) hD fun t v hv => by
          have := hd t v hv
          rw [List.getElem?_append_right (by rw [Nat.succ_mul]; omega), hl] at this
          rwa [show (j + 1) * sz + t - sz = j * sz + t by rw [Nat.succ_mul]; omega] at this
end Go.Proofs.YtkpoiljioadfgaaDoor

namespace Go.Proofs.YtkpoiljioadfgaaDoor
open Go.RowKit
def CLRes (m : Nat) (w : World) (e : Ending) (w' : World) : Prop := ∃ (A : Option Addr) (c' : Nat), e = .returned (.slice A m c') ∧ Below w.heap.size w w'
theorem info_strs3 : (Tryd.prog.info? 9).map (fun i => (i.zero, i.size, i.bytes)) = some (some (.string ⟨#[]⟩), 1, 16) := by kernel_rfl
set_option maxHeartbeats 400000 in
set_option maxRecDepth 100000 in
theorem clone_strs (w : World) (g o m cap : Nat) (C : List Value) (hC : C.length = m * 1) (hr : w.rangeAt g o C) (h1 : ∀ u ∈ C, u.oneCell' = true) (hm : 0 < m) (hmc : m ≤ cap ∧ cap ≤ maxLen) (hb : m * 16 ≤ 140737488355328) :
    Calls Tryd.prog 79 #[.slice (some ⟨g, o, none⟩) m cap] w (fun e w' => ∃ h c', e = .returned (.slice (some ⟨h, 0, none⟩) m c') ∧ w'.ownsRow w.heap.size 9 1 (.slice (some ⟨h, 0, none⟩) m c') m C ∧ Below w.heap.size w w') := by
  have heq : ∀ W, (binOp BinOp.eql 42 (.slice (some ⟨g, o, none⟩) m cap) (.slice none 0 0)).run Tryd.prog W = .ok (.bool false) W := fun W => by kernel_rfl
  have HNW : Hid (∀ j u, C[j]? = some u → (w.alloc (.cells #[] 9)).cell? ((⟨g, o, none⟩ : Addr).add j) = some u) := Lib.hid fun j u hu => by
    have h := range_below hr (new_later w (.cells #[] 9)) j u hu
    have ha : (⟨g, o, none⟩ : Addr).add j = ⟨g, o + j, none⟩ := by unfold Addr.add; split <;> simp_all
    rw [ha]; exact h
  have HOW : Hid ((w.alloc (.cells #[] 9)).ownsRow w.heap.size 9 1 (.slice (some ⟨w.heap.size, 0, none⟩) 0 0) 0 []) := Lib.hid (World.ownsRow_made w #[] 0 (Nat.le_refl _) (by simp [maxLen]) rfl)
  obtain ⟨i0, hi0, hz0, hz1, hz2⟩ := info_parts info_strs3
  have HI := Lib.hid (And.intro hi0 (And.intro hz0 (And.intro hz1 hz2)))
  have HH := Lib.hid (And.intro hC (And.intro h1 (And.intro hm (And.intro hmc hb))))
  clear hr hC h1 hm hmc hb hi0 hz0 hz1 hz2
  go_enter Tryd.func79, Tryd.ntmps79
  go_wp2_with (at_builtin; refine wpList_append_lies _ rfl _ _ _ rfl w.heap.size 9 i0 (.string ⟨#[]⟩) 1 16 rfl HI.out.1 HI.out.2.1 HI.out.2.2.1 HI.out.2.2.2 rfl (by omega) (.slice (some ⟨w.heap.size, 0, none⟩) 0 0) 0 [] rfl HOW.out ⟨g, o, none⟩ m cap C rfl HH.out.1 HNW.out HH.out.2.1 HH.out.2.2.1 (by have := HH.out.2.2.2.1; omega) (by have := HH.out.2.2.2.2; omega) (by simp) (w.heap.size + 1) (by simp) ?_; intro h c' w' hown hgr hat hlt; have HO := Lib.hid hown; have HG := Lib.hid hgr; clear hown hgr hat hlt)
  go_ret
  refine ⟨h, c', by simp, ?_, ?_⟩
  · have := HO.out; simpa using this
  · exact ((new_later w (.cells #[] 9)).mono (Nat.le_refl _)).grown HG.out (by simp) (fun k hk => by simp [Value.ownBlock] at hk; omega)
set_option maxHeartbeats 400000 in
set_option maxRecDepth 100000 in
theorem clone0_slots (w : World) (ad : Addr) (cap : Nat) : Calls Tryd.prog 87 #[.slice (some ad) 0 cap] w (CLRes 0 w) := by
  have heq : ∀ W, (binOp BinOp.eql 40 (.slice (some ad) 0 cap) (.slice none 0 0)).run Tryd.prog W = .ok (.bool false) W := fun W => by kernel_rfl
  have HOW : Hid ((w.alloc (.cells #[] 66)).ownsRow w.heap.size 66 11 (.slice (some ⟨w.heap.size, 0, none⟩) 0 0) 0 []) := Lib.hid (World.ownsRow_made w #[] 0 (Nat.le_refl _) (by simp [maxLen]) rfl)
  obtain ⟨i0, hi0, hz0, hz1, hz2⟩ := info_parts info_slots3
  have HI := Lib.hid (And.intro hi0 (And.intro hz0 (And.intro hz1 hz2)))
  clear hi0 hz0 hz1 hz2
  go_enter Tryd.func87, Tryd.ntmps87
  go_wp2_with fail
  go_ret
  exact ⟨some ⟨w.heap.size, 0, none⟩, 0, by simp, new_later w _⟩
set_option maxHeartbeats 400000 in
set_option maxRecDepth 100000 in
theorem cloneN_slots (cap : Nat) (w : World) : Calls Tryd.prog 87 #[.slice none 0 cap] w (CLRes 0 w) := by
  have heq : ∀ W, (binOp BinOp.eql 40 (.slice none 0 cap) (.slice none 0 0)).run Tryd.prog W = .ok (.bool true) W := fun W => by kernel_rfl
  go_enter Tryd.func87, Tryd.ntmps87
  go_wp2_with fail
  go_ret
  exact ⟨none, 0, by simp, Below.refl _ _⟩
theorem cloneE_slots (A : Option Addr) (cap : Nat) (w : World) : Calls Tryd.prog 87 #[.slice A 0 cap] w (CLRes 0 w) := by
  cases A with
  | none => exact cloneN_slots cap w
  | some ad => exact clone0_slots w ad cap
set_option maxHeartbeats 400000 in
set_option maxRecDepth 100000 in
theorem clone0_types (w : World) (ad : Addr) (cap : Nat) : Calls Tryd.prog 92 #[.slice (some ad) 0 cap] w (CLRes 0 w) := by
  have heq : ∀ W, (binOp BinOp.eql 29 (.slice (some ad) 0 cap) (.slice none 0 0)).run Tryd.prog W = .ok (.bool false) W := fun W => by kernel_rfl
  have HOW : Hid ((w.alloc (.cells #[] 31)).ownsRow w.heap.size 31 5 (.slice (some ⟨w.heap.size, 0, none⟩) 0 0) 0 []) := Lib.hid (World.ownsRow_made w #[] 0 (Nat.le_refl _) (by simp [maxLen]) rfl)
  obtain ⟨i0, hi0, hz0, hz1, hz2⟩ := info_parts info_types3
  have HI := Lib.hid (And.intro hi0 (And.intro hz0 (And.intro hz1 hz2)))
  clear hi0 hz0 hz1 hz2
  go_enter Tryd.func92, Tryd.ntmps92
  go_wp2_with fail
  go_ret
  exact ⟨some ⟨w.heap.size, 0, none⟩, 0, by simp, new_later w _⟩
set_option maxHeartbeats 400000 in
set_option maxRecDepth 100000 in
theorem cloneN_types (cap : Nat) (w : World) : Calls Tryd.prog 92 #[.slice none 0 cap] w (CLRes 0 w) := by
  have heq : ∀ W, (binOp BinOp.eql 29 (.slice none 0 cap) (.slice none 0 0)).run Tryd.prog W = .ok (.bool true) W := fun W => by kernel_rfl
  go_enter Tryd.func92, Tryd.ntmps92
  go_wp2_with fail
  go_ret
  exact ⟨none, 0, by simp, Below.refl _ _⟩
theorem cloneE_types (A : Option Addr) (cap : Nat) (w : World) : Calls Tryd.prog 92 #[.slice A 0 cap] w (CLRes 0 w) := by
  cases A with
  | none => exact cloneN_types cap w
  | some ad => exact clone0_types w ad cap
set_option maxHeartbeats 400000 in
set_option maxRecDepth 100000 in
theorem clone0_exprs (w : World) (ad : Addr) (cap : Nat) : Calls Tryd.prog 93 #[.slice (some ad) 0 cap] w (CLRes 0 w) := by
  have heq : ∀ W, (binOp BinOp.eql 41 (.slice (some ad) 0 cap) (.slice none 0 0)).run Tryd.prog W = .ok (.bool false) W := fun W => by kernel_rfl
  have HOW : Hid ((w.alloc (.cells #[] 44)).ownsRow w.heap.size 44 15 (.slice (some ⟨w.heap.size, 0, none⟩) 0 0) 0 []) := Lib.hid (World.ownsRow_made w #[] 0 (Nat.le_refl _) (by simp [maxLen]) rfl)
  obtain ⟨i0, hi0, hz0, hz1, hz2⟩ := info_parts info_exprs3
  have HI := Lib.hid (And.intro hi0 (And.intro hz0 (And.intro hz1 hz2)))
  clear hi0 hz0 hz1 hz2
  go_enter Tryd.func93, Tryd.ntmps93
  go_wp2_with fail
  go_ret
  exact ⟨some ⟨w.heap.size, 0, none⟩, 0, by simp, new_later w _⟩
set_option maxHeartbeats 400000 in
set_option maxRecDepth 100000 in
theorem cloneN_exprs (cap : Nat) (w : World) : Calls Tryd.prog 93 #[.slice none 0 cap] w (CLRes 0 w) := by
  have heq : ∀ W, (binOp BinOp.eql 41 (.slice none 0 cap) (.slice none 0 0)).run Tryd.prog W = .ok (.bool true) W := fun W => by kernel_rfl
  go_enter Tryd.func93, Tryd.ntmps93
  go_wp2_with fail
  go_ret
  exact ⟨none, 0, by simp, Below.refl _ _⟩
theorem cloneE_exprs (A : Option Addr) (cap : Nat) (w : World) : Calls Tryd.prog 93 #[.slice A 0 cap] w (CLRes 0 w) := by
  cases A with
  | none => exact cloneN_exprs cap w
  | some ad => exact clone0_exprs w ad cap
set_option maxHeartbeats 400000 in
set_option maxRecDepth 100000 in
theorem clone0_strs (w : World) (ad : Addr) (cap : Nat) : Calls Tryd.prog 79 #[.slice (some ad) 0 cap] w (CLRes 0 w) := by
  have heq : ∀ W, (binOp BinOp.eql 42 (.slice (some ad) 0 cap) (.slice none 0 0)).run Tryd.prog W = .ok (.bool false) W := fun W => by kernel_rfl
  have HOW : Hid ((w.alloc (.cells #[] 9)).ownsRow w.heap.size 9 1 (.slice (some ⟨w.heap.size, 0, none⟩) 0 0) 0 []) := Lib.hid (World.ownsRow_made w #[] 0 (Nat.le_refl _) (by simp [maxLen]) rfl)
  obtain ⟨i0, hi0, hz0, hz1, hz2⟩ := info_parts info_strs3
  have HI := Lib.hid (And.intro hi0 (And.intro hz0 (And.intro hz1 hz2)))
  clear hi0 hz0 hz1 hz2
  go_enter Tryd.func79, Tryd.ntmps79
  go_wp2_with fail
  go_ret
  exact ⟨some ⟨w.heap.size, 0, none⟩, 0, by simp, new_later w _⟩
set_option maxHeartbeats 400000 in
set_option maxRecDepth 100000 in
theorem cloneN_strs (cap : Nat) (w : World) : Calls Tryd.prog 79 #[.slice none 0 cap] w (CLRes 0 w) := by
  have heq : ∀ W, (binOp BinOp.eql 42 (.slice none 0 cap) (.slice none 0 0)).run Tryd.prog W = .ok (.bool true) W := fun W => by kernel_rfl
  go_enter Tryd.func79, Tryd.ntmps79
  go_wp2_with fail
  go_ret
  exact ⟨none, 0, by simp, Below.refl _ _⟩
theorem cloneE_strs (A : Option Addr) (cap : Nat) (w : World) : Calls Tryd.prog 79 #[.slice A 0 cap] w (CLRes 0 w) := by
  cases A with
  | none => exact cloneN_strs cap w
  | some ad => exact clone0_strs w ad cap
theorem cloneL_strs (w : World) (A : Option Addr) (L : List ByteArray) (cap : Nat) (hr : Rd w w.heap.size A (L.map Value.string)) (hc : L.length ≤ cap ∧ cap ≤ maxLen) (hb : L.length * 16 ≤ 140737488355328) : Calls Tryd.prog 79 #[.slice A L.length cap] w (CLRes L.length w) := by
  cases L with
  | nil => exact cloneE_strs A cap w
  | cons x xs =>
    rcases hr with h | ⟨b, o, rfl, hb2, hcl⟩
    · simp at h
    · refine (clone_strs w b o (x :: xs).length cap ((x :: xs).map Value.string) (by simp) (fun j u hu => hcl j u hu) (fun u hu => by obtain ⟨s, _, rfl⟩ := List.mem_map.1 hu; rfl) (by simp) hc hb).mono ?_
      rintro e w' ⟨hh, c', rfl, _, hbb⟩
      exact ⟨_, c', rfl, hbb⟩
set_option maxHeartbeats 400000 in
set_option maxRecDepth 100000 in
theorem copyE_slots (A : Option Addr) (cap : Nat) (f : Value) (w : World) : Calls Tryd.prog 75 #[.slice A 0 cap, f] w (CLRes 0 w) := by
  have HC := Lib.hid (cloneE_slots A cap w)
  go_enter Tryd.func75, Tryd.ntmps75
  go_wp2_with (go_at_call 87; (with_reducible refine HC.out.mono ?_); rintro e w2 ⟨A2, c2, rfl, hb2⟩; have HB2 := Lib.hid hb2; clear hb2 HC)
  go_loopw [11] (fun i W => i = .int .i64 0 ∧ Below w.heap.size w W) (fun _ _ => 0)
  case atStart => exact ⟨rfl, HB2.out⟩
  case round =>
    clear HB2
    obtain ⟨rfl, hw⟩ := hrel
    have HW := Lib.hid hw
    clear hw
    go_wp2_with fail
    go_ret
    exact ⟨A2, c2, by simp, HW.out⟩
def Cpb_slots (w : World) (A : Option Addr) (m cap : Nat) : Prop := m = 0 ∨ ∃ (g o : Nat) (C : List Value), A = some ⟨g, o, none⟩ ∧ C.length = m * 11 ∧ w.rangeAt g o C ∧ (∀ u ∈ C, u.oneCell' = true) ∧ 0 < m ∧ (m ≤ cap ∧ cap ≤ maxLen) ∧ m * 112 ≤ 140737488355328 ∧
  (∀ (j : Nat) (D : List Value) (W : World), j < m → D.length = 11 → (∀ t v, D[t]? = some v → C[j * 11 + t]? = some v) → Below w.heap.size w W → Calls Tryd.prog 76 #[.agg D.toArray] W (CpRes 11 W))
theorem copyL_slots (w : World) (A : Option Addr) (m cap : Nat) (h : Cpb_slots w A m cap) : Calls Tryd.prog 75 #[.slice A m cap, .func (.func 76) #[] #[]] w (CLRes m w) := by
  rcases h with rfl | ⟨g, o, C, rfl, h1, h2, h3, h4, h5, h6, h7⟩
  · exact copyE_slots A cap _ w
  · refine (copylist_slots w g o m cap C h1 h2 h3 h4 h5 h6 (Lib.hid h7)).mono ?_
    rintro e w' ⟨hh, c', rfl, _, hb⟩
    exact ⟨_, c', rfl, hb⟩
set_option maxHeartbeats 400000 in
set_option maxRecDepth 100000 in
theorem copyE_types (A : Option Addr) (cap : Nat) (f : Value) (w : World) : Calls Tryd.prog 88 #[.slice A 0 cap, f] w (CLRes 0 w) := by
  have HC := Lib.hid (cloneE_types A cap w)
  go_enter Tryd.func88, Tryd.ntmps88
  go_wp2_with (go_at_call 92; (with_reducible refine HC.out.mono ?_); rintro e w2 ⟨A2, c2, rfl, hb2⟩; have HB2 := Lib.hid hb2; clear hb2 HC)
  go_loopw [11] (fun i W => i = .int .i64 0 ∧ Below w.heap.size w W) (fun _ _ => 0)
  case atStart => exact ⟨rfl, HB2.out⟩
  case round =>
    clear HB2
    obtain ⟨rfl, hw⟩ := hrel
    have HW := Lib.hid hw
    clear hw
    go_wp2_with fail
    go_ret
    exact ⟨A2, c2, by simp, HW.out⟩
def Cpb_types (w : World) (A : Option Addr) (m cap : Nat) : Prop := m = 0 ∨ ∃ (g o : Nat) (C : List Value), A = some ⟨g, o, none⟩ ∧ C.length = m * 5 ∧ w.rangeAt g o C ∧ (∀ u ∈ C, u.oneCell' = true) ∧ 0 < m ∧ (m ≤ cap ∧ cap ≤ maxLen) ∧ m * 56 ≤ 140737488355328 ∧
  (∀ (j : Nat) (D : List Value) (W : World), j < m → D.length = 5 → (∀ t v, D[t]? = some v → C[j * 5 + t]? = some v) → Below w.heap.size w W → Calls Tryd.prog 77 #[.agg D.toArray] W (CpRes 5 W))
theorem copyL_types (w : World) (A : Option Addr) (m cap : Nat) (h : Cpb_types w A m cap) : Calls Tryd.prog 88 #[.slice A m cap, .func (.func 77) #[] #[]] w (CLRes m w) := by
  rcases h with rfl | ⟨g, o, C, rfl, h1, h2, h3, h4, h5, h6, h7⟩
  · exact copyE_types A cap _ w
  · refine (copylist_types w g o m cap C h1 h2 h3 h4 h5 h6 (Lib.hid h7)).mono ?_
    rintro e w' ⟨hh, c', rfl, _, hb⟩
    exact ⟨_, c', rfl, hb⟩
set_option maxHeartbeats 400000 in
set_option maxRecDepth 100000 in
theorem copyE_exprs (A : Option Addr) (cap : Nat) (f : Value) (w : World) : Calls Tryd.prog 89 #[.slice A 0 cap, f] w (CLRes 0 w) := by
  have HC := Lib.hid (cloneE_exprs A cap w)
  go_enter Tryd.func89, Tryd.ntmps89
  go_wp2_with (go_at_call 93; (with_reducible refine HC.out.mono ?_); rintro e w2 ⟨A2, c2, rfl, hb2⟩; have HB2 := Lib.hid hb2; clear hb2 HC)
  go_loopw [11] (fun i W => i = .int .i64 0 ∧ Below w.heap.size w W) (fun _ _ => 0)
  case atStart => exact ⟨rfl, HB2.out⟩
  case round =>
    clear HB2
    obtain ⟨rfl, hw⟩ := hrel
    have HW := Lib.hid hw
    clear hw
    go_wp2_with fail
    go_ret
    exact ⟨A2, c2, by simp, HW.out⟩
def Cpb_exprs (w : World) (A : Option Addr) (m cap : Nat) : Prop := m = 0 ∨ ∃ (g o : Nat) (C : List Value), A = some ⟨g, o, none⟩ ∧ C.length = m * 15 ∧ w.rangeAt g o C ∧ (∀ u ∈ C, u.oneCell' = true) ∧ 0 < m ∧ (m ≤ cap ∧ cap ≤ maxLen) ∧ m * 168 ≤ 140737488355328 ∧
  (∀ (j : Nat) (D : List Value) (W : World), j < m → D.length = 15 → (∀ t v, D[t]? = some v → C[j * 15 + t]? = some v) → Below w.heap.size w W → Calls Tryd.prog 78 #[.agg D.toArray] W (CpRes 15 W))
theorem copyL_exprs (w : World) (A : Option Addr) (m cap : Nat) (h : Cpb_exprs w A m cap) : Calls Tryd.prog 89 #[.slice A m cap, .func (.func 78) #[] #[]] w (CLRes m w) := by
  rcases h with rfl | ⟨g, o, C, rfl, h1, h2, h3, h4, h5, h6, h7⟩
  · exact copyE_exprs A cap _ w
  · refine (copylist_exprs w g o m cap C h1 h2 h3 h4 h5 h6 (Lib.hid h7)).mono ?_
    rintro e w' ⟨hh, c', rfl, _, hb⟩
    exact ⟨_, c', rfl, hb⟩
end Go.Proofs.YtkpoiljioadfgaaDoor

