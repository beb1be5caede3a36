import Derived.Test.YtjbleefpafnhhaaDoorZ08
import Derived.Test.YtjbleefpafnhhaaDoorZ25

/-
  value.copyList, whatever its function hands back: the length is kept.
-/
set_option linter.unusedVariables false
set_option linter.unusedSimpArgs false
namespace Go.Proofs.YtjbleefpafnhhaaDoor
open Go.RowKit

theorem own_setCells4 {base g cap n size : Nat} {e : TypeId} : ∀ (vs : List Value) {w : World} {o : Nat} {xs : List Value}, w.ownsRow base e size (.slice (some ⟨g, 0, none⟩) n cap) n xs → o + vs.length ≤ n * size → (w.setCells g o vs).ownsRow base e size (.slice (some ⟨g, 0, none⟩) n cap) n (setAll xs o vs)
  | [], _, _, _, h, _ => h
  | v :: r, w, o, xs, h, hl => own_setCells4 r (h.stored o v).1 (by simp at hl; omega)
theorem own_there {w : World} {base g n cap size o k : Nat} {e : TypeId} {xs : List Value} (h : w.ownsRow base e size (.slice (some ⟨g, 0, none⟩) n cap) n xs) (hk : o + k ≤ n * size) : w.there g o k := fun j hj => by
  refine ⟨?_, World.ownsRow.frozenAt h _⟩
  rw [World.ownsRow.cellAt h (o + j) (by omega), List.getElem?_eq_getElem (by have := h.1; omega)]
  rfl
theorem own_rangeAt {w : World} {base g n cap size o : Nat} {e : TypeId} {xs D : List Value} (h : w.ownsRow base e size (.slice (some ⟨g, 0, none⟩) n cap) n xs) (hD : ∀ t v, D[t]? = some v → xs[o + t]? = some v) : w.rangeAt g o D := fun j v hv => by
  have h2 := hD j v hv
  have hl := (List.getElem?_eq_some_iff.1 h2).1
  have := h.1
  rw [World.ownsRow.cellAt h (o + j) (by omega)]; exact h2
theorem own_below4 {w w' : World} {base g n cap size : Nat} {e : TypeId} {xs : List Value} (h : w.ownsRow base e size (.slice (some ⟨g, 0, none⟩) n cap) n xs) (hb : Below w.heap.size w w') : w'.ownsRow base e size (.slice (some ⟨g, 0, none⟩) n cap) n xs := by
  refine ⟨h.1, ?_⟩
  have hlt := h.lt
  rcases h.2 with h5 | ⟨g', cap', cur, hv, hg, hh, r⟩
  · exact .inl h5
  · refine .inr ⟨g', cap', cur, hv, hg, ?_, r⟩
    rw [hb.block g' (hlt g' (by rw [hv]; rfl)).2]
    exact hh
/-- The part of a row behind an index. -/
def Rest (sz j m : Nat) (C X : List Value) : Prop := ∀ t, j * sz ≤ t → t < m * sz → X[t]? = C[t]?
theorem Rest.step {sz j m : Nat} {C X : List Value} (h : Rest sz j m C X) (D : List Value) (hD : D.length = sz) (hX : X.length = m * sz) (hj : j < m) : Rest sz (j + 1) m C (setAll X (j * sz) D) := by
  intro t h1 h2
  have hjm : (j + 1) * sz ≤ m * sz := Nat.mul_le_mul_right sz hj
  rw [Nat.succ_mul] at h1 hjm
  rw [setAll_eq _ _ _ (by omega), List.getElem?_append_right (by simp; omega)]
  simp only [List.length_append, List.length_take, List.getElem?_drop]
  rw [Nat.min_eq_left (by omega)]
  rw [show j * sz + D.length + (t - (j * sz + D.length)) = t by omega]
  exact h t (by omega) h2
/-- What a copy hands back. -/
def CpRes (sz : Nat) (w : World) (e : Ending) (w' : World) : Prop := ∃ D' : List Value, e = .returned (.agg D'.toArray) ∧ (D'.length = sz ∧ ∀ u ∈ D', u.oneCell' = true) ∧ Below w.heap.size w w'

theorem info_slotsz : (Tryd.prog.info? 66).map (·.size) = some 11 := by kernel_rfl
def zz11 : List Value := [.int .i64 0, .int .i64 0, .int .i64 0, .string ⟨#[]⟩, .int .i64 0, .int .i64 0, .int .i64 0, .int .i64 0, .slice none 0 0, .int .i64 0, .int .i64 0]
set_option maxHeartbeats 2000000 in
set_option maxRecDepth 100000 in
theorem copylist_slots (w : World) (g o m cap : Nat) (C : List Value) (hC : C.length = m * 11) (hr : w.rangeAt g o C) (h1 : ∀ u ∈ C, u.oneCell' = true) (hm : 0 < m) (hmc : m ≤ cap ∧ cap ≤ maxLen) (hb : m * 112 ≤ 140737488355328)
    (HF : Hid (∀ (j : Nat) (D : List Value) (W : World), j < m → D.length = 11 → (∀ t v, D[t]? = some v → C[j * 11 + t]? = some v) → Below w.heap.size w W → Calls Tryd.prog 76 #[.agg D.toArray] W (CpRes 11 W))) :
    Calls Tryd.prog 75 #[.slice (some ⟨g, o, none⟩) m cap, .func (.func 76) #[] #[]] w (fun e w' => ∃ h c', e = .returned (.slice (some ⟨h, 0, none⟩) m c') ∧ (m ≤ c' ∧ c' ≤ maxLen) ∧ Below w.heap.size w w') := by
  have HCL := Lib.hid (clone_slots w g o m cap C hC hr h1 hm hmc hb)
  have hmi : (m : Int) ≤ 9223372036854775807 := by have := hmc.1; have := hmc.2; simp only [maxLen] at this; omega
  have HC := Lib.hid (And.intro hC h1)
  have HM := Lib.hid (And.intro hm (And.intro hmc hb))
  clear hC hr h1 hm hmc hb
  go_enter Tryd.func75, Tryd.ntmps75
  go_wp2_with (go_at_call 87; (with_reducible refine HCL.out.mono ?_); rintro e w1 ⟨h, c1, rfl, hown1, hb1⟩; have HO1 := Lib.hid hown1; have HB1 := Lib.hid hb1; clear hown1 hb1 HCL)
  have HCC : Hid (m ≤ c1 ∧ c1 ≤ maxLen) := Lib.hid (by
    obtain ⟨A, cap2, hv, h2, h3, _⟩ := own_shape HO1.out
    cases hv; exact ⟨h2, h3⟩)
  go_loopw [11] (fun iv W' => ∃ (j : Nat) (X : List Value), j ≤ m ∧ iv = .int .i64 (j : Int) ∧ Hid (Rest 11 j m C X) ∧ W'.ownsRow w.heap.size 66 11 (.slice (some ⟨h, 0, none⟩) m c1) m X ∧ Below w.heap.size w W' ∧ w.heap.size ≤ W'.heap.size) (fun iv _ => m - (intOf iv).toNat)
  case atStart => exact ⟨0, C, Nat.zero_le _, by go_num, Lib.hid fun t _ _ => rfl, HO1.out, HB1.out, HB1.out.size⟩
  case round =>
    clear HO1 HB1
    obtain ⟨j, X, hj, rfl, HRS, hown, hbw, hsw⟩ := hrel
    have hj0 : (0 : Int) ≤ (j : Int) := by omega
    by_cases hlt : j < m
    · have hjm : (j : Int) < (m : Int) := by omega
      have hj1 : (j : Int) + 1 ≤ 9223372036854775807 := by omega
      have hjs : (j + 1) * 11 ≤ m * 11 := Nat.mul_le_mul_right 11 hlt
      have hXl : X.length = m * 11 := by have := hown.1; omega
      obtain ⟨D, hDe⟩ : ∃ D, (X.drop (j * 11)).take 11 = D := ⟨_, rfl⟩
      have hDl : D.length = 11 := by rw [← hDe, List.length_take, List.length_drop]; omega
      have hDX : ∀ t v, D[t]? = some v → X[j * 11 + t]? = some v := fun t v hv => by
        rw [← hDe, List.getElem?_take] at hv
        split at hv
        · rw [List.getElem?_drop] at hv; exact hv
        · cases hv
      have hDC : ∀ t v, D[t]? = some v → C[j * 11 + t]? = some v := fun t v hv => by
        have h2 := hDX t v hv
        have ht : t < 11 := by have := (List.getElem?_eq_some_iff.1 hv).1; omega
        rw [← HRS.out (j * 11 + t) (by omega) (by omega)]; exact h2
      have hD1 : ∀ u ∈ D, u.oneCell' = true := fun u hu => by
        obtain ⟨t, ht, rfl⟩ := List.getElem_of_mem hu
        exact HC.out.2 _ (List.mem_of_getElem? (hDC t _ (List.getElem?_eq_getElem ht)))
      have HRG : Hid (wr.rangeAt h (j * 11) D) := Lib.hid (own_rangeAt hown hDX)
      have HID : Hid ((Tryd.prog.info? 66).map (·.size) = some D.length) := Lib.hid (by rw [hDl]; exact info_slotsz)
      have HZ : Hid (Arr (wr.alloc (.cells #[.int .i64 0, .int .i64 0, .int .i64 0, .string ⟨#[]⟩, .int .i64 0, .int .i64 0, .int .i64 0, .int .i64 0, .slice none 0 0, .int .i64 0, .int .i64 0] 66)) wr.heap.size 11 66 zz11) := Lib.hid (Arr.new' wr _ _ 11 _ rfl rfl (by decide))
      have HBZ : Hid (Below wr.heap.size wr (wr.alloc (.cells #[.int .i64 0, .int .i64 0, .int .i64 0, .string ⟨#[]⟩, .int .i64 0, .int .i64 0, .int .i64 0, .int .i64 0, .slice none 0 0, .int .i64 0, .int .i64 0] 66))) := Lib.hid (new_later wr _)
      have HFJ : Hid (∀ W, Below wr.heap.size wr W → Calls Tryd.prog 76 #[.agg D.toArray] W (CpRes 11 W)) := Lib.hid fun W h => HF.out j D W hlt hDl hDC (later hbw h)
      have HOW := Lib.hid hown
      have HBW := Lib.hid hbw
      have HSW := Lib.hid hsw
      have HLT := Lib.hid hlt
      have HJS := Lib.hid hjs
      have HXL := Lib.hid hXl
      have HDL := Lib.hid hDl
      have HD1 := Lib.hid hD1
      clear hown hbw hsw hlt hj hjs hXl hDe hDl hDX hDC hD1
      go_upto_region 5 with (first
        | (with_reducible refine wpList_load_mid rfl _ (.tmp 14) rfl h (j * 11) rfl D _ HRG.out Tryd.underlying66 rfl HID.out ?_)
        | (refine wpList_store_arr rfl _ (.tmp 6) (.tmp 15) rfl wr.heap.size 0 11 66 _ D zz11 rfl rfl rfl HZ.out (by rw [HDL.out]; exact Nat.le_refl _) HID.out HD1.out ?_; intro w6 f6 o6; rw [setAll_all zz11 D HDL.out] at f6; have HF6 := Lib.hid f6; have HO6 := Lib.hid (HBZ.out.trans (o6.bel.mono (Nat.le_refl _))); clear f6 o6))
      have HR6 : Hid (w6.rangeAt wr.heap.size 0 D) := Lib.hid HF6.out.range
      go_upto_region 6 with (first
        | (with_reducible refine wpList_load_mid rfl _ (.tmp 6) rfl wr.heap.size 0 rfl D _ HR6.out Tryd.underlying66 rfl HID.out ?_)
        | (go_at_call 76; (with_reducible refine (HFJ.out _ HO6.out).mono ?_); rintro e w7 ⟨D', rfl, hD', hb7⟩; have HD' := Lib.hid hD'; have HB7 := Lib.hid (later HO6.out hb7); have HOW7 := Lib.hid (own_below4 HOW.out HB7.out); have HID' : Hid ((Tryd.prog.info? 66).map (·.size) = some D'.toArray.size) := Lib.hid (by rw [List.size_toArray, hD'.1]; exact info_slotsz); clear hb7 hD')
        | (with_reducible refine wpList_store_mid rfl _ (.tmp 21) (.tmp 20) rfl h (j * 11) D'.toArray rfl rfl (own_there HOW7.out (by rw [List.size_toArray, HD'.out.1]; have := HJS.out; rw [Nat.succ_mul] at this; exact this)) HID'.out (all_oneCell_toArray HD'.out.2) ?_))
      have HOW8 := Lib.hid (own_setCells4 D' HOW7.out (o := j * 11) (by rw [HD'.out.1]; have := HJS.out; rw [Nat.succ_mul] at this; exact this))
      have hlh := HOW.out.lt h rfl
      have HBW8 : Hid (Below w.heap.size w (w7.setCells h (j * 11) D')) := Lib.hid (below_setCells D' (j * 11) w7 (later HBW.out HB7.out) hlh.1)
      have HSW8 : Hid (w.heap.size ≤ (w7.setCells h (j * 11) D').heap.size) := Lib.hid HBW8.out.size
      have HRS8 := Lib.hid (HRS.out.step D' HD'.out.1 HXL.out HLT.out)
      clear hlh HRS HRG HZ HBZ HFJ HOW HBW HSW HXL HDL HD1 HF6 HO6 HR6 HB7 HOW7 HID HID'
      go_wp2_with fail
      go_roundw
      case rel => exact ⟨j + 1, _, HLT.out, by go_num, HRS8, HOW8.out, HBW8.out, HSW8.out⟩
      case measure => simp [intOf]; have := HLT.out; omega
    · have hnl : ¬ ((j : Int) < (m : Int)) := by omega
      have HBW := Lib.hid hbw
      clear hown hbw hsw hlt hj
      go_wp2_with fail
      go_ret
      exact ⟨h, c1, rfl, HCC.out, HBW.out⟩

theorem info_typesz : (Tryd.prog.info? 31).map (·.size) = some 5 := by kernel_rfl
def zz5 : List Value := [.int .i64 0, .int .i64 0, .int .i64 0, .int .i64 0, .slice none 0 0]
set_option maxHeartbeats 2000000 in
set_option maxRecDepth 100000 in
theorem copylist_types (w : World) (g o m cap : Nat) (C : List Value) (hC : C.length = m * 5) (hr : w.rangeAt g o C) (h1 : ∀ u ∈ C, u.oneCell' = true) (hm : 0 < m) (hmc : m ≤ cap ∧ cap ≤ maxLen) (hb : m * 56 ≤ 140737488355328)
    (HF : Hid (∀ (j : Nat) (D : List Value) (W : World), j < m → D.length = 5 → (∀ t v, D[t]? = some v → C[j * 5 + t]? = some v) → Below w.heap.size w W → Calls Tryd.prog 77 #[.agg D.toArray] W (CpRes 5 W))) :
    Calls Tryd.prog 88 #[.slice (some ⟨g, o, none⟩) m cap, .func (.func 77) #[] #[]] w (fun e w' => ∃ h c', e = .returned (.slice (some ⟨h, 0, none⟩) m c') ∧ (m ≤ c' ∧ c' ≤ maxLen) ∧ Below w.heap.size w w') := by
  have HCL := Lib.hid (clone_types w g o m cap C hC hr h1 hm hmc hb)
  have hmi : (m : Int) ≤ 9223372036854775807 := by have := hmc.1; have := hmc.2; simp only [maxLen] at this; omega
  have HC := Lib.hid (And.intro hC h1)
  have HM := Lib.hid (And.intro hm (And.intro hmc hb))
  clear hC hr h1 hm hmc hb
  go_enter Tryd.func88, Tryd.ntmps88
  go_wp2_with (go_at_call 92; (with_reducible refine HCL.out.mono ?_); rintro e w1 ⟨h, c1, rfl, hown1, hb1⟩; have HO1 := Lib.hid hown1; have HB1 := Lib.hid hb1; clear hown1 hb1 HCL)
  have HCC : Hid (m ≤ c1 ∧ c1 ≤ maxLen) := Lib.hid (by
    obtain ⟨A, cap2, hv, h2, h3, _⟩ := own_shape HO1.out
    cases hv; exact ⟨h2, h3⟩)
  go_loopw [11] (fun iv W' => ∃ (j : Nat) (X : List Value), j ≤ m ∧ iv = .int .i64 (j : Int) ∧ Hid (Rest 5 j m C X) ∧ W'.ownsRow w.heap.size 31 5 (.slice (some ⟨h, 0, none⟩) m c1) m X ∧ Below w.heap.size w W' ∧ w.heap.size ≤ W'.heap.size) (fun iv _ => m - (intOf iv).toNat)
  case atStart => exact ⟨0, C, Nat.zero_le _, by go_num, Lib.hid fun t _ _ => rfl, HO1.out, HB1.out, HB1.out.size⟩
  case round =>
    clear HO1 HB1
    obtain ⟨j, X, hj, rfl, HRS, hown, hbw, hsw⟩ := hrel
    have hj0 : (0 : Int) ≤ (j : Int) := by omega
    by_cases hlt : j < m
    · have hjm : (j : Int) < (m : Int) := by omega
      have hj1 : (j : Int) + 1 ≤ 9223372036854775807 := by omega
      have hjs : (j + 1) * 5 ≤ m * 5 := Nat.mul_le_mul_right 5 hlt
      have hXl : X.length = m * 5 := by have := hown.1; omega
      obtain ⟨D, hDe⟩ : ∃ D, (X.drop (j * 5)).take 5 = D := ⟨_, rfl⟩
      have hDl : D.length = 5 := by rw [← hDe, List.length_take, List.length_drop]; omega
      have hDX : ∀ t v, D[t]? = some v → X[j * 5 + t]? = some v := fun t v hv => by
        rw [← hDe, List.getElem?_take] at hv
        split at hv
        · rw [List.getElem?_drop] at hv; exact hv
        · cases hv
      have hDC : ∀ t v, D[t]? = some v → C[j * 5 + t]? = some v := fun t v hv => by
        have h2 := hDX t v hv
        have ht : t < 5 := by have := (List.getElem?_eq_some_iff.1 hv).1; omega
        rw [← HRS.out (j * 5 + t) (by omega) (by omega)]; exact h2
      have hD1 : ∀ u ∈ D, u.oneCell' = true := fun u hu => by
        obtain ⟨t, ht, rfl⟩ := List.getElem_of_mem hu
        exact HC.out.2 _ (List.mem_of_getElem? (hDC t _ (List.getElem?_eq_getElem ht)))
      have HRG : Hid (wr.rangeAt h (j * 5) D) := Lib.hid (own_rangeAt hown hDX)
      have HID : Hid ((Tryd.prog.info? 31).map (·.size) = some D.length) := Lib.hid (by rw [hDl]; exact info_typesz)
      have HZ : Hid (Arr (wr.alloc (.cells #[.int .i64 0, .int .i64 0, .int .i64 0, .int .i64 0, .slice none 0 0] 31)) wr.heap.size 5 31 zz5) := Lib.hid (Arr.new' wr _ _ 5 _ rfl rfl (by decide))
      have HBZ : Hid (Below wr.heap.size wr (wr.alloc (.cells #[.int .i64 0, .int .i64 0, .int .i64 0, .int .i64 0, .slice none 0 0] 31))) := Lib.hid (new_later wr _)
      have HFJ : Hid (∀ W, Below wr.heap.size wr W → Calls Tryd.prog 77 #[.agg D.toArray] W (CpRes 5 W)) := Lib.hid fun W h => HF.out j D W hlt hDl hDC (later hbw h)
      have HOW := Lib.hid hown
      have HBW := Lib.hid hbw
      have HSW := Lib.hid hsw
      have HLT := Lib.hid hlt
      have HJS := Lib.hid hjs
      have HXL := Lib.hid hXl
      have HDL := Lib.hid hDl
      have HD1 := Lib.hid hD1
      clear hown hbw hsw hlt hj hjs hXl hDe hDl hDX hDC hD1
      go_upto_region 5 with (first
        | (with_reducible refine wpList_load_mid rfl _ (.tmp 14) rfl h (j * 5) rfl D _ HRG.out Tryd.underlying31 rfl HID.out ?_)
        | (refine wpList_store_arr rfl _ (.tmp 6) (.tmp 15) rfl wr.heap.size 0 5 31 _ D zz5 rfl rfl rfl HZ.out (by rw [HDL.out]; exact Nat.le_refl _) HID.out HD1.out ?_; intro w6 f6 o6; rw [setAll_all zz5 D HDL.out] at f6; have HF6 := Lib.hid f6; have HO6 := Lib.hid (HBZ.out.trans (o6.bel.mono (Nat.le_refl _))); clear f6 o6))
      have HR6 : Hid (w6.rangeAt wr.heap.size 0 D) := Lib.hid HF6.out.range
      go_upto_region 6 with (first
        | (with_reducible refine wpList_load_mid rfl _ (.tmp 6) rfl wr.heap.size 0 rfl D _ HR6.out Tryd.underlying31 rfl HID.out ?_)
        | (go_at_call 77; (with_reducible refine (HFJ.out _ HO6.out).mono ?_); rintro e w7 ⟨D', rfl, hD', hb7⟩; have HD' := Lib.hid hD'; have HB7 := Lib.hid (later HO6.out hb7); have HOW7 := Lib.hid (own_below4 HOW.out HB7.out); have HID' : Hid ((Tryd.prog.info? 31).map (·.size) = some D'.toArray.size) := Lib.hid (by rw [List.size_toArray, hD'.1]; exact info_typesz); clear hb7 hD')
        | (with_reducible refine wpList_store_mid rfl _ (.tmp 21) (.tmp 20) rfl h (j * 5) D'.toArray rfl rfl (own_there HOW7.out (by rw [List.size_toArray, HD'.out.1]; have := HJS.out; rw [Nat.succ_mul] at this; exact this)) HID'.out (all_oneCell_toArray HD'.out.2) ?_))
      have HOW8 := Lib.hid (own_setCells4 D' HOW7.out (o := j * 5) (by rw [HD'.out.1]; have := HJS.out; rw [Nat.succ_mul] at this; exact this))
      have hlh := HOW.out.lt h rfl
      have HBW8 : Hid (Below w.heap.size w (w7.setCells h (j * 5) D')) := Lib.hid (below_setCells D' (j * 5) w7 (later HBW.out HB7.out) hlh.1)
      have HSW8 : Hid (w.heap.size ≤ (w7.setCells h (j * 5) D').heap.size) := Lib.hid HBW8.out.size
      have HRS8 := Lib.hid (HRS.out.step D' HD'.out.1 HXL.out HLT.out)
      clear hlh HRS HRG HZ HBZ HFJ HOW HBW HSW HXL HDL HD1 HF6 HO6 HR6 HB7 HOW7 HID HID'
      go_wp2_with fail
      go_roundw
      case rel => exact ⟨j + 1, _, HLT.out, by go_num, HRS8, HOW8.out, HBW8.out, HSW8.out⟩
      case measure => simp [intOf]; have := HLT.out; omega
    · have hnl : ¬ ((j : Int) < (m : Int)) := by omega
      have HBW := Lib.hid hbw
      clear hown hbw hsw hlt hj
      go_wp2_with fail
      go_ret
      exact ⟨h, c1, rfl, HCC.out, HBW.out⟩

theorem info_exprsz : (Tryd.prog.info? 44).map (·.size) = some 15 := by kernel_rfl
def zz15 : List Value := [.int .i64 0, .int .i64 0, .int .i64 0, .int .i64 0, .int .i64 0, .int .i64 0, .int .i64 0, .int .i64 0, .int .i64 0, .int .i64 0, .int .i64 0, .int .i64 0, .slice none 0 0, .slice none 0 0, .slice none 0 0]
set_option maxHeartbeats 2000000 in
set_option maxRecDepth 100000 in
theorem copylist_exprs (w : World) (g o m cap : Nat) (C : List Value) (hC : C.length = m * 15) (hr : w.rangeAt g o C) (h1 : ∀ u ∈ C, u.oneCell' = true) (hm : 0 < m) (hmc : m ≤ cap ∧ cap ≤ maxLen) (hb : m * 168 ≤ 140737488355328)
    (HF : Hid (∀ (j : Nat) (D : List Value) (W : World), j < m → D.length = 15 → (∀ t v, D[t]? = some v → C[j * 15 + t]? = some v) → Below w.heap.size w W → Calls Tryd.prog 78 #[.agg D.toArray] W (CpRes 15 W))) :
    Calls Tryd.prog 89 #[.slice (some ⟨g, o, none⟩) m cap, .func (.func 78) #[] #[]] w (fun e w' => ∃ h c', e = .returned (.slice (some ⟨h, 0, none⟩) m c') ∧ (m ≤ c' ∧ c' ≤ maxLen) ∧ Below w.heap.size w w') := by
  have HCL := Lib.hid (clone_exprs w g o m cap C hC hr h1 hm hmc hb)
  have hmi : (m : Int) ≤ 9223372036854775807 := by have := hmc.1; have := hmc.2; simp only [maxLen] at this; omega
  have HC := Lib.hid (And.intro hC h1)
  have HM := Lib.hid (And.intro hm (And.intro hmc hb))
  clear hC hr h1 hm hmc hb
  go_enter Tryd.func89, Tryd.ntmps89
  go_wp2_with (go_at_call 93; (with_reducible refine HCL.out.mono ?_); rintro e w1 ⟨h, c1, rfl, hown1, hb1⟩; have HO1 := Lib.hid hown1; have HB1 := Lib.hid hb1; clear hown1 hb1 HCL)
  have HCC : Hid (m ≤ c1 ∧ c1 ≤ maxLen) := Lib.hid (by
    obtain ⟨A, cap2, hv, h2, h3, _⟩ := own_shape HO1.out
    cases hv; exact ⟨h2, h3⟩)
  go_loopw [11] (fun iv W' => ∃ (j : Nat) (X : List Value), j ≤ m ∧ iv = .int .i64 (j : Int) ∧ Hid (Rest 15 j m C X) ∧ W'.ownsRow w.heap.size 44 15 (.slice (some ⟨h, 0, none⟩) m c1) m X ∧ Below w.heap.size w W' ∧ w.heap.size ≤ W'.heap.size) (fun iv _ => m - (intOf iv).toNat)
  case atStart => exact ⟨0, C, Nat.zero_le _, by go_num, Lib.hid fun t _ _ => rfl, HO1.out, HB1.out, HB1.out.size⟩
  case round =>
    clear HO1 HB1
    obtain ⟨j, X, hj, rfl, HRS, hown, hbw, hsw⟩ := hrel
    have hj0 : (0 : Int) ≤ (j : Int) := by omega
    by_cases hlt : j < m
    · have hjm : (j : Int) < (m : Int) := by omega
      have hj1 : (j : Int) + 1 ≤ 9223372036854775807 := by omega
      have hjs : (j + 1) * 15 ≤ m * 15 := Nat.mul_le_mul_right 15 hlt
      have hXl : X.length = m * 15 := by have := hown.1; omega
      obtain ⟨D, hDe⟩ : ∃ D, (X.drop (j * 15)).take 15 = D := ⟨_, rfl⟩
      have hDl : D.length = 15 := by rw [← hDe, List.length_take, List.length_drop]; omega
      have hDX : ∀ t v, D[t]? = some v → X[j * 15 + t]? = some v := fun t v hv => by
        rw [← hDe, List.getElem?_take] at hv
        split at hv
        · rw [List.getElem?_drop] at hv; exact hv
        · cases hv
      have hDC : ∀ t v, D[t]? = some v → C[j * 15 + t]? = some v := fun t v hv => by
        have h2 := hDX t v hv
        have ht : t < 15 := by have := (List.getElem?_eq_some_iff.1 hv).1; omega
        rw [← HRS.out (j * 15 + t) (by omega) (by omega)]; exact h2
      have hD1 : ∀ u ∈ D, u.oneCell' = true := fun u hu => by
        obtain ⟨t, ht, rfl⟩ := List.getElem_of_mem hu
        exact HC.out.2 _ (List.mem_of_getElem? (hDC t _ (List.getElem?_eq_getElem ht)))
      have HRG : Hid (wr.rangeAt h (j * 15) D) := Lib.hid (own_rangeAt hown hDX)
      have HID : Hid ((Tryd.prog.info? 44).map (·.size) = some D.length) := Lib.hid (by rw [hDl]; exact info_exprsz)
      have HZ : Hid (Arr (wr.alloc (.cells #[.int .i64 0, .int .i64 0, .int .i64 0, .int .i64 0, .int .i64 0, .int .i64 0, .int .i64 0, .int .i64 0, .int .i64 0, .int .i64 0, .int .i64 0, .int .i64 0, .slice none 0 0, .slice none 0 0, .slice none 0 0] 44)) wr.heap.size 15 44 zz15) := Lib.hid (Arr.new' wr _ _ 15 _ rfl rfl (by decide))
      have HBZ : Hid (Below wr.heap.size wr (wr.alloc (.cells #[.int .i64 0, .int .i64 0, .int .i64 0, .int .i64 0, .int .i64 0, .int .i64 0, .int .i64 0, .int .i64 0, .int .i64 0, .int .i64 0, .int .i64 0, .int .i64 0, .slice none 0 0, .slice none 0 0, .slice none 0 0] 44))) := Lib.hid (new_later wr _)
      have HFJ : Hid (∀ W, Below wr.heap.size wr W → Calls Tryd.prog 78 #[.agg D.toArray] W (CpRes 15 W)) := Lib.hid fun W h => HF.out j D W hlt hDl hDC (later hbw h)
      have HOW := Lib.hid hown
      have HBW := Lib.hid hbw
      have HSW := Lib.hid hsw
      have HLT := Lib.hid hlt
      have HJS := Lib.hid hjs
      have HXL := Lib.hid hXl
      have HDL := Lib.hid hDl
      have HD1 := Lib.hid hD1
      clear hown hbw hsw hlt hj hjs hXl hDe hDl hDX hDC hD1
      go_upto_region 5 with (first
        | (with_reducible refine wpList_load_mid rfl _ (.tmp 14) rfl h (j * 15) rfl D _ HRG.out Tryd.underlying44 rfl HID.out ?_)
        | (refine wpList_store_arr rfl _ (.tmp 6) (.tmp 15) rfl wr.heap.size 0 15 44 _ D zz15 rfl rfl rfl HZ.out (by rw [HDL.out]; exact Nat.le_refl _) HID.out HD1.out ?_; intro w6 f6 o6; rw [setAll_all zz15 D HDL.out] at f6; have HF6 := Lib.hid f6; have HO6 := Lib.hid (HBZ.out.trans (o6.bel.mono (Nat.le_refl _))); clear f6 o6))
      have HR6 : Hid (w6.rangeAt wr.heap.size 0 D) := Lib.hid HF6.out.range
      go_upto_region 6 with (first
        | (with_reducible refine wpList_load_mid rfl _ (.tmp 6) rfl wr.heap.size 0 rfl D _ HR6.out Tryd.underlying44 rfl HID.out ?_)
        | (go_at_call 78; (with_reducible refine (HFJ.out _ HO6.out).mono ?_); rintro e w7 ⟨D', rfl, hD', hb7⟩; have HD' := Lib.hid hD'; have HB7 := Lib.hid (later HO6.out hb7); have HOW7 := Lib.hid (own_below4 HOW.out HB7.out); have HID' : Hid ((Tryd.prog.info? 44).map (·.size) = some D'.toArray.size) := Lib.hid (by rw [List.size_toArray, hD'.1]; exact info_exprsz); clear hb7 hD')
        | (with_reducible refine wpList_store_mid rfl _ (.tmp 21) (.tmp 20) rfl h (j * 15) D'.toArray rfl rfl (own_there HOW7.out (by rw [List.size_toArray, HD'.out.1]; have := HJS.out; rw [Nat.succ_mul] at this; exact this)) HID'.out (all_oneCell_toArray HD'.out.2) ?_))
      have HOW8 := Lib.hid (own_setCells4 D' HOW7.out (o := j * 15) (by rw [HD'.out.1]; have := HJS.out; rw [Nat.succ_mul] at this; exact this))
      have hlh := HOW.out.lt h rfl
      have HBW8 : Hid (Below w.heap.size w (w7.setCells h (j * 15) D')) := Lib.hid (below_setCells D' (j * 15) w7 (later HBW.out HB7.out) hlh.1)
      have HSW8 : Hid (w.heap.size ≤ (w7.setCells h (j * 15) D').heap.size) := Lib.hid HBW8.out.size
      have HRS8 := Lib.hid (HRS.out.step D' HD'.out.1 HXL.out HLT.out)
      clear hlh HRS HRG HZ HBZ HFJ HOW HBW HSW HXL HDL HD1 HF6 HO6 HR6 HB7 HOW7 HID HID'
      go_wp2_with fail
      go_roundw
      case rel => exact ⟨j + 1, _, HLT.out, by go_num, HRS8, HOW8.out, HBW8.out, HSW8.out⟩
      case measure => simp [intOf]; have := HLT.out; omega
    · have hnl : ¬ ((j : Int) < (m : Int)) := by omega
      have HBW := Lib.hid hbw
      clear hown hbw hsw hlt hj
      go_wp2_with fail
      go_ret
      exact ⟨h, c1, rfl, HCC.out, HBW.out⟩
end Go.Proofs.YtjbleefpafnhhaaDoor
/-
  value.copyDef of a definition whose slots alone hold anything; value.Def of such a program.
-/
set_option linter.unusedVariables false
set_option linter.unusedSimpArgs false
namespace Go.Proofs.YtjbleefpafnhhaaDoor
open Go.RowKit

def dc31 (k kd : Int) (nm : ByteArray) (sv : Value) : List Value := [.int .i64 0, .int .i64 1, .int .i64 k, .int .i64 kd, .int .i64 0, .int .i64 0, .int .i64 0, .string nm, sv, .int .i64 0, .int .i64 0, .int .i64 0, .int .i64 0, .slice none 0 0, .int .i64 0, .int .i64 0, .int .i64 0, .int .i64 0, .int .i64 0, .int .i64 0, .int .i64 0, .int .i64 0, .int .i64 0, .int .i64 0, .int .i64 0, .int .i64 0, .slice none 0 0, .slice none 0 0, .slice none 0 0, .int .i64 0, .slice none 0 0]
theorem info_strs1 : (Tryd.prog.info? 42).map (·.size) = some 1 := by kernel_rfl
set_option maxHeartbeats 4000000 in
set_option maxRecDepth 100000 in
theorem copyDef_plain (k kd : Int) (nm : ByteArray) (gs m cap : Nat) (w : World)
    (HCL : Hid (∀ W, Below w.heap.size w W → Calls Tryd.prog 75 #[.slice (some ⟨gs, 0, none⟩) m cap, .func (.func 76) #[] #[]] W (fun e w' => ∃ h c', e = .returned (.slice (some ⟨h, 0, none⟩) m c') ∧ (m ≤ c' ∧ c' ≤ maxLen) ∧ Below W.heap.size W w'))) :
    Calls Tryd.prog 50 #[.agg #[.int .i64 0, .int .i64 1, .int .i64 k, .int .i64 kd, .int .i64 0, .int .i64 0, .int .i64 0, .string nm, (.slice (some ⟨gs, 0, none⟩) m cap), .int .i64 0, .int .i64 0, .int .i64 0, .int .i64 0, .slice none 0 0, .int .i64 0, .int .i64 0, .int .i64 0, .int .i64 0, .int .i64 0, .int .i64 0, .int .i64 0, .int .i64 0, .int .i64 0, .int .i64 0, .int .i64 0, .int .i64 0, .slice none 0 0, .slice none 0 0, .slice none 0 0, .int .i64 0, .slice none 0 0]] w (fun e w' => ∃ h c', e = .returned (.agg (dc31 k kd nm (.slice (some ⟨h, 0, none⟩) m c')).toArray) ∧ Below w.heap.size w w') := by
  have P0 : Arr (w.alloc (.cells #[.int .i64 0, .int .i64 1, .int .i64 k, .int .i64 kd, .int .i64 0, .int .i64 0, .int .i64 0, .string nm, (.slice (some ⟨gs, 0, none⟩) m cap), .int .i64 0, .int .i64 0, .int .i64 0, .int .i64 0, .slice none 0 0, .int .i64 0, .int .i64 0, .int .i64 0, .int .i64 0, .int .i64 0, .int .i64 0, .int .i64 0, .int .i64 0, .int .i64 0, .int .i64 0, .int .i64 0, .int .i64 0, .slice none 0 0, .slice none 0 0, .slice none 0 0, .int .i64 0, .slice none 0 0] 46)) w.heap.size 31 46 (dc31 k kd nm (.slice (some ⟨gs, 0, none⟩) m cap)) := Arr.new' w _ _ 31 _ rfl rfl (by decide)
  have V0 := new_later w (.cells #[.int .i64 0, .int .i64 1, .int .i64 k, .int .i64 kd, .int .i64 0, .int .i64 0, .int .i64 0, .string nm, (.slice (some ⟨gs, 0, none⟩) m cap), .int .i64 0, .int .i64 0, .int .i64 0, .int .i64 0, .slice none 0 0, .int .i64 0, .int .i64 0, .int .i64 0, .int .i64 0, .int .i64 0, .int .i64 0, .int .i64 0, .int .i64 0, .int .i64 0, .int .i64 0, .int .i64 0, .int .i64 0, .slice none 0 0, .slice none 0 0, .slice none 0 0, .int .i64 0, .slice none 0 0] 46)
  have b2 := new_later (w.alloc (.cells #[.int .i64 0, .int .i64 1, .int .i64 k, .int .i64 kd, .int .i64 0, .int .i64 0, .int .i64 0, .string nm, (.slice (some ⟨gs, 0, none⟩) m cap), .int .i64 0, .int .i64 0, .int .i64 0, .int .i64 0, .slice none 0 0, .int .i64 0, .int .i64 0, .int .i64 0, .int .i64 0, .int .i64 0, .int .i64 0, .int .i64 0, .int .i64 0, .int .i64 0, .int .i64 0, .int .i64 0, .int .i64 0, .slice none 0 0, .slice none 0 0, .slice none 0 0, .int .i64 0, .slice none 0 0] 46)) (.cells z31.toArray 46)
  have R0 := z31_new (w.alloc (.cells #[.int .i64 0, .int .i64 1, .int .i64 k, .int .i64 kd, .int .i64 0, .int .i64 0, .int .i64 0, .string nm, (.slice (some ⟨gs, 0, none⟩) m cap), .int .i64 0, .int .i64 0, .int .i64 0, .int .i64 0, .slice none 0 0, .int .i64 0, .int .i64 0, .int .i64 0, .int .i64 0, .int .i64 0, .int .i64 0, .int .i64 0, .int .i64 0, .int .i64 0, .int .i64 0, .int .i64 0, .int .i64 0, .slice none 0 0, .slice none 0 0, .slice none 0 0, .int .i64 0, .slice none 0 0] 46))
  rw [World.size_alloc] at R0
  have P1 := P0.later b2
  have V1 := later V0 b2
  have hzd := zero_def
  have hz31 : z31.toArray = #[.int .i64 0, .int .i64 0, .int .i64 0, .int .i64 0, .int .i64 0, .int .i64 0, .int .i64 0, .string ⟨#[]⟩, .slice none 0 0, .int .i64 0, .int .i64 0, .int .i64 0, .int .i64 0, .slice none 0 0, .int .i64 0, .int .i64 0, .int .i64 0, .int .i64 0, .int .i64 0, .int .i64 0, .int .i64 0, .int .i64 0, .int .i64 0, .int .i64 0, .int .i64 0, .int .i64 0, .slice none 0 0, .slice none 0 0, .slice none 0 0, .int .i64 0, .slice none 0 0] := rfl
  rw [hz31] at P1 V1 R0 b2 hzd
  generalize hW : (w.alloc (.cells #[.int .i64 0, .int .i64 1, .int .i64 k, .int .i64 kd, .int .i64 0, .int .i64 0, .int .i64 0, .string nm, (.slice (some ⟨gs, 0, none⟩) m cap), .int .i64 0, .int .i64 0, .int .i64 0, .int .i64 0, .slice none 0 0, .int .i64 0, .int .i64 0, .int .i64 0, .int .i64 0, .int .i64 0, .int .i64 0, .int .i64 0, .int .i64 0, .int .i64 0, .int .i64 0, .int .i64 0, .int .i64 0, .slice none 0 0, .slice none 0 0, .slice none 0 0, .int .i64 0, .slice none 0 0] 46)).alloc (.cells #[.int .i64 0, .int .i64 0, .int .i64 0, .int .i64 0, .int .i64 0, .int .i64 0, .int .i64 0, .string ⟨#[]⟩, .slice none 0 0, .int .i64 0, .int .i64 0, .int .i64 0, .int .i64 0, .slice none 0 0, .int .i64 0, .int .i64 0, .int .i64 0, .int .i64 0, .int .i64 0, .int .i64 0, .int .i64 0, .int .i64 0, .int .i64 0, .int .i64 0, .int .i64 0, .int .i64 0, .slice none 0 0, .slice none 0 0, .slice none 0 0, .int .i64 0, .slice none 0 0] 46) = wa at P1 V1 R0
  have HR := Lib.hid R0
  have HP := Lib.hid P1
  have HV := Lib.hid V1
  have c8 := P1.cell (j := 8) (v := (.slice (some ⟨gs, 0, none⟩) m cap)) rfl
  have HT : Hid (∀ W, Calls Tryd.prog 77 #[.agg #[.int .i64 0, .int .i64 0, .int .i64 0, .int .i64 0, .slice none 0 0]] W (fun e w' => e = .returned (.agg #[.int .i64 0, .int .i64 0, .int .i64 0, .int .i64 0, .slice none 0 0]) ∧ Below W.heap.size W w')) := Lib.hid fun W => copyType_leaf 0 0 0 0 W
  have HE : Hid (∀ W, Calls Tryd.prog 78 #[.agg #[.int .i64 0, .int .i64 0, .int .i64 0, .int .i64 0, .int .i64 0, .int .i64 0, .int .i64 0, .int .i64 0, .int .i64 0, .int .i64 0, .int .i64 0, .int .i64 0, .slice none 0 0, .slice none 0 0, .slice none 0 0]] W (fun e w' => e = .returned (.agg #[.int .i64 0, .int .i64 0, .int .i64 0, .int .i64 0, .int .i64 0, .int .i64 0, .int .i64 0, .int .i64 0, .int .i64 0, .int .i64 0, .int .i64 0, .int .i64 0, .slice none 0 0, .slice none 0 0, .slice none 0 0]) ∧ Below W.heap.size W w')) := Lib.hid fun W => copyExpr_zero W
  have HN : Hid (∀ W, Calls Tryd.prog 79 #[.slice none 0 0] W (fun e w' => e = .returned (.slice none 0 0) ∧ w' = W)) := Lib.hid fun W => clonenil_strs W
  clear P0 V0 b2 R0 P1 V1 hz31
  go_enter Tryd.func50, Tryd.ntmps50
  go_upto_region 1 with fail
  clear hW hzd
  go_upto_region 2 with (go_at_call 75; (with_reducible refine (HCL.out _ HV.out).mono ?_); rintro e w2 ⟨h, c2, rfl, hcc, hb2⟩; have P2 := HP.out.later hb2; have d8 := P2.cell (j := 8) (v := (.slice (some ⟨gs, 0, none⟩) m cap)) rfl; have f8 := P2.free 8; have HP2 := Lib.hid P2; have HR2 := Lib.hid (HR.out.later hb2); have HV2 := Lib.hid (later HV.out hb2); clear P2 hb2 hcc)
  have P3 : Arr (w2.setCell ⟨w.heap.size, 8, none⟩ (.slice (some ⟨h, 0, none⟩) m c2)) w.heap.size 31 46 (dc31 k kd nm (.slice (some ⟨h, 0, none⟩) m c2)) := HP2.out.set_ 8 (.slice (some ⟨h, 0, none⟩) m c2)
  have o3 : Only w.heap.size w2 (w2.setCell ⟨w.heap.size, 8, none⟩ (.slice (some ⟨h, 0, none⟩) m c2)) := Only.setCells w.heap.size 8 [(.slice (some ⟨h, 0, none⟩) m c2)] w2
  have R3 := HR2.out.only o3 (by omega)
  have V3 : Below w.heap.size w (w2.setCell ⟨w.heap.size, 8, none⟩ (.slice (some ⟨h, 0, none⟩) m c2)) := HV2.out.trans (o3.bel.mono (Nat.le_refl _))
  generalize w2.setCell ⟨w.heap.size, 8, none⟩ (.slice (some ⟨h, 0, none⟩) m c2) = w3 at P3 R3 V3 ⊢
  have HP3 := Lib.hid P3
  have HR3 := Lib.hid R3
  have HV3 := Lib.hid V3
  have HG3 : Hid (w3.rangeAt w.heap.size 9 [.int .i64 0, .int .i64 0, .int .i64 0, .int .i64 0, .slice none 0 0]) := Lib.hid (Arr.mid (a := [.int .i64 0, .int .i64 1, .int .i64 k, .int .i64 kd, .int .i64 0, .int .i64 0, .int .i64 0, .string nm, (.slice (some ⟨h, 0, none⟩) m c2)]) (x := [.int .i64 0, .int .i64 0, .int .i64 0, .int .i64 0, .slice none 0 0]) (b := [.int .i64 0, .int .i64 0, .int .i64 0, .int .i64 0, .int .i64 0, .int .i64 0, .int .i64 0, .int .i64 0, .int .i64 0, .int .i64 0, .int .i64 0, .int .i64 0, .slice none 0 0, .slice none 0 0, .slice none 0 0, .int .i64 0, .slice none 0 0]) P3 rfl)
  have HI5 : Hid ((Tryd.prog.info? 31).map (·.size) = some ([.int .i64 0, .int .i64 0, .int .i64 0, .int .i64 0, .slice none 0 0] : List Value).length) := Lib.hid info_typesz
  have HI15 : Hid ((Tryd.prog.info? 44).map (·.size) = some ([.int .i64 0, .int .i64 0, .int .i64 0, .int .i64 0, .int .i64 0, .int .i64 0, .int .i64 0, .int .i64 0, .int .i64 0, .int .i64 0, .int .i64 0, .int .i64 0, .slice none 0 0, .slice none 0 0, .slice none 0 0] : List Value).length) := Lib.hid info_exprsz
  clear P3 o3 R3 V3 d8 f8 HP2 HR2 HV2 HP HR HV HCL c8
  go_upto_region 3 with (first
    | (with_reducible refine wpList_load_mid rfl _ (.tmp 7) rfl w.heap.size 9 rfl [.int .i64 0, .int .i64 0, .int .i64 0, .int .i64 0, .slice none 0 0] _ HG3.out Tryd.underlying31 rfl HI5.out ?_)
    | (go_at_call 77; (with_reducible refine (HT.out _).mono ?_); rintro e w4 ⟨rfl, hb4⟩; have HP4 := Lib.hid (HP3.out.later hb4); have HR4 := Lib.hid (HR3.out.later hb4); have HV4 := Lib.hid (later HV3.out hb4); clear hb4)
    | (refine wpList_store_arr rfl _ (.tmp 10) (.tmp 9) rfl w.heap.size 9 31 46 _ [.int .i64 0, .int .i64 0, .int .i64 0, .int .i64 0, .slice none 0 0] (dc31 k kd nm (.slice (some ⟨h, 0, none⟩) m c2)) rfl rfl rfl HP4.out (show 9 + 5 ≤ 31 by omega) info_typesz (List.all_eq_true.mp (by rfl)) ?_; intro w5 f5 o5; have HP5 : Hid (Arr w5 w.heap.size 31 46 (dc31 k kd nm (.slice (some ⟨h, 0, none⟩) m c2))) := Lib.hid f5; have HR5 := Lib.hid (HR4.out.only o5 (by omega)); have HV5 := Lib.hid (HV4.out.trans (o5.bel.mono (Nat.le_refl _))); clear f5 o5))
  have HG5 : Hid (w5.rangeAt w.heap.size 14 [.int .i64 0, .int .i64 0, .int .i64 0, .int .i64 0, .int .i64 0, .int .i64 0, .int .i64 0, .int .i64 0, .int .i64 0, .int .i64 0, .int .i64 0, .int .i64 0, .slice none 0 0, .slice none 0 0, .slice none 0 0]) := Lib.hid (Arr.mid (a := [.int .i64 0, .int .i64 1, .int .i64 k, .int .i64 kd, .int .i64 0, .int .i64 0, .int .i64 0, .string nm, (.slice (some ⟨h, 0, none⟩) m c2), .int .i64 0, .int .i64 0, .int .i64 0, .int .i64 0, .slice none 0 0]) (x := [.int .i64 0, .int .i64 0, .int .i64 0, .int .i64 0, .int .i64 0, .int .i64 0, .int .i64 0, .int .i64 0, .int .i64 0, .int .i64 0, .int .i64 0, .int .i64 0, .slice none 0 0, .slice none 0 0, .slice none 0 0]) (b := [.int .i64 0, .slice none 0 0]) HP5.out rfl)
  clear HP3 HR3 HV3 HG3 HP4 HR4 HV4
  go_upto_region 4 with (first
    | (with_reducible refine wpList_load_mid rfl _ (.tmp 11) rfl w.heap.size 14 rfl [.int .i64 0, .int .i64 0, .int .i64 0, .int .i64 0, .int .i64 0, .int .i64 0, .int .i64 0, .int .i64 0, .int .i64 0, .int .i64 0, .int .i64 0, .int .i64 0, .slice none 0 0, .slice none 0 0, .slice none 0 0] _ HG5.out Tryd.underlying44 rfl HI15.out ?_)
    | (go_at_call 78; (with_reducible refine (HE.out _).mono ?_); rintro e w6 ⟨rfl, hb6⟩; have HP6 := Lib.hid (HP5.out.later hb6); have HR6 := Lib.hid (HR5.out.later hb6); have HV6 := Lib.hid (later HV5.out hb6); clear hb6)
    | (refine wpList_store_arr rfl _ (.tmp 14) (.tmp 13) rfl w.heap.size 14 31 46 _ [.int .i64 0, .int .i64 0, .int .i64 0, .int .i64 0, .int .i64 0, .int .i64 0, .int .i64 0, .int .i64 0, .int .i64 0, .int .i64 0, .int .i64 0, .int .i64 0, .slice none 0 0, .slice none 0 0, .slice none 0 0] (dc31 k kd nm (.slice (some ⟨h, 0, none⟩) m c2)) rfl rfl rfl HP6.out (show 14 + 15 ≤ 31 by omega) info_exprsz (List.all_eq_true.mp (by rfl)) ?_; intro w7 f7 o7; have HP7 : Hid (Arr w7 w.heap.size 31 46 (dc31 k kd nm (.slice (some ⟨h, 0, none⟩) m c2))) := Lib.hid f7; have HR7 := Lib.hid (HR6.out.only o7 (by omega)); have HV7 := Lib.hid (HV6.out.trans (o7.bel.mono (Nat.le_refl _))); clear f7 o7))
  have c30 := HP7.out.cell (j := 30) (v := .slice none 0 0) rfl
  have f30 := HP7.out.free 30
  clear HP5 HR5 HV5 HG5 HP6 HR6 HV6
  go_upto_region 5 with (go_at_call 79; (with_reducible refine (HN.out _).mono ?_); rintro e w8 ⟨rfl, hw8⟩; rw [hw8]; clear hw8)
  have P8 : Arr (w7.setCell ⟨w.heap.size, 30, none⟩ (.slice none 0 0)) w.heap.size 31 46 (dc31 k kd nm (.slice (some ⟨h, 0, none⟩) m c2)) := HP7.out.set_ 30 (.slice none 0 0)
  have o8 : Only w.heap.size w7 (w7.setCell ⟨w.heap.size, 30, none⟩ (.slice none 0 0)) := Only.setCells w.heap.size 30 [.slice none 0 0] w7
  have R8 := HR7.out.only o8 (by omega)
  have V8 : Below w.heap.size w (w7.setCell ⟨w.heap.size, 30, none⟩ (.slice none 0 0)) := HV7.out.trans (o8.bel.mono (Nat.le_refl _))
  generalize w7.setCell ⟨w.heap.size, 30, none⟩ (.slice none 0 0) = w9 at P8 R8 V8 ⊢
  have HG9 : Hid (w9.rangeAt w.heap.size 0 (dc31 k kd nm (.slice (some ⟨h, 0, none⟩) m c2))) := Lib.hid P8.range
  have HI31 : Hid ((Tryd.prog.info? 46).map (·.size) = some (dc31 k kd nm (.slice (some ⟨h, 0, none⟩) m c2)).length) := Lib.hid info_def
  have HR8 := Lib.hid R8
  have HV8 := Lib.hid V8
  clear P8 o8 R8 V8 c30 f30 HP7 HR7 HV7
  go_wp2_with (first
    | (with_reducible refine wpList_load_mid rfl _ (.tmp 1) rfl w.heap.size 0 rfl (dc31 k kd nm (.slice (some ⟨h, 0, none⟩) m c2)) _ HG9.out Tryd.underlying46 rfl HI31.out ?_)
    | (refine wpList_store_arr rfl _ (.tmp 2) (.tmp 19) rfl (w.heap.size + 1) 0 31 46 _ (dc31 k kd nm (.slice (some ⟨h, 0, none⟩) m c2)) z31 rfl rfl rfl HR8.out (show 0 + 31 ≤ 31 by omega) info_def (List.all_eq_true.mp (by rfl)) ?_; intro w10 f10 o10))
  rw [setAll_all z31 (dc31 k kd nm (.slice (some ⟨h, 0, none⟩) m c2)) rfl] at f10
  exact bodyPost_ret (results_one rfl _ _ (w.heap.size + 1) (dc31 k kd nm (.slice (some ⟨h, 0, none⟩) m c2)) _ rfl f10.range Tryd.underlying46 rfl info_def) rfl ⟨h, c2, rfl, HV8.out.trans (o10.bel.mono (by omega))⟩
end Go.Proofs.YtjbleefpafnhhaaDoor
