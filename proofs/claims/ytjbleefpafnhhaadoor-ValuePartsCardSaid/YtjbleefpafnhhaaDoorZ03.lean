import Derived.Test.YtjbleefpafnhhaaDoorZ02

set_option linter.unusedVariables false
set_option linter.unusedSimpArgs false
namespace Go.Proofs.YtjbleefpafnhhaaDoor
open Go.RowKit

set_option maxHeartbeats 4000000 in
set_option maxRecDepth 100000 in
theorem cfunc_step (xs ys : List Tr) (A B : Option Addr) (n cap cap' : Nat) (w : World) (hl : xs.length = n) (hl' : ys.length = n) (ha : KsAt w A 0 xs) (hb : KsAt w B 0 ys) (HM : Hid (n ≤ cap ∧ cap ≤ maxLen))
    (ih : Hid (∀ (j : Nat) (x y : Tr), xs[j]? = some x → ys[j]? = some y → ∀ W v u, TrAt W x v → TrAt W y u → Calls Tryd.prog 32 #[v, u] W (NumRes (x.cp y) W))) :
    Calls Tryd.prog 63 #[.slice A n cap, .slice B n cap', .func (.func 32) #[] #[]] w (NumRes (cpL xs ys) w) := by
  have HA := Lib.hid ha
  have HB := Lib.hid hb
  have HL := Lib.hid hl
  have HL' := Lib.hid hl'
  obtain ⟨R, hR⟩ : ∃ R, cpL xs ys = R := ⟨_, rfl⟩
  rw [hR]
  have HR := Lib.hid hR
  clear ha hb hl hl' hR
  go_enter Tryd.func63, Tryd.ntmps63
  go_wp2_with fail
  go_loopw [13] (fun i W => ∃ j : Nat, j ≤ n ∧ i = .int .i64 (j : Int) ∧ cpL (xs.drop j) (ys.drop j) = R ∧ Below w.heap.size w W) (fun i _ => n - (intOf i).toNat)
  case atStart => exact ⟨0, by omega, rfl, by simpa using HR.out, Below.refl _ _⟩
  case round =>
    obtain ⟨j, hj, rfl, hcp, V1⟩ := hrel
    by_cases hlt : j < n
    · have hji : (j : Int) < (n : Int) := by omega
      have hj0 : (0 : Int) ≤ (j : Int) := by omega
      have hjm : (j : Int) + 1 ≤ 9223372036854775807 := by have := HM.out; simp only [maxLen] at this; omega
      have hjx : j < xs.length := by rw [HL.out]; exact hlt
      have hjy : j < ys.length := by rw [HL'.out]; exact hlt
      have hkx : xs[j]? = some xs[j] := List.getElem?_eq_getElem hjx
      have hky : ys[j]? = some ys[j] := List.getElem?_eq_getElem hjy
      rw [cpL_drop xs ys j hjx hjy] at hcp
      have HCP := Lib.hid hcp
      clear hcp
      obtain ⟨g, o, C, hA, HRa, HT, HC3, HI3, HOC⟩ := kid_at (HA.out.later V1) hkx
      obtain ⟨g', o', C', hB, HRb, HT', HC3', HI3', HOC'⟩ := kid_at (HB.out.later V1) hky
      subst hA
      subst hB
      have HIH : Hid (∀ W v u, TrAt W xs[j] v → TrAt W ys[j] u → Calls Tryd.prog 32 #[v, u] W (NumRes (xs[j].cp ys[j]) W)) := Lib.hid (ih.out j _ _ hkx hky)
      clear hkx hky
      generalize xs[j] = x at HCP HIH HT
      generalize ys[j] = y at HCP HIH HT'
      generalize x.cp y = c at HCP HIH
      clear hjx hjy
      have hng : ¬ (j : Int) ≥ (n : Int) := by omega
      have hng2 : ¬ (n : Int) ≤ (j : Int) := by omega
      have hdg : decide ((n : Int) ≤ (j : Int)) = false := decide_eq_false hng2
      go_upto_region 4 with (first
        | (with_reducible refine wpList_load_mid rfl _ (.tmp 16) rfl g (o + j * 3) rfl C _ HRa.out Tryd.underlying53 rfl HI3.out ?_)
        | (refine wpList_store_new rfl _ (.tmp 8) (.tmp 17) rfl rfl rfl info_val HC3.out rfl (all_oneCell_toArray HOC.out) ?_; intro w5 hbel5 hrow5 hsz5; have T5 : Arr w5 wr.heap.size 3 53 C := Arr.of_row hrow5 HC3.out (by decide); have V5 := later V1 hbel5; have HT5 := Lib.hid (HT.out.later hbel5); have HT5' := Lib.hid (HT'.out.later hbel5); have HRb5 := Lib.hid (range_below HRb.out hbel5); clear hrow5))
      clear hbel5 hsz5 HC3 HRa HRb HT HT'
      clear HA HB HL HL' HR ih
      go_upto_region 6 with fail

      go_upto_region 7 with (first
        | (with_reducible refine wpList_load_mid rfl _ (.tmp 24) rfl g' (o' + j * 3) rfl C' _ HRb5.out Tryd.underlying53 rfl HI3'.out ?_)
        | (refine wpList_store_new rfl _ (.tmp 9) (.tmp 25) rfl rfl rfl info_val HC3'.out rfl (all_oneCell_toArray HOC'.out) ?_; intro w6 hbel6 hrow6 hsz6; have T6' : Arr w6 w5.heap.size 3 53 C' := Arr.of_row hrow6 HC3'.out (by decide); have T6 := T5.later hbel6; have V6 := later V5 hbel6; have HT6 := Lib.hid (HT5.out.later hbel6); have HT6' := Lib.hid (HT5'.out.later hbel6); clear hrow6))
      have HV6 := Lib.hid V6
      clear T5 V5 HT5 HT5' HRb5 hbel6 hsz6 V1 hlt hng hng2 hdg
      by_cases hc0 : c = 0
      · subst hc0
        go_upto_region 8 with (first
          | (with_reducible refine wpList_load_mid rfl _ (.tmp 8) rfl wr.heap.size 0 rfl C _ T6.range Tryd.underlying53 rfl HI3.out ?_)
          | (with_reducible refine wpList_load_mid rfl _ (.tmp 9) rfl w5.heap.size 0 rfl C' _ T6'.range Tryd.underlying53 rfl HI3'.out ?_)
          | (go_at_call 32; (with_reducible refine (HIH.out _ _ _ HT6.out HT6'.out).mono ?_); rintro e w7 ⟨rfl, hb7⟩; have V7 := later V6 hb7))
        have HCP0 : Hid (cpL (xs.drop (j + 1)) (ys.drop (j + 1)) = R) := Lib.hid (by have h := HCP.out; rw [if_neg (by omega)] at h; exact h)
        go_wp2_with fail
        refine ⟨⟨j + 1, by omega, by go_num, HCP0.out, V7⟩, by simp [intOf]; omega⟩
      · have hcb : (c != 0) = true := by simpa using hc0
        go_wp2_with (first
          | (with_reducible refine wpList_load_mid rfl _ (.tmp 8) rfl wr.heap.size 0 rfl C _ T6.range Tryd.underlying53 rfl HI3.out ?_)
          | (with_reducible refine wpList_load_mid rfl _ (.tmp 9) rfl w5.heap.size 0 rfl C' _ T6'.range Tryd.underlying53 rfl HI3'.out ?_)
          | (go_at_call 32; (with_reducible refine (HIH.out _ _ _ HT6.out HT6'.out).mono ?_); rintro e w7 ⟨rfl, hb7⟩; have V7 := later V6 hb7))
        have HCR : Hid (c = R) := Lib.hid (by have h := HCP.out; rw [if_pos hc0] at h; exact h)
        go_ret
        exact ⟨by rw [← HCR.out]; rfl, V7⟩
    · have hje : j = n := by omega
      subst hje
      rw [List.drop_of_length_le (by rw [HL.out]; omega), cpL] at hcp
      subst hcp
      go_wp2_with fail
      go_ret
      exact ⟨rfl, V1⟩
end Go.Proofs.YtjbleefpafnhhaaDoor
set_option linter.unusedVariables false
set_option linter.unusedSimpArgs false
namespace Go.Proofs.YtjbleefpafnhhaaDoor
open Go.RowKit

theorem below_drew' {B : Nat} {a w : World} (h : Below B a w) : Below B a w.drew := below_drewN h 1
theorem or3_zero {a b c : Int} (h : or3 a b c = 0) : a = 0 ∧ b = 0 ∧ c = 0 := by
  unfold or3 at h
  split at h
  · omega
  · split at h
    · omega
    · omega

set_option maxHeartbeats 4000000 in
set_option maxRecDepth 100000 in
theorem cmp_step (k n k' n' R : Int) (len len' : Nat) (A B : Option Addr) (cap cap' : Nat) (w : World)
    (HH : Hid (cmpI k k' = 0 → cmpI n n' = 0 → cmpI (len : Int) (len' : Int) = 0 → ∀ W, Below w.heap.size w W → Calls Tryd.prog 63 #[.slice A len cap, .slice B len' cap', .func (.func 32) #[] #[]] W (NumRes R W))) :
    Calls Tryd.prog 32 #[.agg (c3 k n A len cap).toArray, .agg (c3 k' n' B len' cap').toArray] w (NumRes (if or3 (cmpI k k') (cmpI n n') (cmpI (len : Int) (len' : Int)) ≠ 0 then or3 (cmpI k k') (cmpI n n') (cmpI (len : Int) (len' : Int)) else R) w) := by
  have HC := Lib.hid ccmp_any
  have HO := Lib.hid cor_any
  have P0 := c3_new w k n A len cap
  have V0' := new_later w (.cells (c3 k n A len cap).toArray 53)
  have Q0 := c3_new (w.alloc (.cells (c3 k n A len cap).toArray 53)) k' n' B len' cap'
  have P1 := P0.later (new_later _ (.cells (c3 k' n' B len' cap').toArray 53))
  have V1 := later V0' (new_later _ (.cells (c3 k' n' B len' cap').toArray 53))
  rw [World.size_alloc] at Q0
  clear P0 V0'
  generalize hW : (w.alloc (.cells (c3 k n A len cap).toArray 53)).alloc (.cells (c3 k' n' B len' cap').toArray 53) = wa at P1 V1 Q0
  go_enter Tryd.func32, Tryd.ntmps32
  go_upto_region 1 with fail
  clear hW
  have Pd : Arr wa.drew w.heap.size 3 53 (c3 k n A len cap) := P1
  have Qd : Arr wa.drew (w.heap.size + 1) 3 53 (c3 k' n' B len' cap') := Q0
  have Vd : Below w.heap.size w wa.drew := below_drewN V1 1
  have bP := fun (X : Int) (Y : Int) (Z : Int) => new_later wa.drew (.cells #[.int .i64 X, .int .i64 Y, .int .i64 Z] 3)
  have HP : Hid (∀ W, Arr W w.heap.size 3 53 (c3 k n A len cap) → Arr W (w.heap.size + 1) 3 53 (c3 k' n' B len' cap') → (W.cell? ⟨w.heap.size, 0, none⟩ = some (.int .i64 k) ∧ W.cell? ⟨w.heap.size, 1, none⟩ = some (.int .i64 n) ∧ W.cell? ⟨w.heap.size, 2, none⟩ = some (.slice A len cap) ∧ W.cell? ⟨w.heap.size + 1, 0, none⟩ = some (.int .i64 k') ∧ W.cell? ⟨w.heap.size + 1, 1, none⟩ = some (.int .i64 n') ∧ W.cell? ⟨w.heap.size + 1, 2, none⟩ = some (.slice B len' cap'))) :=
    Lib.hid fun W p q => ⟨p.cell (j := 0) rfl, p.cell (j := 1) rfl, p.cell (j := 2) rfl, q.cell (j := 0) rfl, q.cell (j := 1) rfl, q.cell (j := 2) rfl⟩
  have HOr : Hid (∀ X Y Z, Calls Tryd.prog 61 #[.slice (some ⟨wa.heap.size, 0, none⟩) 3 3] (wa.alloc (.cells #[.int .i64 X, .int .i64 Y, .int .i64 Z] 3)).drew fun e w' => e = .returned (.int .i64 (or3 X Y Z)) ∧ w' = (wa.alloc (.cells #[.int .i64 X, .int .i64 Y, .int .i64 Z] 3)).drew) := Lib.hid fun X Y Z => by
    have hN : Arr (wa.alloc (.cells #[.int .i64 X, .int .i64 Y, .int .i64 Z] 3)).drew wa.heap.size 3 3 [.int .i64 X, .int .i64 Y, .int .i64 Z] := Arr.new' wa 3 #[.int .i64 X, .int .i64 Y, .int .i64 Z] 3 [.int .i64 X, .int .i64 Y, .int .i64 Z] rfl rfl (by decide)
    exact HO.out _ X Y Z _ (hN.cell (j := 0) rfl) (hN.cell (j := 1) rfl) (hN.cell (j := 2) rfl)
  go_region_held3 (fun W => W.cell? ⟨w.heap.size, 0, none⟩ = some (.int .i64 k) ∧ W.cell? ⟨w.heap.size, 1, none⟩ = some (.int .i64 n) ∧ W.cell? ⟨w.heap.size, 2, none⟩ = some (.slice A len cap) ∧ W.cell? ⟨w.heap.size + 1, 0, none⟩ = some (.int .i64 k') ∧ W.cell? ⟨w.heap.size + 1, 1, none⟩ = some (.int .i64 n') ∧ W.cell? ⟨w.heap.size + 1, 2, none⟩ = some (.slice B len' cap'))
    (first | exact HP.out _ Pd Qd | exact HP.out _ (Pd.later (bP _ _ _)) (Qd.later (bP _ _ _)))
    (first
    | (go_at_call 62; (with_reducible refine (HC.out _ _ _).mono ?_); rintro e w6 ⟨rfl, rfl⟩)
    | (go_at_call 61; (with_reducible refine (HOr.out _ _ _).mono ?_); rintro e w6 ⟨rfl, rfl⟩))
  have hbN := new_later wa (.cells #[.int .i64 (cmpI k k'), .int .i64 (cmpI n n'), .int .i64 (cmpI (len : Int) (len' : Int))] 3)
  have P3 : Arr (wa.alloc (.cells #[.int .i64 (cmpI k k'), .int .i64 (cmpI n n'), .int .i64 (cmpI (len : Int) (len' : Int))] 3)).drew w.heap.size 3 53 (c3 k n A len cap) := P1.later (below_drew' hbN)
  have Q3 : Arr (wa.alloc (.cells #[.int .i64 (cmpI k k'), .int .i64 (cmpI n n'), .int .i64 (cmpI (len : Int) (len' : Int))] 3)).drew (w.heap.size + 1) 3 53 (c3 k' n' B len' cap') := Q0.later (below_drew' hbN)
  have V3 : Below w.heap.size w (wa.alloc (.cells #[.int .i64 (cmpI k k'), .int .i64 (cmpI n n'), .int .i64 (cmpI (len : Int) (len' : Int))] 3)).drew := below_drew' (later V1 hbN)
  have hor : or3 (cmpI k k') (cmpI n n') (cmpI (len : Int) (len' : Int)) = 0 → cmpI k k' = 0 ∧ cmpI n n' = 0 ∧ cmpI (len : Int) (len' : Int) = 0 := or3_zero
  clear hbN Pd Qd Vd bP HP HOr P1 V1 Q0
  generalize (wa.alloc (.cells #[.int .i64 (cmpI k k'), .int .i64 (cmpI n n'), .int .i64 (cmpI (len : Int) (len' : Int))] 3)).drew = wb at P3 Q3 V3 ⊢
  have HH2 : Hid (or3 (cmpI k k') (cmpI n n') (cmpI (len : Int) (len' : Int)) = 0 → Calls Tryd.prog 63 #[.slice A len cap, .slice B len' cap', .func (.func 32) #[] #[]] wb (NumRes R wb)) := Lib.hid fun h => HH.out (hor h).1 (hor h).2.1 (hor h).2.2 wb V3
  clear HH hor
  have ha2 := P3.cell (j := 2) (v := .slice A len cap) rfl
  have hb2 := Q3.cell (j := 2) (v := .slice B len' cap') rfl
  by_cases hc0 : or3 (cmpI k k') (cmpI n n') (cmpI (len : Int) (len' : Int)) = 0
  · have HQ := Lib.hid (HH2.out hc0)
    have HZ := Lib.hid hc0
    rw [hc0]
    clear hc0 HH2
    go_wp2_with (go_at_call 63; (with_reducible refine HQ.out.mono ?_); rintro e w7 ⟨rfl, hb7⟩; have V7 := later V3 hb7)
    go_ret
    exact ⟨by first | rfl | (rw [if_neg (by rw [HZ.out]; decide)]; rfl), V7⟩
  · have HZ := Lib.hid hc0
    have hcb : (or3 (cmpI k k') (cmpI n n') (cmpI (len : Int) (len' : Int)) != 0) = true := by simpa using hc0
    clear hc0 HH2
    obtain ⟨c, hce⟩ : ∃ c, or3 (cmpI k k') (cmpI n n') (cmpI (len : Int) (len' : Int)) = c := ⟨_, rfl⟩
    have HCE := Lib.hid hce
    rw [hce] at hcb ⊢
    clear hce
    go_wp2_with fail
    go_ret
    exact ⟨by rw [HCE.out]; rfl, V3⟩

theorem cp_form (k n k' n' : Int) (xs ys : List Tr) : (Tr.node k n xs).cp (Tr.node k' n' ys) = if or3 (cmpI k k') (cmpI n n') (cmpI (xs.length : Int) (ys.length : Int)) ≠ 0 then or3 (cmpI k k') (cmpI n n') (cmpI (xs.length : Int) (ys.length : Int)) else cpL xs ys := by
  rw [Tr.cp]
  unfold or3
  by_cases h1 : cmpI k k' ≠ 0
  · rw [if_pos h1, if_pos h1, if_pos h1]
  · rw [if_neg h1, if_neg h1]
    by_cases h2 : cmpI n n' ≠ 0
    · rw [if_pos h2, if_pos h2, if_pos h2]
    · rw [if_neg h2, if_neg h2]
theorem cmpI_zero {x y : Int} (h : cmpI x y = 0) : x = y := by
  unfold cmpI at h
  split at h
  · omega
  · split at h <;> omega
theorem compare_any : ∀ (N : Nat) (x : Tr), x.nodes ≤ N → ∀ (y : Tr) (w : World) (v u : Value), TrAt w x v → TrAt w y u → Calls Tryd.prog 32 #[v, u] w (NumRes (x.cp y) w)
  | 0, x, hN, _, _, _, _, _, _ => absurd hN (by have := x.nodes_pos; omega)
  | N + 1, .node k n ks, hN, .node k' n' ks', w, v, u, h, h' => by
    unfold TrAt at h h'
    obtain ⟨A, cap, rfl, hm, hk⟩ := h
    obtain ⟨B, cap', rfl, hm', hk'⟩ := h'
    rw [cp_form]
    refine cmp_step k n k' n' _ ks.length ks'.length A B cap cap' w (Lib.hid fun h1 h2 h3 W hW => ?_)
    have hl := cmpI_zero h3
    have hl2 : ks'.length = ks.length := by omega
    rw [hl2]
    exact cfunc_step ks ks' A B ks.length cap cap' W rfl hl2 (hk.later hW) (hk'.later hW) (Lib.hid ⟨hm.1, hm.2.1⟩) (Lib.hid fun j x y hx hy W' v' u' e e' => compare_any N x (by have := Tr.kid_less (k := k) (n := n) hx; omega) y W' v' u' e e')
end Go.Proofs.YtjbleefpafnhhaaDoor
set_option linter.unusedVariables false
set_option linter.unusedSimpArgs false
namespace Go.Proofs.YtjbleefpafnhhaaDoor
open Go.RowKit

/-- A call that answers a bool, what was there before stays. -/
def BRes (p : Bool) (w : World) (e : Ending) (w' : World) : Prop := e = .returned (.bool p) ∧ Below w.heap.size w w'

set_option maxHeartbeats 4000000 in
set_option maxRecDepth 100000 in
theorem efunc_step (xs ys : List Ty) (A B : Option Addr) (n cap cap' : Nat) (w : World) (hl : xs.length = n) (hl' : ys.length = n) (ha : KtAt w A 0 xs) (hb : KtAt w B 0 ys) (HM : Hid (n ≤ cap ∧ cap ≤ maxLen))
    (ih : Hid (∀ (j : Nat) (x y : Ty), xs[j]? = some x → ys[j]? = some y → ∀ W v u, TyAt W x v → TyAt W y u → Calls Tryd.prog 18 #[v, u] W (BRes (x.same y) W))) :
    Calls Tryd.prog 48 #[.slice A n cap, .slice B n cap', .func (.func 18) #[] #[]] w (BRes (sameL xs ys) w) := by
  have HA := Lib.hid ha
  have HB := Lib.hid hb
  have HL := Lib.hid hl
  have HL' := Lib.hid hl'
  obtain ⟨R, hR⟩ : ∃ R, sameL xs ys = R := ⟨_, rfl⟩
  rw [hR]
  have HR := Lib.hid hR
  clear ha hb hl hl' hR
  go_enter Tryd.func48, Tryd.ntmps48
  go_wp2_with fail
  go_loopw [17] (fun i W => ∃ j : Nat, j ≤ n ∧ i = .int .i64 (j : Int) ∧ sameL (xs.drop j) (ys.drop j) = R ∧ Below w.heap.size w W) (fun i _ => n - (intOf i).toNat)
  case atStart => exact ⟨0, by omega, rfl, by simpa using HR.out, Below.refl _ _⟩
  case round =>
    obtain ⟨j, hj, rfl, hcp, V1⟩ := hrel
    by_cases hlt : j < n
    · have hji : (j : Int) < (n : Int) := by omega
      have hj0 : (0 : Int) ≤ (j : Int) := by omega
      have hjm : (j : Int) + 1 ≤ 9223372036854775807 := by have := HM.out; simp only [maxLen] at this; omega
      have hjx : j < xs.length := by rw [HL.out]; exact hlt
      have hjy : j < ys.length := by rw [HL'.out]; exact hlt
      have hkx : xs[j]? = some xs[j] := List.getElem?_eq_getElem hjx
      have hky : ys[j]? = some ys[j] := List.getElem?_eq_getElem hjy
      rw [sameL_drop hjx hjy] at hcp
      have HCP := Lib.hid hcp
      clear hcp
      obtain ⟨g, o, C, hA, HRa, HT, HC3, HI3, HOC⟩ := tkid_at (HA.out.later V1) hkx
      obtain ⟨g', o', C', hB, HRb, HT', HC3', HI3', HOC'⟩ := tkid_at (HB.out.later V1) hky
      subst hA
      subst hB
      have HIH : Hid (∀ W v u, TyAt W xs[j] v → TyAt W ys[j] u → Calls Tryd.prog 18 #[v, u] W (BRes (xs[j].same ys[j]) W)) := Lib.hid (ih.out j _ _ hkx hky)
      clear hkx hky
      generalize xs[j] = x at HCP HIH HT
      generalize ys[j] = y at HCP HIH HT'
      generalize x.same y = c at HCP HIH
      clear hjx hjy
      go_upto_region 6 with (first
        | (with_reducible refine wpList_load_mid rfl _ (.tmp 20) rfl g (o + j * 5) rfl C _ HRa.out Tryd.underlying31 rfl HI3.out ?_)
        | (refine wpList_store_new rfl _ (.tmp 8) (.tmp 21) rfl rfl rfl info_type HC3.out rfl (all_oneCell_toArray HOC.out) ?_; intro w5 hbel5 hrow5 hsz5; have T5 : Arr w5 wr.heap.size 5 31 C := Arr.of_row hrow5 HC3.out (by decide); have V5 := later V1 hbel5; have HT5 := Lib.hid (HT.out.later hbel5); have HT5' := Lib.hid (HT'.out.later hbel5); have HRb5 := Lib.hid (range_below HRb.out hbel5); clear hrow5))
      clear hbel5 hsz5 HC3 HRa HRb HT HT'
      clear HA HB HL HL' HR ih
      go_upto_region 7 with (first
        | (with_reducible refine wpList_load_mid rfl _ (.tmp 24) rfl g' (o' + j * 5) rfl C' _ HRb5.out Tryd.underlying31 rfl HI3'.out ?_)
        | (refine wpList_store_new rfl _ (.tmp 9) (.tmp 25) rfl rfl rfl info_type HC3'.out rfl (all_oneCell_toArray HOC'.out) ?_; intro w6 hbel6 hrow6 hsz6; have T6' : Arr w6 w5.heap.size 5 31 C' := Arr.of_row hrow6 HC3'.out (by decide); have T6 := T5.later hbel6; have V6 := later V5 hbel6; have HT6 := Lib.hid (HT5.out.later hbel6); have HT6' := Lib.hid (HT5'.out.later hbel6); clear hrow6))
      have HV6 := Lib.hid V6
      clear T5 V5 HT5 HT5' HRb5 hbel6 hsz6 V1 hlt
      cases c with
      | true =>
        go_upto_region 8 with (first
          | (with_reducible refine wpList_load_mid rfl _ (.tmp 8) rfl wr.heap.size 0 rfl C _ T6.range Tryd.underlying31 rfl HI3.out ?_)
          | (with_reducible refine wpList_load_mid rfl _ (.tmp 9) rfl w5.heap.size 0 rfl C' _ T6'.range Tryd.underlying31 rfl HI3'.out ?_)
          | (go_at_call 18; (with_reducible refine (HIH.out _ _ _ HT6.out HT6'.out).mono ?_); rintro e w7 ⟨rfl, hb7⟩; have V7 := later V6 hb7))
        have HCP0 : Hid (sameL (xs.drop (j + 1)) (ys.drop (j + 1)) = R) := Lib.hid (by have h := HCP.out; rwa [Bool.true_and] at h)
        go_wp2_with fail
        refine ⟨⟨j + 1, by omega, by go_num, HCP0.out, V7⟩, by simp [intOf]; omega⟩
      | false =>
        go_wp2_with (first
          | (with_reducible refine wpList_load_mid rfl _ (.tmp 8) rfl wr.heap.size 0 rfl C _ T6.range Tryd.underlying31 rfl HI3.out ?_)
          | (with_reducible refine wpList_load_mid rfl _ (.tmp 9) rfl w5.heap.size 0 rfl C' _ T6'.range Tryd.underlying31 rfl HI3'.out ?_)
          | (go_at_call 18; (with_reducible refine (HIH.out _ _ _ HT6.out HT6'.out).mono ?_); rintro e w7 ⟨rfl, hb7⟩; have V7 := later V6 hb7))
        have HCR : Hid (false = R) := Lib.hid (by have h := HCP.out; rwa [Bool.false_and] at h)
        go_ret
        exact ⟨by rw [← HCR.out]; rfl, V7⟩
    · have hje : j = n := by omega
      subst hje
      rw [List.drop_of_length_le (by rw [HL.out]; omega), List.drop_of_length_le (by rw [HL'.out]; omega), sameL] at hcp
      subst hcp
      go_wp2_with fail
      go_ret
      exact ⟨rfl, V1⟩
set_option maxHeartbeats 400000 in
set_option maxRecDepth 100000 in
theorem efunc_lens (A B : Option Addr) (n m cap cap' : Nat) (f : Value) (w : World) (h : n ≠ m) :
    Calls Tryd.prog 48 #[.slice A n cap, .slice B m cap', f] w (BRes false w) := by
  have hb : ((n : Int) != (m : Int)) = true := by rw [bne_iff_ne]; omega
  clear h
  go_enter Tryd.func48, Tryd.ntmps48
  go_wp2_with fail
  go_ret
  exact ⟨rfl, Below.refl _ _⟩

theorem eqf_id (a b c a' b' c' : Int) (W : World) (F : List Field) (hF : F.map (fun f => (f.name, f.type, f.offset)) = [("Shop", 3, 0), ("Seq", 3, 1), ("Index", 3, 2)]) :
    (Op.eqFields 9999 #[.int .i64 a, .int .i64 b, .int .i64 c] #[.int .i64 a', .int .i64 b', .int .i64 c'] F).run Tryd.prog W = .ok (a == a' && (b == b' && c == c')) W := by
  rcases F with _ | ⟨f, _ | ⟨g, _ | ⟨e, _ | ⟨z, F⟩⟩⟩⟩
  · simp at hF
  · simp at hF
  · simp at hF
  · simp only [List.map_cons, List.map_nil, List.cons.injEq, Prod.mk.injEq, and_true] at hF
    obtain ⟨⟨h1, h2, h3⟩, ⟨h4, h5, h6⟩, h7, h8, h9⟩ := hF
    have p1 := fun W => run_part (P := Tryd.prog) W 3 .i64 Tryd.underlying3 #[.int .i64 a, .int .i64 b, .int .i64 c] 0 _ rfl
    have p2 := fun W => run_part (P := Tryd.prog) W 3 .i64 Tryd.underlying3 #[.int .i64 a', .int .i64 b', .int .i64 c'] 0 _ rfl
    have p3 := fun W => run_part (P := Tryd.prog) W 3 .i64 Tryd.underlying3 #[.int .i64 a, .int .i64 b, .int .i64 c] 1 _ rfl
    have p4 := fun W => run_part (P := Tryd.prog) W 3 .i64 Tryd.underlying3 #[.int .i64 a', .int .i64 b', .int .i64 c'] 1 _ rfl
    have p5 := fun W => run_part (P := Tryd.prog) W 3 .i64 Tryd.underlying3 #[.int .i64 a, .int .i64 b, .int .i64 c] 2 _ rfl
    have p6 := fun W => run_part (P := Tryd.prog) W 3 .i64 Tryd.underlying3 #[.int .i64 a', .int .i64 b', .int .i64 c'] 2 _ rfl
    have q1 := fun W => run_equalIn_int (P := Tryd.prog) W 9998 3 .i64 .i64 a a' Tryd.underlying3
    have q2 := fun W => run_equalIn_int (P := Tryd.prog) W 9998 3 .i64 .i64 b b' Tryd.underlying3
    have q3 := fun W => run_equalIn_int (P := Tryd.prog) W 9998 3 .i64 .i64 c c' Tryd.underlying3
    simp only [Op.eqFields, h1, h2, h3, h4, h5, h6, h7, h8, h9]
    generalize (a == a') = X at *
    generalize (b == b') = Y at *
    generalize (c == c') = Z at *
    cases X <;> cases Y <;> cases Z <;> simp [p1, p2, p3, p4, p5, p6, q1, q2, q3]
  · simp at hF
theorem fields_id : (Tryd.prog.fieldsOf 28).toList.map (fun f => (f.name, f.type, f.offset)) = [("Shop", 3, 0), ("Seq", 3, 1), ("Index", 3, 2)] := by kernel_rfl
theorem beq_int (a b : Int) : (a == b) = decide (a = b) := by
  by_cases h : a = b
  · subst h; simp
  · rw [decide_eq_false h, beq_eq_false_iff_ne]; exact h
/-- '==' of two IDs. -/
theorem eq_id (a b c a' b' c' : Int) (W : World) :
    (binOp .eql 28 (.agg #[.int .i64 a, .int .i64 b, .int .i64 c]) (.agg #[.int .i64 a', .int .i64 b', .int .i64 c'])).run Tryd.prog W = .ok (.bool (decide (a = a') && (decide (b = b') && decide (c = c')))) W := by
  rw [run_eql_struct, run_equalIn_agg _ _ _ _ _ (by kernel_rfl) (by kernel_rfl), eqf_id _ _ _ _ _ _ _ _ fields_id, beq_int, beq_int, beq_int]
  rfl
theorem neq_id (a b c a' b' c' : Int) (W : World) :
    (binOp .neq 28 (.agg #[.int .i64 a, .int .i64 b, .int .i64 c]) (.agg #[.int .i64 a', .int .i64 b', .int .i64 c'])).run Tryd.prog W = .ok (.bool (!(decide (a = a') && (decide (b = b') && decide (c = c'))))) W := by
  rw [run_neq_struct, run_equalIn_agg _ _ _ _ _ (by kernel_rfl) (by kernel_rfl), eqf_id _ _ _ _ _ _ _ _ fields_id, beq_int, beq_int, beq_int]
  rfl
theorem info_id : (Tryd.prog.info? 28).map (·.size) = some 3 := by kernel_rfl
theorem range_mid {w : World} {g : Nat} {a b c d e : Value} (h : w.rangeAt g 0 [a, b, c, d, e]) : w.rangeAt g 1 [b, c, d] := by
  intro j v hj
  match j, hj with
  | 0, hj => exact h 1 v hj
  | 1, hj => exact h 2 v hj
  | 2, hj => exact h 3 v hj

set_option maxHeartbeats 4000000 in
set_option maxRecDepth 100000 in
theorem sametype_step (k s q i k' s' q' i' : Int) (R : Bool) (len len' : Nat) (A B : Option Addr) (cap cap' : Nat) (w : World)
    (HH : Hid (∀ W, Below w.heap.size w W → Calls Tryd.prog 48 #[.slice A len cap, .slice B len' cap', .func (.func 18) #[] #[]] W (BRes R W))) :
    Calls Tryd.prog 18 #[.agg (t5 k s q i A len cap).toArray, .agg (t5 k' s' q' i' B len' cap').toArray] w (BRes (decide (k = k') && (decide (s = s') && (decide (q = q') && decide (i = i'))) && R) w) := by
  have P0 := t5_new w k s q i A len cap
  have V0' := new_later w (.cells (t5 k s q i A len cap).toArray 31)
  have Q0 := t5_new (w.alloc (.cells (t5 k s q i A len cap).toArray 31)) k' s' q' i' B len' cap'
  have P1 := P0.later (new_later _ (.cells (t5 k' s' q' i' B len' cap').toArray 31))
  have V1 := later V0' (new_later _ (.cells (t5 k' s' q' i' B len' cap').toArray 31))
  rw [World.size_alloc] at Q0
  clear P0 V0'
  generalize hW : (w.alloc (.cells (t5 k s q i A len cap).toArray 31)).alloc (.cells (t5 k' s' q' i' B len' cap').toArray 31) = wa at P1 V1 Q0
  have c1 := P1.cell (j := 0) (v := .int .i64 k) rfl
  have c2 := Q0.cell (j := 0) (v := .int .i64 k') rfl
  have c3' := P1.cell (j := 4) (v := .slice A len cap) rfl
  have c4 := Q0.cell (j := 4) (v := .slice B len' cap') rfl
  have a1 := P1.cell (j := 1) (v := .int .i64 s) rfl
  have a2 := P1.cell (j := 2) (v := .int .i64 q) rfl
  have a3 := P1.cell (j := 3) (v := .int .i64 i) rfl
  have b1 := Q0.cell (j := 1) (v := .int .i64 s') rfl
  have b2 := Q0.cell (j := 2) (v := .int .i64 q') rfl
  have b3 := Q0.cell (j := 3) (v := .int .i64 i') rfl
  have heq := fun W => eq_id s q i s' q' i' W
  obtain ⟨E, hE⟩ : ∃ E, (decide (s = s') && (decide (q = q') && decide (i = i'))) = E := ⟨_, rfl⟩
  rw [hE] at heq ⊢
  have HV1 := Lib.hid V1
  clear hE P1 Q0 V1
  by_cases hk : k = k'
  · subst hk
    rw [decide_eq_true rfl, Bool.true_and]
    cases E with
    | true =>
      rw [Bool.true_and]
      go_enter Tryd.func18, Tryd.ntmps18
      go_upto_region 1 with fail
      clear hW
      go_wp2_with (first
        | (go_at_call 48; (with_reducible refine (HH.out _ HV1.out).mono ?_); rintro e w7 ⟨rfl, hb7⟩; have V7 := later HV1.out hb7))
      go_ret
      exact ⟨rfl, V7⟩
    | false =>
      rw [Bool.false_and]
      go_enter Tryd.func18, Tryd.ntmps18
      go_upto_region 1 with fail
      clear hW
      go_wp2_with (first
        | fail)
      go_ret
      exact ⟨rfl, HV1.out⟩
  · have hkb : (k == k') = false := by rw [beq_eq_false_iff_ne]; exact hk
    rw [decide_eq_false hk, Bool.false_and, Bool.false_and]
    clear hk
    go_enter Tryd.func18, Tryd.ntmps18
    go_upto_region 1 with fail
    clear hW
    go_wp2_with fail
    go_ret
    exact ⟨rfl, HV1.out⟩
theorem sametype_any : ∀ (N : Nat) (x : Ty), x.nodes ≤ N → ∀ (y : Ty) (w : World) (v u : Value), TyAt w x v → TyAt w y u → Calls Tryd.prog 18 #[v, u] w (BRes (x.same y) w)
  | 0, x, hN, _, _, _, _, _, _ => absurd hN (by have := x.nodes_pos; omega)
  | N + 1, .node k s q i ks, hN, .node k' s' q' i' ks', w, v, u, h, h' => by
    unfold TyAt at h h'
    obtain ⟨A, cap, rfl, hm, hk⟩ := h
    obtain ⟨B, cap', rfl, hm', hk'⟩ := h'
    rw [same_form]
    refine sametype_step k s q i k' s' q' i' _ ks.length ks'.length A B cap cap' w (Lib.hid fun W hW => ?_)
    by_cases hl : ks'.length = ks.length
    · rw [hl]
      exact efunc_step ks ks' A B ks.length cap cap' W rfl hl (hk.later hW) (hk'.later hW) (Lib.hid ⟨hm.1, hm.2.1⟩) (Lib.hid fun j x y hx hy W' v' u' e e' => sametype_any N x (by have := Ty.kid_less (k := k) (s := s) (q := q) (i := i) hx; omega) y W' v' u' e e')
    · rw [sameL_len ks ks' (fun e => hl e.symm)]
      exact efunc_lens A B ks.length ks'.length cap cap' _ W (fun e => hl e.symm)
end Go.Proofs.YtjbleefpafnhhaaDoor
set_option linter.unusedVariables false
set_option linter.unusedSimpArgs false
namespace Go.Proofs.YtjbleefpafnhhaaDoor
open Go.RowKit

theorem range5 {w : World} {g p : Nat} {a b c d e : Value} (h : w.rangeAt g p [a, b, c, d, e]) : w.cell? ⟨g, p, none⟩ = some a ∧ w.cell? ⟨g, p + 1, none⟩ = some b ∧ w.cell? ⟨g, p + 2, none⟩ = some c ∧ w.cell? ⟨g, p + 3, none⟩ = some d ∧ w.cell? ⟨g, p + 4, none⟩ = some e :=
  ⟨h 0 a rfl, h 1 b rfl, h 2 c rfl, h 3 d rfl, h 4 e rfl⟩
theorem five {C : List Value} (h : C.length = 5) : ∃ a b c d e, C = [a, b, c, d, e] := by
  match C, h with
  | [a, b, c, d, e], _ => exact ⟨a, b, c, d, e, rfl⟩

set_option maxHeartbeats 8000000 in
set_option maxRecDepth 100000 in
theorem rsame_step (k s q i k' s' q' i' : Int) (R : Bool) (xs ys : List Ty) (n n' : Nat) (A B : Option Addr) (cap cap' : Nat) (w : World) (HL : Hid (xs.length = n)) (HL' : Hid (ys.length = n')) (HM : Hid (n ≤ cap ∧ cap ≤ maxLen)) (HM' : Hid (n' ≤ cap' ∧ cap' ≤ maxLen)) (HA : Hid (KtAt w A 0 xs)) (HB : Hid (KtAt w B 0 ys))
    (HR : Hid (sameL xs ys = R))
    (ih : Hid (∀ (j : Nat) (x y : Ty), xs[j]? = some x → ys[j]? = some y → ∀ W v u, TyAt W x v → TyAt W y u → Calls Tryd.prog 19 #[v, u] W (BRes (x.same y) W))) :
    Calls Tryd.prog 19 #[.agg (t5 k s q i A n cap).toArray, .agg (t5 k' s' q' i' B n' cap').toArray] w (BRes (decide (k = k') && (decide (s = s') && (decide (q = q') && decide (i = i'))) && R) w) := by
  have P0 := t5_new w k s q i A n cap
  have V0' := new_later w (.cells (t5 k s q i A n cap).toArray 31)
  have Q0 := t5_new (w.alloc (.cells (t5 k s q i A n cap).toArray 31)) k' s' q' i' B n' cap'
  have P1 := P0.later (new_later _ (.cells (t5 k' s' q' i' B n' cap').toArray 31))
  have V1 := later V0' (new_later _ (.cells (t5 k' s' q' i' B n' cap').toArray 31))
  rw [World.size_alloc] at Q0
  clear P0 V0'
  generalize hW : (w.alloc (.cells (t5 k s q i A n cap).toArray 31)).alloc (.cells (t5 k' s' q' i' B n' cap').toArray 31) = wa at P1 V1 Q0
  have c1 := P1.cell (j := 0) (v := .int .i64 k) rfl
  have c2 := Q0.cell (j := 0) (v := .int .i64 k') rfl
  have c3' := P1.cell (j := 4) (v := .slice A n cap) rfl
  have c4 := Q0.cell (j := 4) (v := .slice B n' cap') rfl
  have a1 := P1.cell (j := 1) (v := .int .i64 s) rfl
  have a2 := P1.cell (j := 2) (v := .int .i64 q) rfl
  have a3 := P1.cell (j := 3) (v := .int .i64 i) rfl
  have b1 := Q0.cell (j := 1) (v := .int .i64 s') rfl
  have b2 := Q0.cell (j := 2) (v := .int .i64 q') rfl
  have b3 := Q0.cell (j := 3) (v := .int .i64 i') rfl
  have heq := fun W => neq_id s q i s' q' i' W
  obtain ⟨E, hE⟩ : ∃ E, (decide (s = s') && (decide (q = q') && decide (i = i'))) = E := ⟨_, rfl⟩
  rw [hE] at heq ⊢
  have HV1 := Lib.hid V1
  have HP := Lib.hid P1
  have HQ := Lib.hid Q0
  clear hE P1 Q0 V1
  by_cases hk : k = k'
  · subst hk
    rw [decide_eq_true rfl, Bool.true_and]
    have hkb : (k != k) = false := by simp
    cases E with
    | false =>
      rw [Bool.false_and]
      rw [Bool.not_false] at heq
      go_enter Tryd.func19, Tryd.ntmps19
      go_upto_region 1 with fail
      clear hW
      go_wp2_with fail
      go_ret
      exact ⟨rfl, HV1.out⟩
    | true =>
      rw [Bool.true_and]
      rw [Bool.not_true] at heq
      by_cases hnn : n = n'
      · subst hnn
        have hnb : ((n : Int) != (n : Int)) = false := by simp
        go_enter Tryd.func19, Tryd.ntmps19
        go_upto_region 1 with fail
        clear hW
        go_wp2_with fail
        clear c1 c2 c3' c4 a1 a2 a3 b1 b2 b3 heq hkb hnb
        go_loopw [5] (fun v W => ∃ j : Nat, j ≤ n ∧ v = .int .i64 (j : Int) ∧ Hid (sameL (xs.drop j) (ys.drop j) = R) ∧ Arr W w.heap.size 5 31 (t5 k s q i A n cap) ∧ Arr W (w.heap.size + 1) 5 31 (t5 k s' q' i' B n cap') ∧ Below w.heap.size w W) (fun v _ => n - (intOf v).toNat)
        case atStart => exact ⟨0, by omega, rfl, Lib.hid (by simpa using HR.out), HP.out, HQ.out, HV1.out⟩
        case round =>
          obtain ⟨j, hj, rfl, HCJ, P5, Q5, V5⟩ := hrel
          have hpa := P5.cell (j := 4) (v := .slice A n cap) rfl
          by_cases hlt : j < n
          · have hji : (j : Int) < (n : Int) := by omega
            have hj0 : (0 : Int) ≤ (j : Int) := by omega
            have hjm : (j : Int) + 1 ≤ 9223372036854775807 := by have := HM.out; simp only [maxLen] at this; omega
            have hjx : j < xs.length := by rw [HL.out]; exact hlt
            have hjy : j < ys.length := by rw [HL'.out]; exact hlt
            have hkx : xs[j]? = some xs[j] := List.getElem?_eq_getElem hjx
            have hky : ys[j]? = some ys[j] := List.getElem?_eq_getElem hjy
            have hcj := HCJ.out
            rw [sameL_drop hjx hjy] at hcj
            have HCQ := Lib.hid hcj
            clear hcj HCJ
            obtain ⟨g, o, C, hA, HRa, HT, HC3, HI3, HOC⟩ := tkid_at (HA.out.later V5) hkx
            obtain ⟨g', o', C', hB, HRb, HT', HC3', HI3', HOC'⟩ := tkid_at (HB.out.later V5) hky
            subst hA
            subst hB
            obtain ⟨e0, e1, e2, e3, e4, rfl⟩ := five HC3.out
            obtain ⟨d0, d1, d2, d3, d4, rfl⟩ := five HC3'.out
            have HIH : Hid (∀ W v u, TyAt W xs[j] v → TyAt W ys[j] u → Calls Tryd.prog 19 #[v, u] W (BRes (xs[j].same ys[j]) W)) := Lib.hid (ih.out j _ _ hkx hky)
            clear hkx hky
            generalize xs[j] = x at HCQ HIH HT
            generalize ys[j] = y at HCQ HIH HT'
            generalize x.same y = c at HCQ HIH
            clear hjx hjy
            have hbd : Below wr.heap.size wr wr.drew := below_drewN (Below.refl _ _) 1
            have HTd := Lib.hid (HT.out.later hbd)
            have HTd' := Lib.hid (HT'.out.later hbd)
            have HS : Hid (∀ W, Below wr.heap.size wr W → (W.cell? ⟨w.heap.size, 4, none⟩ = some (.slice (some ⟨g, o, none⟩) n cap) ∧ W.cell? ⟨w.heap.size + 1, 4, none⟩ = some (.slice (some ⟨g', o', none⟩) n cap') ∧ (W.cell? ⟨g, o + j * 5, none⟩ = some e0 ∧ W.cell? ⟨g, o + j * 5 + 1, none⟩ = some e1 ∧ W.cell? ⟨g, o + j * 5 + 2, none⟩ = some e2 ∧ W.cell? ⟨g, o + j * 5 + 3, none⟩ = some e3 ∧ W.cell? ⟨g, o + j * 5 + 4, none⟩ = some e4) ∧ W.cell? ⟨g', o' + j * 5, none⟩ = some d0 ∧ W.cell? ⟨g', o' + j * 5 + 1, none⟩ = some d1 ∧ W.cell? ⟨g', o' + j * 5 + 2, none⟩ = some d2 ∧ W.cell? ⟨g', o' + j * 5 + 3, none⟩ = some d3 ∧ W.cell? ⟨g', o' + j * 5 + 4, none⟩ = some d4)) :=
              Lib.hid fun W hW => ⟨(P5.later hW).cell (j := 4) rfl, (Q5.later hW).cell (j := 4) rfl, range5 (range_below HRa.out hW), range5 (range_below HRb.out hW)⟩
            have HPQ : Hid (∀ W, Below wr.heap.size wr W → Arr W w.heap.size 5 31 (t5 k s q i (some ⟨g, o, none⟩) n cap) ∧ Arr W (w.heap.size + 1) 5 31 (t5 k s' q' i' (some ⟨g', o', none⟩) n cap') ∧ Below w.heap.size w W) := Lib.hid fun W hW => ⟨P5.later hW, Q5.later hW, later V5 hW⟩
            clear P5 Q5 V5 HA HB HL HL' ih HM HM' HP HQ HV1 HR
            cases c with
            | true =>
              go_upto_region 6 with fail
              go_region_held3 (fun W => W.cell? ⟨w.heap.size, 4, none⟩ = some (.slice (some ⟨g, o, none⟩) n cap) ∧ W.cell? ⟨w.heap.size + 1, 4, none⟩ = some (.slice (some ⟨g', o', none⟩) n cap') ∧ (W.cell? ⟨g, o + j * 5, none⟩ = some e0 ∧ W.cell? ⟨g, o + j * 5 + 1, none⟩ = some e1 ∧ W.cell? ⟨g, o + j * 5 + 2, none⟩ = some e2 ∧ W.cell? ⟨g, o + j * 5 + 3, none⟩ = some e3 ∧ W.cell? ⟨g, o + j * 5 + 4, none⟩ = some e4) ∧ W.cell? ⟨g', o' + j * 5, none⟩ = some d0 ∧ W.cell? ⟨g', o' + j * 5 + 1, none⟩ = some d1 ∧ W.cell? ⟨g', o' + j * 5 + 2, none⟩ = some d2 ∧ W.cell? ⟨g', o' + j * 5 + 3, none⟩ = some d3 ∧ W.cell? ⟨g', o' + j * 5 + 4, none⟩ = some d4)
                (first | exact HS.out _ hbd | exact HS.out _ hb8)
                (first
                | (go_at_call 19; (with_reducible refine (HIH.out _ _ _ HTd.out HTd'.out).mono ?_); rintro e w7 ⟨rfl, hb7⟩; have hb8 := later hbd hb7))
              obtain ⟨P8, Q8, V8⟩ := HPQ.out _ hb8
              have HP8 := Lib.hid P8
              have HQ8 := Lib.hid Q8
              have HV8 := Lib.hid V8
              have HLT := Lib.hid hlt
              clear HPQ HS HIH HTd HTd' HRa HRb HT HT' hb7 hb8 hbd P8 Q8 V8 hlt hpa hj HC3 HC3' HI3 HI3' HOC HOC'
              have HC0 : Hid (sameL (xs.drop (j + 1)) (ys.drop (j + 1)) = R) := Lib.hid (by have h := HCQ.out; rwa [Bool.true_and] at h)
              go_wp2_with fail
              refine ⟨⟨j + 1, by have := HLT.out; omega, by go_num, HC0, HP8.out, HQ8.out, HV8.out⟩, by have := HLT.out; simp [intOf]; omega⟩
            | false =>
              go_upto_region 6 with fail
              go_region_held3 (fun W => W.cell? ⟨w.heap.size, 4, none⟩ = some (.slice (some ⟨g, o, none⟩) n cap) ∧ W.cell? ⟨w.heap.size + 1, 4, none⟩ = some (.slice (some ⟨g', o', none⟩) n cap') ∧ (W.cell? ⟨g, o + j * 5, none⟩ = some e0 ∧ W.cell? ⟨g, o + j * 5 + 1, none⟩ = some e1 ∧ W.cell? ⟨g, o + j * 5 + 2, none⟩ = some e2 ∧ W.cell? ⟨g, o + j * 5 + 3, none⟩ = some e3 ∧ W.cell? ⟨g, o + j * 5 + 4, none⟩ = some e4) ∧ W.cell? ⟨g', o' + j * 5, none⟩ = some d0 ∧ W.cell? ⟨g', o' + j * 5 + 1, none⟩ = some d1 ∧ W.cell? ⟨g', o' + j * 5 + 2, none⟩ = some d2 ∧ W.cell? ⟨g', o' + j * 5 + 3, none⟩ = some d3 ∧ W.cell? ⟨g', o' + j * 5 + 4, none⟩ = some d4)
                (first | exact HS.out _ hbd | exact HS.out _ hb8)
                (first
                | (go_at_call 19; (with_reducible refine (HIH.out _ _ _ HTd.out HTd'.out).mono ?_); rintro e w7 ⟨rfl, hb7⟩; have hb8 := later hbd hb7))
              obtain ⟨P8, Q8, V8⟩ := HPQ.out _ hb8
              have HP8 := Lib.hid P8
              have HQ8 := Lib.hid Q8
              have HV8 := Lib.hid V8
              have HLT := Lib.hid hlt
              clear HPQ HS HIH HTd HTd' HRa HRb HT HT' hb7 hb8 hbd P8 Q8 V8 hlt hpa hj HC3 HC3' HI3 HI3' HOC HOC'
              have HCR : Hid (false = R) := Lib.hid (by have h := HCQ.out; rwa [Bool.false_and] at h)
              go_wp2_with fail
              go_ret
              exact ⟨by rw [← HCR.out]; rfl, HV8.out⟩
          · have hje : j = n := by omega
            subst hje
            have hcj := HCJ.out
            rw [List.drop_of_length_le (by rw [HL.out]; omega), List.drop_of_length_le (by rw [HL'.out]; omega), sameL] at hcj
            have HZ := Lib.hid hcj
            clear hcj HCJ
            go_wp2_with fail
            go_ret
            exact ⟨by rw [← HZ.out]; rfl, V5⟩
      · have hnb : ((n : Int) != (n' : Int)) = true := by rw [bne_iff_ne]; omega
        have HRF : Hid (R = false) := Lib.hid (by rw [← HR.out]; exact sameL_len xs ys (by rw [HL.out, HL'.out]; exact hnn))
        clear hnn
        go_enter Tryd.func19, Tryd.ntmps19
        go_upto_region 1 with fail
        clear hW
        go_wp2_with fail
        go_ret
        exact ⟨by rw [HRF.out]; rfl, HV1.out⟩
  · have hkb : (k != k') = true := by rw [bne_iff_ne]; exact hk
    rw [decide_eq_false hk, Bool.false_and, Bool.false_and]
    clear hk
    go_enter Tryd.func19, Tryd.ntmps19
    go_upto_region 1 with fail
    clear hW
    go_wp2_with fail
    go_ret
    exact ⟨rfl, HV1.out⟩
theorem rsame_any : ∀ (N : Nat) (x : Ty), x.nodes ≤ N → ∀ (y : Ty) (w : World) (v u : Value), TyAt w x v → TyAt w y u → Calls Tryd.prog 19 #[v, u] w (BRes (x.same y) w)
  | 0, x, hN, _, _, _, _, _, _ => absurd hN (by have := x.nodes_pos; omega)
  | N + 1, .node k s q i ks, hN, .node k' s' q' i' ks', w, v, u, h, h' => by
    unfold TyAt at h h'
    obtain ⟨A, cap, rfl, hm, hk⟩ := h
    obtain ⟨B, cap', rfl, hm', hk'⟩ := h'
    rw [same_form]
    exact rsame_step k s q i k' s' q' i' _ ks ks' ks.length ks'.length A B cap cap' w (Lib.hid rfl) (Lib.hid rfl) (Lib.hid ⟨hm.1, hm.2.1⟩) (Lib.hid ⟨hm'.1, hm'.2.1⟩) (Lib.hid hk) (Lib.hid hk') (Lib.hid rfl)
      (Lib.hid fun j x y hx hy W' v' u' e e' => rsame_any N x (by have := Ty.kid_less (k := k) (s := s) (q := q) (i := i) hx; omega) y W' v' u' e e')
end Go.Proofs.YtjbleefpafnhhaaDoor
