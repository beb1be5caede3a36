import Derived.Test.YtkpoiljioadfgaaDoorX02
import Derived.Test.YtkpoiljioadfgaaDoorX04
import Derived.Test.YtkpoiljioadfgaaDoorX05
import Derived.BigQuiet
set_option linter.unusedVariables false
set_option linter.unusedSimpArgs false
namespace Go.Proofs.YtkpoiljioadfgaaDoor
open Go.RowKit
theorem n3_new (w : World) (a b c : Int) : Arr (w.alloc (.cells #[.int .i64 a, .int .i64 b, .int .i64 c] 3)) w.heap.size 3 3 [.int .i64 a, .int .i64 b, .int .i64 c] := Arr.new' w _ _ 3 _ rfl rfl (by decide)
theorem at3 (a b c : Int) : ∀ (j : Nat), j < 3 → ([.int .i64 a, .int .i64 b, .int .i64 c] : List Value)[j]? = some (.int .i64 ([a, b, c].getD j 0))
  | 0, _ => rfl
  | 1, _ => rfl
  | 2, _ => rfl
  | j + 3, h => by omega
theorem range3 {w : World} {g p : Nat} {a b c : Value} (h : w.rangeAt g p [a, b, c]) : w.cell? ⟨g, p, none⟩ = some a ∧ w.cell? ⟨g, p + 1, none⟩ = some b ∧ w.cell? ⟨g, p + 2, none⟩ = some c :=
  ⟨h 0 a rfl, h 1 b rfl, h 2 c rfl⟩
theorem three {C : List Value} (h : C.length = 3) : ∃ a b c, C = [a, b, c] := by
  match C, h with
  | [a, b, c], _ => exact ⟨a, b, c, rfl⟩
set_option maxHeartbeats 8000000 in
set_option maxRecDepth 100000 in
theorem rcmp_head (k n k' n' R : Int) (len len' : Nat) (A B : Option Addr) (cap cap' : Nat) (xs ys : List Tr) (w : World) (HA : Hid (KsAt w A 0 xs)) (HB : Hid (KsAt w B 0 ys)) (HM : Hid (len ≤ cap ∧ cap ≤ maxLen)) (HL : Hid (xs.length = len))
    (ih : Hid (∀ (j : Nat) (x y : Tr), xs[j]? = some x → ys[j]? = some y → ∀ W v u, TrAt W x v → TrAt W y u → Calls Tryd.prog 33 #[v, u] W (NumRes (x.cp y) W)))
    (HEND : Hid ((∀ t, t < 3 → [k, n, (len : Int)].getD t 0 = [k', n', (len' : Int)].getD t 0) → len' = len ∧ ys.length = len ∧ cpL xs ys = R))
    (HLT : Hid (∀ j, j < 3 → (∀ t, t < j → [k, n, (len : Int)].getD t 0 = [k', n', (len' : Int)].getD t 0) → [k, n, (len : Int)].getD j 0 < [k', n', (len' : Int)].getD j 0 → R = -1))
    (HGT : Hid (∀ j, j < 3 → (∀ t, t < j → [k, n, (len : Int)].getD t 0 = [k', n', (len' : Int)].getD t 0) → [k', n', (len' : Int)].getD j 0 < [k, n, (len : Int)].getD j 0 → R = 1)) :
    Calls Tryd.prog 33 #[.agg (c3 k n A len cap).toArray, .agg (c3 k' n' B len' cap').toArray] w (NumRes R w) := by
  have P0 := c3_new w k n A len cap
  have V0' := new_later w (.cells (c3 k n A len cap).toArray 53)
  have Q0 := c3_new (w.alloc (.cells (c3 k n A len cap).toArray 53)) k' n' B len' cap'
  have P1 := P0.later (new_later _ (.cells (c3 k' n' B len' cap').toArray 53))
  have V1 := later V0' (new_later _ (.cells (c3 k' n' B len' cap').toArray 53))
  rw [World.size_alloc] at Q0
  clear P0 V0'
  go_enter Tryd.func33, Tryd.ntmps33
  go_upto_region 1 with fail
  generalize (w.alloc (.cells (c3 k n A len cap).toArray 53)).alloc (.cells (c3 k' n' B len' cap').toArray 53) = wa at P1 V1 Q0 ⊢
  have ha0 := P1.cell (j := 0) (v := .int .i64 k) rfl
  have ha1 := P1.cell (j := 1) (v := .int .i64 n) rfl
  have ha2 := P1.cell (j := 2) (v := .slice A len cap) rfl
  go_upto_region 2 with fail
  have X2 := n3_new wa k n (len : Int)
  have b2 := new_later wa (.cells #[.int .i64 k, .int .i64 n, .int .i64 (len : Int)] 3)
  have P2 := P1.later b2
  have Q2 := Q0.later b2
  have V2 := later V1 b2
  clear P1 Q0 V1 ha0 ha1 ha2 b2
  obtain ⟨gx, hgx⟩ : ∃ gx, wa.heap.size = gx := ⟨_, rfl⟩
  rw [hgx] at X2 ⊢
  generalize wa.alloc (.cells #[.int .i64 k, .int .i64 n, .int .i64 (len : Int)] 3) = wb at P2 Q2 V2 X2 ⊢
  clear hgx
  have hb0 := Q2.cell (j := 0) (v := .int .i64 k') rfl
  have hb1 := Q2.cell (j := 1) (v := .int .i64 n') rfl
  have hb2 := Q2.cell (j := 2) (v := .slice B len' cap') rfl
  go_upto_region 3 with fail
  have Y3 := n3_new wb k' n' (len' : Int)
  have b3 := new_later wb (.cells #[.int .i64 k', .int .i64 n', .int .i64 (len' : Int)] 3)
  have P3 := P2.later b3
  have Q3 := Q2.later b3
  have X3 := X2.later b3
  have V3 := later V2 b3
  clear P2 Q2 V2 X2 hb0 hb1 hb2 b3
  obtain ⟨gy, hgy⟩ : ∃ gy, wb.heap.size = gy := ⟨_, rfl⟩
  rw [hgy] at Y3 ⊢
  generalize wb.alloc (.cells #[.int .i64 k', .int .i64 n', .int .i64 (len' : Int)] 3) = wc at P3 Q3 V3 X3 Y3 ⊢
  clear hgy
  have HX3 : Hid (∀ j, j < 3 → ([.int .i64 k, .int .i64 n, .int .i64 (len : Int)] : List Value)[j]? = some (.int .i64 ([k, n, (len : Int)].getD j 0))) := Lib.hid (at3 _ _ _)
  have HY3 : Hid (∀ j, j < 3 → ([.int .i64 k', .int .i64 n', .int .i64 (len' : Int)] : List Value)[j]? = some (.int .i64 ([k', n', (len' : Int)].getD j 0))) := Lib.hid (at3 _ _ _)
  generalize [k, n, (len : Int)] = X at HLT HGT HX3 HEND
  generalize [k', n', (len' : Int)] = Y at HLT HGT HY3 HEND
  generalize ([.int .i64 k, .int .i64 n, .int .i64 (len : Int)] : List Value) = XV at X3 HX3
  generalize ([.int .i64 k', .int .i64 n', .int .i64 (len' : Int)] : List Value) = YV at Y3 HY3
  go_wp2_with fail
  go_loopw [7] (fun i W => ∃ j : Nat, j ≤ 3 ∧ i = .int .i64 (j : Int) ∧ (∀ t, t < j → X.getD t 0 = Y.getD t 0) ∧ Arr W w.heap.size 3 53 (c3 k n A len cap) ∧ Arr W (w.heap.size + 1) 3 53 (c3 k' n' B len' cap') ∧ Arr W gx 3 3 XV ∧ Arr W gy 3 3 YV ∧ Below w.heap.size w W) (fun i _ => 3 - (intOf i).toNat)
  case atStart => exact ⟨0, by omega, rfl, fun t ht => by omega, P3, Q3, X3, Y3, V3⟩
  case round =>
    obtain ⟨j, hj, rfl, heq, P4, Q4, X4, Y4, V4⟩ := hrel
    clear P3 Q3 X3 Y3 V3
    by_cases hlt : j < 3
    · have hji : (j : Int) < 3 := by omega
      have hj0 : (0 : Int) ≤ (j : Int) := by omega
      have hcx := X4.cell (HX3.out j hlt)
      have hcy := Y4.cell (HY3.out j hlt)
      have HEQ := Lib.hid heq
      have HJL : Hid (X.getD j 0 < Y.getD j 0 → R = -1) := Lib.hid (HLT.out j hlt heq)
      have HJG : Hid (Y.getD j 0 < X.getD j 0 → R = 1) := Lib.hid (HGT.out j hlt heq)
      have HJE : Hid (X.getD j 0 = Y.getD j 0 → ∀ t, t < j + 1 → X.getD t 0 = Y.getD t 0) := Lib.hid fun he t ht => by
        rcases Nat.lt_or_ge t j with h | h
        · exact heq t h
        · have : t = j := by omega
          rw [this]; exact he
      have HR : Hid (∀ m, Arr (wr.drewN m) w.heap.size 3 53 (c3 k n A len cap) ∧ Arr (wr.drewN m) (w.heap.size + 1) 3 53 (c3 k' n' B len' cap') ∧ Arr (wr.drewN m) gx 3 3 XV ∧ Arr (wr.drewN m) gy 3 3 YV ∧ Below w.heap.size w (wr.drewN m)) := Lib.hid fun m => ⟨P4, Q4, X4, Y4, below_drewN V4 m⟩
      generalize X.getD j 0 = x at hcx HJL HJG HJE
      generalize Y.getD j 0 = y at hcy HJL HJG HJE
      clear heq P4 Q4 X4 Y4 V4 HX3 HY3 HLT HGT HEQ
      clear HA HB HL ih HEND
      rcases Int.lt_trichotomy x y with hxy | hxy | hxy
      · have hyx : ¬ y < x := by omega
        have HRR : Hid (R = -1) := Lib.hid (HJL.out hxy)
        go_wp2_with fail
        go_quiet (fail)
        go_wp2_with fail
        go_ret
        exact ⟨by rw [HRR.out]; rfl, (HR.out _).2.2.2.2⟩
      · subst hxy
        have hxx : ¬ x < x := by omega
        go_wp2_with fail
        go_quiet (fail)
        go_wp2_with fail
        go_quiet (fail)
        go_wp2_with fail
        go_roundw
        case rel => exact ⟨j + 1, by omega, by go_num, HJE.out (by trivial), HR.out _⟩
        case measure => simp [intOf]; omega
      · have hyx : ¬ x < y := by omega
        have HRR : Hid (R = 1) := Lib.hid (HJG.out hxy)
        go_wp2_with fail
        go_quiet (fail)
        go_wp2_with fail
        go_quiet (fail)
        go_wp2_with fail
        go_ret
        exact ⟨by rw [HRR.out]; rfl, below_drewN (HR.out _).2.2.2.2 _⟩
    · have hj3 : j = 3 := by omega
      subst hj3
      obtain ⟨hle, hl', hcp⟩ := HEND.out heq
      subst hle
      have HL' := Lib.hid hl'
      have HCP := Lib.hid hcp
      clear heq X4 Y4 HX3 HY3 HLT HGT HEND hl' hcp
      go_wp2_with fail
      go_loopw [8] (fun i W => ∃ j : Nat, j ≤ len' ∧ i = .int .i64 (j : Int) ∧ Hid (cpL (xs.drop j) (ys.drop j) = R) ∧ Arr W w.heap.size 3 53 (c3 k n A len' cap) ∧ Arr W (w.heap.size + 1) 3 53 (c3 k' n' B len' cap') ∧ Below w.heap.size w W) (fun i _ => len' - (intOf i).toNat)
      case atStart => exact ⟨0, by omega, rfl, Lib.hid (by simpa using HCP.out), P4, Q4, V4⟩
      case round =>
        obtain ⟨j, hj, rfl, HCJ, P5, Q5, V5⟩ := hrel
        clear P4 Q4 V4
        have hpa := P5.cell (j := 2) (v := .slice A len' cap) rfl
        by_cases hlt : j < len'
        · have hji : (j : Int) < (len' : Int) := by omega
          have hj0 : (0 : Int) ≤ (j : Int) := by omega
          have hjm : (j : Int) + 1 ≤ 9223372036854775807 := by have := HM.out; simp only [maxLen] at this; omega
          have hjx : j < xs.length := by rw [HL.out]; exact hlt
          have hjy : j < ys.length := by rw [HL'.out]; exact hlt
          have hkx : xs[j]? = some xs[j] := List.getElem?_eq_getElem hjx
          have hky : ys[j]? = some ys[j] := List.getElem?_eq_getElem hjy
          have hcj := HCJ.out
          rw [cpL_drop xs ys j hjx hjy] at hcj
          have HCQ := Lib.hid hcj
          clear hcj HCJ
          obtain ⟨g, o, C, hA, HRa, HT, HC3, HI3, HOC⟩ := kid_at (HA.out.later V5) hkx
          obtain ⟨g', o', C', hB, HRb, HT', HC3', HI3', HOC'⟩ := kid_at (HB.out.later V5) hky
          subst hA
          subst hB
          obtain ⟨c0, c1, c2, rfl⟩ := three HC3.out
          obtain ⟨d0, d1, d2, rfl⟩ := three HC3'.out
          have HIH : Hid (∀ W v u, TrAt W xs[j] v → TrAt W ys[j] u → Calls Tryd.prog 33 #[v, u] W (NumRes (xs[j].cp ys[j]) W)) := Lib.hid (ih.out j _ _ hkx hky)
          clear hkx hky
          generalize xs[j] = x at HCQ HIH HT
          generalize ys[j] = y at HCQ HIH HT'
          generalize x.cp y = c at HCQ HIH
          clear hjx hjy
          have hbd : Below wr.heap.size wr wr.drew := below_drewN (Below.refl _ _) 1
          have HTd := Lib.hid (HT.out.later hbd)
          have HTd' := Lib.hid (HT'.out.later hbd)
          have HS : Hid (∀ W, Below wr.heap.size wr W → (W.cell? ⟨w.heap.size, 2, none⟩ = some (.slice (some ⟨g, o, none⟩) len' cap) ∧ W.cell? ⟨w.heap.size + 1, 2, none⟩ = some (.slice (some ⟨g', o', none⟩) len' cap') ∧ (W.cell? ⟨g, o + j * 3, none⟩ = some c0 ∧ W.cell? ⟨g, o + j * 3 + 1, none⟩ = some c1 ∧ W.cell? ⟨g, o + j * 3 + 2, none⟩ = some c2) ∧ W.cell? ⟨g', o' + j * 3, none⟩ = some d0 ∧ W.cell? ⟨g', o' + j * 3 + 1, none⟩ = some d1 ∧ W.cell? ⟨g', o' + j * 3 + 2, none⟩ = some d2)) :=
            Lib.hid fun W hW => ⟨(P5.later hW).cell (j := 2) rfl, (Q5.later hW).cell (j := 2) rfl, range3 (range_below HRa.out hW), range3 (range_below HRb.out hW)⟩
          have HPQ : Hid (∀ W, Below wr.heap.size wr W → Arr W w.heap.size 3 53 (c3 k n (some ⟨g, o, none⟩) len' cap) ∧ Arr W (w.heap.size + 1) 3 53 (c3 k' n' (some ⟨g', o', none⟩) len' cap') ∧ Below w.heap.size w W) := Lib.hid fun W hW => ⟨P5.later hW, Q5.later hW, later V5 hW⟩
          clear P5 Q5 V5 HA HB HL HL' ih HM
          go_upto_region 13 with fail
          go_region_held3 (fun W => W.cell? ⟨w.heap.size, 2, none⟩ = some (.slice (some ⟨g, o, none⟩) len' cap) ∧ W.cell? ⟨w.heap.size + 1, 2, none⟩ = some (.slice (some ⟨g', o', none⟩) len' cap') ∧ (W.cell? ⟨g, o + j * 3, none⟩ = some c0 ∧ W.cell? ⟨g, o + j * 3 + 1, none⟩ = some c1 ∧ W.cell? ⟨g, o + j * 3 + 2, none⟩ = some c2) ∧ W.cell? ⟨g', o' + j * 3, none⟩ = some d0 ∧ W.cell? ⟨g', o' + j * 3 + 1, none⟩ = some d1 ∧ W.cell? ⟨g', o' + j * 3 + 2, none⟩ = some d2)
            (first | exact HS.out _ hbd | exact HS.out _ hb8)
            (first
            | (go_at_call 33; (with_reducible refine (HIH.out _ _ _ HTd.out HTd'.out).mono ?_); rintro e w7 ⟨rfl, hb7⟩; have hb8 := later hbd hb7))
          obtain ⟨P8, Q8, V8⟩ := HPQ.out _ hb8
          clear HPQ HS HIH HTd HTd' HRa HRb HT HT' hb7 hb8 hbd
          by_cases hc0 : c = 0
          · subst hc0
            have HC0 : Hid (cpL (xs.drop (j + 1)) (ys.drop (j + 1)) = R) := Lib.hid (by have h := HCQ.out; rw [if_neg (by omega)] at h; exact h)
            go_wp2_with fail
            refine ⟨⟨_, _, _, _, _, _, _, _, _, _, _, _, _, _, _, _, _, _, _, _, _, _, _, _, ⟨j + 1, by omega, by go_num, HC0, P8, Q8, V8⟩, rfl⟩, by simp [intOf]; omega⟩
          · have hcb : (c != 0) = true := by simpa using hc0
            have HCR : Hid (c = R) := Lib.hid (by have h := HCQ.out; rw [if_pos hc0] at h; exact h)
            go_wp2_with fail
            go_ret
            exact ⟨by rw [← HCR.out]; rfl, V8⟩
        · have hje : j = len' := by omega
          subst hje
          have hcj := HCJ.out
          rw [List.drop_of_length_le (by rw [HL.out]; omega), cpL] at hcj
          have HZ := Lib.hid hcj
          clear hcj HCJ
          go_wp2_with fail
          go_ret
          exact ⟨by rw [← HZ.out]; rfl, V5⟩
theorem cmpI_lt {x y : Int} (h : x < y) : cmpI x y = -1 := by unfold cmpI; rw [if_pos h]
theorem cmpI_gt {x y : Int} (h : y < x) : cmpI x y = 1 := by unfold cmpI; rw [if_neg (by omega), if_pos h]
theorem cmpI_self (x : Int) : cmpI x x = 0 := by unfold cmpI; rw [if_neg (by omega), if_neg (by omega)]
theorem rcompare_any : ∀ (N : Nat) (x : Tr), x.nodes ≤ N → ∀ (y : Tr) (w : World) (v u : Value), TrAt w x v → TrAt w y u → Calls Tryd.prog 33 #[v, u] w (NumRes (x.cp y) w)
  | 0, x, hN, _, _, _, _, _, _ => absurd hN (by have := x.nodes_pos; omega)
  | N + 1, .node k n ks, hN, .node k' n' ks', w, v, u, h, h' => by
    unfold TrAt at h h'
    obtain ⟨A, cap, rfl, hm, hk⟩ := h
    obtain ⟨B, cap', rfl, hm', hk'⟩ := h'
    rw [cp_form]
    refine rcmp_head k n k' n' _ ks.length ks'.length A B cap cap' ks ks' w (Lib.hid hk) (Lib.hid hk') (Lib.hid ⟨hm.1, hm.2.1⟩) (Lib.hid rfl) (Lib.hid fun j x y hx hy W' v' u' e e' => rcompare_any N x (by have := Tr.kid_less (k := k) (n := n) hx; omega) y W' v' u' e e') (Lib.hid fun he => ?_) (Lib.hid fun j hj he hlt => ?_) (Lib.hid fun j hj he hlt => ?_)
    · have h0 : k = k' := he 0 (by decide)
      have h1 : n = n' := he 1 (by decide)
      have h2 : (ks.length : Int) = (ks'.length : Int) := he 2 (by decide)
      refine ⟨by omega, by omega, ?_⟩
      rw [h0, h1, h2, cmpI_self, cmpI_self, cmpI_self]
      rfl
    · match j, hj with
      | 0, _ =>
        have h0 : k < k' := hlt
        unfold or3
        rw [cmpI_lt h0]; rfl
      | 1, _ =>
        have h0 : k = k' := he 0 (by decide)
        have h1 : n < n' := hlt
        unfold or3
        rw [h0, cmpI_self, cmpI_lt h1]; rfl
      | 2, _ =>
        have h0 : k = k' := he 0 (by decide)
        have h1 : n = n' := he 1 (by decide)
        have h2 : (ks.length : Int) < (ks'.length : Int) := hlt
        unfold or3
        rw [h0, h1, cmpI_self, cmpI_self, cmpI_lt h2]; rfl
    · match j, hj with
      | 0, _ =>
        have h0 : k' < k := hlt
        unfold or3
        rw [cmpI_gt h0]; rfl
      | 1, _ =>
        have h0 : k = k' := he 0 (by decide)
        have h1 : n' < n := hlt
        unfold or3
        rw [h0, cmpI_self, cmpI_gt h1]; rfl
      | 2, _ =>
        have h0 : k = k' := he 0 (by decide)
        have h1 : n = n' := he 1 (by decide)
        have h2 : (ks'.length : Int) < (ks.length : Int) := hlt
        unfold or3
        rw [h0, h1, cmpI_self, cmpI_self, cmpI_gt h2]; rfl
end Go.Proofs.YtkpoiljioadfgaaDoor

namespace Go.Proofs.YtkpoiljioadfgaaDoor
open Go.RowKit
set_option maxHeartbeats 400000 in
set_option maxRecDepth 100000 in
theorem num_any (n : Int) (w : World) :
    Calls Tryd.prog 27 #[.int .i64 n] w fun e w' => e = .returned (.agg #[.int .i64 0, .int .i64 n, .slice none 0 0]) ∧ Below w.heap.size w w' := by
  have hB := new_later w (.cells #[.int .i64 0, .int .i64 n, .slice none 0 0] 53)
  have A := Arr.new' w 53 #[.int .i64 0, .int .i64 n, .slice none 0 0] 3 [.int .i64 0, .int .i64 n, .slice none 0 0] rfl rfl (by decide)
  have HI : (Tryd.prog.info? 53).map (·.size) = some ([.int .i64 0, .int .i64 n, .slice none 0 0] : List Value).length := by kernel_rfl
  have HA := Lib.hid A
  have HBB := Lib.hid hB
  have HII := Lib.hid HI
  clear A hB HI
  go_enter Tryd.func27, Tryd.ntmps27
  go_wp2_with fail
  exact bodyPost_ret (results_one rfl _ _ w.heap.size [.int .i64 0, .int .i64 n, .slice none 0 0] _ rfl HA.out.range Tryd.underlying53 rfl HII.out) rfl ⟨rfl, HBB.out⟩
set_option maxHeartbeats 400000 in
set_option maxRecDepth 100000 in
theorem same_any (x y : Tr) (w : World) (v u : Value) (hx : TrAt w x v) (hy : TrAt w y u) :
    Calls Tryd.prog 36 #[v, u] w fun e w' => e = .returned (.bool (x.cp y == 0)) ∧ Below w.heap.size w w' := by
  obtain ⟨k, n, A, len, cap, rfl⟩ := hx.shape
  obtain ⟨k', n', A', len', cap', rfl⟩ := hy.shape
  have P0 := c3_new w k n A len cap
  have V0 := new_later w (.cells (c3 k n A len cap).toArray 53)
  have Q0 := c3_new (w.alloc (.cells (c3 k n A len cap).toArray 53)) k' n' A' len' cap'
  have b1 := new_later (w.alloc (.cells (c3 k n A len cap).toArray 53)) (.cells (c3 k' n' A' len' cap').toArray 53)
  replace P0 := P0.later b1
  have V1 := later V0 b1
  rw [World.size_alloc] at Q0
  generalize hW : (w.alloc (.cells (c3 k n A len cap).toArray 53)).alloc (.cells (c3 k' n' A' len' cap').toArray 53) = wa at P0 Q0 V1
  have HC : Hid (Calls Tryd.prog 33 #[.agg #[.int .i64 k, .int .i64 n, .slice A len cap], .agg #[.int .i64 k', .int .i64 n', .slice A' len' cap']] wa (NumRes (x.cp y) wa)) := Lib.hid (rcompare_any x.nodes x (Nat.le_refl _) y wa _ _ (hx.later V1) (hy.later V1))
  generalize x.cp y = R at HC ⊢
  have x0 := P0.cell (j := 0) (v := .int .i64 k) rfl
  have x1 := P0.cell (j := 1) (v := .int .i64 n) rfl
  have x2 := P0.cell (j := 2) (v := .slice A len cap) rfl
  have y0 := Q0.cell (j := 0) (v := .int .i64 k') rfl
  have y1 := Q0.cell (j := 1) (v := .int .i64 n') rfl
  have y2 := Q0.cell (j := 2) (v := .slice A' len' cap') rfl
  have HV := Lib.hid V1
  clear P0 Q0 V0 V1 b1 hx hy
  go_enter Tryd.func36, Tryd.ntmps36
  go_upto_region 1 with fail
  clear hW
  go_wp2_with (go_at_call 33; (with_reducible refine HC.out.mono ?_); rintro e w2 ⟨rfl, hb2⟩; have HB2 := Lib.hid hb2; clear hb2)
  go_ret
  exact ⟨rfl, later HV.out HB2.out⟩
end Go.Proofs.YtkpoiljioadfgaaDoor

namespace Go.Proofs.YtkpoiljioadfgaaDoor
open Go.RowKit
def tI : Ty := .node 0 0 0 0 []
def tB : Ty := .node 1 0 0 0 []
def tD (j : Nat) : Ty := .node 3 0 1 (1 + (j : Int)) []
def tL (t : Ty) : Ty := .node 2 0 0 0 [t]
def Gd (j : Nat) (t : Ty) : Prop := t = tI ∨ t = tB ∨ t = tL tI ∨ ∃ i, i < j ∧ (t = tD i ∨ t = tL (tD i))
theorem Gd.mono {j j' : Nat} {t : Ty} (h : Gd j t) (hj : j ≤ j') : Gd j' t := by
  rcases h with h | h | h | ⟨i, hi, h⟩
  · exact .inl h
  · exact .inr (.inl h)
  · exact .inr (.inr (.inl h))
  · exact .inr (.inr (.inr ⟨i, by omega, h⟩))
structure Snd (P : List Df) : Prop where
  len : 1 ≤ P.length ∧ P.length ≤ 4
  ids : ∀ (i : Nat) (d : Df), P[i]? = some d → d.a = 0 ∧ d.b = 1 ∧ d.c = 1 + (i : Int)
  knd : ∀ (i : Nat) (d : Df), P[i]? = some d → d.kind = 0 ∨ d.kind = 1
  slt : ∀ (i : Nat) (d : Df), P[i]? = some d → 1 ≤ d.slots.length ∧ d.slots.length ≤ 3 ∧ ∀ (j : Nat) (s : Sl), d.slots[j]? = some s → Gd i s.ty
section
variable {P : List Df}
theorem Snd.fnd_ (h : Snd P) {i : Nat} (hi : i < P.length) : fnd P 0 1 (1 + (i : Int)) = i := by
  refine fnd_at hi ?_ ?_
  · obtain ⟨a, b, c⟩ := h.ids i _ (List.getElem?_eq_getElem hi)
    unfold Df.has; rw [a, b, c]; simp
  · intro j hj
    obtain ⟨a, b, c⟩ := h.ids j _ (List.getElem?_eq_getElem (by omega))
    unfold Df.has; rw [a, b, c]
    have : ¬ (1 + (j : Int) = 1 + (i : Int)) := by omega
    simp; omega
theorem Snd.get (h : Snd P) {i : Nat} (hi : i < P.length) : P[fnd P 0 1 (1 + (i : Int))]? = some P[i] := by
  rw [h.fnd_ hi]; exact List.getElem?_eq_getElem hi
theorem Snd.isD_ (h : Snd P) {i : Nat} (hi : i < P.length) : isD P 0 1 (1 + (i : Int)) = true := by
  unfold isD
  rw [h.get hi]
  rcases h.knd i _ (List.getElem?_eq_getElem hi) with e | e <;> simp [e]
theorem vty_I (P : List Df) (f : Nat) : vty P (f + 1) tI = true := by simp [vty, tI]
theorem vty_B (P : List Df) (f : Nat) : vty P (f + 1) tB = true := by simp [vty, tB]
theorem Snd.vty_D (h : Snd P) {i : Nat} (hi : i < P.length) (f : Nat) : vty P (f + 1) (tD i) = true := by simp [vty, tD, h.isD_ hi]
theorem vty_L {t : Ty} {f : Nat} (h : vty P f t = true) : vty P (f + 1) (tL t) = true := by simp [vty, tL, h]
theorem shK_I (P : List Df) : shK P tI = 0 := rfl
theorem shK_B (P : List Df) : shK P tB = 1 := rfl
theorem shK_L (P : List Df) (t : Ty) : shK P (tL t) = 4 := rfl
theorem shS_I (P : List Df) : shS P tI = [] := rfl
theorem shS_B (P : List Df) : shS P tB = [] := rfl
theorem shS_L (P : List Df) (t : Ty) : shS P (tL t) = [] := rfl
theorem Snd.dfo_ (h : Snd P) {i : Nat} (hi : i < P.length) : dfo P (tD i) = some P[i] := h.get hi
theorem Snd.shK_ (h : Snd P) {i : Nat} (hi : i < P.length) : shK P (tD i) = if P[i].kind = 0 then 2 else 3 := shK_def rfl (h.dfo_ hi)
theorem Snd.shS_ (h : Snd P) {i : Nat} (hi : i < P.length) : shS P (tD i) = P[i].slots := shS_def rfl (h.dfo_ hi)
end
theorem nodes_node (k n : Int) (ks : List Tr) : (Tr.node k n ks).nodes = nodesL ks + 1 := by rw [Tr.nodes]
theorem dep_node (k n : Int) (ks : List Tr) : (Tr.node k n ks).dep = depL ks + 1 := by rw [Tr.dep]
theorem ft_form (P : List Df) (k n : Int) (ks : List Tr) (t : Ty) : ft P (.node k n ks) t = (vty P 24 t && (decide (k = shK P t) && (hfit k n ks.length (shS P t).length && ftL P ks (kty t (shS P t) k n) 0))) := by rw [ft]
theorem hfit_0 (n : Int) (h : -1099511627776 ≤ n ∧ n ≤ 1099511627776) (m : Nat) : hfit 0 n 0 m = true := by unfold hfit; rw [if_pos rfl]; simp [h]
theorem hfit_1 (n : Int) (h : n = 0 ∨ n = 1) (m : Nat) : hfit 1 n 0 m = true := by unfold hfit; rw [if_neg (by decide), if_pos rfl]; simpa using h
theorem hfit_2 (m : Nat) : hfit 2 0 m m = true := by unfold hfit; rw [if_neg (by decide), if_neg (by decide), if_pos rfl]; simp
theorem hfit_3 (n m : Nat) (h : n < m) : hfit 3 (n : Int) 1 m = true := by unfold hfit; rw [if_neg (by decide), if_neg (by decide), if_neg (by decide), if_pos rfl]; simp; omega
theorem hfit_4 (l m : Nat) : hfit 4 0 l m = true := by unfold hfit; rw [if_neg (by decide), if_neg (by decide), if_neg (by decide), if_neg (by decide)]; rfl
theorem ft_I (P : List Df) (n : Int) (h : -1099511627776 ≤ n ∧ n ≤ 1099511627776) : ft P (.node 0 n []) tI = true := by
  rw [ft_form, vty_I P 23, shK_I, List.length_nil, hfit_0 n h]; simp [ftL]
theorem ft_B (P : List Df) (n : Int) (h : n = 0 ∨ n = 1) : ft P (.node 1 n []) tB = true := by
  rw [ft_form, vty_B P 23, shK_B, List.length_nil, hfit_1 n h]; simp [ftL]
theorem ft_L (P : List Df) (t : Ty) (ks : List Tr) (hv : vty P 23 t = true) (h : ∀ x ∈ ks, ft P x t = true) : ft P (.node 4 0 ks) (tL t) = true := by
  rw [ft_form, vty_L hv, shK_L, hfit_4]
  have e : ∀ i, kty (tL t) (shS P (tL t)) 4 0 i = t := fun i => rfl
  have hl : ∀ (xs : List Tr) (i : Nat), (∀ x ∈ xs, ft P x t = true) → ftL P xs (kty (tL t) (shS P (tL t)) 4 0) i = true := by
    intro xs
    induction xs with
    | nil => intro i _; rw [ftL]
    | cons x xs ih => intro i hx; rw [ftL, e, hx x (by simp), ih (i + 1) (fun y hy => hx y (by simp [hy]))]; rfl
  rw [hl ks 0 h]; rfl
theorem Snd.ft_rec {P : List Df} (h : Snd P) {i : Nat} (hi : i < P.length) (hk : P[i].kind = 0) (ks : List Tr) (hl : ks.length = P[i].slots.length) (hf : ftL P ks (kty (tD i) P[i].slots 2 0) 0 = true) : ft P (.node 2 0 ks) (tD i) = true := by
  rw [ft_form, h.vty_D hi 23, h.shK_ hi, h.shS_ hi, if_pos hk, hl, hfit_2, hf]; rfl
theorem Snd.ft_case {P : List Df} (h : Snd P) {i : Nat} (hi : i < P.length) (hk : P[i].kind ≠ 0) (n : Nat) (hn : n < P[i].slots.length) (x : Tr) (hx : ft P x (P[i].slots[n]).ty = true) : ft P (.node 3 (n : Int) [x]) (tD i) = true := by
  rw [ft_form, h.vty_D hi 23, h.shK_ hi, h.shS_ hi, if_neg hk, List.length_singleton, hfit_3 n _ hn]
  have e : kty (tD i) P[i].slots 3 (n : Int) 0 = (P[i].slots[n]).ty := by unfold kty; rw [if_neg (by decide), if_pos rfl, Int.toNat_natCast, List.getElem?_eq_getElem hn]; rfl
  rw [ftL, e, hx, ftL]; rfl
def ZB : Nat → Nat
  | 0 => 4
  | i + 1 => 1 + 3 * ZB i
theorem ZB_pos (i : Nat) : 1 ≤ ZB i := by cases i <;> simp [ZB]
theorem zr_I (P : List Df) (f c : Nat) (hc : c < 256) : zr P (f + 1) tI c = (0, .node 0 0 [], c + 1) := by
  rw [zr_form, vty_I P 23, if_neg (by simp), if_neg (by omega), if_neg (by rw [shK_I]; simp), shK_I, shS_I]; rfl
theorem zr_B (P : List Df) (f c : Nat) (hc : c < 256) : zr P (f + 1) tB c = (0, .node 1 0 [], c + 1) := by
  rw [zr_form, vty_B P 23, if_neg (by simp), if_neg (by omega), if_neg (by rw [shK_B]; simp), shK_B, shS_B]; rfl
theorem zr_L (P : List Df) (t : Ty) (f c : Nat) (hv : vty P 23 t = true) (hc : c < 256) : zr P (f + 1) (tL t) c = (0, .node 4 0 [], c + 1) := by
  rw [zr_form, vty_L hv, if_neg (by simp), if_neg (by omega), if_neg (by rw [shK_L]; simp), shK_L, shS_L]; rfl
def ZOk (P : List Df) (t : Ty) (N D : Nat) (c : Nat) (r : Int × Tr × Nat) : Prop := r.1 = 0 ∧ ft P r.2.1 t = true ∧ r.2.1.nodes ≤ N ∧ r.2.1.dep ≤ D ∧ r.2.2 = c + r.2.1.nodes ∧ r.2.1.wt = 0
theorem wtL_zero : ∀ (xs : List Tr), (∀ x ∈ xs, x.wt = 0) → wtL 0 xs = 0
  | [], _ => rfl
  | x :: xs, h => by rw [wtL, h x (by simp), show wrap64 (0 + 0) = 0 from by unfold wrap64; omega]; exact wtL_zero xs (fun y hy => h y (by simp [hy]))
theorem zrL_ok {P : List Df} {g : Ty → Nat → Int × Tr × Nat} {k : Int} {N D : Nat} (T : Nat → Ty) : ∀ (sl : List Sl) (acc : List Tr) (c : Nat), c + sl.length * N ≤ 256 → (∀ s ∈ sl, ∀ c, c + N ≤ 256 → ZOk P s.ty N D c (g s.ty c)) → (∀ j s, sl[j]? = some s → T (acc.length + j) = s.ty) →
    ∃ ks, (zrL g k sl acc c) = (0, .node k 0 (acc ++ ks), c + nodesL ks) ∧ ks.length = sl.length ∧ ftL P ks T acc.length = true ∧ nodesL ks ≤ sl.length * N ∧ depL ks ≤ D ∧ (∀ x ∈ ks, x.wt = 0)
  | [], acc, c, _, _, _ => ⟨[], by simp [zrL, nodesL], rfl, by rw [ftL], by simp [nodesL], by simp [depL], by simp⟩
  | s :: r, acc, c, hc, hg, hT => by
    have hN : (s :: r).length * N = r.length * N + N := by rw [List.length_cons, Nat.succ_mul]
    obtain ⟨z1, z2, z3, z4, z5, z6⟩ := hg s (by simp) c (by omega)
    obtain ⟨ks, e1, e2, e3, e4, e5, e6⟩ := zrL_ok (P := P) (g := g) (k := k) (N := N) (D := D) T r (acc ++ [(g s.ty c).2.1]) (g s.ty c).2.2 (by rw [z5]; omega) (fun s' hs' => hg s' (by simp [hs'])) (fun j s' hs' => by
      have := hT (j + 1) s' (by simpa using hs')
      rw [← this]; congr 1; simp; omega)
    refine ⟨(g s.ty c).2.1 :: ks, ?_, by simp [e2], ?_, ?_, ?_, ?_⟩
    · rw [zrL, if_pos z1, e1, z5, nodesL, List.append_assoc]; simp [Nat.add_assoc]
    · have h0 : T acc.length = s.ty := by simpa using hT 0 s rfl
      rw [ftL, h0, z2, Bool.true_and]
      have : (acc ++ [(g s.ty c).2.1]).length = acc.length + 1 := by simp
      rw [this] at e3; exact e3
    · rw [nodesL]; omega
    · rw [depL]; omega
    · intro x hx
      rcases List.mem_cons.1 hx with rfl | hx
      · exact z6
      · exact e6 x hx
theorem wtz_2 (ks : List Tr) (h : ∀ x ∈ ks, x.wt = 0) : (Tr.node 2 0 ks).wt = 0 := by rw [Tr.wt, wtL_zero ks h]; rfl
theorem wtz_3 (ks : List Tr) (h : ∀ x ∈ ks, x.wt = 0) : (Tr.node 3 0 ks).wt = 0 := by rw [Tr.wt, wtL_zero ks h]; simp [wtOf, wrap64]
theorem Snd.zero {P : List Df} (h : Snd P) : ∀ (i : Nat), i < P.length → ∀ (f c : Nat), i + 2 ≤ f → c + ZB i ≤ 256 → ZOk P (tD i) (ZB i) (i + 2) c (zr P f (tD i) c) := by
  intro i
  induction i using Nat.strongRecOn with
  | _ i IH =>
    intro hi f c hf hc
    obtain ⟨f, rfl⟩ : ∃ f', f = f' + 1 := ⟨f - 1, by omega⟩
    obtain ⟨s1, s2, s3⟩ := h.slt i _ (List.getElem?_eq_getElem hi)
    have hzp := ZB_pos i
    have hM : ∃ M, (∀ t, Gd i t → ∀ c, c + M ≤ 256 → ZOk P t M (i + 1) c (zr P f t c)) ∧ 1 + 3 * M ≤ ZB i := by
      have hw1 : ∀ (k : Int), (k = 0 ∨ k = 1 ∨ k = 4) → (Tr.node k 0 []).wt = 0 := by
        rintro k (rfl | rfl | rfl) <;> simp [Tr.wt, wtL, wtOf, wrap64]
      have hbase : ∀ M, 1 ≤ M → ∀ t, (t = tI ∨ t = tB ∨ t = tL tI) → ∀ c, c + M ≤ 256 → ZOk P t M (i + 1) c (zr P f t c) := by
        intro M hM t ht c hc
        obtain ⟨f', rfl⟩ : ∃ f', f = f' + 1 := ⟨f - 1, by omega⟩
        rcases ht with rfl | rfl | rfl
        · rw [zr_I P f' c (by omega)]; exact ⟨rfl, ft_I P 0 (by omega), by simp [nodes_node, nodesL]; omega, by simp [dep_node, depL], by simp [nodes_node, nodesL], hw1 0 (by simp)⟩
        · rw [zr_B P f' c (by omega)]; exact ⟨rfl, ft_B P 0 (by omega), by simp [nodes_node, nodesL]; omega, by simp [dep_node, depL], by simp [nodes_node, nodesL], hw1 1 (by simp)⟩
        · rw [zr_L P tI f' c (vty_I P 22) (by omega)]; exact ⟨rfl, ft_L P tI [] (vty_I P 22) (by simp), by simp [nodes_node, nodesL]; omega, by simp [dep_node, depL], by simp [nodes_node, nodesL], hw1 4 (by simp)⟩
      cases i with
      | zero =>
        refine ⟨1, fun t ht c hc => ?_, by simp [ZB]⟩
        rcases ht with e | e | e | ⟨j, hj, _⟩
        · exact hbase 1 (by omega) t (.inl e) c hc
        · exact hbase 1 (by omega) t (.inr (.inl e)) c hc
        · exact hbase 1 (by omega) t (.inr (.inr e)) c hc
        · omega
      | succ i =>
        refine ⟨ZB i, fun t ht c hc => ?_, by simp [ZB]⟩
        rcases ht with e | e | e | ⟨j, hj, e | e⟩
        · exact hbase _ (ZB_pos i) t (.inl e) c hc
        · exact hbase _ (ZB_pos i) t (.inr (.inl e)) c hc
        · exact hbase _ (ZB_pos i) t (.inr (.inr e)) c hc
        · subst e
          have hmono : ∀ a b : Nat, a ≤ b → ZB a ≤ ZB b := by
            intro a b hab
            induction hab with
            | refl => exact Nat.le_refl _
            | step _ ih => exact Nat.le_trans ih (by simp [ZB]; omega)
          have hz := hmono j i (by omega)
          obtain ⟨z1, z2, z3, z4, z5, z6⟩ := IH j hj (by omega) f c (by omega) (by omega)
          exact ⟨z1, z2, by omega, by omega, z5, z6⟩
        · subst e
          obtain ⟨f', rfl⟩ : ∃ f', f = f' + 1 := ⟨f - 1, by omega⟩
          have hv : vty P 23 (tD j) = true := h.vty_D (by omega) 22
          rw [zr_L P (tD j) f' c hv (by have := ZB_pos i; omega)]
          exact ⟨rfl, ft_L P (tD j) [] hv (by simp), by simp [nodes_node, nodesL]; exact ZB_pos i, by simp [dep_node, depL], by simp [nodes_node, nodesL], hw1 4 (by simp)⟩
    obtain ⟨M, hM1, hM2⟩ := hM
    rw [zr_form, h.vty_D hi 23, if_neg (by simp), if_neg (by omega), h.shK_ hi, h.shS_ hi]
    by_cases hk : P[i].kind = 0
    · rw [if_pos hk, if_neg (by simp), if_neg (by decide)]
      obtain ⟨ks, e1, e2, e3, e4, e5, e6⟩ := zrL_ok (P := P) (g := zr P f) (k := 2) (N := M) (D := i + 1) (kty (tD i) P[i].slots 2 0) P[i].slots [] (c + 1) (by
        have : P[i].slots.length * M ≤ 3 * M := Nat.mul_le_mul_right _ s2
        omega) (fun s hs c' hc' => by
          obtain ⟨j, hj⟩ := List.getElem?_of_mem hs
          exact hM1 _ (s3 j s hj) c' hc') (fun j s hs => by unfold kty; rw [if_pos rfl]; simp [hs])
      rw [e1]
      have h3 : P[i].slots.length * M ≤ 3 * M := Nat.mul_le_mul_right _ s2
      refine ⟨rfl, h.ft_rec hi hk _ (by simpa using e2) (by simpa using e3), ?_, ?_, ?_, wtz_2 _ (by simpa using e6)⟩
      · simp [nodes_node]; omega
      · simp [dep_node]; omega
      · simp [nodes_node]; omega
    · rw [if_neg hk, if_neg (by rintro ⟨_, h0⟩; omega), if_pos rfl]
      have h0 : P[i].slots.take 1 = [P[i].slots[0]] := by
        rw [show (1 : Nat) = 0 + 1 from rfl, List.take_succ_eq_append_getElem (by omega)]; simp
      rw [h0]
      have hs0 := s3 0 _ (List.getElem?_eq_getElem (by omega : 0 < P[i].slots.length))
      obtain ⟨ks, e1, e2, e3, e4, e5, e6⟩ := zrL_ok (P := P) (g := zr P f) (k := 3) (N := M) (D := i + 1) (fun _ => (P[i].slots[0]).ty) [P[i].slots[0]] [] (c + 1) (by simp; omega) (fun s hs c' hc' => by
          simp at hs; subst hs
          exact hM1 _ hs0 c' hc') (fun j s hs => by
            match j, hs with
            | 0, hs => simp at hs; rw [← hs])
      rw [e1]
      match ks, e2 with
      | [x], _ =>
        rw [ftL] at e3
        have hx : ft P x (P[i].slots[0]).ty = true := by simpa [ftL] using e3
        refine ⟨rfl, by simpa using h.ft_case hi hk 0 (by omega) x hx, ?_, ?_, ?_, wtz_3 _ (by simpa using e6)⟩
        · simp [nodes_node] at e4 ⊢; omega
        · simp [dep_node]; omega
        · simp [nodes_node]; omega
end Go.Proofs.YtkpoiljioadfgaaDoor

