import Derived.Test.YtecfhhnmokdkiaaRefB
import Derived.Test.YtecfhhnmokdkiaaPureR
import Derived.Test.YtecfhhnmokdkiaaS
import Derived.Deep.RegionWith
set_option linter.unusedVariables false
namespace Go.Proofs.Ytecfhhnmokdkiaa
open Go.RowKit

/-- Three numbers come back, and memory has grown. -/
def BelRes (w : World) (r : Int × Nat × Nat) (e : Ending) (w' : World) : Prop := e = .returned (.tuple #[.int .i64 r.1, .int .i64 (r.2.1 : Int), .int .i64 (r.2.2 : Int)]) ∧ Below w.heap.size w w'
theorem BelRes.mk {w w' : World} {r : Int × Nat × Nat} {a b c : Int} (h : r = (a, b.toNat, c.toNat)) (hb : 0 ≤ b) (hc : 0 ≤ c) (hw : Below w.heap.size w w') : BelRes w r (.returned (.tuple #[.int .i64 a, .int .i64 b, .int .i64 c])) w' := by
  subst h
  refine ⟨?_, hw⟩
  simp [Int.toNat_of_nonneg hb, Int.toNat_of_nonneg hc]

set_option maxHeartbeats 2000000 in
set_option maxRecDepth 100000 in
theorem refGetInt_pos (b o cap h : Nat) (t : List Nat) (w : World) (hbB : b < w.heap.size) (hc : ∀ j u, (bs (h :: t))[j]? = some u → w.cell? ⟨b, o + j, none⟩ = some u) (hby : ∀ d ∈ h :: t, d < 256) (hh : h < 256) (hh1 : 128 ≤ h)
    (hcap : t.length + 1 ≤ cap) (hcap2 : cap ≤ maxLen) :
    Calls Try.prog 19 #[.slice (some ⟨b, o, none⟩) (t.length + 1) cap] w (BelRes w (dec (h :: t))) := by
  have hc0 : w.cell? ⟨b, o, none⟩ = some (.int .u8 (h : Int)) := hc 0 _ rfl
  have hrd : Rd w w.heap.size (some ⟨b, o, none⟩) (bs (h :: t)) := .inr ⟨b, o, rfl, hbB, hc⟩
  have HC := Lib.hid hc
  have HB := Lib.hid hby
  have HRD := Lib.hid hrd
  clear hc hby hrd
  obtain ⟨K, hK⟩ : ∃ K : Nat, (h : Int) - 128 = (K : Int) := ⟨h - 128, by omega⟩
  have hKo : kOf h = K := by unfold kOf; rw [if_neg (by omega)]; omega
  have HK := Lib.hid hKo
  clear hKo
  have hng : decide (h < 128) = false := by simp; omega
  have HNG := Lib.hid hng
  clear hng
  unfold maxLen at hcap2
  have hl0 : (((t.length : Int) + 1) == 0) = false := by simp; omega
  by_cases h8 : 8 < K
  · rw [dec_big HK.out h8]
    go_enter Try.func19, Try.ntmps19
    go_wp2_with fail
    go_ret3
    exact BelRes.mk rfl (by decide) (by decide) (Below.refl _ _)
  by_cases hlt : t.length < K
  · rw [dec_short HK.out h8 hlt]
    go_enter Try.func19, Try.ntmps19
    go_wp2_with fail
    go_ret3
    exact BelRes.mk rfl (by decide) (by decide) (Below.refl _ _)
  have H1 := Lib.hid (dec_end HK.out h8 hlt HNG.out)
  have H2 : Hid (val (inv false (t.take K)) ≤ 9223372036854775807 → dec (h :: t) = if enc (cand false (val (inv false (t.take K)))) = h :: t.take K then (cand false (val (inv false (t.take K))), K + 1, 0) else (0, 0, 2)) := fun hM => dec_cand HK.out h8 hlt HNG.out HB.out hM
  generalize dec (h :: t) = R at H1 H2 ⊢
  go_enter Try.func19, Try.ntmps19
  go_wp2_with fail
  go_loop [7, 8] (fun m i => ∃ k V : Nat, k ≤ K ∧ i = .int .i64 ((k : Int) + 1) ∧ m = .int .i64 (V : Int) ∧ V = val (inv false (t.take k)) ∧ V ≤ 9223372036854775807) (fun _ i => K + 1 - (intOf i).toNat)
  case atStart => exact ⟨0, 0, Nat.zero_le _, rfl, rfl, rfl, by omega⟩
  case round =>
    obtain ⟨k, V, hk, rfl, rfl, hV, hVm⟩ := hrel
    by_cases hkK : k < K
    · have hkt : k < t.length := by omega
      have hcell : w.cell? ⟨b, o + (k + 1), none⟩ = some (.int .u8 (t[k] : Int)) := HC.out (k + 1) _ (by
        have := bs_get t k hkt
        rw [List.getElem?_eq_getElem hkt, Option.getD_some] at this
        exact this)
      have hz : t[k] < 256 := HB.out _ (by simp)
      have hnext := inv_snoc false t k hkt
      rw [← hV] at hnext
      have hnx : val (inv false (t.take (k + 1))) = 256 * V + t[k] := hnext
      have HN := Lib.hid hnx
      have HV := Lib.hid hV
      clear hnext hnx hV
      have hkK' : (k : Int) + 1 ≤ (K : Int) := by omega
      by_cases hov : 36028797018963967 < V
      · have HO := Lib.hid (V_over (neg := false) (t := t) hkK (by omega) (by rw [← HV.out]; exact hov))
        generalize t[k] = X at hcell hz HN
        go_wp2_with fail
        go_ret3
        rw [H1.out, HO.out]
        exact BelRes.mk rfl (by decide) (by decide) (Below.refl _ _)
      · generalize t[k] = X at hcell hz HN
        go_wp2_with fail
        go_round
        case rel => exact ⟨k + 1, _, by omega, by go_num, by go_num, HN.out.symm, by omega⟩
        case measure => simp [intOf]; omega
    · have hkK2 : k = K := by omega
      subst hkK2
      rw [← hV] at H2
      have H3 := Lib.hid (H2.out hVm)
      clear hV H2 H1
      have HIN := Lib.hid (cand_in false V hVm)
      obtain ⟨N, hN⟩ : ∃ N : Int, N = (V : Int) := ⟨_, rfl⟩
      have hNc : cand false V = N := by rw [hN]; rfl
      rw [hNc] at H3 HIN
      clear hNc
      have hin := HIN.out
      have hsl : (enc N).length ≤ 9 := (enc_len N hin).2
      have hslp : 1 ≤ (enc N).length := (enc_len N hin).1
      have HI : Hid (∀ W, Calls Try.prog 9 #[.int .i64 N] W fun e w' => ∃ v', e = .returned v' ∧ OwnB w' W.heap.size v' (enc N) ∧ Below W.heap.size W w') := fun W => refInt_any N W hin
      have hin1 := hin.1
      have hin2 := hin.2
      have HSame : Hid (∀ q, decide (enc N = h :: t.take k) = q → ∀ W A' n c, Below w.heap.size w W → Rd W W.heap.size A' (bs (enc N)) → n = (enc N).length → Calls Try.prog 7 #[.slice A' n c, .slice (some ⟨b, o, none⟩) (k + 1) cap] W (BoolRes W q)) := by
        intro q hq W A' n c hW hr hn
        have hr2 : Rd W w.heap.size (some ⟨b, o, none⟩) (bs (h :: t.take k)) := by
          have := (HRD.out.below hW).take (k + 1)
          simpa [bs] using this
        have := Same_any n (k + 1) W.heap.size c cap A' (some ⟨b, o, none⟩) (enc N) (h :: t.take k) W hn (by simp; omega) hr (hr2.more hW.size) (by omega)
        rw [hq] at this
        exact this
      have hw1 : IntKind.i64.wrap ((k : Int) + 1) = (k : Int) + 1 := IntWalk.i64_in _ (by omega)
      have hw2 : (0 : Int) ≤ (k : Int) + 1 := by omega
      have hw3 : ((k : Int) + 1).toNat = k + 1 := by omega
      have hkc : k + 1 ≤ cap := by omega
      by_cases e : enc N = h :: t.take k
      · have hR := H3.out
        rw [if_pos e] at hR
        have HR := Lib.hid hR
        have HS := Lib.hid (HSame.out true (decide_eq_true e))
        generalize enc N = X at HI HS hsl hslp
        clear hR e H3 HIN hin HSame
        subst hN
        go_wp2_with fail
        go_region_with (first
          | (go_at_call 9; refine (HI.out _).mono ?_; rintro e w1 ⟨v1, rfl, hown1, hb1⟩; obtain ⟨g1, c1, rfl, _, _, hc1, hc2⟩ := hown1.some_ (by omega); have hbw1 : Below w.heap.size w w1 := (below_drewN (Below.refl _ w) 1).trans hb1)
          | (go_at_call 7; refine (HS.out _ _ _ _ hbw1 hown1.rd rfl).mono ?_; rintro e w2 ⟨rfl, q, rfl⟩))
        all_goals (clear hw1 hw2 hw3; go_wp2_with fail; go_ret3; rw [HR.out]; exact BelRes.mk (by congr 2) (by omega) (by decide) (below_drewN hbw1 q))
      · have hR := H3.out
        rw [if_neg e] at hR
        have HR := Lib.hid hR
        have HS := Lib.hid (HSame.out false (decide_eq_false e))
        generalize enc N = X at HI HS hsl hslp
        clear hR e H3 HIN hin HSame
        subst hN
        go_wp2_with fail
        go_region_with (first
          | (go_at_call 9; refine (HI.out _).mono ?_; rintro e w1 ⟨v1, rfl, hown1, hb1⟩; obtain ⟨g1, c1, rfl, _, _, hc1, hc2⟩ := hown1.some_ (by omega); have hbw1 : Below w.heap.size w w1 := (below_drewN (Below.refl _ w) 1).trans hb1)
          | (go_at_call 7; refine (HS.out _ _ _ _ hbw1 hown1.rd rfl).mono ?_; rintro e w2 ⟨rfl, q, rfl⟩))
        all_goals (clear hw1 hw2 hw3; go_wp2_with fail; go_ret3; rw [HR.out]; exact BelRes.mk rfl (by decide) (by decide) (below_drewN hbw1 q))
set_option maxHeartbeats 2000000 in
set_option maxRecDepth 100000 in
theorem refGetInt_neg (b o cap h : Nat) (t : List Nat) (w : World) (hbB : b < w.heap.size) (hc : ∀ j u, (bs (h :: t))[j]? = some u → w.cell? ⟨b, o + j, none⟩ = some u) (hby : ∀ d ∈ h :: t, d < 256) (hh : h < 256) (hh1 : h < 128)
    (hcap : t.length + 1 ≤ cap) (hcap2 : cap ≤ maxLen) :
    Calls Try.prog 19 #[.slice (some ⟨b, o, none⟩) (t.length + 1) cap] w (BelRes w (dec (h :: t))) := by
  have hc0 : w.cell? ⟨b, o, none⟩ = some (.int .u8 (h : Int)) := hc 0 _ rfl
  have hrd : Rd w w.heap.size (some ⟨b, o, none⟩) (bs (h :: t)) := .inr ⟨b, o, rfl, hbB, hc⟩
  have HC := Lib.hid hc
  have HB := Lib.hid hby
  have HRD := Lib.hid hrd
  clear hc hby hrd
  obtain ⟨K, hK⟩ : ∃ K : Nat, 127 - (h : Int) = (K : Int) := ⟨127 - h, by omega⟩
  have hKo : kOf h = K := by unfold kOf; rw [if_pos (by omega)]; omega
  have HK := Lib.hid hKo
  clear hKo
  have hng : decide (h < 128) = true := by simp; omega
  have HNG := Lib.hid hng
  clear hng
  unfold maxLen at hcap2
  have hl0 : (((t.length : Int) + 1) == 0) = false := by simp; omega
  by_cases h8 : 8 < K
  · rw [dec_big HK.out h8]
    go_enter Try.func19, Try.ntmps19
    go_wp2_with fail
    go_ret3
    exact BelRes.mk rfl (by decide) (by decide) (Below.refl _ _)
  by_cases hlt : t.length < K
  · rw [dec_short HK.out h8 hlt]
    go_enter Try.func19, Try.ntmps19
    go_wp2_with fail
    go_ret3
    exact BelRes.mk rfl (by decide) (by decide) (Below.refl _ _)
  have H1 := Lib.hid (dec_end HK.out h8 hlt HNG.out)
  have H2 : Hid (val (inv true (t.take K)) ≤ 9223372036854775807 → dec (h :: t) = if enc (cand true (val (inv true (t.take K)))) = h :: t.take K then (cand true (val (inv true (t.take K))), K + 1, 0) else (0, 0, 2)) := fun hM => dec_cand HK.out h8 hlt HNG.out HB.out hM
  generalize dec (h :: t) = R at H1 H2 ⊢
  go_enter Try.func19, Try.ntmps19
  go_wp2_with fail
  go_loop [7, 8] (fun m i => ∃ k V : Nat, k ≤ K ∧ i = .int .i64 ((k : Int) + 1) ∧ m = .int .i64 (V : Int) ∧ V = val (inv true (t.take k)) ∧ V ≤ 9223372036854775807) (fun _ i => K + 1 - (intOf i).toNat)
  case atStart => exact ⟨0, 0, Nat.zero_le _, rfl, rfl, rfl, by omega⟩
  case round =>
    obtain ⟨k, V, hk, rfl, rfl, hV, hVm⟩ := hrel
    by_cases hkK : k < K
    · have hkt : k < t.length := by omega
      have hcell : w.cell? ⟨b, o + (k + 1), none⟩ = some (.int .u8 (t[k] : Int)) := HC.out (k + 1) _ (by
        have := bs_get t k hkt
        rw [List.getElem?_eq_getElem hkt, Option.getD_some] at this
        exact this)
      have hz : t[k] < 256 := HB.out _ (by simp)
      have hnext := inv_snoc true t k hkt
      rw [← hV] at hnext
      have hnx : val (inv true (t.take (k + 1))) = 256 * V + (255 - t[k]) := hnext
      have HN := Lib.hid hnx
      have HV := Lib.hid hV
      clear hnext hnx hV
      have hkK' : (k : Int) + 1 ≤ (K : Int) := by omega
      by_cases hov : 36028797018963967 < V
      · have HO := Lib.hid (V_over (neg := true) (t := t) hkK (by omega) (by rw [← HV.out]; exact hov))
        generalize t[k] = X at hcell hz HN
        go_wp2_with fail
        go_ret3
        rw [H1.out, HO.out]
        exact BelRes.mk rfl (by decide) (by decide) (Below.refl _ _)
      · generalize t[k] = X at hcell hz HN
        go_wp2_with fail
        go_round
        case rel => exact ⟨k + 1, _, by omega, by go_num, congrArg (Value.int .i64) (by omega), HN.out.symm, by omega⟩
        case measure => simp [intOf]; omega
    · have hkK2 : k = K := by omega
      subst hkK2
      rw [← hV] at H2
      have H3 := Lib.hid (H2.out hVm)
      clear hV H2 H1
      have HIN := Lib.hid (cand_in true V hVm)
      obtain ⟨N, hN⟩ : ∃ N : Int, N = -1 - (V : Int) := ⟨_, rfl⟩
      have hNc : cand true V = N := by rw [hN]; rfl
      rw [hNc] at H3 HIN
      clear hNc
      have hin := HIN.out
      have hsl : (enc N).length ≤ 9 := (enc_len N hin).2
      have hslp : 1 ≤ (enc N).length := (enc_len N hin).1
      have HI : Hid (∀ W, Calls Try.prog 9 #[.int .i64 N] W fun e w' => ∃ v', e = .returned v' ∧ OwnB w' W.heap.size v' (enc N) ∧ Below W.heap.size W w') := fun W => refInt_any N W hin
      have hin1 := hin.1
      have hin2 := hin.2
      have HSame : Hid (∀ q, decide (enc N = h :: t.take k) = q → ∀ W A' n c, Below w.heap.size w W → Rd W W.heap.size A' (bs (enc N)) → n = (enc N).length → Calls Try.prog 7 #[.slice A' n c, .slice (some ⟨b, o, none⟩) (k + 1) cap] W (BoolRes W q)) := by
        intro q hq W A' n c hW hr hn
        have hr2 : Rd W w.heap.size (some ⟨b, o, none⟩) (bs (h :: t.take k)) := by
          have := (HRD.out.below hW).take (k + 1)
          simpa [bs] using this
        have := Same_any n (k + 1) W.heap.size c cap A' (some ⟨b, o, none⟩) (enc N) (h :: t.take k) W hn (by simp; omega) hr (hr2.more hW.size) (by omega)
        rw [hq] at this
        exact this
      have hw1 : IntKind.i64.wrap ((k : Int) + 1) = (k : Int) + 1 := IntWalk.i64_in _ (by omega)
      have hw2 : (0 : Int) ≤ (k : Int) + 1 := by omega
      have hw3 : ((k : Int) + 1).toNat = k + 1 := by omega
      have hkc : k + 1 ≤ cap := by omega
      by_cases e : enc N = h :: t.take k
      · have hR := H3.out
        rw [if_pos e] at hR
        have HR := Lib.hid hR
        have HS := Lib.hid (HSame.out true (decide_eq_true e))
        generalize enc N = X at HI HS hsl hslp
        clear hR e H3 HIN hin HSame
        subst hN
        go_wp2_with fail
        go_region_with (first
          | (go_at_call 9; refine (HI.out _).mono ?_; rintro e w1 ⟨v1, rfl, hown1, hb1⟩; obtain ⟨g1, c1, rfl, _, _, hc1, hc2⟩ := hown1.some_ (by omega); have hbw1 : Below w.heap.size w w1 := (below_drewN (Below.refl _ w) 1).trans hb1)
          | (go_at_call 7; refine (HS.out _ _ _ _ hbw1 hown1.rd rfl).mono ?_; rintro e w2 ⟨rfl, q, rfl⟩))
        all_goals (clear hw1 hw2 hw3; go_wp2_with fail; go_ret3; rw [HR.out]; exact BelRes.mk (by congr 2) (by omega) (by decide) (below_drewN hbw1 q))
      · have hR := H3.out
        rw [if_neg e] at hR
        have HR := Lib.hid hR
        have HS := Lib.hid (HSame.out false (decide_eq_false e))
        generalize enc N = X at HI HS hsl hslp
        clear hR e H3 HIN hin HSame
        subst hN
        go_wp2_with fail
        go_region_with (first
          | (go_at_call 9; refine (HI.out _).mono ?_; rintro e w1 ⟨v1, rfl, hown1, hb1⟩; obtain ⟨g1, c1, rfl, _, _, hc1, hc2⟩ := hown1.some_ (by omega); have hbw1 : Below w.heap.size w w1 := (below_drewN (Below.refl _ w) 1).trans hb1)
          | (go_at_call 7; refine (HS.out _ _ _ _ hbw1 hown1.rd rfl).mono ?_; rintro e w2 ⟨rfl, q, rfl⟩))
        all_goals (clear hw1 hw2 hw3; go_wp2_with fail; go_ret3; rw [HR.out]; exact BelRes.mk rfl (by decide) (by decide) (below_drewN hbw1 q))
theorem refGetInt_any (m cap : Nat) (A : Option Addr) (zs : List Nat) (w : World) (hm : m = zs.length) (hr : Rd w w.heap.size A (bs zs)) (hb : ∀ d ∈ zs, d < 256) (hcap : m ≤ cap) (hcap2 : cap ≤ maxLen) :
    Calls Try.prog 19 #[.slice A m cap] w (BelRes w (dec zs)) := by
  subst hm
  cases zs with
  | nil =>
    go_enter Try.func19, Try.ntmps19
    go_wp2_with fail
    go_ret3
    exact BelRes.mk rfl (by decide) (by decide) (Below.refl _ _)
  | cons h t =>
    obtain ⟨b, o, rfl, hlt, hc⟩ := hr.at_ (by simp [bs])
    by_cases hh : h < 128
    · exact refGetInt_neg b o cap h t w hlt hc hb (hb h (by simp)) hh hcap hcap2
    · exact refGetInt_pos b o cap h t w hlt hc hb (hb h (by simp)) (by omega) hcap hcap2
theorem refGetInt_call {n : Int} {u er : Nat} (m cap : Nat) (A : Option Addr) (zs : List Nat) (w : World) (hd : dec zs = (n, u, er)) (hm : m = zs.length) (hr : Rd w w.heap.size A (bs zs)) (hb : ∀ d ∈ zs, d < 256) (hcap : m ≤ cap) (hcap2 : cap ≤ maxLen) :
    Calls Try.prog 19 #[.slice A m cap] w fun e w' => e = .returned (.tuple #[.int .i64 n, .int .i64 (u : Int), .int .i64 (er : Int)]) ∧ Below w.heap.size w w' := by
  have h := refGetInt_any m cap A zs w hm hr hb hcap hcap2
  rw [hd] at h
  exact h
end Go.Proofs.Ytecfhhnmokdkiaa
