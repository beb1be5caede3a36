import Derived.Test.YtecfhhnmokdkiaaRefGi
import Derived.Test.YtecfhhnmokdkiaaRefGs
import Derived.Test.YtecfhhnmokdkiaaRefGd
import Derived.Test.YtecfhhnmokdkiaaGen
set_option linter.unusedVariables false
namespace Go.Proofs.Ytecfhhnmokdkiaa
open Go.RowKit

theorem refGetInts_call {l : List Int} {u er : Nat} (m cap : Nat) (A : Option Addr) (zs : List Nat) (w : World) (hd : getL 1 dec zs = (l, u, er)) (hm : m = zs.length) (hr : Rd w w.heap.size A (bs zs)) (hb : ∀ d ∈ zs, d < 256) (hcap : m ≤ cap) (hcap2 : cap ≤ maxLen) (hm2 : m ≤ 100000) :
    Calls Try.prog 23 #[.slice A m cap] w fun e w' => ∃ A' c', e = .returned (.tuple #[.slice A' l.length c', .int .i64 (u : Int), .int .i64 (er : Int)]) ∧ Rd w' w'.heap.size A' (is l) ∧ Below w.heap.size w w' := by
  have h := refGetInts_any m cap A zs w hm hr hb hcap hcap2 hm2
  rw [hd] at h
  refine h.mono fun e w' ⟨v', h1, h2, h3⟩ => ?_
  obtain ⟨A', c', rfl, _⟩ := own_shape h2
  exact ⟨A', c', by rw [h1]; simp [is], Rd.own h2, h3⟩
theorem refGetStrings_call {l : List (List Nat)} {u er : Nat} (m cap : Nat) (A : Option Addr) (zs : List Nat) (w : World) (hd : getL 1 getBytes zs = (l, u, er)) (hm : m = zs.length) (hr : Rd w w.heap.size A (bs zs)) (hb : ∀ d ∈ zs, d < 256) (hcap : m ≤ cap) (hcap2 : cap ≤ maxLen) (hm2 : m ≤ 100000) :
    Calls Try.prog 26 #[.slice A m cap] w fun e w' => ∃ A' c', e = .returned (.tuple #[.slice A' l.length c', .int .i64 (u : Int), .int .i64 (er : Int)]) ∧ Rd w' w'.heap.size A' (ss (l.map mkS)) ∧ Below w.heap.size w w' := by
  have h := refGetStrings_any m cap A zs w hm hr hb hcap hcap2 hm2
  rw [hd] at h
  refine h.mono fun e w' ⟨v', h1, h2, h3⟩ => ?_
  obtain ⟨A', c', rfl, _⟩ := own_shape h2
  have h4 := Rd.own h2
  have e1 : l.map sv = ss (l.map mkS) := by simp [ss]; intro a _; rfl
  simp only [e1] at h4
  exact ⟨A', c', by rw [h1]; simp, h4, h3⟩
theorem refGetDigests_call {l : List (List Nat)} {u er : Nat} (m cap : Nat) (A : Option Addr) (zs : List Nat) (w : World) (hd : getL 16 digD zs = (l, u, er)) (hm : m = zs.length) (hr : Rd w w.heap.size A (bs zs)) (hb : ∀ d ∈ zs, d < 256) (hcap : m ≤ cap) (hcap2 : cap ≤ maxLen) (hm2 : m ≤ 100000) :
    Calls Try.prog 29 #[.slice A m cap] w fun e w' => ∃ A' c', e = .returned (.tuple #[.slice A' l.length c', .int .i64 (u : Int), .int .i64 (er : Int)]) ∧ Rd w' w'.heap.size A' (ds l) ∧ Below w.heap.size w w' := by
  have h := refGetDigests_any m cap A zs w hm hr hb hcap hcap2 hm2
  rw [hd] at h
  refine h.mono fun e w' ⟨v', h1, h2, h3⟩ => ?_
  obtain ⟨A', c', rfl, _⟩ := own_shape h2
  exact ⟨A', c', h1, Rd.own h2, h3⟩

set_option maxHeartbeats 4000000 in
set_option maxRecDepth 100000 in
theorem WireDecodeMatchesSpec_any (m cap : Nat) (A : Option Addr) (zs : List Nat) (w : World) (hm : m = zs.length) (hr : Rd w w.heap.size A (bs zs)) (hb : ∀ d ∈ zs, d < 256) (hcap : m ≤ cap) (hcap2 : cap ≤ maxLen) :
    Calls Try.prog 4 #[.slice A m cap] w (LawRes w) := by
  by_cases h2000 : 2000 < m
  · have hc : (2000 : Int) < (m : Int) := by omega
    clear hm hr hb
    go_enter Try.func4, Try.ntmps4
    go_wp2_with (go_at_call 6; refine (sanity_any _).mono ?_; rintro e w1 ⟨rfl, hb1⟩)
    go_ret
    exact ⟨rfl, hb1⟩
  · have hc : ¬ (2000 : Int) < (m : Int) := by omega
    obtain ⟨n1, u1, e1, hd1⟩ : ∃ n u er, dec zs = (n, u, er) := ⟨_, _, _, rfl⟩
    obtain ⟨n2, u2, e2, hd2⟩ : ∃ n u er, getBytes zs = (n, u, er) := ⟨_, _, _, rfl⟩
    obtain ⟨n3, u3, e3, hd3⟩ : ∃ n u er, getL 1 dec zs = (n, u, er) := ⟨_, _, _, rfl⟩
    obtain ⟨n4, u4, e4, hd4⟩ : ∃ n u er, getL 1 getBytes zs = (n, u, er) := ⟨_, _, _, rfl⟩
    obtain ⟨n5, u5, e5, hd5⟩ : ∃ n u er, getL 16 digD zs = (n, u, er) := ⟨_, _, _, rfl⟩
    have b3 := getL_all (p := InR) (L := zs.length) (by omega) (Nat.le_refl _) (fun b _ _ => dec_all1 b) hd3
    have b4 := getL_all (p := fun s => s.length ≤ zs.length) (L := zs.length) (by omega) (Nat.le_refl _) (fun b hb _ => Nat.le_trans (getBytes_size b) hb) hd4
    have b5 := getL_digD hd5
    have l3 : n3.length ≤ 9223372036854775807 := by have := b3.2; omega
    have l4 : n4.length ≤ 9223372036854775807 := by have := b4.2; omega
    have l5 : n5.length ≤ 9223372036854775807 := by have := b5.2.1; omega
    have H16 := Lib.hid b5.1
    have HL4 : Hid (n4.length = (n4.map mkS).length) := by show n4.length = (n4.map mkS).length; simp
    have HD1 := Lib.hid hd1
    have HD2 := Lib.hid hd2
    have HD3 := Lib.hid hd3
    have HD4 := Lib.hid hd4
    have HD5 := Lib.hid hd5
    have HM := Lib.hid hm
    have HB := Lib.hid hb
    have hm2 : m ≤ 100000 := by omega
    have HR := Lib.hid hr
    have HS3 : Hid (∀ W A c A' c', Rd W W.heap.size A (is n3) → Rd W W.heap.size A' (is n3) → Calls Try.prog 24 #[.slice A n3.length c, .slice A' n3.length c'] W (BoolRes W true)) := fun W A c A' c' h h' => by
      have hS := SameInts_any n3.length n3.length W.heap.size c c' A A' n3 n3 W rfl rfl h h' l3
      rwa [decide_eq_true (rfl : n3 = n3)] at hS
    have HS4 : Hid (∀ W A c A' c', Rd W W.heap.size A (ss (n4.map mkS)) → Rd W W.heap.size A' (ss (n4.map mkS)) → Calls Try.prog 27 #[.slice A n4.length c, .slice A' n4.length c'] W (BoolRes W true)) := fun W A c A' c' h h' => by
      have hS := SameTexts_any n4.length n4.length W.heap.size c c' A A' (n4.map mkS) (n4.map mkS) W HL4.out HL4.out h h' l4
      rwa [decide_eq_true (rfl : n4.map mkS = n4.map mkS)] at hS
    have HS5 : Hid (∀ W A c A' c', Rd W W.heap.size A (ds n5) → Rd W W.heap.size A' (ds n5) → Calls Try.prog 30 #[.slice A n5.length c, .slice A' n5.length c'] W (BoolRes W true)) := fun W A c A' c' h h' => by
      have hS := SameDigests_any n5.length n5.length W.heap.size c c' A A' n5 n5 W rfl rfl h h' l5 H16.out H16.out
      rwa [decide_eq_true (rfl : n5 = n5)] at hS
    have hss : ((mkS n2).toList == (mkS n2).toList) = true := by simp
    have hsn : ((mkS n2).toList != (mkS n2).toList) = false := by simp
    have V0 : Below w.heap.size w w := Below.refl _ w
    clear hm hb hr hd1 hd2 hd3 hd4 hd5 b3 b4 b5
    go_enter Try.func4, Try.ntmps4
    go_wp2_with (first
      | (go_at_call 18; refine (getInt_call m _ cap A zs _ HD1.out HM.out (HR.out.later V0) HB.out hcap hcap2).mono ?_; rintro e w1 ⟨rfl, k1, rfl⟩; have V1 := later V0 (quiet _ k1); clear V0)
      | (go_at_call 19; refine (refGetInt_call m cap A zs _ HD1.out HM.out (HR.out.later V1) HB.out hcap hcap2).mono ?_; rintro e w2 ⟨rfl, hb2⟩; have V2 := later V1 hb2; clear V1 hb2)
      | (go_at_call 20; refine (getBytes_call m _ cap A zs _ HD2.out HM.out (HR.out.later V2) HB.out hcap hcap2).mono ?_; rintro e w3 ⟨rfl, k3, rfl⟩; have V3 := later V2 (quiet _ k3); clear V2)
      | (go_at_call 21; refine (refGetBytes_call m cap A zs _ HD2.out HM.out (HR.out.later V3) HB.out hcap hcap2 hm2).mono ?_; rintro e w4 ⟨rfl, hb4⟩; have V4 := later V3 hb4; clear V3 hb4)
      | (go_at_call 22; refine (GetInts_call m cap A zs _ HD3.out HM.out (HR.out.later V4) HB.out hcap hcap2 hm2).mono ?_; rintro e w5 ⟨A5, c5, rfl, hr5, hb5⟩; have V5 := later V4 hb5; clear V4 hb5)
      | (go_at_call 23; refine (refGetInts_call m cap A zs _ HD3.out HM.out (HR.out.later V5) HB.out hcap hcap2 hm2).mono ?_; rintro e w6 ⟨A6, c6, rfl, hr6, hb6⟩; have V6 := later V5 hb6; have hr5' := hr5.later hb6; clear V5 hb6 hr5)
      | (go_at_call 24; refine (HS3.out _ _ _ _ _ hr5' hr6).mono ?_; rintro e w7 ⟨rfl, k7, rfl⟩; have V7 := later V6 (quiet _ k7); clear V6 hr5' hr6)
      | (go_at_call 25; refine (GetStrings_call m cap A zs _ HD4.out HM.out (HR.out.later V7) HB.out hcap hcap2 hm2).mono ?_; rintro e w8 ⟨A8, c8, rfl, hr8, hb8⟩; have V8 := later V7 hb8; clear V7 hb8)
      | (go_at_call 26; refine (refGetStrings_call m cap A zs _ HD4.out HM.out (HR.out.later V8) HB.out hcap hcap2 hm2).mono ?_; rintro e w9 ⟨A9, c9, rfl, hr9, hb9⟩; have V9 := later V8 hb9; have hr8' := hr8.later hb9; clear V8 hb9 hr8)
      | (go_at_call 27; refine (HS4.out _ _ _ _ _ hr8' hr9).mono ?_; rintro e w10 ⟨rfl, k10, rfl⟩; have V10 := later V9 (quiet _ k10); clear V9 hr8' hr9)
      | (go_at_call 28; refine (GetDigests_call m cap A zs _ HD5.out HM.out (HR.out.later V10) HB.out hcap hcap2 hm2).mono ?_; rintro e w11 ⟨A11, c11, rfl, hr11, hb11⟩; have V11 := later V10 hb11; clear V10 hb11)
      | (go_at_call 29; refine (refGetDigests_call m cap A zs _ HD5.out HM.out (HR.out.later V11) HB.out hcap hcap2 hm2).mono ?_; rintro e w12 ⟨A12, c12, rfl, hr12, hb12⟩; have V12 := later V11 hb12; have hr11' := hr11.later hb12; clear V11 hb12 hr11)
      | (go_at_call 6; refine (sanity_any _).mono ?_; rintro e w13 ⟨rfl, hb13⟩; have V13 := later V12 hb13; have hr11'' := hr11'.later hb13; have hr12' := hr12.later hb13; clear V12 hb13 hr11' hr12)
      | (go_at_call 30; refine (HS5.out _ _ _ _ _ hr11'' hr12').mono ?_; rintro e w14 ⟨rfl, k14, rfl⟩; have V14 := later V13 (quiet _ k14)))
    go_ret
    exact ⟨rfl, V14⟩
end Go.Proofs.Ytecfhhnmokdkiaa
