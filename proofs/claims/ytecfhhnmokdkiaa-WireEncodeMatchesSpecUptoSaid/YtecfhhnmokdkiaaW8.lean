import Derived.Test.YtecfhhnmokdkiaaRefB
import Derived.Test.YtecfhhnmokdkiaaFew
import Derived.Test.YtecfhhnmokdkiaaGen
set_option linter.unusedVariables false
namespace Go.Proofs.Ytecfhhnmokdkiaa
open Go.RowKit

/-- A new row of these bytes, of any length. -/
theorem RowRes.same {X : List Nat} (hX : X.length ≤ 9223372036854775807) (W : World) (A A' : Option Addr) (c c' : Nat) (h : Rd W W.heap.size A (bs X)) (h' : Rd W W.heap.size A' (bs X)) :
    Calls Try.prog 7 #[.slice A X.length c, .slice A' X.length c'] W (BoolRes W true) := by
  have hS := Same_any X.length X.length W.heap.size c c' A A' X X W rfl rfl h h' hX
  rwa [decide_eq_true (rfl : X = X)] at hS

set_option maxHeartbeats 4000000 in
set_option maxRecDepth 100000 in
theorem WireEncodeMatchesSpec_any (n : Int) (s : ByteArray) (B1 B2 B3 : Option Addr) (m1 m2 m3 q1 q2 q3 : Nat) (l : List Int) (x : List ByteArray) (dl : List (List Nat)) (w : World)
    (hn : InR n) (hs : s.size ≤ 1048576) (h1 : m1 = l.length) (h2 : m2 = x.length) (h3 : m3 = dl.length) (b1 : m1 ≤ 1048576) (b2 : m2 + tot x ≤ 1048576) (b3 : m3 ≤ 1048576)
    (r1 : Rd w w.heap.size B1 (is l)) (r2 : Rd w w.heap.size B2 (ss x)) (r3 : Rd w w.heap.size B3 (ds dl))
    (i1 : ∀ n ∈ l, InR n) (i3 : ∀ d ∈ dl, d.length = 16) :
    Calls Try.prog 3 #[.int .i64 n, .string s, .slice B1 m1 q1, .slice B2 m2 q2, .slice B3 m3 q3] w (LawRes w) := by
  have hF := few_any B2 m2 q2 w.heap.size x w h2 r2 (by omega)
  by_cases h2000 : 2000 < s.size + m1 + m3
  · have hc : (2000 : Int) < (s.size : Int) + (m1 : Int) + (m3 : Int) := by omega
    clear h1 h2 h3 r1 r2 r3 i1 i3 hF
    go_enter Try.func3, Try.ntmps3
    go_wp2_with (go_at_call 6; refine (sanity_any _).mono ?_; rintro e w1 ⟨rfl, hb1⟩)
    go_ret
    exact ⟨rfl, hb1⟩
  have hc : ¬ (2000 : Int) < (s.size : Int) + (m1 : Int) + (m3 : Int) := by omega
  by_cases hfew : m2 + tot x ≤ 2000
  · rw [decide_eq_true hfew] at hF
    have HF := Lib.hid hF
    have x1 : ∀ y ∈ x, y.size ≤ 2000 := fun y hy => by have := tot_mem y hy; omega
    have F0 : Hid (∀ W, Calls Try.prog 8 #[.int .i64 n] W (RowRes (enc n) W)) := fun W => RowRes.of (Int_any n W hn.1 hn.2)
    have G0 : Hid (∀ W, Calls Try.prog 9 #[.int .i64 n] W (RowRes (enc n) W)) := fun W => RowRes.of (refInt_any n W hn)
    have F1 : Hid (∀ W, Calls Try.prog 10 #[.string s] W (RowRes (encS s) W)) := fun W => RowRes.of (Bytes_any s W (by omega))
    have G1 : Hid (∀ W, Calls Try.prog 11 #[.string s] W (RowRes (encS s) W)) := fun W => RowRes.of (refBytes_any s W (by omega))
    have F2 : Hid (∀ W, Below w.heap.size w W → Calls Try.prog 12 #[.slice B1 m1 q1] W (RowRes (encL enc l) W)) := fun W hW => RowRes.of (Ints_any B1 m1 q1 l W h1 (r1.later hW) i1 (by omega))
    have G2 : Hid (∀ W, Below w.heap.size w W → Calls Try.prog 13 #[.slice B1 m1 q1] W (RowRes (encL enc l) W)) := fun W hW => RowRes.of (refInts_any B1 m1 q1 l W h1 (r1.later hW) i1 (by omega))
    have F3 : Hid (∀ W, Below w.heap.size w W → Calls Try.prog 16 #[.slice B3 m3 q3] W (RowRes (encL id dl) W)) := fun W hW => RowRes.of (Digests_any B3 m3 q3 dl W h3 i3 (r3.later hW) (by omega))
    have G3 : Hid (∀ W, Below w.heap.size w W → Calls Try.prog 17 #[.slice B3 m3 q3] W (RowRes (encL id dl) W)) := fun W hW => RowRes.of (refDigests_any B3 m3 q3 dl W h3 i3 (r3.later hW) (by omega))
    have F4 : Hid (∀ W, Below w.heap.size w W → Calls Try.prog 14 #[.slice B2 m2 q2] W (RowRes (encL encS x) W)) := fun W hW => RowRes.of (Strings_any B2 m2 q2 x W h2 (r2.later hW) (fun y hy => by have := x1 y hy; omega) (by omega))
    have G4 : Hid (∀ W, Below w.heap.size w W → Calls Try.prog 15 #[.slice B2 m2 q2] W (RowRes (encL encS x) W)) := fun W hW => RowRes.of (refStrings_any B2 m2 q2 x W h2 (r2.later hW) (fun y hy => by have := x1 y hy; omega) (by omega))
    have e0 := enc_len n hn
    have e1 : (encS s).length ≤ 1100000 := by have h := encB_le (sb s) (by rw [sb_len]; omega); rw [← encS_sb, sb_len] at h; omega
    have e2 : (encL enc l).length ≤ 9 + 9 * l.length := encL_le enc l 9 (fun y hy => (enc_len y (i1 y hy)).2) (by omega)
    have e3 : (encL id dl).length ≤ 9 + 16 * dl.length := encL_le id dl 16 (fun y hy => by rw [id, i3 y hy]; exact Nat.le_refl _) (by omega)
    have e4 : (encL encS x).length ≤ 9 + 9 * x.length + tot x := encL_tot (fun y hy => by have := x1 y hy; omega) (by omega)
    have S0 := Lib.hid (RowRes.same (X := enc n) (by omega))
    have S1 := Lib.hid (RowRes.same (X := encS s) (by omega))
    have S2 := Lib.hid (RowRes.same (X := encL enc l) (by omega))
    have S3 := Lib.hid (RowRes.same (X := encL id dl) (by omega))
    have S4 := Lib.hid (RowRes.same (X := encL encS x) (by omega))
    clear e0 e1 e2 e3 e4
    generalize enc n = X0 at *
    generalize encS s = X1 at *
    generalize encL enc l = X2 at *
    generalize encL id dl = X3 at *
    generalize encL encS x = X4 at *
    clear h1 h2 h3 i1 i3 r1 r2 r3 hF x1 hn
    go_enter Try.func3, Try.ntmps3
    go_wp2_with (first
      | (go_at_call 5; refine HF.out.mono ?_; rintro e w0 ⟨rfl, k0, rfl⟩; have V0 := quiet w k0)
      | (go_at_call 6; refine (sanity_any _).mono ?_; rintro e wa ⟨rfl, hba⟩; have Va := later V0 hba; clear V0 hba)
      | (go_at_call 8; refine (F0.out _).mono ?_; rintro e w1 ⟨A1, c1, rfl, hr1, hc1, hc1', hb1⟩; have V1 := later Va hb1; clear Va hb1)
      | (go_at_call 9; refine (G0.out _).mono ?_; rintro e w2 ⟨A2, c2, rfl, hr2, hc2, hc2', hb2⟩; have V2 := later V1 hb2; have hr1' := hr1.later hb2; clear V1 hb2 hr1)
      | (go_at_call 7; refine (S0.out _ _ _ _ _ hr1' hr2).mono ?_; rintro e w3 ⟨rfl, k3, rfl⟩; have V3 := later V2 (quiet _ k3); clear V2 hr1' hr2)
      | (go_at_call 10; refine (F1.out _).mono ?_; rintro e w4 ⟨A4, c4, rfl, hr4, hc4, hc4', hb4⟩; have V4 := later V3 hb4; clear V3 hb4)
      | (go_at_call 11; refine (G1.out _).mono ?_; rintro e w5 ⟨A5, c5, rfl, hr5, hc5, hc5', hb5⟩; have V5 := later V4 hb5; have hr4' := hr4.later hb5; clear V4 hb5 hr4)
      | (go_at_call 7; refine (S1.out _ _ _ _ _ hr4' hr5).mono ?_; rintro e w6 ⟨rfl, k6, rfl⟩; have V6 := later V5 (quiet _ k6); clear V5 hr4' hr5)
      | (go_at_call 12; refine (F2.out _ V6).mono ?_; rintro e w7 ⟨A7, c7, rfl, hr7, hc7, hc7', hb7⟩; have V7 := later V6 hb7; clear V6 hb7)
      | (go_at_call 13; refine (G2.out _ V7).mono ?_; rintro e w8 ⟨A8, c8, rfl, hr8, hc8, hc8', hb8⟩; have V8 := later V7 hb8; have hr7' := hr7.later hb8; clear V7 hb8 hr7)
      | (go_at_call 7; refine (S2.out _ _ _ _ _ hr7' hr8).mono ?_; rintro e w9 ⟨rfl, k9, rfl⟩; have V9 := later V8 (quiet _ k9); clear V8 hr7' hr8)
      | (go_at_call 14; refine (F4.out _ V9).mono ?_; rintro e w10 ⟨A10, c10, rfl, hr10, hc10, hc10', hb10⟩; have V10 := later V9 hb10; clear V9 hb10)
      | (go_at_call 15; refine (G4.out _ V10).mono ?_; rintro e w11 ⟨A11, c11, rfl, hr11, hc11, hc11', hb11⟩; have V11 := later V10 hb11; have hr10' := hr10.later hb11; clear V10 hb11 hr10)
      | (go_at_call 7; refine (S4.out _ _ _ _ _ hr10' hr11).mono ?_; rintro e w12 ⟨rfl, k12, rfl⟩; have V12 := later V11 (quiet _ k12); clear V11 hr10' hr11)
      | (go_at_call 16; refine (F3.out _ V12).mono ?_; rintro e w13 ⟨A13, c13, rfl, hr13, hc13, hc13', hb13⟩; have V13 := later V12 hb13; clear V12 hb13)
      | (go_at_call 17; refine (G3.out _ V13).mono ?_; rintro e w14 ⟨A14, c14, rfl, hr14, hc14, hc14', hb14⟩; have V14 := later V13 hb14; have hr13' := hr13.later hb14; clear V13 hb14 hr13)
      | (go_at_call 7; refine (S3.out _ _ _ _ _ hr13' hr14).mono ?_; rintro e w15 ⟨rfl, k15, rfl⟩; have V15 := later V14 (quiet _ k15); clear V14 hr13' hr14))
    go_ret
    exact ⟨rfl, V15⟩
  · rw [decide_eq_false hfew] at hF
    have HF := Lib.hid hF
    clear h1 h2 h3 r1 r2 r3 i1 i3 hF
    go_enter Try.func3, Try.ntmps3
    go_wp2_with (first
      | (go_at_call 5; refine HF.out.mono ?_; rintro e w0 ⟨rfl, k0, rfl⟩)
      | (go_at_call 6; refine (sanity_any _).mono ?_; rintro e w1 ⟨rfl, hb1⟩))
    go_ret
    exact ⟨rfl, later (quiet w k0) hb1⟩
end Go.Proofs.Ytecfhhnmokdkiaa
