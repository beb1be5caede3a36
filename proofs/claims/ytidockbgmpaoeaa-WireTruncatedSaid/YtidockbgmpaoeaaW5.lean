import Derived.Test.YtidockbgmpaoeaaFew
set_option linter.unusedVariables false
namespace Go.Proofs.Ytidockbgmpaoeaa
open Go.RowKit

/-- Rows that are read. -/
def Many (L : List (Option Addr × List Value)) (W : World) : Prop := ∀ p ∈ L, Rd W W.heap.size p.1 p.2
theorem Many.later {L : List (Option Addr × List Value)} {W W' : World} (h : Many L W) (hb : Below W.heap.size W W') : Many L W' := fun p hp => (h p hp).later hb
theorem Many.cons {L : List (Option Addr × List Value)} {W : World} {A : Option Addr} {xs : List Value} (h : Many L W) (hr : Rd W W.heap.size A xs) : Many ((A, xs) :: L) W := fun p hp => by
  rcases List.mem_cons.1 hp with rfl | hp
  · exact hr
  · exact h p hp
theorem Many.nil (W : World) : Many [] W := fun p hp => by cases hp
theorem Many.at0 {L : List (Option Addr × List Value)} {W : World} {A : Option Addr} {xs : List Value} (h : Many ((A, xs) :: L) W) : Rd W W.heap.size A xs := h (A, xs) (by simp)
theorem Many.tl {L : List (Option Addr × List Value)} {W : World} {q : Option Addr × List Value} (h : Many (q :: L) W) : Many L W := fun p hp => h p (List.mem_cons_of_mem _ hp)

theorem encL_sb (x : List ByteArray) : encL encS x = encL encB (x.map sb) := by
  unfold encL
  rw [List.length_map, List.flatMap_map]
  congr 1
  induction x with
  | nil => rfl
  | cons y l ih => simp only [List.flatMap_cons]; rw [encS_sb, ih]
theorem digD_enc (x t : List Nat) (h : x.length = 16) : digD (x ++ t) = (x, (id x).length, 0) := by
  unfold digD
  rw [List.take_append_of_le_length (by omega), List.take_of_length_le (by omega)]
  simp [h]
theorem map_mkS_sb (x : List ByteArray) : (x.map sb).map mkS = x := by
  rw [List.map_map]
  conv => rhs; rw [← List.map_id x]
  exact List.map_congr_left fun s _ => mkS_sb s
theorem app_lt {X Y : List Nat} (h : ∀ d ∈ X, d < 256) (h' : ∀ d ∈ Y, d < 256) : ∀ d ∈ X ++ Y, d < 256 := fun d hd => by
  rcases List.mem_append.1 hd with h1 | h1
  · exact h d h1
  · exact h' d h1

theorem encL_tot {x : List ByteArray} (h : ∀ y ∈ x, y.size ≤ 9223372036854775807) (hx : x.length ≤ 9223372036854775807) : (encL encS x).length ≤ 9 + 9 * x.length + tot x := by
  have h1 : (x.flatMap encS).length ≤ 9 * x.length + tot x := by
    clear hx
    induction x with
    | nil => simp [tot]
    | cons y l ih =>
      have h1 := ih (fun z hz => h z (by simp [hz]))
      have h2 := encB_le (sb y) (by rw [sb_len]; exact h y (by simp))
      rw [← encS_sb, sb_len] at h2
      unfold tot at h1 ⊢
      simp only [List.flatMap_cons, List.length_append, List.map_cons, List.sum_cons, List.length_cons]
      omega
  have h2 := (enc_len x.length (by omega)).2
  unfold encL
  rw [List.length_append]
  omega

/-- A new row of these bytes, which are some. -/
def RowAt (X : List Nat) (w : World) (e : Ending) (w' : World) : Prop := ∃ g c, e = .returned (.slice (some ⟨g, 0, none⟩) X.length c) ∧ Rd w' w'.heap.size (some ⟨g, 0, none⟩) (bs X) ∧ X.length ≤ c ∧ c ≤ maxLen ∧ Below w.heap.size w w'
theorem RowAt.of {X : List Nat} {w : World} {f : FuncId} {args : Array Value} (h0 : 1 ≤ X.length) (h : Calls Try.prog f args w fun e w' => ∃ v', e = .returned v' ∧ OwnB w' w.heap.size v' X ∧ Below w.heap.size w w') : Calls Try.prog f args w (RowAt X w) := by
  refine h.mono fun e w' ⟨v', h1, h2, h3⟩ => ?_
  obtain ⟨g, c, rfl, _, _, hc1, hc2⟩ := h2.some_ (by omega)
  exact ⟨g, c, h1, h2.rd, hc1, hc2, h3⟩

set_option maxHeartbeats 4000000 in
set_option maxRecDepth 100000 in
theorem WireListRoundTrip_any (s : ByteArray) (B1 B2 B3 B4 : Option Addr) (m1 m2 m3 m4 q1 q2 q3 q4 : Nat) (l : List Int) (x : List ByteArray) (dl : List (List Nat)) (zs : List Nat) (w : World)
    (hs : s.size ≤ 1048576) (h1 : m1 = l.length) (h2 : m2 = x.length) (h3 : m3 = dl.length) (h4 : m4 = zs.length) (b1 : m1 ≤ 1048576) (b2 : m2 + tot x ≤ 1048576) (b3 : m3 ≤ 1048576) (b4 : m4 ≤ 1048576)
    (r1 : Rd w w.heap.size B1 (is l)) (r2 : Rd w w.heap.size B2 (ss x)) (r3 : Rd w w.heap.size B3 (ds dl)) (r4 : Rd w w.heap.size B4 (bs zs))
    (i1 : ∀ n ∈ l, InR n) (i3 : ∀ d ∈ dl, d.length = 16 ∧ ∀ b ∈ d, b < 256) (i4 : ∀ b ∈ zs, b < 256) :
    Calls Try.prog 8 #[.string s, .slice B1 m1 q1, .slice B2 m2 q2, .slice B3 m3 q3, .slice B4 m4 q4] w (LawRes w) := by
  have hF := few_any B2 m2 q2 w.heap.size x w h2 r2 (by omega)
  by_cases h2000 : 2000 < s.size + m1 + m3 + m4
  · have hc : (2000 : Int) < (s.size : Int) + (m1 : Int) + (m3 : Int) + (m4 : Int) := by omega
    clear h1 h2 h3 h4 r1 r2 r3 r4 i1 i3 i4 hF
    go_enter Try.func8, Try.ntmps8
    go_wp2_with (go_at_call 12; refine (sanity_any _).mono ?_; rintro e w1 ⟨rfl, hb1⟩)
    go_ret
    exact ⟨rfl, hb1⟩
  have hc : ¬ (2000 : Int) < (s.size : Int) + (m1 : Int) + (m3 : Int) + (m4 : Int) := by omega
  by_cases hfew : m2 + tot x ≤ 2000
  · rw [decide_eq_true hfew] at hF
    have HF := Lib.hid hF
    have x1 : ∀ y ∈ x, y.size ≤ 2000 := fun y hy => by have := tot_mem y hy; omega
    have F1 : Hid (∀ W, Calls Try.prog 16 #[.string s] W (RowAt (encS s) W)) := fun W => RowAt.of (encS_ge s (by omega)) (Bytes_any s W (by omega))
    have F2 : Hid (∀ W, Below w.heap.size w W → Calls Try.prog 18 #[.slice B1 m1 q1] W (RowAt (encL enc l) W)) := fun W hW => RowAt.of (encL_ge enc l (by omega)) (Ints_any B1 m1 q1 l W h1 (r1.later hW) i1 (by omega))
    have F3 : Hid (∀ W, Below w.heap.size w W → Calls Try.prog 22 #[.slice B3 m3 q3] W (RowAt (encL id dl) W)) := fun W hW => RowAt.of (encL_ge id dl (by omega)) (Digests_any B3 m3 q3 dl W h3 (fun d hd => (i3 d hd).1) (r3.later hW) (by omega))
    have F4 : Hid (∀ W, Below w.heap.size w W → Calls Try.prog 20 #[.slice B2 m2 q2] W (RowAt (encL encS x) W)) := fun W hW => RowAt.of (encL_ge encS x (by omega)) (Strings_any B2 m2 q2 x W h2 (r2.later hW) (fun y hy => by have := x1 y hy; omega) (by omega))
    have g1 : Hid (getBytes (encS s ++ zs) = (sb s, (encS s).length, 0)) := by rw [encS_sb]; exact getBytes_enc _ _ (by rw [sb_len]; omega)
    have g2 : Hid (getL 1 dec (encL enc l ++ zs) = (l, (encL enc l).length, 0)) := getL_enc (by omega) (by omega) (fun y hy => (enc_len y (i1 y hy)).1) (dec_all l i1) zs
    have g3 : Hid (getL 16 digD (encL id dl ++ zs) = (dl, (encL id dl).length, 0)) := getL_enc (by omega) (by omega) (fun y hy => by rw [id, (i3 y hy).1]; exact Nat.le_refl _) (fun y hy t => by exact digD_enc y t (i3 y hy).1) zs
    have g4 : Hid (getL 1 getBytes (encL encS x ++ zs) = (x.map sb, (encL encS x).length, 0)) := by
      rw [encL_sb]
      exact getL_enc (by omega) (by rw [List.length_map]; omega) (fun y hy => encB_ge y (by rw [List.mem_map] at hy; obtain ⟨z, hz, rfl⟩ := hy; rw [sb_len]; have := x1 z hz; omega)) (fun y hy t => getBytes_enc y t (by rw [List.mem_map] at hy; obtain ⟨z, hz, rfl⟩ := hy; rw [sb_len]; have := x1 z hz; omega)) zs
    have t1 : Hid (∀ d ∈ encS s ++ zs, d < 256) := app_lt (encS_lt s (by omega)) i4
    have t2 : Hid (∀ d ∈ encL enc l ++ zs, d < 256) := app_lt (encL_lt enc l (fun y hy => enc_lt y (i1 y hy)) (by omega)) i4
    have t3 : Hid (∀ d ∈ encL id dl ++ zs, d < 256) := app_lt (encL_lt id dl (fun y hy => (i3 y hy).2) (by omega)) i4
    have t4 : Hid (∀ d ∈ encL encS x ++ zs, d < 256) := app_lt (encL_lt encS x (fun y hy => encS_lt y (by have := x1 y hy; omega)) (by omega)) i4
    have e1 : (encS s).length ≤ 100009 := encS_len s (by omega)
    have e2 : (encL enc l).length ≤ 9 + 9 * l.length := encL_le enc l 9 (fun y hy => (enc_len y (i1 y hy)).2) (by omega)
    have e3 : (encL id dl).length ≤ 9 + 16 * dl.length := encL_le id dl 16 (fun y hy => by rw [id, (i3 y hy).1]; exact Nat.le_refl _) (by omega)
    have e4 : (encL encS x).length ≤ 9 + 9 * x.length + tot x := encL_tot (fun y hy => by have := x1 y hy; omega) (by omega)
    rw [← h1] at e2
    rw [← h3] at e3
    rw [← h2] at e4
    generalize encS s = X1 at *
    generalize encL enc l = X2 at *
    generalize encL id dl = X3 at *
    generalize encL encS x = X4 at *
    have hss : (s.toList == s.toList) = true := by simp
    have hmk := Lib.hid (mkS_sb s)
    have hmm := Lib.hid (map_mkS_sb x)
    have H1 := Lib.hid h1
    have H2 := Lib.hid h2
    have H3 := Lib.hid h3
    have H4 := Lib.hid h4
    have I3 : Hid (∀ d ∈ dl, d.length = 16) := fun d hd => (i3 d hd).1
    have hx2 : (x.map sb).length = m2 := by rw [List.length_map]; exact h2.symm
    have HX2 := Lib.hid hx2
    have M0 : Many [(B1, is l), (B2, ss x), (B3, ds dl), (B4, bs zs)] w := ((((Many.nil w).cons r4).cons r3).cons r2).cons r1
    clear h1 h2 h3 h4 i1 i3 i4 r1 r2 r3 r4 hF x1 hx2
    go_enter Try.func8, Try.ntmps8
    go_wp2_with (first
      | (go_at_call 11; refine HF.out.mono ?_; rintro e w0 ⟨rfl, k0, rfl⟩; have N0 := M0.later (quiet w k0); have V0 := quiet w k0; clear M0)
      | (go_at_call 16; refine (F1.out _).mono ?_; rintro e w1 ⟨y1, c1, rfl, hr1, hc1, hc1', hb1⟩; have N1 := (N0.later hb1).cons hr1; have V1 := later V0 hb1; clear N0 V0 hb1 hr1)
      | (go_at_call 18; refine (F2.out _ V1).mono ?_; rintro e w2 ⟨y2, c2, rfl, hr2, hc2, hc2', hb2⟩; have N2 := (N1.later hb2).cons hr2; have V2 := later V1 hb2; clear N1 V1 hb2 hr2)
      | (go_at_call 22; refine (F3.out _ V2).mono ?_; rintro e w3 ⟨y3, c3, rfl, hr3, hc3, hc3', hb3⟩; have N3 := (N2.later hb3).cons hr3; have V3 := later V2 hb3; clear N2 V2 hb3 hr3)
      | (go_at_call 20; refine (F4.out _ V3).mono ?_; rintro e w4 ⟨y4, c4, rfl, hr4, hc4, hc4', hb4⟩; have N4 := (N3.later hb4).cons hr4; have V4 := later V3 hb4; clear N3 V3 hb4 hr4)
      | (at_builtin; refine wpList_joinL N4.tl.tl.tl.at0 N4.tl.tl.tl.tl.tl.tl.tl.at0 (Nat.le_refl _) rfl H4.out (by omega) rfl _ _ rfl rfl rfl ?_; intro A5 c5 w5 hr5 hc5 hc5' hb5; have N5 := N4.later hb5; have V5 := later V4 hb5; clear N4 V4 hb5)
      | (go_at_call 26; refine (getBytes_call (X1.length + m4) _ c5 A5 (X1 ++ zs) _ g1.out (by rw [List.length_append, ← H4.out]) hr5 t1.out hc5 hc5').mono ?_; rw [hmk.out]; rintro e w6 ⟨rfl, k6, rfl⟩; have N6 := N5.later (quiet _ k6); have V6 := later V5 (quiet _ k6); clear N5 V5 hr5)
      | (at_builtin; refine wpList_joinL N6.tl.tl.at0 N6.tl.tl.tl.tl.tl.tl.tl.at0 (Nat.le_refl _) rfl H4.out (by omega) rfl _ _ rfl rfl rfl ?_; intro A7 c7 w7 hr7 hc7 hc7' hb7; have N7 := N6.later hb7; have V7 := later V6 hb7; clear N6 V6 hb7)
      | (go_at_call 28; refine (GetInts_call (X2.length + m4) c7 A7 (X2 ++ zs) _ g2.out (by rw [List.length_append, ← H4.out]) hr7 t2.out hc7 hc7' (by omega)).mono ?_; rintro e w8 ⟨A8, c8, rfl, hr8, hb8⟩; have N8 := (N7.later hb8).cons hr8; have V8 := later V7 hb8; clear N7 V7 hr7 hr8 hb8)
      | (at_builtin; refine wpList_joinL N8.tl.tl.at0 N8.tl.tl.tl.tl.tl.tl.tl.tl.at0 (Nat.le_refl _) rfl H4.out (by omega) rfl _ _ rfl rfl rfl ?_; intro A9 c9 w9 hr9 hc9 hc9' hb9; have N9 := N8.later hb9; have V9 := later V8 hb9; clear N8 V8 hb9)
      | (go_at_call 34; refine (GetDigests_call (X3.length + m4) c9 A9 (X3 ++ zs) _ g3.out (by rw [List.length_append, ← H4.out]) hr9 t3.out hc9 hc9' (by omega)).mono ?_; rintro e w10 ⟨A10, c10, rfl, hr10, hb10⟩; have N10 := (N9.later hb10).cons hr10; have V10 := later V9 hb10; clear N9 V9 hr9 hr10 hb10)
      | (at_builtin; refine wpList_joinL N10.tl.tl.at0 N10.tl.tl.tl.tl.tl.tl.tl.tl.tl.at0 (Nat.le_refl _) rfl H4.out (by omega) rfl _ _ rfl rfl rfl ?_; intro A11 c11 w11 hr11 hc11 hc11' hb11; have N11 := N10.later hb11; have V11 := later V10 hb11; clear N10 V10 hb11)
      | (go_at_call 31; refine (GetStrings_call (X4.length + m4) c11 A11 (X4 ++ zs) _ g4.out (by rw [List.length_append, ← H4.out]) hr11 t4.out hc11 hc11' (by omega)).mono ?_; rw [hmm.out, HX2.out]; rintro e w12 ⟨A12, c12, rfl, hr12, hb12⟩; have N12 := (N11.later hb12).cons hr12; have V12 := later V11 hb12; clear N11 V11 hr11 hr12 hb12)
      | (go_at_call 12; refine (sanity_any _).mono ?_; rintro e w13 ⟨rfl, hb13⟩; have N13 := N12.later hb13; have V13 := later V12 hb13; clear N12 V12 hb13)
      | (go_at_call 33; have hS := SameTexts_any m2 m2 _ c12 q2 _ _ x x w13 H2.out H2.out N13.at0 N13.tl.tl.tl.tl.tl.tl.tl.tl.at0 (by omega); rw [decide_eq_true (rfl : x = x)] at hS; refine hS.mono ?_; rintro e w14 ⟨rfl, k14, rfl⟩; have N14 := N13.later (quiet _ k14))
      | (go_at_call 30; have hS := SameInts_any l.length m1 _ c8 q1 _ _ l l (w13.drewN k14) rfl H1.out N14.tl.tl.at0 N14.tl.tl.tl.tl.tl.tl.tl.at0 (by have := H1.out; omega); rw [decide_eq_true (rfl : l = l)] at hS; refine hS.mono ?_; rintro e w15 ⟨rfl, k15, rfl⟩; have N15 := N13.later (quiet _ (k14 + k15)); clear N14)
      | (go_at_call 36; have hS := SameDigests_any dl.length m3 _ c10 q3 _ _ dl dl (w13.drewN (k14 + k15)) rfl H3.out N15.tl.at0 N15.tl.tl.tl.tl.tl.tl.tl.tl.tl.at0 (by have := H3.out; omega) I3.out I3.out; rw [decide_eq_true (rfl : dl = dl)] at hS; refine hS.mono ?_; rintro e w16 ⟨rfl, k16, rfl⟩))
    go_ret
    exact ⟨rfl, later V13 (quiet _ _)⟩
  · rw [decide_eq_false hfew] at hF
    have HF := Lib.hid hF
    clear h1 h2 h3 h4 r1 r2 r3 r4 i1 i3 i4 hF
    go_enter Try.func8, Try.ntmps8
    go_wp2_with (first
      | (go_at_call 11; refine HF.out.mono ?_; rintro e w0 ⟨rfl, k0, rfl⟩)
      | (go_at_call 12; refine (sanity_any _).mono ?_; rintro e w1 ⟨rfl, hb1⟩))
    go_ret
    exact ⟨rfl, later (quiet w k0) hb1⟩
end Go.Proofs.Ytidockbgmpaoeaa
