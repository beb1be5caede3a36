import Derived.Test.YtidockbgmpaoeaaW5
set_option linter.unusedVariables false
set_option linter.unusedSectionVars false
namespace Go.Proofs.Ytidockbgmpaoeaa
open Go.RowKit

/-- Something, something and ErrMore. -/
def MoreRes (w : World) (e : Ending) (w' : World) : Prop := ∃ v0 v1, e = .returned (.tuple #[v0, v1, .int .i64 3]) ∧ Below w.heap.size w w'
section
variable {X : List Nat} {W : World} {y c i : Nat} (hr : Rd W W.heap.size (some ⟨y, 0, none⟩) (bs X)) (hi : i < X.length) (hc : X.length ≤ c) (hc2 : c ≤ maxLen) (hb : ∀ d ∈ X, d < 256) (hX : X.length ≤ 100000)
include hr hi hc hc2 hb hX
theorem more1 (h : (dec (X.take i)).2.2 = 3) : Calls Try.prog 24 #[.slice (some ⟨y, 0, none⟩) i c] W (MoreRes W) := by
  obtain ⟨n, u, er, hd⟩ : ∃ n u er, dec (X.take i) = (n, u, er) := ⟨_, _, _, rfl⟩
  rw [hd] at h
  simp only at h; subst h
  have hr' := hr.take i; rw [bs_take] at hr'
  exact (getInt_call i _ c _ (X.take i) W hd (by simp; omega) hr' (fun d h => hb d (List.mem_of_mem_take h)) (by omega) hc2).mono fun e w' ⟨h1, k, h2⟩ => ⟨_, _, h1, by rw [h2]; exact quiet W k⟩
theorem more2 (h : (getBytes (X.take i)).2.2 = 3) : Calls Try.prog 26 #[.slice (some ⟨y, 0, none⟩) i c] W (MoreRes W) := by
  obtain ⟨n, u, er, hd⟩ : ∃ n u er, getBytes (X.take i) = (n, u, er) := ⟨_, _, _, rfl⟩
  rw [hd] at h
  simp only at h; subst h
  have hr' := hr.take i; rw [bs_take] at hr'
  exact (getBytes_call i _ c _ (X.take i) W hd (by simp; omega) hr' (fun d h => hb d (List.mem_of_mem_take h)) (by omega) hc2).mono fun e w' ⟨h1, k, h2⟩ => ⟨_, _, h1, by rw [h2]; exact quiet W k⟩
theorem more3 (h : (getL 1 dec (X.take i)).2.2 = 3) : Calls Try.prog 28 #[.slice (some ⟨y, 0, none⟩) i c] W (MoreRes W) := by
  obtain ⟨n, u, er, hd⟩ : ∃ n u er, getL 1 dec (X.take i) = (n, u, er) := ⟨_, _, _, rfl⟩
  rw [hd] at h
  simp only at h; subst h
  have hr' := hr.take i; rw [bs_take] at hr'
  exact (GetInts_call i c _ (X.take i) W hd (by simp; omega) hr' (fun d h => hb d (List.mem_of_mem_take h)) (by omega) hc2 (by omega)).mono fun e w' ⟨A', c', h1, _, h2⟩ => ⟨_, _, h1, h2⟩
theorem more4 (h : (getL 1 getBytes (X.take i)).2.2 = 3) : Calls Try.prog 31 #[.slice (some ⟨y, 0, none⟩) i c] W (MoreRes W) := by
  obtain ⟨n, u, er, hd⟩ : ∃ n u er, getL 1 getBytes (X.take i) = (n, u, er) := ⟨_, _, _, rfl⟩
  rw [hd] at h
  simp only at h; subst h
  have hr' := hr.take i; rw [bs_take] at hr'
  exact (GetStrings_call i c _ (X.take i) W hd (by simp; omega) hr' (fun d h => hb d (List.mem_of_mem_take h)) (by omega) hc2 (by omega)).mono fun e w' ⟨A', c', h1, _, h2⟩ => ⟨_, _, h1, h2⟩
theorem more5 (h : (getL 16 digD (X.take i)).2.2 = 3) : Calls Try.prog 34 #[.slice (some ⟨y, 0, none⟩) i c] W (MoreRes W) := by
  obtain ⟨n, u, er, hd⟩ : ∃ n u er, getL 16 digD (X.take i) = (n, u, er) := ⟨_, _, _, rfl⟩
  rw [hd] at h
  simp only at h; subst h
  have hr' := hr.take i; rw [bs_take] at hr'
  exact (GetDigests_call i c _ (X.take i) W hd (by simp; omega) hr' (fun d h => hb d (List.mem_of_mem_take h)) (by omega) hc2 (by omega)).mono fun e w' ⟨A', c', h1, _, h2⟩ => ⟨_, _, h1, h2⟩
end
theorem flat_id (l : List (List Nat)) : l.flatMap id = l.flatten := by simp
theorem digs_short {l : List (List Nat)} (h : ∀ d ∈ l, d.length = 16) (hl : l.length ≤ 9223372036854775807) (i : Nat) (hi : i < (encL id l).length) : (getL 16 digD ((encL id l).take i)).2.2 = 3 := by
  have h1 := flat_len l h
  rw [← flat_id] at h1
  unfold encL at hi ⊢
  have h2 := hi
  rw [List.length_append] at h2
  have hd := getLen_short (least := 16) (n := l.length) (l.flatMap id) (by omega) hl i hi (by omega) (by omega)
  rw [getL_eq hd]; simp

/-- What stays, from the time on when the five are encoded. -/
structure Five (w0 : World) (gl : Nat) (sl : List Value) (L : List (Option Addr × List Value)) (W : World) : Prop where
  bel : Below w0.heap.size w0 W
  box : W.heap[gl]? = some (.cells sl.toArray 28 (0, 0))
  rows : Many L W
theorem Five.later {w0 : World} {gl : Nat} {sl : List Value} {L : List (Option Addr × List Value)} {W W' : World} (h : Five w0 gl sl L W) (hb : Below W.heap.size W W') : Five w0 gl sl L W' := ⟨Go.Proofs.Ytidockbgmpaoeaa.later h.bel hb, row_later h.box hb, h.rows.later hb⟩
theorem Five.cell {w0 : World} {gl : Nat} {sl : List Value} {L : List (Option Addr × List Value)} {W : World} (h : Five w0 gl sl L W) (j : Nat) {v : Value} (hv : sl[j]? = some v) : W.cell? ⟨gl, j, none⟩ = some v := by
  rw [cell_of_row W _ _ _ _ _ h.box]; simpa using hv

set_option maxHeartbeats 4000000 in
set_option maxRecDepth 100000 in
theorem WireTruncated_any (n : Int) (s : ByteArray) (B1 B2 B3 : Option Addr) (m1 m2 m3 q1 q2 q3 : Nat) (l : List Int) (x : List ByteArray) (dl : List (List Nat)) (w : World)
    (hn : InR n) (hs : s.size ≤ 140737488351232) (h1 : m1 = l.length) (h2 : m2 = x.length) (h3 : m3 = dl.length) (b1 : m1 * 8 ≤ 140737488351232) (b2 : ∀ y ∈ x, y.size ≤ 140737488351232) (b3 : m3 ≤ 140737488351232)
    (r1 : Rd w w.heap.size B1 (is l)) (r2 : Rd w w.heap.size B2 (ss x)) (r3 : Rd w w.heap.size B3 (ds dl)) (i1 : ∀ n ∈ l, InR n) (i3 : ∀ d ∈ dl, d.length = 16 ∧ ∀ b ∈ d, b < 256) (bm2 : m2 ≤ 9223372036854775807) :
    Calls Try.prog 9 #[.int .i64 n, .string s, .slice B1 m1 q1, .slice B2 m2 q2, .slice B3 m3 q3] w (LawRes w) := by
  by_cases h400 : 400 < s.size + 9 * m1 + 16 * m3
  · have hc : (400 : Int) < (s.size : Int) + 9 * (m1 : Int) + 16 * (m3 : Int) := by omega
    clear h1 h2 h3 r1 r2 r3 i1 i3
    go_enter Try.func9, Try.ntmps9
    go_wp2_with (go_at_call 12; refine (sanity_any _).mono ?_; rintro e w1 ⟨rfl, hb1⟩)
    go_ret
    exact ⟨rfl, hb1⟩
  have hc : ¬ (400 : Int) < (s.size : Int) + 9 * (m1 : Int) + 16 * (m3 : Int) := by omega
  by_cases h40 : 40 < m2
  · have hc2 : (40 : Int) < (m2 : Int) := by omega
    clear h1 h2 h3 r1 r2 r3 i1 i3
    go_enter Try.func9, Try.ntmps9
    go_wp2_with (go_at_call 12; refine (sanity_any _).mono ?_; rintro e w1 ⟨rfl, hb1⟩)
    go_ret
    exact ⟨rfl, hb1⟩
  have hc2 : ¬ (40 : Int) < (m2 : Int) := by omega
  have htot : tot x ≤ 5629499534049280 := by
    have := tot_bound b2
    omega
  have hF := few_any B2 m2 q2 w.heap.size x w h2 r2 (by omega)
  by_cases hfew : m2 + tot x ≤ 2000
  · rw [decide_eq_true hfew] at hF
    have HF := Lib.hid hF
    have x1 : ∀ y ∈ x, y.size ≤ 2000 := fun y hy => by have := tot_mem y hy; omega
    have F0 : Hid (∀ W, Calls Try.prog 14 #[.int .i64 n] W (RowAt (enc n) W)) := fun W => RowAt.of (enc_len n hn).1 (Int_any n W hn.1 hn.2)
    have F1 : Hid (∀ W, Calls Try.prog 16 #[.string s] W (RowAt (encS s) W)) := fun W => RowAt.of (encS_ge s (by omega)) (Bytes_any s W (by omega))
    have F2 : Hid (∀ W, Below w.heap.size w W → Calls Try.prog 18 #[.slice B1 m1 q1] W (RowAt (encL enc l) W)) := fun W hW => RowAt.of (encL_ge enc l (by omega)) (Ints_any B1 m1 q1 l W h1 (r1.later hW) i1 (by omega))
    have F3 : Hid (∀ W, Below w.heap.size w W → Calls Try.prog 20 #[.slice B2 m2 q2] W (RowAt (encL encS x) W)) := fun W hW => RowAt.of (encL_ge encS x (by omega)) (Strings_any B2 m2 q2 x W h2 (r2.later hW) (fun y hy => by have := x1 y hy; omega) (by omega))
    have F4 : Hid (∀ W, Below w.heap.size w W → Calls Try.prog 22 #[.slice B3 m3 q3] W (RowAt (encL id dl) W)) := fun W hW => RowAt.of (encL_ge id dl (by omega)) (Digests_any B3 m3 q3 dl W h3 (fun d hd => (i3 d hd).1) (r3.later hW) (by omega))
    have t0 : Hid (∀ d ∈ enc n, d < 256) := enc_lt n hn
    have t1 : Hid (∀ d ∈ encS s, d < 256) := encS_lt s (by omega)
    have t2 : Hid (∀ d ∈ encL enc l, d < 256) := encL_lt enc l (fun y hy => enc_lt y (i1 y hy)) (by omega)
    have t3 : Hid (∀ d ∈ encL encS x, d < 256) := encL_lt encS x (fun y hy => encS_lt y (by have := x1 y hy; omega)) (by omega)
    have t4 : Hid (∀ d ∈ encL id dl, d < 256) := encL_lt id dl (fun y hy => (i3 y hy).2) (by omega)
    have e0 : (enc n).length ≤ 9 := (enc_len n hn).2
    have e1 : (encS s).length ≤ 409 := by have := encB_le (sb s) (by rw [sb_len]; omega); rw [← encS_sb, sb_len] at this; omega
    have e2 : (encL enc l).length ≤ 9 + 9 * l.length := encL_le enc l 9 (fun y hy => (enc_len y (i1 y hy)).2) (by omega)
    have e3 : (encL encS x).length ≤ 9 + 9 * x.length + tot x := encL_tot (fun y hy => by have := x1 y hy; omega) (by omega)
    have e4 : (encL id dl).length ≤ 9 + 16 * dl.length := encL_le id dl 16 (fun y hy => by rw [id, (i3 y hy).1]; exact Nat.le_refl _) (by omega)
    replace e2 : (encL enc l).length ≤ 409 := by omega
    replace e3 : (encL encS x).length ≤ 2369 := by omega
    replace e4 : (encL id dl).length ≤ 409 := by omega
    have s0 : Hid (∀ i, i < (enc n).length → (dec ((enc n).take i)).2.2 = 3) := fun i hi => by rw [dec_short_enc n hn.1 hn.2 i hi]
    have s1 : Hid (∀ i, i < (encS s).length → (getBytes ((encS s).take i)).2.2 = 3) := fun i hi => by
      rw [encS_sb] at hi ⊢
      rw [getBytes_short (sb s) (by rw [sb_len]; omega) i hi]
    have s2 : Hid (∀ i, i < (encL enc l).length → (getL 1 dec ((encL enc l).take i)).2.2 = 3) := fun i hi => getL_short (by omega) (by omega) (fun y hy => (enc_len y (i1 y hy)).1) (dec_all l i1) (fun y hy j hj => by rw [dec_short_enc y (i1 y hy).1 (i1 y hy).2 j hj]) i hi
    have s3 : Hid (∀ i, i < (encL encS x).length → (getL 1 getBytes ((encL encS x).take i)).2.2 = 3) := fun i hi => by
      rw [encL_sb] at hi ⊢
      have hy2 : ∀ y ∈ x.map sb, y.length ≤ 2000 := fun y hy => by rw [List.mem_map] at hy; obtain ⟨z, hz, rfl⟩ := hy; rw [sb_len]; exact x1 z hz
      exact getL_short (by omega) (by rw [List.length_map]; omega) (fun y hy => encB_ge y (by have := hy2 y hy; omega)) (fun y hy t => getBytes_enc y t (by have := hy2 y hy; omega)) (fun y hy j hj => by rw [getBytes_short y (by have := hy2 y hy; omega) j hj]) i hi
    have s4 : Hid (∀ i, i < (encL id dl).length → (getL 16 digD ((encL id dl).take i)).2.2 = 3) := fun i hi => digs_short (fun d hd => (i3 d hd).1) (by omega) i hi
    generalize enc n = X0 at *
    generalize encS s = X1 at *
    generalize encL enc l = X2 at *
    generalize encL encS x = X3 at *
    generalize encL id dl = X4 at *
    have M0 : Many [] w := Many.nil w
    clear h1 h2 h3 i1 i3 r1 r2 r3 hF x1 b2
    go_enter Try.func9, Try.ntmps9
    go_wp2_with (first
      | (go_at_call 11; refine HF.out.mono ?_; rintro e w0 ⟨rfl, k0, rfl⟩; have V0 := quiet w k0; have N0 := M0.later V0; clear M0)
      | (go_at_call 14; refine (F0.out _).mono ?_; rintro e w1 ⟨y1, c1, rfl, hr1, hc1, hc1', hb1⟩; have N1 := (N0.later hb1).cons hr1; have V1 := later V0 hb1; clear N0 V0 hb1 hr1)
      | (go_at_call 16; refine (F1.out _).mono ?_; rintro e w2 ⟨y2, c2, rfl, hr2, hc2, hc2', hb2⟩; have N2 := (N1.later hb2).cons hr2; have V2 := later V1 hb2; clear N1 V1 hb2 hr2)
      | (go_at_call 18; refine (F2.out _ V2).mono ?_; rintro e w3 ⟨y3, c3, rfl, hr3, hc3, hc3', hb3⟩; have N3 := (N2.later hb3).cons hr3; have V3 := later V2 hb3; clear N2 V2 hb3 hr3)
      | (go_at_call 20; refine (F3.out _ V3).mono ?_; rintro e w4 ⟨y4, c4, rfl, hr4, hc4, hc4', hb4⟩; have N4 := (N3.later hb4).cons hr4; have V4 := later V3 hb4; clear N3 V3 hb4 hr4)
      | (go_at_call 22; refine (F4.out _ V4).mono ?_; rintro e w5 ⟨y5, c5, rfl, hr5, hc5, hc5', hb5⟩; have N5 := (N4.later hb5).cons hr5; have V5 := later V4 hb5; clear N4 V4 hb5 hr5))
    have f0 : Five w w5.heap.size [.slice (some ⟨y1, 0, none⟩) X0.length c1, .slice (some ⟨y2, 0, none⟩) X1.length c2, .slice (some ⟨y3, 0, none⟩) X2.length c3, .slice (some ⟨y4, 0, none⟩) X3.length c4, .slice (some ⟨y5, 0, none⟩) X4.length c5] [(some ⟨y5, 0, none⟩, bs X4), (some ⟨y4, 0, none⟩, bs X3), (some ⟨y3, 0, none⟩, bs X2), (some ⟨y2, 0, none⟩, bs X1), (some ⟨y1, 0, none⟩, bs X0)]
        (w5.alloc (.cells #[.slice (some ⟨y1, 0, none⟩) X0.length c1, .slice (some ⟨y2, 0, none⟩) X1.length c2, .slice (some ⟨y3, 0, none⟩) X2.length c3, .slice (some ⟨y4, 0, none⟩) X3.length c4, .slice (some ⟨y5, 0, none⟩) X4.length c5] 28)) := ⟨later V5 (new_later w5 _), heap_alloc_new w5 _, N5.later (new_later w5 _)⟩
    clear N5 V5
    go_loopw [49] (fun i wr => ∃ j : Nat, j ≤ 5 ∧ i = .int .i64 (j : Int) ∧ Five w w5.heap.size [.slice (some ⟨y1, 0, none⟩) X0.length c1, .slice (some ⟨y2, 0, none⟩) X1.length c2, .slice (some ⟨y3, 0, none⟩) X2.length c3, .slice (some ⟨y4, 0, none⟩) X3.length c4, .slice (some ⟨y5, 0, none⟩) X4.length c5] [(some ⟨y5, 0, none⟩, bs X4), (some ⟨y4, 0, none⟩, bs X3), (some ⟨y3, 0, none⟩, bs X2), (some ⟨y2, 0, none⟩, bs X1), (some ⟨y1, 0, none⟩, bs X0)] wr) (fun i _ => 5 - (intOf i).toNat)
    case atStart => exact ⟨0, by omega, rfl, f0⟩
    case round =>
      obtain ⟨j, hj, rfl, h5⟩ := hrel
      clear f0
      rcases (show j = 0 ∨ j = 1 ∨ j = 2 ∨ j = 3 ∨ j = 4 ∨ j = 5 by omega) with rfl | rfl | rfl | rfl | rfl | rfl
      · have hcell := h5.cell 0 rfl
        try rw [show ((0 : Nat) : Int) = 0 from rfl]
        go_wp2_with fail
        go_loopw [57] (fun i wr => ∃ k : Nat, k ≤ X0.length ∧ i = .int .i64 (k : Int) ∧ Five w w5.heap.size [.slice (some ⟨y1, 0, none⟩) X0.length c1, .slice (some ⟨y2, 0, none⟩) X1.length c2, .slice (some ⟨y3, 0, none⟩) X2.length c3, .slice (some ⟨y4, 0, none⟩) X3.length c4, .slice (some ⟨y5, 0, none⟩) X4.length c5] [(some ⟨y5, 0, none⟩, bs X4), (some ⟨y4, 0, none⟩, bs X3), (some ⟨y3, 0, none⟩, bs X2), (some ⟨y2, 0, none⟩, bs X1), (some ⟨y1, 0, none⟩, bs X0)] wr) (fun i _ => X0.length - (intOf i).toNat)
        case atStart => exact ⟨0, by omega, rfl, h5⟩
        case round =>
          obtain ⟨k, hk, rfl, h6⟩ := hrel
          clear h5 hcell
          by_cases hlt : k < X0.length
          · have hlt' : (k : Int) < (X0.length : Int) := by omega
            have hlk : k < X0.length := by omega
            have hkc : (k : Int) ≤ (c1 : Int) := by omega
            go_wp2_with (go_at_call 24; refine (more1 h6.rows.tl.tl.tl.tl.at0 hlk hc1 hc1' t0.out (by omega) (s0.out k hlk)).mono ?_; rintro e w6 ⟨v0, v1, rfl, hb6⟩)
            go_roundw
            case rel => exact ⟨k + 1, by omega, by go_num, h6.later hb6⟩
            case measure => simp [intOf]; omega
          · have hkM : k = X0.length := by omega
            subst hkM
            go_wp2_with fail
            go_roundw
            case rel => exact ⟨1, by omega, rfl, h6⟩
            case measure => simp [intOf]
      · have hcell := h5.cell 1 rfl
        try rw [show ((1 : Nat) : Int) = 1 from rfl]
        go_wp2_with fail
        go_loopw [57] (fun i wr => ∃ k : Nat, k ≤ X1.length ∧ i = .int .i64 (k : Int) ∧ Five w w5.heap.size [.slice (some ⟨y1, 0, none⟩) X0.length c1, .slice (some ⟨y2, 0, none⟩) X1.length c2, .slice (some ⟨y3, 0, none⟩) X2.length c3, .slice (some ⟨y4, 0, none⟩) X3.length c4, .slice (some ⟨y5, 0, none⟩) X4.length c5] [(some ⟨y5, 0, none⟩, bs X4), (some ⟨y4, 0, none⟩, bs X3), (some ⟨y3, 0, none⟩, bs X2), (some ⟨y2, 0, none⟩, bs X1), (some ⟨y1, 0, none⟩, bs X0)] wr) (fun i _ => X1.length - (intOf i).toNat)
        case atStart => exact ⟨0, by omega, rfl, h5⟩
        case round =>
          obtain ⟨k, hk, rfl, h6⟩ := hrel
          clear h5 hcell
          by_cases hlt : k < X1.length
          · have hlt' : (k : Int) < (X1.length : Int) := by omega
            have hlk : k < X1.length := by omega
            have hkc : (k : Int) ≤ (c2 : Int) := by omega
            go_wp2_with (go_at_call 26; refine (more2 h6.rows.tl.tl.tl.at0 hlk hc2 hc2' t1.out (by omega) (s1.out k hlk)).mono ?_; rintro e w6 ⟨v0, v1, rfl, hb6⟩)
            go_roundw
            case rel => exact ⟨k + 1, by omega, by go_num, h6.later hb6⟩
            case measure => simp [intOf]; omega
          · have hkM : k = X1.length := by omega
            subst hkM
            go_wp2_with fail
            go_roundw
            case rel => exact ⟨2, by omega, rfl, h6⟩
            case measure => simp [intOf]
      · have hcell := h5.cell 2 rfl
        try rw [show ((2 : Nat) : Int) = 2 from rfl]
        go_wp2_with fail
        go_loopw [57] (fun i wr => ∃ k : Nat, k ≤ X2.length ∧ i = .int .i64 (k : Int) ∧ Five w w5.heap.size [.slice (some ⟨y1, 0, none⟩) X0.length c1, .slice (some ⟨y2, 0, none⟩) X1.length c2, .slice (some ⟨y3, 0, none⟩) X2.length c3, .slice (some ⟨y4, 0, none⟩) X3.length c4, .slice (some ⟨y5, 0, none⟩) X4.length c5] [(some ⟨y5, 0, none⟩, bs X4), (some ⟨y4, 0, none⟩, bs X3), (some ⟨y3, 0, none⟩, bs X2), (some ⟨y2, 0, none⟩, bs X1), (some ⟨y1, 0, none⟩, bs X0)] wr) (fun i _ => X2.length - (intOf i).toNat)
        case atStart => exact ⟨0, by omega, rfl, h5⟩
        case round =>
          obtain ⟨k, hk, rfl, h6⟩ := hrel
          clear h5 hcell
          by_cases hlt : k < X2.length
          · have hlt' : (k : Int) < (X2.length : Int) := by omega
            have hlk : k < X2.length := by omega
            have hkc : (k : Int) ≤ (c3 : Int) := by omega
            go_wp2_with (go_at_call 28; refine (more3 h6.rows.tl.tl.at0 hlk hc3 hc3' t2.out (by omega) (s2.out k hlk)).mono ?_; rintro e w6 ⟨v0, v1, rfl, hb6⟩)
            go_roundw
            case rel => exact ⟨k + 1, by omega, by go_num, h6.later hb6⟩
            case measure => simp [intOf]; omega
          · have hkM : k = X2.length := by omega
            subst hkM
            go_wp2_with fail
            go_roundw
            case rel => exact ⟨3, by omega, rfl, h6⟩
            case measure => simp [intOf]
      · by_cases hbig : 500 < X3.length
        · have hbig' : (500 : Int) < (X3.length : Int) := by omega
          have hcell := h5.cell 3 rfl
          try rw [show ((3 : Nat) : Int) = 3 from rfl]
          go_wp2_with fail
          go_loopw [57] (fun i wr => ∃ k : Nat, k ≤ 500 ∧ i = .int .i64 (k : Int) ∧ Five w w5.heap.size [.slice (some ⟨y1, 0, none⟩) X0.length c1, .slice (some ⟨y2, 0, none⟩) X1.length c2, .slice (some ⟨y3, 0, none⟩) X2.length c3, .slice (some ⟨y4, 0, none⟩) X3.length c4, .slice (some ⟨y5, 0, none⟩) X4.length c5] [(some ⟨y5, 0, none⟩, bs X4), (some ⟨y4, 0, none⟩, bs X3), (some ⟨y3, 0, none⟩, bs X2), (some ⟨y2, 0, none⟩, bs X1), (some ⟨y1, 0, none⟩, bs X0)] wr) (fun i _ => 500 - (intOf i).toNat)
          case atStart => exact ⟨0, by omega, rfl, h5⟩
          case round =>
            obtain ⟨k, hk, rfl, h6⟩ := hrel
            clear h5 hcell
            by_cases hlt : k < 500
            · have hlt' : (k : Int) < (500 : Int) := by omega
              have hlk : k < X3.length := by omega
              have hkc : (k : Int) ≤ (c4 : Int) := by omega
              go_wp2_with (go_at_call 31; refine (more4 h6.rows.tl.at0 hlk hc4 hc4' t3.out (by omega) (s3.out k hlk)).mono ?_; rintro e w6 ⟨v0, v1, rfl, hb6⟩)
              go_roundw
              case rel => exact ⟨k + 1, by omega, by go_num, h6.later hb6⟩
              case measure => simp [intOf]; omega
            · have hkM : k = 500 := by omega
              subst hkM
              go_wp2_with fail
              go_roundw
              case rel => exact ⟨4, by omega, rfl, h6⟩
              case measure => simp [intOf]
        · have hbig' : ¬ (500 : Int) < (X3.length : Int) := by omega
          have hcell := h5.cell 3 rfl
          try rw [show ((3 : Nat) : Int) = 3 from rfl]
          go_wp2_with fail
          go_loopw [57] (fun i wr => ∃ k : Nat, k ≤ X3.length ∧ i = .int .i64 (k : Int) ∧ Five w w5.heap.size [.slice (some ⟨y1, 0, none⟩) X0.length c1, .slice (some ⟨y2, 0, none⟩) X1.length c2, .slice (some ⟨y3, 0, none⟩) X2.length c3, .slice (some ⟨y4, 0, none⟩) X3.length c4, .slice (some ⟨y5, 0, none⟩) X4.length c5] [(some ⟨y5, 0, none⟩, bs X4), (some ⟨y4, 0, none⟩, bs X3), (some ⟨y3, 0, none⟩, bs X2), (some ⟨y2, 0, none⟩, bs X1), (some ⟨y1, 0, none⟩, bs X0)] wr) (fun i _ => X3.length - (intOf i).toNat)
          case atStart => exact ⟨0, by omega, rfl, h5⟩
          case round =>
            obtain ⟨k, hk, rfl, h6⟩ := hrel
            clear h5 hcell
            by_cases hlt : k < X3.length
            · have hlt' : (k : Int) < (X3.length : Int) := by omega
              have hlk : k < X3.length := by omega
              have hkc : (k : Int) ≤ (c4 : Int) := by omega
              go_wp2_with (go_at_call 31; refine (more4 h6.rows.tl.at0 hlk hc4 hc4' t3.out (by omega) (s3.out k hlk)).mono ?_; rintro e w6 ⟨v0, v1, rfl, hb6⟩)
              go_roundw
              case rel => exact ⟨k + 1, by omega, by go_num, h6.later hb6⟩
              case measure => simp [intOf]; omega
            · have hkM : k = X3.length := by omega
              subst hkM
              go_wp2_with fail
              go_roundw
              case rel => exact ⟨4, by omega, rfl, h6⟩
              case measure => simp [intOf]
      · have hcell := h5.cell 4 rfl
        try rw [show ((4 : Nat) : Int) = 4 from rfl]
        go_wp2_with fail
        go_loopw [57] (fun i wr => ∃ k : Nat, k ≤ X4.length ∧ i = .int .i64 (k : Int) ∧ Five w w5.heap.size [.slice (some ⟨y1, 0, none⟩) X0.length c1, .slice (some ⟨y2, 0, none⟩) X1.length c2, .slice (some ⟨y3, 0, none⟩) X2.length c3, .slice (some ⟨y4, 0, none⟩) X3.length c4, .slice (some ⟨y5, 0, none⟩) X4.length c5] [(some ⟨y5, 0, none⟩, bs X4), (some ⟨y4, 0, none⟩, bs X3), (some ⟨y3, 0, none⟩, bs X2), (some ⟨y2, 0, none⟩, bs X1), (some ⟨y1, 0, none⟩, bs X0)] wr) (fun i _ => X4.length - (intOf i).toNat)
        case atStart => exact ⟨0, by omega, rfl, h5⟩
        case round =>
          obtain ⟨k, hk, rfl, h6⟩ := hrel
          clear h5 hcell
          by_cases hlt : k < X4.length
          · have hlt' : (k : Int) < (X4.length : Int) := by omega
            have hlk : k < X4.length := by omega
            have hkc : (k : Int) ≤ (c5 : Int) := by omega
            go_wp2_with (go_at_call 34; refine (more5 h6.rows.at0 hlk hc5 hc5' t4.out (by omega) (s4.out k hlk)).mono ?_; rintro e w6 ⟨v0, v1, rfl, hb6⟩)
            go_roundw
            case rel => exact ⟨k + 1, by omega, by go_num, h6.later hb6⟩
            case measure => simp [intOf]; omega
          · have hkM : k = X4.length := by omega
            subst hkM
            go_wp2_with fail
            go_roundw
            case rel => exact ⟨5, by omega, rfl, h6⟩
            case measure => simp [intOf]
      · go_wp2_with (go_at_call 12; refine (sanity_any _).mono ?_; rintro e w9 ⟨rfl, hb9⟩)
        go_ret
        exact ⟨rfl, later h5.bel hb9⟩
  · rw [decide_eq_false hfew] at hF
    have HF := Lib.hid hF
    clear h1 h2 h3 r1 r2 r3 i1 i3 hF b2
    go_enter Try.func9, Try.ntmps9
    go_wp2_with (first
      | (go_at_call 11; refine HF.out.mono ?_; rintro e w0 ⟨rfl, k0, rfl⟩)
      | (go_at_call 12; refine (sanity_any _).mono ?_; rintro e w1 ⟨rfl, hb1⟩))
    go_ret
    exact ⟨rfl, later (quiet w k0) hb1⟩
end Go.Proofs.Ytidockbgmpaoeaa
