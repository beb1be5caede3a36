import Derived.Test.YtidockbgmpaoeaaW2
import Derived.Test.YtidockbgmpaoeaaPure6
set_option linter.unusedVariables false
namespace Go.Proofs.Ytidockbgmpaoeaa
open Go.RowKit

set_option maxHeartbeats 400000 in
set_option maxRecDepth 100000 in
theorem is_any (gb m cap u er c n : Nat) (A A' : Option Addr) (zs X : List Nat) (W : World) (hB : W.cell? ⟨gb, 0, none⟩ = some (.slice A m cap)) (hm : m = zs.length) (hr : Rd W W.heap.size A (bs zs)) (hn : n = X.length) (hr' : Rd W W.heap.size A' (bs X)) (hn1 : n ≤ 9223372036854775807) (hcap : m ≤ cap) (hcap2 : cap ≤ maxLen)
    (hu : u ≤ m) (hX : 1 ≤ X.length) (hok : er = 0 → zs.take u = X) :
    Calls Try.prog 37 #[.slice A' n c, .int .i64 (u : Int), .int .i64 (er : Int), .pointer (some ⟨gb, 0, none⟩)] W (BoolRes W true) := by
  by_cases her : er = 0
  · subst her
    have hX2 := hok rfl
    have hu1 : 1 ≤ u := take_pos hX2 hX
    obtain ⟨b, o, rfl, hlt, hc⟩ := hr.at_ (by intro h; have := congrArg List.length h; simp [bs] at this; subst this; simp at hm; omega)
    have hr2 : Rd W W.heap.size (some ⟨b, o, none⟩) (bs X) := by rw [← hX2, ← bs_take]; exact hr.take u
    have hS := fun k => Same_any n u W.heap.size c cap A' (some ⟨b, o, none⟩) X X (W.drewN k) hn (by rw [← hX2]; simp; omega) hr' hr2 hn1
    rw [decide_eq_true (rfl : X = X)] at hS
    have HS := Lib.hid hS
    have h1 : ¬ m < u := by omega
    have h2 : (0 : Int) < (u : Int) := by omega
    have h3 : (u : Int) ≤ (m : Int) := by omega
    have h4 : (u : Int) ≤ (cap : Int) := by omega
    clear hS hok hX2 hc hr hr' hr2 hm hn hX
    go_enter Try.func37, Try.ntmps37
    go_wp2_with (go_at_call 13; refine (HS.out 0).mono ?_; rintro e w1 ⟨rfl, k, rfl⟩)
    go_ret
    exact ⟨rfl, k, rfl⟩
  · have h5 : ((er : Int) != 0) = true := by simp [her]
    clear hok hr hr' hm hn hX
    go_enter Try.func37, Try.ntmps37
    go_wp2
    go_ret
    exact ⟨rfl, 0, rfl⟩
theorem GetStrings_call {l : List (List Nat)} {u er : Nat} (m cap : Nat) (A : Option Addr) (zs : List Nat) (w : World) (hd : getL 1 getBytes zs = (l, u, er)) (hm : m = zs.length) (hr : Rd w w.heap.size A (bs zs)) (hb : ∀ d ∈ zs, d < 256) (hcap : m ≤ cap) (hcap2 : cap ≤ maxLen) (hm2 : m ≤ 100000) :
    Calls Try.prog 31 #[.slice A m cap] w fun e w' => ∃ A' c', e = .returned (.tuple #[.slice A' l.length c', .int .i64 (u : Int), .int .i64 (er : Int)]) ∧ Rd w' w'.heap.size A' (ss (l.map mkS)) ∧ Below w.heap.size w w' := by
  have h := GetStrings_any m cap A zs w hm hr hb hcap hcap2 hm2
  rw [hd] at h
  refine h.mono fun e w' ⟨v', h1, h2, h3⟩ => ?_
  obtain ⟨A', c', rfl, _⟩ := own_shape h2
  have h4 := Rd.own h2
  have e1 : l.map sv = ss (l.map mkS) := by simp [ss]; intro a _; rfl
  simp only [e1] at h4
  exact ⟨A', c', by rw [h1]; simp, h4, h3⟩
theorem GetDigests_call {l : List (List Nat)} {u er : Nat} (m cap : Nat) (A : Option Addr) (zs : List Nat) (w : World) (hd : getL 16 digD zs = (l, u, er)) (hm : m = zs.length) (hr : Rd w w.heap.size A (bs zs)) (hb : ∀ d ∈ zs, d < 256) (hcap : m ≤ cap) (hcap2 : cap ≤ maxLen) (hm2 : m ≤ 100000) :
    Calls Try.prog 34 #[.slice A m cap] w fun e w' => ∃ A' c', e = .returned (.tuple #[.slice A' l.length c', .int .i64 (u : Int), .int .i64 (er : Int)]) ∧ Rd w' w'.heap.size A' (ds l) ∧ Below w.heap.size w w' := by
  have h := GetDigests_any m cap A zs w hm hr hb hcap hcap2 hm2
  rw [hd] at h
  refine h.mono fun e w' ⟨v', h1, h2, h3⟩ => ?_
  obtain ⟨A', c', rfl, _⟩ := own_shape h2
  exact ⟨A', c', h1, Rd.own h2, h3⟩

/-- A new row of these bytes. -/
def RowRes (X : List Nat) (w : World) (e : Ending) (w' : World) : Prop := ∃ A c, e = .returned (.slice A X.length c) ∧ Rd w' w'.heap.size A (bs X) ∧ X.length ≤ c ∧ c ≤ maxLen ∧ Below w.heap.size w w'
theorem RowRes.of {X : List Nat} {w : World} {f : FuncId} {args : Array Value} (h : Calls Try.prog f args w fun e w' => ∃ v', e = .returned v' ∧ OwnB w' w.heap.size v' X ∧ Below w.heap.size w w') : Calls Try.prog f args w (RowRes X w) := by
  refine h.mono fun e w' ⟨v', h1, h2, h3⟩ => ?_
  obtain ⟨A, c, rfl, hc1, hc2⟩ := h2.shape
  exact ⟨A, c, h1, h2.rd, hc1, hc2, h3⟩

/-- What stays as it is, from the time on when the decoders have been called. -/
structure Kept (w0 : World) (m cap : Nat) (A : Option Addr) (zs : List Nat) (W : World) : Prop where
  bel : Below w0.heap.size w0 W
  box : W.heap[w0.heap.size]? = some (.cells #[.slice A m cap] 28 (0, 0))
  rd : Rd W W.heap.size A (bs zs)
theorem Kept.later {w0 : World} {m cap : Nat} {A : Option Addr} {zs : List Nat} {W W' : World} (h : Kept w0 m cap A zs W) (hb : Below W.heap.size W W') : Kept w0 m cap A zs W' := ⟨Go.Proofs.Ytidockbgmpaoeaa.later h.bel hb, row_later h.box hb, h.rd.later hb⟩
theorem Kept.cell {w0 : World} {m cap : Nat} {A : Option Addr} {zs : List Nat} {W : World} (h : Kept w0 m cap A zs W) : W.cell? ⟨w0.heap.size, 0, none⟩ = some (.slice A m cap) := by
  rw [cell_of_row W _ _ _ _ _ h.box]; rfl
theorem quiet (W : World) (k : Nat) : Below W.heap.size W (W.drewN k) := below_drewN (Below.refl _ _) k
structure Lists (A1 A2 A3 : Option Addr) (l : List Int) (x : List (List Nat)) (d : List (List Nat)) (W : World) : Prop where
  l : Rd W W.heap.size A1 (is l)
  x : Rd W W.heap.size A2 (ss (x.map mkS))
  d : Rd W W.heap.size A3 (ds d)
theorem Lists.later {A1 A2 A3 : Option Addr} {l : List Int} {x d : List (List Nat)} {W W' : World} (h : Lists A1 A2 A3 l x d W) (hb : Below W.heap.size W W') : Lists A1 A2 A3 l x d W' := ⟨h.l.later hb, h.x.later hb, h.d.later hb⟩

theorem encS_mkS {l : List Nat} (h : ∀ d ∈ l, d < 256) : encS (mkS l) = encB l := by rw [encS_sb, sb_mkS l h]
theorem encL_mkS {l : List (List Nat)} (h : ∀ x ∈ l, ∀ d ∈ x, d < 256) : encL encS (l.map mkS) = encL encB l := by
  unfold encL
  rw [List.length_map, List.flatMap_map]
  congr 1
  induction l with
  | nil => rfl
  | cons x l ih => simp only [List.flatMap_cons]; rw [encS_mkS (h x (by simp)), ih (fun y hy => h y (by simp [hy]))]
theorem encB_ge (l : List Nat) (h : l.length ≤ 9223372036854775807) : 1 ≤ (encB l).length := by
  have := (enc_len l.length (by omega)).1
  unfold encB; rw [List.length_append]; omega
theorem encB_le (l : List Nat) (h : l.length ≤ 9223372036854775807) : (encB l).length ≤ 9 + l.length := by
  have := (enc_len l.length (by omega)).2
  unfold encB; rw [List.length_append]; omega

set_option maxHeartbeats 2000000 in
set_option maxRecDepth 100000 in
theorem WireCanonical_any (m cap : Nat) (A : Option Addr) (zs : List Nat) (w : World) (hm : m = zs.length) (hr : Rd w w.heap.size A (bs zs)) (hb : ∀ d ∈ zs, d < 256) (hcap : m ≤ cap) (hcap2 : cap ≤ maxLen) :
    Calls Try.prog 7 #[.slice A m cap] w (LawRes w) := by
  by_cases h2000 : 2000 < m
  · have hc : (2000 : Int) < (m : Int) := by omega
    clear hm hr hb
    go_enter Try.func7, Try.ntmps7
    go_wp2_with (go_at_call 12; refine (sanity_any _).mono ?_; rintro e w1 ⟨rfl, hb1⟩)
    go_ret
    exact ⟨rfl, later (new_later w _) hb1⟩
  · have hc : ¬ (2000 : Int) < (m : Int) := by omega
    obtain ⟨n1, u1, e1, hd1⟩ : ∃ n u er, dec zs = (n, u, er) := ⟨_, _, _, rfl⟩
    obtain ⟨n2, u2, e2, hd2⟩ : ∃ n u er, getBytes zs = (n, u, er) := ⟨_, _, _, rfl⟩
    obtain ⟨n3, u3, e3, hd3⟩ : ∃ n u er, getL 1 dec zs = (n, u, er) := ⟨_, _, _, rfl⟩
    obtain ⟨n4, u4, e4, hd4⟩ : ∃ n u er, getL 1 getBytes zs = (n, u, er) := ⟨_, _, _, rfl⟩
    obtain ⟨n5, u5, e5, hd5⟩ : ∃ n u er, getL 16 digD zs = (n, u, er) := ⟨_, _, _, rfl⟩
    have b1 : InR n1 := by have := dec_all1 zs; rw [hd1] at this; exact this
    have b2 : n2.length ≤ zs.length := by have := getBytes_size zs; rw [hd2] at this; exact this
    have b2' : ∀ d ∈ n2, d < 256 := by have := getBytes_lt hb; rw [hd2] at this; exact this
    have b3 := getL_all (p := InR) (L := zs.length) (by omega) (Nat.le_refl _) (fun b _ _ => dec_all1 b) hd3
    have b4 := getL_all (p := fun s => s.length ≤ zs.length) (L := zs.length) (by omega) (Nat.le_refl _) (fun b hb _ => Nat.le_trans (getBytes_size b) hb) hd4
    have b5 := getL_digD hd5
    have c1 : u1 ≤ m := by rw [hm]; exact (dec_le hd1).1
    have c2 : u2 ≤ m := by rw [hm]; exact getBytes_le hd2
    have c3 : u3 ≤ m := by rw [hm]; exact getL_len (fun b h => (dec_le (n := (dec b).1) (k := (dec b).2.1) (er := (dec b).2.2) rfl).1) (by omega) hd3
    have c4 : u4 ≤ m := by rw [hm]; exact getL_len (fun b h => getBytes_le (s := (getBytes b).1) (k := (getBytes b).2.1) (er := (getBytes b).2.2) rfl) (by omega) hd4
    have c5 : u5 ≤ m := by rw [hm]; exact b5.2.2
    have k1 : e1 = 0 → zs.take u1 = enc n1 := by rintro rfl; exact enc_dec hb hd1
    have k2 : e2 = 0 → zs.take u2 = encB n2 := by rintro rfl; exact getBytes_canon hb hd2
    have k3 : e3 = 0 → zs.take u3 = encL enc n3 := by rintro rfl; exact getL_canon (by omega) (fun b x k hb h => enc_dec hb h) hb hd3
    have k4 : e4 = 0 → zs.take u4 = encL encB n4 := by rintro rfl; exact getL_canon (by omega) (fun b x k hb h => getBytes_canon hb h) hb hd4
    have k5 : e5 = 0 → zs.take u5 = encL id n5 := by rintro rfl; exact getL_canon (by omega) (fun b x k hb h => by cases h; rfl) hb hd5
    have b4' := getL_bytes hb hd4
    have f1 : ∀ W, Calls Try.prog 14 #[.int .i64 n1] W (RowRes (enc n1) W) := fun W => RowRes.of (Int_any n1 W b1.1 b1.2)
    have f2 : ∀ W, Calls Try.prog 16 #[.string (mkS n2)] W (RowRes (encB n2) W) := fun W => RowRes.of (by rw [← encS_mkS b2']; exact Bytes_any (mkS n2) W (by rw [mkS_size]; omega))
    have f3 : ∀ W A c, Rd W W.heap.size A (is n3) → Calls Try.prog 18 #[.slice A n3.length c] W (RowRes (encL enc n3) W) := fun W A c h => RowRes.of (Ints_any A n3.length c n3 W rfl h b3.1 (by have := b3.2; omega))
    have f4 : ∀ W A c, Rd W W.heap.size A (ss (n4.map mkS)) → Calls Try.prog 20 #[.slice A n4.length c] W (RowRes (encL encB n4) W) := fun W A c h => RowRes.of (by
      rw [← encL_mkS b4']
      exact Strings_any A n4.length c (n4.map mkS) W (by simp) h (fun s hs => by rw [List.mem_map] at hs; obtain ⟨a, ha, rfl⟩ := hs; have := b4.1 a ha; rw [mkS_size]; omega) (by have := b4.2; omega))
    have f5 : ∀ W A c, Rd W W.heap.size A (ds n5) → Calls Try.prog 22 #[.slice A n5.length c] W (RowRes (encL id n5) W) := fun W A c h => RowRes.of (Digests_any A n5.length c n5 W rfl b5.1 h (by have := b5.2.1; omega))
    have g1 : (enc n1).length ≤ 9 := (enc_len n1 b1).2
    have g2 : (encB n2).length ≤ 100000 := Nat.le_trans (encB_le n2 (by omega)) (by omega)
    have hm' := hm
    have isc : ∀ (u er : Nat) (X : List Nat), u ≤ m → 1 ≤ X.length → (er = 0 → zs.take u = X) → ∀ W A' c, X.length ≤ c → c ≤ maxLen → Kept w m cap A zs W → Rd W W.heap.size A' (bs X) → Calls Try.prog 37 #[.slice A' X.length c, .int .i64 (u : Int), .int .i64 (er : Int), .pointer (some ⟨w.heap.size, 0, none⟩)] W (BoolRes W true) :=
      fun u er X h1 h2 h3 W A' c hc1 hc2 hk hr => is_any w.heap.size m cap u er c X.length A A' zs X W hk.cell hm' hk.rd rfl hr (by unfold maxLen at hc2; omega) hcap hcap2 h1 h2 h3
    have i1 := Lib.hid (isc u1 e1 _ c1 (enc_len n1 b1).1 k1)
    have i2 := Lib.hid (isc u2 e2 _ c2 (encB_ge n2 (by omega)) k2)
    have i3 := Lib.hid (isc u3 e3 _ c3 (encL_ge enc n3 (by have := b3.2; omega)) k3)
    have i4 := Lib.hid (isc u4 e4 _ c4 (encL_ge encB n4 (by have := b4.2; omega)) k4)
    have i5 := Lib.hid (isc u5 e5 _ c5 (encL_ge id n5 (by have := b5.2.1; omega)) k5)
    generalize enc n1 = X1 at *
    generalize encB n2 = X2 at *
    generalize encL enc n3 = X3 at *
    generalize encL encB n4 = X4 at *
    generalize encL id n5 = X5 at *
    have F1 := Lib.hid f1
    have F2 := Lib.hid f2
    have F3 := Lib.hid f3
    have F4 := Lib.hid f4
    have F5 := Lib.hid f5
    have HD1 := Lib.hid hd1
    have HD2 := Lib.hid hd2
    have HD3 := Lib.hid hd3
    have HD4 := Lib.hid hd4
    have HD5 := Lib.hid hd5
    have HM := Lib.hid hm
    have HB := Lib.hid hb
    have hm2 : m ≤ 100000 := by omega
    have hx0 : Kept w m cap A zs (w.alloc (.cells #[.slice A m cap] 28)) := ⟨new_later w _, heap_alloc_new w _, hr.later (new_later w _)⟩
    clear hm hb hr hd1 hd2 hd3 hd4 hd5 f1 f2 f3 f4 f5 isc g1 g2 b1 b2 b2' b3 b4 b4' b5 c1 c2 c3 c4 c5 k1 k2 k3 k4 k5 hm'
    go_enter Try.func7, Try.ntmps7
    go_wp2_with (first
      | (go_at_call 24; refine (getInt_call m _ cap A zs _ HD1.out HM.out hx0.rd HB.out hcap hcap2).mono ?_; rintro e w1 ⟨rfl, k1, rfl⟩; have hx1 := hx0.later (quiet _ k1))
      | (go_at_call 26; refine (getBytes_call m _ cap A zs _ HD2.out HM.out hx1.rd HB.out hcap hcap2).mono ?_; rintro e w2 ⟨rfl, k2, rfl⟩; have hx2 := hx0.later (quiet _ (k1 + k2)); clear hx1 hx0)
      | (go_at_call 28; refine (GetInts_call m cap A zs _ HD3.out HM.out hx2.rd HB.out hcap hcap2 hm2).mono ?_; rintro e w3 ⟨A3, c3, rfl, hl3, hb3⟩; have hx3 := hx2.later hb3; have hcl3 := hx3.cell; clear hx2 hb3)
      | (go_at_call 31; refine (GetStrings_call m cap A zs _ HD4.out HM.out hx3.rd HB.out hcap hcap2 hm2).mono ?_; rintro e w4 ⟨A4, c4, rfl, hs4, hb4⟩; have hx4 := hx3.later hb4; have hcl4 := hx4.cell; have hl4 := hl3.later hb4; clear hx3 hb4 hcl3 hl3)
      | (go_at_call 34; refine (GetDigests_call m cap A zs _ HD5.out HM.out hx4.rd HB.out hcap hcap2 hm2).mono ?_; rintro e w5 ⟨A5, c5, rfl, hd5, hb5⟩; have hx5 := hx4.later hb5; have hy5 : Lists A3 A4 A5 n3 n4 n5 w5 := ⟨hl4.later hb5, hs4.later hb5, hd5⟩; clear hx4 hb5 hcl4 hl4 hs4 hd5)
      | (go_at_call 12; refine (sanity_any _).mono ?_; rintro e w6 ⟨rfl, hb6⟩; have hx6 := hx5.later hb6; have hy6 := hy5.later hb6; clear hx5 hy5 hb6)
      | (go_at_call 14; refine (F1.out _).mono ?_; rintro e w7 ⟨A7, c7, rfl, hr7, hc7, hc7', hb7⟩; have hx7 := hx6.later hb7; have hy7 := hy6.later hb7; clear hx6 hy6 hb7)
      | (go_at_call 37; refine (i1.out _ _ _ hc7 hc7' hx7 hr7).mono ?_; rintro e w8 ⟨rfl, k8, rfl⟩; have hx8 := hx7.later (quiet _ k8); have hy8 := hy7.later (quiet _ k8); clear hx7 hy7 hr7)
      | (go_at_call 16; refine (F2.out _).mono ?_; rintro e w9 ⟨A9, c9, rfl, hr9, hc9, hc9', hb9⟩; have hx9 := hx8.later hb9; have hy9 := hy8.later hb9; clear hx8 hy8 hb9)
      | (go_at_call 37; refine (i2.out _ _ _ hc9 hc9' hx9 hr9).mono ?_; rintro e w10 ⟨rfl, k10, rfl⟩; have hx10 := hx9.later (quiet _ k10); have hy10 := hy9.later (quiet _ k10); clear hx9 hy9 hr9)
      | (go_at_call 18; refine (F3.out _ _ _ hy10.l).mono ?_; rintro e w11 ⟨A11, c11, rfl, hr11, hc11, hc11', hb11⟩; have hx11 := hx10.later hb11; have hy11 := hy10.later hb11; clear hx10 hy10 hb11)
      | (go_at_call 37; refine (i3.out _ _ _ hc11 hc11' hx11 hr11).mono ?_; rintro e w12 ⟨rfl, k12, rfl⟩; have hx12 := hx11.later (quiet _ k12); have hy12 := hy11.later (quiet _ k12); clear hx11 hy11 hr11)
      | (go_at_call 20; refine (F4.out _ _ _ hy12.x).mono ?_; rintro e w13 ⟨A13, c13, rfl, hr13, hc13, hc13', hb13⟩; have hx13 := hx12.later hb13; have hy13 := hy12.later hb13; clear hx12 hy12 hb13)
      | (go_at_call 37; refine (i4.out _ _ _ hc13 hc13' hx13 hr13).mono ?_; rintro e w14 ⟨rfl, k14, rfl⟩; have hx14 := hx13.later (quiet _ k14); have hy14 := hy13.later (quiet _ k14); clear hx13 hy13 hr13)
      | (go_at_call 22; refine (F5.out _ _ _ hy14.d).mono ?_; rintro e w15 ⟨A15, c15, rfl, hr15, hc15, hc15', hb15⟩; have hx15 := hx14.later hb15; clear hx14 hy14 hb15)
      | (go_at_call 37; refine (i5.out _ _ _ hc15 hc15' hx15 hr15).mono ?_; rintro e w16 ⟨rfl, k16, rfl⟩; have hx16 := hx15.later (quiet _ k16); clear hx15 hr15))
    go_ret
    exact ⟨rfl, hx16.bel⟩
end Go.Proofs.Ytidockbgmpaoeaa
