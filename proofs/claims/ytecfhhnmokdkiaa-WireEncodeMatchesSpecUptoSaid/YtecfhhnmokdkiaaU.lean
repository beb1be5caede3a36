import Derived.Test.YtecfhhnmokdkiaaT
set_option linter.unusedVariables false
namespace Go.Proofs.Ytecfhhnmokdkiaa
open Go.RowKit

/-! ### The list decoders as they are called. -/
set_option maxHeartbeats 400000 in
theorem GetInts_any (m cap : Nat) (A : Option Addr) (zs : List Nat) (w : World) (hm : m = zs.length) (hr : Rd w w.heap.size A (bs zs)) (hb : ∀ d ∈ zs, d < 256) (hcap : m ≤ cap) (hcap2 : cap ≤ maxLen) (hm2 : m ≤ 100000) :
    Calls Try.prog 22 #[.slice A m cap] w (LRes w 3 (is (getL 1 dec zs).1) (getL 1 dec zs).2.1 (getL 1 dec zs).2.2) := by
  have H := Lib.hid (getListInt_any m cap A zs w hm hr hb hcap hcap2 hm2)
  clear hm hb
  go_enter Try.func22, Try.ntmps22
  go_wp2_with (go_at_call 36; refine H.out.mono ?_; rintro e w1 ⟨v1, rfl, hown, hbel⟩)
  go_ret3
  exact ⟨_, rfl, hown, hbel⟩
set_option maxHeartbeats 400000 in
theorem GetStrings_any (m cap : Nat) (A : Option Addr) (zs : List Nat) (w : World) (hm : m = zs.length) (hr : Rd w w.heap.size A (bs zs)) (hb : ∀ d ∈ zs, d < 256) (hcap : m ≤ cap) (hcap2 : cap ≤ maxLen) (hm2 : m ≤ 100000) :
    Calls Try.prog 25 #[.slice A m cap] w (LRes w 9 ((getL 1 getBytes zs).1.map sv) (getL 1 getBytes zs).2.1 (getL 1 getBytes zs).2.2) := by
  have H := Lib.hid (getListStr_any m cap A zs w hm hr hb hcap hcap2 hm2)
  clear hm hb
  go_enter Try.func25, Try.ntmps25
  go_wp2_with (go_at_call 37; refine H.out.mono ?_; rintro e w1 ⟨v1, rfl, hown, hbel⟩)
  go_ret3
  exact ⟨_, rfl, hown, hbel⟩
set_option maxHeartbeats 400000 in
theorem GetDigests_any (m cap : Nat) (A : Option Addr) (zs : List Nat) (w : World) (hm : m = zs.length) (hr : Rd w w.heap.size A (bs zs)) (hb : ∀ d ∈ zs, d < 256) (hcap : m ≤ cap) (hcap2 : cap ≤ maxLen) (hm2 : m ≤ 100000) :
    Calls Try.prog 28 #[.slice A m cap] w (DRes w (getL 16 digD zs).1 (getL 16 digD zs).2.1 (getL 16 digD zs).2.2) := by
  have H := Lib.hid (getListDig_any m cap A zs w hm hr hb hcap hcap2 hm2)
  clear hm hb
  go_enter Try.func28, Try.ntmps28
  go_wp2_with (go_at_call 38; refine H.out.mono ?_; rintro e w1 ⟨v1, rfl, hown, hbel⟩)
  go_ret3
  exact ⟨_, rfl, hown, hbel⟩

/-! ### What the examples come to. -/
theorem later {w w' w'' : World} (h : Below w.heap.size w w') (h' : Below w'.heap.size w' w'') : Below w.heap.size w w'' := h.trans (h'.mono h.size)
theorem new_later (w : World) (o : Obj) : Below w.heap.size w (w.alloc o) := (Below.refl _ w).alloc (Nat.le_refl _) o
theorem Rd.later {w w' : World} {A : Option Addr} {xs : List Value} (h : Rd w w.heap.size A xs) (hb : Below w.heap.size w w') : Rd w' w'.heap.size A xs := (h.below hb).more hb.size
theorem lit_rd (W : World) (xs : List Value) (t : TypeId) : Rd (W.alloc (.cells xs.toArray t)) (W.alloc (.cells xs.toArray t)).heap.size (some ⟨W.heap.size, 0, none⟩) xs := Rd.row (heap_alloc_new W _)

theorem digs_one {n : Nat} (h0 : n ≠ 0) (h : n < 256) : digs n = [n] := by
  have e1 : n / 256 = 0 := by omega
  have e2 : n % 256 = n := by omega
  rw [digs_pos h0, e1, digs_zero, e2]; rfl
theorem enc_0 : enc 0 = [128] := by rw [show (0 : Int) = ((0 : Nat) : Int) from rfl, enc_pos, digs_zero]; rfl
theorem enc_1 : enc 1 = [129, 1] := by rw [show (1 : Int) = ((1 : Nat) : Int) from rfl, enc_pos, digs_one (by decide) (by decide)]; rfl
theorem enc_2 : enc 2 = [129, 2] := by rw [show (2 : Int) = ((2 : Nat) : Int) from rfl, enc_pos, digs_one (by decide) (by decide)]; rfl
theorem enc_m1 : enc (-1) = [127] := by rw [show (-1 : Int) = -1 - ((0 : Nat) : Int) from rfl, enc_neg, digs_zero]; rfl
theorem enc_m257 : enc (-257) = [125, 254, 255] := by
  rw [show (-257 : Int) = -1 - ((256 : Nat) : Int) from rfl, enc_neg, digs_pos (by decide), show 256 / 256 = 1 from rfl, digs_one (by decide) (by decide)]; rfl

def IntEx (W : World) (n u er : Int) (e : Ending) (w' : World) : Prop := e = .returned (.tuple #[.int .i64 n, .int .i64 u, .int .i64 er]) ∧ Below W.heap.size W w'
theorem s1 (W : World) : Calls Try.prog 18 #[.slice (some ⟨W.heap.size, 0, none⟩) 4 4] (W.alloc (.cells #[.int .u8 130, .int .u8 1, .int .u8 0, .int .u8 9] 5)) (IntEx W 256 3 0) :=
  (getInt_call 4 _ 4 _ [130, 1, 0, 9] _ (n := 256) (u := 3) (er := 0) (by decide +kernel) rfl (lit_rd W (bs [130, 1, 0, 9]) _) (by decide) (by decide) (by decide)).mono fun e w' ⟨he, k, hw⟩ => ⟨he, by rw [hw]; exact below_drewN (new_later W _) k⟩
theorem s2 (W : World) : Calls Try.prog 18 #[.slice (some ⟨W.heap.size, 0, none⟩) 2 2] (W.alloc (.cells #[.int .u8 130, .int .u8 1] 5)) (IntEx W 0 0 3) :=
  (getInt_call 2 _ 2 _ [130, 1] _ (n := 0) (u := 0) (er := 3) (by decide +kernel) rfl (lit_rd W (bs [130, 1]) _) (by decide) (by decide) (by decide)).mono fun e w' ⟨he, k, hw⟩ => ⟨he, by rw [hw]; exact below_drewN (new_later W _) k⟩
theorem s3 (W : World) : Calls Try.prog 18 #[.slice (some ⟨W.heap.size, 0, none⟩) 2 2] (W.alloc (.cells #[.int .u8 129, .int .u8 0] 5)) (IntEx W 0 0 2) :=
  (getInt_call 2 _ 2 _ [129, 0] _ (n := 0) (u := 0) (er := 2) (by decide +kernel) rfl (lit_rd W (bs [129, 0]) _) (by decide) (by decide) (by decide)).mono fun e w' ⟨he, k, hw⟩ => ⟨he, by rw [hw]; exact below_drewN (new_later W _) k⟩
theorem s4 (W : World) : Calls Try.prog 20 #[.slice (some ⟨W.heap.size, 0, none⟩) 5 5] (W.alloc (.cells #[.int .u8 129, .int .u8 2, .int .u8 97, .int .u8 98, .int .u8 7] 5)) fun e w' =>
    e = .returned (.tuple #[.string ⟨#[97, 98]⟩, .int .i64 4, .int .i64 0]) ∧ Below W.heap.size W w' :=
  (getBytes_call 5 _ 5 _ [129, 2, 97, 98, 7] _ (s := [97, 98]) (u := 4) (er := 0) (by decide +kernel) rfl (lit_rd W (bs [129, 2, 97, 98, 7]) _) (by decide) (by decide) (by decide)).mono fun e w' ⟨he, k, hw⟩ => ⟨he, by rw [hw]; exact below_drewN (new_later W _) k⟩
theorem s5 (W : World) : Calls Try.prog 22 #[.slice (some ⟨W.heap.size, 0, none⟩) 5 5] (W.alloc (.cells #[.int .u8 129, .int .u8 2, .int .u8 129, .int .u8 1, .int .u8 127] 5)) fun e w' =>
    ∃ A c, e = .returned (.tuple #[.slice A 2 c, .int .i64 5, .int .i64 0]) ∧ Rd w' w'.heap.size A (is [1, -1]) ∧ Below W.heap.size W w' := by
  have h := GetInts_any 5 5 _ [129, 2, 129, 1, 127] (W.alloc (.cells (bs [129, 2, 129, 1, 127]).toArray 5)) rfl (lit_rd W (bs [129, 2, 129, 1, 127]) _) (by decide) (by decide) (by decide) (by decide)
  have e : getL 1 dec [129, 2, 129, 1, 127] = ([1, -1], 5, 0) := by decide +kernel
  rw [e] at h
  refine h.mono fun e w' ⟨v, he, ho, hb⟩ => ?_
  obtain ⟨A, c, rfl, _⟩ := own_shape ho
  exact ⟨A, c, he, Rd.own ho, later (new_later W _) hb⟩
theorem s8 (W : World) : Calls Try.prog 25 #[.slice (some ⟨W.heap.size, 0, none⟩) 7 7] (W.alloc (.cells #[.int .u8 129, .int .u8 2, .int .u8 128, .int .u8 129, .int .u8 1, .int .u8 97, .int .u8 5] 5)) fun e w' =>
    ∃ A c, e = .returned (.tuple #[.slice A 2 c, .int .i64 6, .int .i64 0]) ∧ Rd w' w'.heap.size A (ss [⟨#[]⟩, ⟨#[97]⟩]) ∧ Below W.heap.size W w' := by
  have h := GetStrings_any 7 7 _ [129, 2, 128, 129, 1, 97, 5] (W.alloc (.cells (bs [129, 2, 128, 129, 1, 97, 5]).toArray 5)) rfl (lit_rd W (bs [129, 2, 128, 129, 1, 97, 5]) _) (by decide) (by decide) (by decide) (by decide)
  have e : getL 1 getBytes [129, 2, 128, 129, 1, 97, 5] = ([[], [97]], 6, 0) := by decide +kernel
  rw [e] at h
  refine h.mono fun e w' ⟨v, he, ho, hb⟩ => ?_
  obtain ⟨A, c, rfl, _⟩ := own_shape ho
  exact ⟨A, c, he, Rd.own ho, later (new_later W _) hb⟩
theorem s_same (W : World) (A : Option Addr) (n m c : Nat) (xs ys : List Nat) (hn : n = xs.length) (hm : m = ys.length) (hr : Rd W W.heap.size A (bs xs)) (he : xs = ys) (hl : n ≤ 100000) :
    Calls Try.prog 7 #[.slice A n c, .slice (some ⟨W.heap.size, 0, none⟩) m m] (W.alloc (.cells (bs ys).toArray 5)) fun e w' => e = .returned (.bool true) ∧ Below W.heap.size W w' :=
  (Same_any n m (W.alloc (.cells (bs ys).toArray 5)).heap.size c m A _ xs ys _ hn hm (hr.later (new_later W _)) (lit_rd W (bs ys) _) (by omega)).mono fun e w' ⟨h1, k, h2⟩ => ⟨by rw [h1, decide_eq_true he], by rw [h2]; exact below_drewN (new_later W _) k⟩

def D16 : List Nat := [1, 2, 0, 0, 0, 0, 0, 0, 0, 0, 0, 0, 0, 0, 0, 0]
theorem s7 (W : World) : Calls Try.prog 16 #[.slice (some ⟨W.heap.size, 0, none⟩) 1 1] (W.alloc (.cells #[.int .u8 1, .int .u8 2, .int .u8 0, .int .u8 0, .int .u8 0, .int .u8 0, .int .u8 0, .int .u8 0, .int .u8 0, .int .u8 0, .int .u8 0, .int .u8 0, .int .u8 0, .int .u8 0, .int .u8 0, .int .u8 0] 51)) fun e w' =>
    ∃ A c, e = .returned (.slice A 18 c) ∧ Rd w' w'.heap.size A (bs ([129, 1] ++ D16)) ∧ Below W.heap.size W w' ∧ 18 ≤ c ∧ c ≤ maxLen := by
  have h := Digests_any (some ⟨W.heap.size, 0, none⟩) 1 1 [D16] (W.alloc (.cells (bs D16).toArray 51)) rfl (by decide) (by simpa [ds] using lit_rd W (bs D16) _) (by decide)
  have e : encL id [D16] = [129, 1] ++ D16 := by unfold encL; rw [show (([D16] : List (List Nat)).length : Int) = 1 from rfl, enc_1]; rfl
  rw [e] at h
  refine h.mono fun e w' ⟨v, he, ho, hb⟩ => ?_
  obtain ⟨A, c, rfl, h1, h2⟩ := ho.shape
  exact ⟨A, c, he, ho.rd, later (new_later W _) hb, h1, h2⟩
theorem s7b (W : World) (A : Option Addr) (c : Nat) (hr : Rd W W.heap.size A (bs ([129, 1] ++ D16))) (h1 : 18 ≤ c) (h2 : c ≤ maxLen) : Calls Try.prog 28 #[.slice A 18 c] W fun e w' =>
    ∃ A c, e = .returned (.tuple #[.slice A 1 c, .int .i64 18, .int .i64 0]) ∧ Rd w' w'.heap.size A (ds [D16]) ∧ Below W.heap.size W w' := by
  have h := GetDigests_any 18 c A ([129, 1] ++ D16) W rfl hr (by decide) h1 h2 (by decide)
  have e : getL 16 digD ([129, 1] ++ D16) = ([D16], 18, 0) := by decide +kernel
  rw [e] at h
  refine h.mono fun e w' ⟨v, he, ho, hb⟩ => ?_
  obtain ⟨A, c, rfl, _⟩ := own_shape ho
  exact ⟨A, c, he, Rd.own ho, hb⟩
theorem s9 (W : World) (A : Option Addr) (c : Nat) (hr : Rd W W.heap.size A (ss [⟨#[]⟩, ⟨#[97]⟩])) : Calls Try.prog 27 #[.slice A 2 c, .slice (some ⟨W.heap.size, 0, none⟩) 2 2] (W.alloc (.cells #[.string ⟨#[]⟩, .string ⟨#[97]⟩] 9)) fun e w' =>
    e = .returned (.bool true) ∧ Below W.heap.size W w' :=
  (SameTexts_any 2 2 (W.alloc (.cells (ss [⟨#[]⟩, ⟨#[97]⟩]).toArray 9)).heap.size c 2 A _ _ _ _ rfl rfl (hr.later (new_later W _)) (lit_rd W (ss [⟨#[]⟩, ⟨#[97]⟩]) _) (by omega)).mono fun e w' ⟨h1, k, h2⟩ => ⟨h1, by rw [h2]; exact below_drewN (new_later W _) k⟩
theorem s10 (W : World) : Calls Try.prog 14 #[.slice (some ⟨W.heap.size, 0, none⟩) 2 2] (W.alloc (.cells #[.string ⟨#[]⟩, .string ⟨#[97]⟩] 9)) fun e w' =>
    ∃ A c, e = .returned (.slice A 6 c) ∧ Rd w' w'.heap.size A (bs [129, 2, 128, 129, 1, 97]) ∧ Below W.heap.size W w' := by
  have h := Strings_any (some ⟨W.heap.size, 0, none⟩) 2 2 [⟨#[]⟩, ⟨#[97]⟩] (W.alloc (.cells (ss [⟨#[]⟩, ⟨#[97]⟩]).toArray 9)) rfl (lit_rd W (ss [⟨#[]⟩, ⟨#[97]⟩]) _) (by decide) (by decide)
  have e : encL encS [⟨#[]⟩, ⟨#[97]⟩] = [129, 2, 128, 129, 1, 97] := by
    unfold encL
    rw [show (([⟨#[]⟩, ⟨#[97]⟩] : List ByteArray).length : Int) = 2 from rfl, enc_2]
    simp only [List.flatMap_cons, List.flatMap_nil, encS]
    rw [show ((⟨#[]⟩ : ByteArray).size : Int) = 0 from rfl, show ((⟨#[97]⟩ : ByteArray).size : Int) = 1 from rfl, enc_0, enc_1]
    rfl
  rw [e] at h
  refine h.mono fun e w' ⟨v, he, ho, hb⟩ => ?_
  obtain ⟨A, c, rfl, h1, h2⟩ := ho.shape
  exact ⟨A, c, he, ho.rd, later (new_later W _) hb⟩
theorem s11 (W : World) : Calls Try.prog 8 #[.int .i64 (-257)] W fun e w' => ∃ A c, e = .returned (.slice A 3 c) ∧ Rd w' w'.heap.size A (bs [125, 254, 255]) ∧ Below W.heap.size W w' := by
  have h := Int_any (-257) W (by decide) (by decide)
  rw [enc_m257] at h
  refine h.mono fun e w' ⟨v, he, ho, hb⟩ => ?_
  obtain ⟨A, c, rfl, h1, h2⟩ := ho.shape
  exact ⟨A, c, he, ho.rd, hb⟩
theorem s12 (W : World) (A : Option Addr) (c : Nat) (hr : Rd W W.heap.size A (is [1, -1])) : Calls Try.prog 24 #[.slice A 2 c, .slice (some ⟨W.heap.size, 0, none⟩) 2 2] (W.alloc (.cells #[.int .i64 1, .int .i64 (-1)] 3)) fun e w' =>
    e = .returned (.bool true) ∧ Below W.heap.size W w' :=
  (SameInts_any 2 2 (W.alloc (.cells (is [1, -1]).toArray 3)).heap.size c 2 A _ _ _ _ rfl rfl (hr.later (new_later W _)) (lit_rd W (is [1, -1]) _) (by omega)).mono fun e w' ⟨h1, k, h2⟩ => ⟨h1, by rw [h2]; exact below_drewN (new_later W _) k⟩
theorem s13 (W : World) : Calls Try.prog 10 #[.string ⟨#[97, 98]⟩] W fun e w' => ∃ A c, e = .returned (.slice A 4 c) ∧ Rd w' w'.heap.size A (bs [129, 2, 97, 98]) ∧ Below W.heap.size W w' := by
  have h := Bytes_any ⟨#[97, 98]⟩ W (by decide)
  have e : enc ((⟨#[97, 98]⟩ : ByteArray).size : Int) ++ sb ⟨#[97, 98]⟩ = [129, 2, 97, 98] := by
    rw [show ((⟨#[97, 98]⟩ : ByteArray).size : Int) = 2 from rfl, enc_2]; rfl
  rw [e] at h
  refine h.mono fun e w' ⟨v, he, ho, hb⟩ => ?_
  obtain ⟨A, c, rfl, h1, h2⟩ := ho.shape
  exact ⟨A, c, he, ho.rd, hb⟩
theorem s14 (W : World) : Calls Try.prog 12 #[.slice (some ⟨W.heap.size, 0, none⟩) 2 2] (W.alloc (.cells #[.int .i64 1, .int .i64 (-1)] 3)) fun e w' =>
    ∃ A c, e = .returned (.slice A 5 c) ∧ Rd w' w'.heap.size A (bs [129, 2, 129, 1, 127]) ∧ Below W.heap.size W w' := by
  have h := Ints_any (some ⟨W.heap.size, 0, none⟩) 2 2 [1, -1] (W.alloc (.cells (is [1, -1]).toArray 3)) rfl (lit_rd W (is [1, -1]) _) (by intro n hn; simp at hn; unfold InR; omega) (by decide)
  have e : encL enc [1, -1] = [129, 2, 129, 1, 127] := by
    unfold encL
    rw [show (([1, -1] : List Int).length : Int) = 2 from rfl, enc_2]
    simp only [List.flatMap_cons, List.flatMap_nil]
    rw [enc_1, enc_m1]; rfl
  rw [e] at h
  refine h.mono fun e w' ⟨v, he, ho, hb⟩ => ?_
  obtain ⟨A, c, rfl, h1, h2⟩ := ho.shape
  exact ⟨A, c, he, ho.rd, later (new_later W _) hb⟩
theorem s15 (W : World) (A : Option Addr) (c : Nat) (hr : Rd W W.heap.size A (ds [D16])) : Calls Try.prog 30 #[.slice A 1 c, .slice (some ⟨W.heap.size, 0, none⟩) 1 1] (W.alloc (.cells #[.int .u8 1, .int .u8 2, .int .u8 0, .int .u8 0, .int .u8 0, .int .u8 0, .int .u8 0, .int .u8 0, .int .u8 0, .int .u8 0, .int .u8 0, .int .u8 0, .int .u8 0, .int .u8 0, .int .u8 0, .int .u8 0] 51)) fun e w' =>
    e = .returned (.bool true) ∧ Below W.heap.size W w' :=
  (SameDigests_any 1 1 (W.alloc (.cells (bs D16).toArray 51)).heap.size c 1 A _ [D16] [D16] _ rfl rfl (hr.later (new_later W _)) (by simpa [ds] using lit_rd W (bs D16) _) (by omega) (by decide) (by decide)).mono fun e w' ⟨h1, k, h2⟩ => ⟨h1, by rw [h2]; exact below_drewN (new_later W _) k⟩
theorem q6 (W : World) (A : Option Addr) (c : Nat) (hr : Rd W W.heap.size A (bs [129, 2, 128, 129, 1, 97])) : Calls Try.prog 7 #[.slice A 6 c, .slice (some ⟨W.heap.size, 0, none⟩) 6 6] (W.alloc (.cells #[.int .u8 129, .int .u8 2, .int .u8 128, .int .u8 129, .int .u8 1, .int .u8 97] 5)) fun e w' => e = .returned (.bool true) ∧ Below W.heap.size W w' :=
  s_same W A 6 6 c _ [129, 2, 128, 129, 1, 97] rfl rfl hr rfl (by decide)
theorem q3 (W : World) (A : Option Addr) (c : Nat) (hr : Rd W W.heap.size A (bs [125, 254, 255])) : Calls Try.prog 7 #[.slice A 3 c, .slice (some ⟨W.heap.size, 0, none⟩) 3 3] (W.alloc (.cells #[.int .u8 125, .int .u8 254, .int .u8 255] 5)) fun e w' => e = .returned (.bool true) ∧ Below W.heap.size W w' :=
  s_same W A 3 3 c _ [125, 254, 255] rfl rfl hr rfl (by decide)
theorem q4 (W : World) (A : Option Addr) (c : Nat) (hr : Rd W W.heap.size A (bs [129, 2, 97, 98])) : Calls Try.prog 7 #[.slice A 4 c, .slice (some ⟨W.heap.size, 0, none⟩) 4 4] (W.alloc (.cells #[.int .u8 129, .int .u8 2, .int .u8 97, .int .u8 98] 5)) fun e w' => e = .returned (.bool true) ∧ Below W.heap.size W w' :=
  s_same W A 4 4 c _ [129, 2, 97, 98] rfl rfl hr rfl (by decide)
theorem q5 (W : World) (A : Option Addr) (c : Nat) (hr : Rd W W.heap.size A (bs [129, 2, 129, 1, 127])) : Calls Try.prog 7 #[.slice A 5 c, .slice (some ⟨W.heap.size, 0, none⟩) 5 5] (W.alloc (.cells #[.int .u8 129, .int .u8 2, .int .u8 129, .int .u8 1, .int .u8 127] 5)) fun e w' => e = .returned (.bool true) ∧ Below W.heap.size W w' :=
  s_same W A 5 5 c _ [129, 2, 129, 1, 127] rfl rfl hr rfl (by decide)
end Go.Proofs.Ytecfhhnmokdkiaa
