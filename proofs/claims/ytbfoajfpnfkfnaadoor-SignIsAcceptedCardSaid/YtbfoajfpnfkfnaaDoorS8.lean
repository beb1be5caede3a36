import Derived.Test.YtbfoajfpnfkfnaaDoorS7
import Derived.Test.YtbfoajfpnfkfnaaDoorSL
set_option linter.unusedVariables false
namespace Go.Proofs.YtbfoajfpnfkfnaaDoor
open Go.RowKit

/-- A strings.Builder of the call's own that holds bytes. -/
def IsBld (W : World) (B b : Nat) (X : List Nat) : Prop := Lib.IsBuilder 98 5 B b (bs X) W
theorem at_later {T e : TypeId} {B b : Nat} {p : Value} {xs : List Value} {W W' : World} (h : Lib.BuilderAt T e B b p xs W) (hb : Below W.heap.size W W') : Lib.BuilderAt T e B b p xs W' := by
  obtain ⟨hB, v, hh, hown, hne⟩ := h
  exact ⟨hB, v, row_later hh hb, own_below' hown hb, hne⟩
theorem IsBld.later {W W' : World} {B b : Nat} {X : List Nat} (h : IsBld W B b X) (hb : Below W.heap.size W W') : IsBld W' B b X := by
  rcases h with h | h
  · exact .inl (at_later h hb)
  · exact .inr (at_later h hb)
theorem IsBld.fresh (w : World) : IsBld (w.alloc (.cells #[.pointer none, .slice none 0 0] 98)) w.heap.size w.heap.size [] := Lib.fresh_isBuilder _ _ w
theorem bld_write (B b : Nat) (X Y : List Nat) (W : World) (h : IsBld W B b X) (hY : AllB Y) (hl : X.length + Y.length ≤ 1000000) (hB : B ≤ W.heap.size) :
    Calls Tryd.prog 68 #[.pointer (some ⟨b, 0, none⟩), .string (mkS Y)] W fun e w' => e = .returned (.tuple #[.int .i64 (Y.length : Int), .nilIface]) ∧ IsBld w' B b (X ++ Y) ∧ Below B W w' := by
  refine (Tryd.b_write B b (bs X) (mkS Y) W h (by rw [bs_len, mkS_size]; omega) hB).mono fun e w' ⟨he, h1, h2⟩ => ⟨?_, ?_, h2⟩
  · rw [he, mkS_size]
  · rw [sb_cells, sb_mkS Y hY, ← bs_app] at h1
    exact .inr h1
theorem byteCells_eq (X : List Nat) (hX : AllB X) : Lib.byteCells (X.map UInt8.ofNat) = bs X := by
  unfold Lib.byteCells bs
  rw [List.map_map]
  refine List.map_congr_left fun x hx => ?_
  show Value.int .u8 ((UInt8.ofNat x).toNat : Int) = .int .u8 (x : Int)
  rw [UInt8.toNat_ofNat_of_lt' (hX x hx)]
theorem bld_string (B b : Nat) (X : List Nat) (W : World) (h : IsBld W B b X) (hX : AllB X) (hB : B ≤ W.heap.size) :
    Calls Tryd.prog 69 #[.pointer (some ⟨b, 0, none⟩)] W fun e w' => e = .returned (.string (mkS X)) ∧ Below B W w' :=
  Tryd.b_string B b (X.map UInt8.ofNat) W (by rw [byteCells_eq X hX]; exact h) hB

theorem ints_new (l : List Nat) (n : Nat) (hn : n = l.length) (hl : ∀ x ∈ l, x ≤ 1000000) (hn2 : n ≤ 100) (W : World) :
    Calls Tryd.prog 67 #[.slice (some ⟨W.heap.size, 0, none⟩) n n] (W.alloc (.cells (isv l).toArray 3)) (RowRes (ints l) W) := by
  have e : isv l = is (l.map fun (x : Nat) => (x : Int)) := by unfold isv is; rw [List.map_map]; rfl
  have h := Ints_any (some ⟨W.heap.size, 0, none⟩) n n (l.map fun (x : Nat) => (x : Int)) (W.alloc (.cells (isv l).toArray 3)) (by simpa using hn) (by rw [← e]; exact lit_rd W _ _ _)
    (by intro x hx; obtain ⟨y, hy, rfl⟩ := List.mem_map.1 hx; have := hl y hy; unfold InR; omega) (by omega)
  refine (RowRes.of h).mono fun e w' ⟨A, c, he, hr, h1, h2, hb⟩ => ⟨A, c, he, hr, h1, h2, later (new_later W _) hb⟩
theorem ints2 (i c : Nat) (hi : i ≤ 1000000) (hc : c ≤ 1000000) (W : World) :
    Calls Tryd.prog 67 #[.slice (some ⟨W.heap.size, 0, none⟩) 2 2] (W.alloc (.cells #[.int .i64 (i : Int), .int .i64 (c : Int)] 3)) (RowRes (ints [i, c]) W) :=
  ints_new [i, c] 2 rfl (by intro x hx; simp at hx; rcases hx with rfl | rfl <;> assumption) (by decide) W
theorem ints3 (i c t : Nat) (hi : i ≤ 1000000) (hc : c ≤ 1000000) (ht : t ≤ 1000000) (W : World) :
    Calls Tryd.prog 67 #[.slice (some ⟨W.heap.size, 0, none⟩) 3 3] (W.alloc (.cells #[.int .i64 (i : Int), .int .i64 (c : Int), .int .i64 (t : Int)] 3)) (RowRes (ints [i, c, t]) W) :=
  ints_new [i, c, t] 3 rfl (by intro x hx; simp at hx; rcases hx with rfl | rfl | rfl <;> assumption) (by decide) W
theorem ints_all (l : List Nat) (hl : ∀ x ∈ l, x ≤ 1000000) (hn : l.length ≤ 100) : AllB (ints l) := by
  intro d hd
  unfold ints encL at hd
  rcases List.mem_append.1 hd with hd | hd
  · exact enc_lt _ (by rw [List.length_map]; omega) d hd
  · obtain ⟨x, hx, hd⟩ := List.mem_flatMap.1 hd
    obtain ⟨y, hy, rfl⟩ := List.mem_map.1 hx
    exact enc_lt _ (by have := hl y hy; omega) d hd
theorem ints_len (l : List Nat) (hl : ∀ x ∈ l, x ≤ 1000000) (hn : l.length ≤ 100) : (ints l).length ≤ 9 + 9 * l.length := by
  have h := part_len_le enc 9 (l.map fun (x : Nat) => (x : Int)) l.length (by intro x hx; obtain ⟨y, hy, rfl⟩ := List.mem_map.1 hx; have := hl y hy; exact (enc_len _ (by omega)).2) (by rw [List.length_map]; omega)
  rw [List.length_map, show part enc (l.map fun (x : Nat) => (x : Int)) l.length = ints l from by
    have := part_all enc (l.map fun (x : Nat) => (x : Int)); rw [List.length_map] at this; exact this] at h
  exact h

theorem ext_mkS (M : List Nat) (a b : Nat) : (mkS M).extract a b = mkS ((M.take b).drop a) := by
  apply ByteArray.ext
  unfold mkS
  rw [ByteArray.data_extract]
  apply Array.toList_inj.1
  rw [Array.toList_extract]
  simp [List.map_drop, List.map_take, List.drop_take]

set_option maxHeartbeats 2000000 in
set_option maxRecDepth 100000 in
theorem starts_any (sd : List Nat) (i : Nat) (hi : i ≤ 1000000) (hsd : AllB sd) (hsl : sd.length ≤ 1000) (w : World) (hk : Kc w) :
    Calls Tryd.prog 53 #[.string (mkS sd), .int .i64 (i : Int)] w fun e w' => e = .returned (.string (mkS (startL sd i))) ∧ Below w.heap.size w w' := by
  have HALL : Hid (∀ n, AllB ((List.range n).flatMap (st0 sd i))) := Lib.hid fun n => flat_all (st0_all sd i) n
  have HLEN : Hid (∀ n, ((List.range n).flatMap (st0 sd i)).length = 16 * n) := Lib.hid (flat_len (st0_len sd i))
  have HK : Hid (∀ W, Below w.heap.size w W → Kc W) := Lib.hid fun W hW => hk.later hW
  have HSD := Lib.hid hsd
  have HSL := Lib.hid hsl
  clear hk hsd hsl
  go_enter Tryd.func53, Tryd.ntmps53
  go_upto_region 2 with fail
  have V0 := new_later w (.cells #[.pointer none, .slice none 0 0] 98)
  have B0 := IsBld.fresh w
  generalize hW : w.alloc (.cells #[.pointer none, .slice none 0 0] 98) = wa at V0 B0 ⊢
  clear hW
  go_wp2_with fail
  go_loopw [6, 7] (fun _ j W => ∃ k : Nat, k ≤ 68 ∧ j = .int .i64 (k : Int) ∧ IsBld W w.heap.size w.heap.size ((List.range k).flatMap (st0 sd i)) ∧ Below w.heap.size w W) (fun _ j _ => 68 - (intOf j).toNat)
  case atStart => exact ⟨0, by omega, rfl, B0, V0⟩
  case round =>
    obtain ⟨k, hk, rfl, hB, hV⟩ := hrel
    clear B0 V0
    by_cases hlt : k < 68
    · have hki : (k : Int) < 68 := by omega
      have hk0 : (0 : Int) ≤ (k : Int) := by omega
      have hI2 := Lib.hid (ints2 i k hi (by omega))
      have hJB := ints_all [i, k] (by intro x hx; simp at hx; rcases hx with rfl | rfl <;> omega) (by simp)
      have hJL := ints_len [i, k] (by intro x hx; simp at hx; rcases hx with rfl | rfl <;> omega) (by simp)
      have HMM : Hid (∀ W, Below w.heap.size w W → Calls Tryd.prog 21 #[.string (mkS sd), .string (⟨#[99, 104, 97, 105, 110]⟩ ++ mkS (ints [i, k]))] W fun e w' => e = .returned (.string (mkS (mac sd ([99, 104, 97, 105, 110] ++ ints [i, k])))) ∧ Below W.heap.size W w') := Lib.hid fun W hW => by
        have h := mac_any (mkS sd) (⟨#[99, 104, 97, 105, 110]⟩ ++ mkS (ints [i, k])) W (HK.out W hW) (by rw [mkS_size]; have := HSL.out; omega) (by rw [show (⟨#[99, 104, 97, 105, 110]⟩ : ByteArray) = mkS [99, 104, 97, 105, 110] from rfl, mkS_app, mkS_size]; simp at hJL ⊢; omega)
        rw [show (⟨#[99, 104, 97, 105, 110]⟩ : ByteArray) = mkS [99, 104, 97, 105, 110] from rfl, mkS_app, sb_mkS sd HSD.out, sb_mkS _ (AllB.app (by unfold AllB; decide) hJB)] at h
        rw [show (⟨#[99, 104, 97, 105, 110]⟩ : ByteArray) = mkS [99, 104, 97, 105, 110] from rfl, mkS_app]
        exact h
      have hsz : ¬ 9223372036854775807 < 5 + (mkS (ints [i, k])).size := by rw [mkS_size]; simp at hJL; omega
      have HST : Hid ((mac sd ([99, 104, 97, 105, 110] ++ ints [i, k])).take 16 = st0 sd i k) := Lib.hid rfl
      have HML : Hid ((mac sd ([99, 104, 97, 105, 110] ++ ints [i, k])).length = 32) := Lib.hid (by unfold mac; exact sha_len _)
      generalize mac sd ([99, 104, 97, 105, 110] ++ ints [i, k]) = M at HMM HST HML
      have hM16 : (16 : Int) ≤ ((mkS M).size : Int) := by rw [mkS_size, HML.out]; decide
      have HEX : Hid ((mkS M).extract 0 16 = mkS (st0 sd i k)) := Lib.hid (by rw [ext_mkS, HST.out]; rfl)
      have HFS : Hid ((List.range (k + 1)).flatMap (st0 sd i) = (List.range k).flatMap (st0 sd i) ++ st0 sd i k) := Lib.hid (flat_succ _ k)
      have HBW : Hid (∀ W, IsBld W w.heap.size w.heap.size ((List.range k).flatMap (st0 sd i)) → Below w.heap.size w W → Calls Tryd.prog 68 #[.pointer (some ⟨w.heap.size, 0, none⟩), .string ((mkS M).extract 0 16)] W fun e w' => e = .returned (.tuple #[.int .i64 16, .nilIface]) ∧ IsBld w' w.heap.size w.heap.size ((List.range (k + 1)).flatMap (st0 sd i)) ∧ Below w.heap.size W w') := Lib.hid fun W hB hV => by
        rw [HEX.out, HFS.out]
        have h := bld_write w.heap.size w.heap.size _ (st0 sd i k) W hB (st0_all sd i k) (by rw [HLEN.out, st0_len]; omega) hV.size
        rw [st0_len] at h
        exact h
      clear HEX HFS HST HML
      generalize (List.range k).flatMap (st0 sd i) = X at hB HBW
      obtain ⟨X1, HX1⟩ : ∃ X1, Hid ((List.range (k + 1)).flatMap (st0 sd i) = X1) := ⟨_, Lib.hid rfl⟩
      rw [HX1.out] at HBW
      generalize ints [i, k] = J at hI2 HMM hsz
      clear hJB hJL
      have hws := hV.size
      go_wp2_with (first
        | (go_at_call 67; (with_reducible refine (hI2.out _).mono ?_); rintro e w1 ⟨A, c, rfl, hr1, hc1, hc2, hb1⟩; have V1 := hV.trans (hb1.mono hws); have B1 := hB.later hb1; have hcv := run_conv _ J.length c A J w1 rfl hr1; clear hb1 hr1)
        | (go_at_call 21; with_reducible refine (HMM.out _ V1).mono ?_; rintro e w2 ⟨rfl, hb2⟩; have V2 := later V1 hb2; have B2 := B1.later hb2; clear hb2)
        | (go_at_call 68; with_reducible refine (HBW.out _ B2 V2).mono ?_; rintro e w3 ⟨rfl, B3, hb3⟩; have V3 := V2.trans hb3; clear hb3))
      go_roundw
      case rel => exact ⟨k + 1, by omega, by go_num, by rw [HX1.out]; exact B3, V3⟩
      case measure => simp [intOf]; omega
    · have hk68 : k = 68 := by omega
      subst hk68
      have HBS : Hid (Calls Tryd.prog 69 #[.pointer (some ⟨w.heap.size, 0, none⟩)] wr fun e w' => e = .returned (.string (mkS (startL sd i))) ∧ Below w.heap.size wr w') := Lib.hid (bld_string _ _ _ wr hB (HALL.out 68) hV.size)
      clear hB
      obtain ⟨Z, HZ⟩ : ∃ Z, Hid (startL sd i = Z) := ⟨_, Lib.hid rfl⟩
      rw [HZ.out] at HBS
      go_wp2_with (go_at_call 69; with_reducible refine HBS.out.mono ?_; rintro e w4 ⟨rfl, hb4⟩)
      go_ret
      exact ⟨by rw [HZ.out]; rfl, hV.trans hb4⟩
end Go.Proofs.YtbfoajfpnfkfnaaDoor
