import Derived.Test.YtecfhhnmokdkiaaRefCnt
import Derived.Test.YtecfhhnmokdkiaaL
import Derived.Test.YtecfhhnmokdkiaaM
set_option linter.unusedVariables false
namespace Go.Proofs.Ytecfhhnmokdkiaa
open Go.RowKit


set_option maxHeartbeats 1000000 in
set_option maxRecDepth 100000 in
theorem refGetInts_any (m cap : Nat) (A : Option Addr) (zs : List Nat) (w : World) (hm : m = zs.length) (hr : Rd w w.heap.size A (bs zs)) (hb : ∀ d ∈ zs, d < 256) (hcap : m ≤ cap) (hcap2 : cap ≤ maxLen) (hm2 : m ≤ 100000) :
    Calls Try.prog 23 #[.slice A m cap] w (LRes w 3 (is (getL 1 dec zs).1) (getL 1 dec zs).2.1 (getL 1 dec zs).2.2) := by
  obtain ⟨n, u, er, hd⟩ : ∃ n u er, getLen 1 zs = (n, u, er) := ⟨_, _, _, rfl⟩
  rw [getL_eq hd]
  have HC := Lib.hid (refCount1_call m cap A zs w hd hm hr hb hcap hcap2 hm2)
  have her := getLen_er hd
  by_cases h1 : er = 0
  · subst h1
    obtain ⟨h2, h3, h4, h5⟩ := getLen_ok (by omega) hd
    obtain ⟨N, rfl⟩ := Int.eq_ofNat_of_zero_le h2
    simp only [Int.toNat_natCast, Nat.mul_one] at h4 ⊢
    rw [if_neg (by simp)]
    have h4m : u + N ≤ m := by omega
    have hNe : zs ≠ [] := by intro h; subst h; simp at h4; omega
    obtain ⟨b, o, rfl, hblt, hc⟩ := hr.at_ (by simpa [bs] using hNe)
    have HM := Lib.hid hm
    have HB := Lib.hid hb
    have HR := Lib.hid hr
    have HCAP := Lib.hid hcap2
    unfold maxLen at hcap2
    clear h4 h5 hd her hm hb hr h2 hc hNe
    go_enter Try.func23, Try.ntmps23
    go_wp2_with (go_at_call 35; refine HC.out.mono ?_; rintro e w1 ⟨rfl, hb1⟩)
    go_loopw [6, 8, 9] (fun a v i wr => ∃ (xs : List Int) (at_ : Nat), i = .int .i64 (xs.length : Int) ∧ a = .int .i64 (at_ : Int) ∧ wr.ownsRow w.heap.size 3 1 v xs.length (is xs) ∧ Below w.heap.size w wr ∧ Sofar dec N u zs xs at_)
      (fun _ _ i _ => N - (intOf i).toNat)
    case atStart => exact ⟨[], u, rfl, rfl, World.ownsRow_nil _ _ _ _, hb1, Sofar.start (by have := HM.out; omega)⟩
    case round =>
      obtain ⟨xs, at_, rfl, rfl, hown, hbel, hs⟩ := hrel
      clear hb1
      have hxl := hs.len
      have hbw := hbel.size
      by_cases hlt : xs.length < N
      · obtain ⟨n, k, er, hg⟩ : ∃ n k er, dec (zs.drop at_) = (n, k, er) := ⟨_, _, _, rfl⟩
        have hle := (dec_le hg).1
        rw [List.length_drop] at hle
        have hath := hs.hi
        have hatm : at_ ≤ m := by have := HM.out; omega
        have hat : at_ + k ≤ m := by have := HM.out; omega
        have HX : Hid (∀ A' c, Rd wr wr.heap.size A' (bs (zs.drop at_)) → m - at_ ≤ c → c ≤ maxLen → Calls Try.prog 19 #[.slice A' (m - at_) c] wr fun e w' => e = .returned (.tuple #[.int .i64 n, .int .i64 (k : Int), .int .i64 (er : Int)]) ∧ Below wr.heap.size wr w') :=
          fun A' c hr' hc1 hc2 => refGetInt_call (m - at_) c A' (zs.drop at_) wr hg (by rw [List.length_drop, HM.out]) hr' (fun d h => HB.out d (List.mem_of_mem_drop h)) hc1 hc2
        have hr0 : Rd wr wr.heap.size (some ⟨b, o, none⟩) (bs zs) := (HR.out.below hbel).more hbw
        have hcut : Rd wr wr.heap.size (some ⟨b, o + at_, none⟩) (bs (zs.drop at_)) := by
          have := hr0.drop at_
          simpa [bs] using this
        have hcut0 : at_ = m → ∀ A', Rd wr wr.heap.size A' (bs (zs.drop at_)) := fun h A' => by
          rw [List.drop_of_length_le (by have := HM.out; omega)]; exact Rd.nil _ _ _
        have HCUT := Lib.hid hcut
        have HCUT0 := Lib.hid hcut0
        have HS := Lib.hid hs
        have HG := Lib.hid hg
        have HO := Lib.hid hown
        have hlt' : (xs.length : Int) < (N : Int) := by omega
        obtain ⟨va, vc, rfl, _, _, _⟩ := own_shape hown
        clear hs hg hle hath hr0 hcut hcut0 hown
        by_cases hcu : cap = at_
        · have hum : at_ = m := by omega
          subst hcu
          have HX0 : Hid (∀ A', Calls Try.prog 19 #[.slice A' 0 0] wr fun e w' => e = .returned (.tuple #[.int .i64 n, .int .i64 (k : Int), .int .i64 (er : Int)]) ∧ Below wr.heap.size wr w') := fun A' => by
            have h := HX.out A' 0 (HCUT0.out hum A') (by omega) (by simp [maxLen])
            rw [show m - cap = 0 from by omega] at h
            exact h
          subst hum
          by_cases her : er = 0
          · subst her
            go_wp2_with (first
              | (go_at_call 19; refine (HX0.out _).mono ?_; rintro e w3 ⟨rfl, hb3⟩; have hown3 := own_below' HO.out hb3; have hbel3 : Below w.heap.size w w3 := hbel.trans (hb3.mono hbw))
              | (at_builtin; refine wpList_put1 hown3 Try.underlying22 info_int rfl rfl hbel3.size (by simp only [maxLen]; omega) (by omega) rfl _ _ rfl rfl rfl ?_; intro v5 w5 hown5 hbel5))
            go_roundw
            case rel => exact ⟨xs ++ [n], cap + k, by simp, by simp, by simpa [is] using hown5, hbel3.trans hbel5, HS.out.next hlt HG.out (by have := HM.out; omega)⟩
            case measure => simp [intOf]; omega
          · have h5 : ((er : Int) != 0) = true := by simp [her]
            go_wp2_with (go_at_call 19; refine (HX0.out _).mono ?_; rintro e w3 ⟨rfl, hb3⟩)
            go_ret3
            rw [HS.out.bad hlt HG.out her, comb_err her]
            exact ⟨_, rfl, World.ownsRow_nil _ _ _ _, hbel.trans (hb3.mono hbw)⟩
        · by_cases her : er = 0
          · subst her
            go_wp2_with (first
              | (go_at_call 19; refine (HX.out _ _ HCUT.out (by omega) (by have := HCAP.out; omega)).mono ?_; rintro e w3 ⟨rfl, hb3⟩; have hown3 := own_below' HO.out hb3; have hbel3 : Below w.heap.size w w3 := hbel.trans (hb3.mono hbw))
              | (at_builtin; refine wpList_put1 hown3 Try.underlying22 info_int rfl rfl hbel3.size (by simp only [maxLen]; omega) (by omega) rfl _ _ rfl rfl rfl ?_; intro v5 w5 hown5 hbel5))
            go_roundw
            case rel => exact ⟨xs ++ [n], at_ + k, by simp, by simp, by simpa [is] using hown5, hbel3.trans hbel5, HS.out.next hlt HG.out (by have := HM.out; omega)⟩
            case measure => simp [intOf]; omega
          · have h5 : ((er : Int) != 0) = true := by simp [her]
            go_wp2_with (go_at_call 19; refine (HX.out _ _ HCUT.out (by omega) (by have := HCAP.out; omega)).mono ?_; rintro e w3 ⟨rfl, hb3⟩)
            go_ret3
            rw [HS.out.bad hlt HG.out her, comb_err her]
            exact ⟨_, rfl, World.ownsRow_nil _ _ _ _, hbel.trans (hb3.mono hbw)⟩
      · have hxN : xs.length = N := by omega
        have hend := hs.done hxN
        have hlo := hs.lo
        subst hxN
        have HE := Lib.hid hend
        have HO := Lib.hid hown
        obtain ⟨va, vc, rfl, _, _, _⟩ := own_shape hown
        clear hend hs hown
        go_wp2_with fail
        go_ret3
        rw [HE.out, comb_start xs u at_ hlo]
        exact ⟨_, rfl, by simpa [is] using HO.out, hbel⟩
  · rw [if_pos h1]
    have h5 : ((er : Int) != 0) = true := by simp [h1]
    clear hd hb hm
    go_enter Try.func23, Try.ntmps23
    go_wp2_with (go_at_call 35; refine HC.out.mono ?_; rintro e w1 ⟨rfl, hb1⟩)
    go_ret3
    exact ⟨_, rfl, World.ownsRow_nil _ _ _ _, hb1⟩
end Go.Proofs.Ytecfhhnmokdkiaa
