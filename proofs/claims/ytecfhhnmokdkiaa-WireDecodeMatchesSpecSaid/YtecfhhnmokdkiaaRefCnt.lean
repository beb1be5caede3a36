import Derived.Test.YtecfhhnmokdkiaaRefGet
import Derived.Test.YtecfhhnmokdkiaaL
import Derived.Test.YtecfhhnmokdkiaaM
set_option linter.unusedVariables false
namespace Go.Proofs.Ytecfhhnmokdkiaa
open Go.RowKit

set_option maxHeartbeats 1000000 in
set_option maxRecDepth 100000 in
theorem refCount1_any (m cap : Nat) (A : Option Addr) (zs : List Nat) (w : World) (hm : m = zs.length) (hr : Rd w w.heap.size A (bs zs)) (hb : ∀ d ∈ zs, d < 256) (hcap : m ≤ cap) (hcap2 : cap ≤ maxLen) (hm2 : m ≤ 100000) :
    Calls Try.prog 35 #[.slice A m cap, .int .i64 1] w (BelRes w (getLen 1 zs)) := by
  obtain ⟨n, u, er, hd⟩ : ∃ n u er, dec zs = (n, u, er) := ⟨_, _, _, rfl⟩
  have hg := getLen_eq (least := 1) hd
  have HC := Lib.hid (refGetInt_call m cap A zs w hd hm hr hb hcap hcap2)
  have her := dec_er hd
  have hok : er = 0 → 1 ≤ u ∧ u ≤ m ∧ -9223372036854775808 ≤ n ∧ n ≤ 9223372036854775807 := fun h => by subst h hm; have := dec_ok hd; omega
  clear hd hb hr
  rw [hg, ← hm]
  clear hg hm
  unfold maxLen at hcap2
  by_cases h1 : er = 0
  · have h2 := hok h1
    subst h1
    clear hok her
    rw [if_neg (by simp)]
    by_cases h3 : n < 0
    · rw [if_pos h3]
      go_enter Try.func35, Try.ntmps35
      go_wp2_with (go_at_call 19; refine HC.out.mono ?_; rintro e w1 ⟨rfl, hb1⟩)
      go_ret3
      exact BelRes.mk rfl (by decide) (by decide) hb1
    · rw [if_neg h3]
      obtain ⟨N, rfl⟩ := Int.eq_ofNat_of_zero_le (show 0 ≤ n by omega)
      simp only [Int.toNat_natCast]
      by_cases h4 : (m - u) / 1 < N
      · rw [if_pos h4]
        by_cases h5 : m < N
        · have h6 : (m : Int) < (N : Int) := by omega
          clear h4
          go_enter Try.func35, Try.ntmps35
          go_wp2_with (go_at_call 19; refine HC.out.mono ?_; rintro e w1 ⟨rfl, hb1⟩)
          go_ret3
          exact BelRes.mk rfl (by decide) (by decide) hb1
        · have h6 : ¬ (m : Int) < (N : Int) := by omega
          have h7 : (m : Int) - (u : Int) < (N : Int) * 1 := by omega
          clear h4
          go_enter Try.func35, Try.ntmps35
          go_wp2_with (go_at_call 19; refine HC.out.mono ?_; rintro e w1 ⟨rfl, hb1⟩)
          go_ret3
          exact BelRes.mk rfl (by decide) (by decide) hb1
      · rw [if_neg h4]
        have h6 : ¬ (m : Int) < (N : Int) := by omega
        have h7 : ¬ (m : Int) - (u : Int) < (N : Int) * 1 := by omega
        clear h4
        go_enter Try.func35, Try.ntmps35
        go_wp2_with (go_at_call 19; refine HC.out.mono ?_; rintro e w1 ⟨rfl, hb1⟩)
        go_ret3
        exact BelRes.mk rfl (by omega) (by decide) hb1
  · rw [if_pos h1]
    have h5 : ((er : Int) != 0) = true := by simp [h1]
    go_enter Try.func35, Try.ntmps35
    go_wp2_with (go_at_call 19; refine HC.out.mono ?_; rintro e w1 ⟨rfl, hb1⟩)
    go_ret3
    exact BelRes.mk rfl (by decide) (by omega) hb1
theorem refCount1_call {n : Int} {u er : Nat} (m cap : Nat) (A : Option Addr) (zs : List Nat) (w : World) (hd : getLen 1 zs = (n, u, er)) (hm : m = zs.length) (hr : Rd w w.heap.size A (bs zs)) (hb : ∀ d ∈ zs, d < 256) (hcap : m ≤ cap) (hcap2 : cap ≤ maxLen) (hm2 : m ≤ 100000) :
    Calls Try.prog 35 #[.slice A m cap, .int .i64 1] w fun e w' => e = .returned (.tuple #[.int .i64 n, .int .i64 (u : Int), .int .i64 (er : Int)]) ∧ Below w.heap.size w w' := by
  have h := refCount1_any m cap A zs w hm hr hb hcap hcap2 hm2
  rw [hd] at h
  exact h
set_option maxHeartbeats 1000000 in
set_option maxRecDepth 100000 in
theorem refCount16_any (m cap : Nat) (A : Option Addr) (zs : List Nat) (w : World) (hm : m = zs.length) (hr : Rd w w.heap.size A (bs zs)) (hb : ∀ d ∈ zs, d < 256) (hcap : m ≤ cap) (hcap2 : cap ≤ maxLen) (hm2 : m ≤ 100000) :
    Calls Try.prog 35 #[.slice A m cap, .int .i64 16] w (BelRes w (getLen 16 zs)) := by
  obtain ⟨n, u, er, hd⟩ : ∃ n u er, dec zs = (n, u, er) := ⟨_, _, _, rfl⟩
  have hg := getLen_eq (least := 16) hd
  have HC := Lib.hid (refGetInt_call m cap A zs w hd hm hr hb hcap hcap2)
  have her := dec_er hd
  have hok : er = 0 → 1 ≤ u ∧ u ≤ m ∧ -9223372036854775808 ≤ n ∧ n ≤ 9223372036854775807 := fun h => by subst h hm; have := dec_ok hd; omega
  clear hd hb hr
  rw [hg, ← hm]
  clear hg hm
  unfold maxLen at hcap2
  by_cases h1 : er = 0
  · have h2 := hok h1
    subst h1
    clear hok her
    rw [if_neg (by simp)]
    by_cases h3 : n < 0
    · rw [if_pos h3]
      go_enter Try.func35, Try.ntmps35
      go_wp2_with (go_at_call 19; refine HC.out.mono ?_; rintro e w1 ⟨rfl, hb1⟩)
      go_ret3
      exact BelRes.mk rfl (by decide) (by decide) hb1
    · rw [if_neg h3]
      obtain ⟨N, rfl⟩ := Int.eq_ofNat_of_zero_le (show 0 ≤ n by omega)
      simp only [Int.toNat_natCast]
      by_cases h4 : (m - u) / 16 < N
      · rw [if_pos h4]
        by_cases h5 : m < N
        · have h6 : (m : Int) < (N : Int) := by omega
          clear h4
          go_enter Try.func35, Try.ntmps35
          go_wp2_with (go_at_call 19; refine HC.out.mono ?_; rintro e w1 ⟨rfl, hb1⟩)
          go_ret3
          exact BelRes.mk rfl (by decide) (by decide) hb1
        · have h6 : ¬ (m : Int) < (N : Int) := by omega
          have h7 : (m : Int) - (u : Int) < (N : Int) * 16 := by omega
          clear h4
          go_enter Try.func35, Try.ntmps35
          go_wp2_with (go_at_call 19; refine HC.out.mono ?_; rintro e w1 ⟨rfl, hb1⟩)
          go_ret3
          exact BelRes.mk rfl (by decide) (by decide) hb1
      · rw [if_neg h4]
        have h6 : ¬ (m : Int) < (N : Int) := by omega
        have h7 : ¬ (m : Int) - (u : Int) < (N : Int) * 16 := by omega
        clear h4
        go_enter Try.func35, Try.ntmps35
        go_wp2_with (go_at_call 19; refine HC.out.mono ?_; rintro e w1 ⟨rfl, hb1⟩)
        go_ret3
        exact BelRes.mk rfl (by omega) (by decide) hb1
  · rw [if_pos h1]
    have h5 : ((er : Int) != 0) = true := by simp [h1]
    go_enter Try.func35, Try.ntmps35
    go_wp2_with (go_at_call 19; refine HC.out.mono ?_; rintro e w1 ⟨rfl, hb1⟩)
    go_ret3
    exact BelRes.mk rfl (by decide) (by omega) hb1
theorem refCount16_call {n : Int} {u er : Nat} (m cap : Nat) (A : Option Addr) (zs : List Nat) (w : World) (hd : getLen 16 zs = (n, u, er)) (hm : m = zs.length) (hr : Rd w w.heap.size A (bs zs)) (hb : ∀ d ∈ zs, d < 256) (hcap : m ≤ cap) (hcap2 : cap ≤ maxLen) (hm2 : m ≤ 100000) :
    Calls Try.prog 35 #[.slice A m cap, .int .i64 16] w fun e w' => e = .returned (.tuple #[.int .i64 n, .int .i64 (u : Int), .int .i64 (er : Int)]) ∧ Below w.heap.size w w' := by
  have h := refCount16_any m cap A zs w hm hr hb hcap hcap2 hm2
  rw [hd] at h
  exact h

/-- A string and two numbers come back, and memory has grown. -/
def StrBel (w : World) (r : List Nat × Nat × Nat) (e : Ending) (w' : World) : Prop := e = .returned (.tuple #[.string (mkS r.1), .int .i64 (r.2.1 : Int), .int .i64 (r.2.2 : Int)]) ∧ Below w.heap.size w w'
theorem StrBel.mk {w w' : World} {r : List Nat × Nat × Nat} {a : List Nat} {b c : Int} {s : ByteArray} (h : r = (a, b.toNat, c.toNat)) (hs : s = mkS a) (hb : 0 ≤ b) (hc : 0 ≤ c) (hw : Below w.heap.size w w') : StrBel w r (.returned (.tuple #[.string s, .int .i64 b, .int .i64 c])) w' := by
  subst h hs
  refine ⟨?_, hw⟩
  simp [Int.toNat_of_nonneg hb, Int.toNat_of_nonneg hc]

set_option maxHeartbeats 400000 in
set_option maxRecDepth 100000 in
theorem refGetBytes_any (m cap : Nat) (A : Option Addr) (zs : List Nat) (w : World) (hm : m = zs.length) (hr : Rd w w.heap.size A (bs zs)) (hb : ∀ d ∈ zs, d < 256) (hcap : m ≤ cap) (hcap2 : cap ≤ maxLen) (hm2 : m ≤ 100000) :
    Calls Try.prog 21 #[.slice A m cap] w (StrBel w (getBytes zs)) := by
  obtain ⟨n, u, er, hd⟩ : ∃ n u er, getLen 1 zs = (n, u, er) := ⟨_, _, _, rfl⟩
  rw [getBytes_eq hd]
  have HC := Lib.hid (refCount1_call m cap A zs w hd hm hr hb hcap hcap2 hm2)
  have her := getLen_er hd
  by_cases h1 : er = 0
  · subst h1
    obtain ⟨h2, h3, h4, h5⟩ := getLen_ok (by omega) hd
    clear hd her
    obtain ⟨N, rfl⟩ := Int.eq_ofNat_of_zero_le h2
    simp only [Int.toNat_natCast, Nat.mul_one] at h4 ⊢
    rw [if_neg (by simp)]
    obtain ⟨b, o, rfl, hlt, hc⟩ := hr.at_ (by intro h; have := congrArg List.length h; simp [bs] at this; subst this; simp at h4; omega)
    have hr0 : Rd w w.heap.size (some ⟨b, o, none⟩) (bs zs) := .inr ⟨b, o, rfl, hlt, hc⟩
    have hcut : Rd w w.heap.size (some ⟨b, o + u, none⟩) (bs ((zs.drop u).take N)) := by
      have := (hr0.drop u).take N
      simpa [bs] using this
    have hlen : N = ((zs.drop u).take N).length := by rw [List.length_take, List.length_drop]; omega
    have HCV : Hid (∀ W, Below w.heap.size w W → (convert 28 9 (.slice (some ⟨b, o + u, none⟩) N (cap - u))).run Try.prog W = .ok (.string (mkS ((zs.drop u).take N))) W) := fun W hW => run_conv w.heap.size N _ _ _ _ hlen (hcut.below hW)
    have HCV0 : Hid (N = 0 → ∀ W c, (convert 28 9 (.slice (some ⟨b, o, none⟩) 0 c)).run Try.prog W = .ok (.string (mkS ((zs.drop u).take N))) W) := fun h W c => run_conv w.heap.size 0 c _ _ _ (by subst h; rfl) (by subst h; exact Rd.nil _ _ _)
    have h4m : u + N ≤ m := by omega
    unfold maxLen at hcap2
    generalize hS : mkS ((zs.drop u).take N) = S at HCV HCV0
    have HS := Lib.hid hS
    clear hr hr0 hcut hlen hS hc hb hm h4 h5
    by_cases hcu : cap = u
    · have hN : N = 0 := by omega
      subst hN hcu
      go_enter Try.func21, Try.ntmps21
      go_wp2_with (go_at_call 35; refine HC.out.mono ?_; rintro e w1 ⟨rfl, hb1⟩; have hcv := HCV0.out rfl w1)
      go_ret3
      exact StrBel.mk (by simp) HS.out.symm (by omega) (by decide) hb1
    · go_enter Try.func21, Try.ntmps21
      go_wp2_with (go_at_call 35; refine HC.out.mono ?_; rintro e w1 ⟨rfl, hb1⟩; have hcv := HCV.out w1 hb1)
      go_ret3
      exact StrBel.mk (by congr 2) HS.out.symm (by omega) (by decide) hb1
  · rw [if_pos h1]
    have h5 : ((er : Int) != 0) = true := by simp [h1]
    clear hd hb hm
    go_enter Try.func21, Try.ntmps21
    go_wp2_with (go_at_call 35; refine HC.out.mono ?_; rintro e w1 ⟨rfl, hb1⟩)
    go_ret3
    exact StrBel.mk rfl mkS_nil.symm (by decide) (by omega) hb1
theorem refGetBytes_call {s : List Nat} {u er : Nat} (m cap : Nat) (A : Option Addr) (zs : List Nat) (w : World) (hd : getBytes zs = (s, u, er)) (hm : m = zs.length) (hr : Rd w w.heap.size A (bs zs)) (hb : ∀ d ∈ zs, d < 256) (hcap : m ≤ cap) (hcap2 : cap ≤ maxLen) (hm2 : m ≤ 100000) :
    Calls Try.prog 21 #[.slice A m cap] w fun e w' => e = .returned (.tuple #[.string (mkS s), .int .i64 (u : Int), .int .i64 (er : Int)]) ∧ Below w.heap.size w w' := by
  have h := refGetBytes_any m cap A zs w hm hr hb hcap hcap2 hm2
  rw [hd] at h
  exact h
end Go.Proofs.Ytecfhhnmokdkiaa
