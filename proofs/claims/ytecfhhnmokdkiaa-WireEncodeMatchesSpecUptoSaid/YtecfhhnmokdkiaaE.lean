import Derived.Test.YtecfhhnmokdkiaaD
set_option linter.unusedVariables false
namespace Go.Proofs.Ytecfhhnmokdkiaa
open Go.RowKit

theorem getInt_call {n : Int} {u er : Nat} (m B cap : Nat) (A : Option Addr) (zs : List Nat) (w : World) (hd : dec zs = (n, u, er)) (hn : m = zs.length) (hr : Rd w B A (bs zs)) (hb : ∀ d ∈ zs, d < 256) (hcap : m ≤ cap) (hcap2 : cap ≤ maxLen) :
    Calls Try.prog 18 #[.slice A m cap] w fun e w' => e = .returned (.tuple #[.int .i64 n, .int .i64 (u : Int), .int .i64 (er : Int)]) ∧ ∃ k, w' = w.drewN k := by
  have h := getInt_any m B cap A zs w hn hr hb hcap hcap2
  rw [hd] at h
  exact h

set_option maxHeartbeats 400000 in
set_option maxRecDepth 100000 in
theorem getLength_any (m B cap least : Nat) (A : Option Addr) (zs : List Nat) (w : World) (hm : m = zs.length) (hr : Rd w B A (bs zs)) (hb : ∀ d ∈ zs, d < 256) (hcap : m ≤ cap) (hcap2 : cap ≤ maxLen) (hl : 1 ≤ least) (hl2 : least ≤ 1000) :
    Calls Try.prog 34 #[.slice A m cap, .int .i64 (least : Int)] w (DecRes w (getLen least zs)) := by
  obtain ⟨n, u, er, hd⟩ : ∃ n u er, dec zs = (n, u, er) := ⟨_, _, _, rfl⟩
  have hg := getLen_eq (least := least) hd
  have hcall := fun W (hr : Rd W B A (bs zs)) => getInt_call m B cap A zs W hd hm hr hb hcap hcap2
  have HC := Lib.hid hcall
  have her := dec_er hd
  have hok : er = 0 → 1 ≤ u ∧ u ≤ m ∧ -9223372036854775808 ≤ n ∧ n ≤ 9223372036854775807 := fun h => by subst h hm; have := dec_ok hd; omega
  clear hcall hd hb
  rw [hg, ← hm]
  clear hg hm
  unfold maxLen at hcap2
  by_cases h1 : er = 0
  · have h2 := hok h1
    subst h1
    clear hok her
    rw [if_neg (by simp)]
    by_cases h3 : n < 0
    · rw [if_pos h3]
      go_enter Try.func34, Try.ntmps34
      go_wp2_with (go_at_call 18; refine (HC.out _ hr).mono ?_; rintro e w1 ⟨rfl, k, rfl⟩)
      go_ret3
      exact DecRes.mk rfl (by decide) (by decide)
    · rw [if_neg h3]
      obtain ⟨N, rfl⟩ := Int.eq_ofNat_of_zero_le (show 0 ≤ n by omega)
      simp only [Int.toNat_natCast]
      have hq : ((m : Int) - u) / least = (((m - u) / least : Nat) : Int) := by
        rw [Int.natCast_ediv, Int.ofNat_sub h2.2.1]
      generalize hQ : (m - u) / least = Qt at hq
      clear hQ
      by_cases h4 : Qt < N
      · rw [if_pos h4]
        go_enter Try.func34, Try.ntmps34
        go_wp2_with (go_at_call 18; refine (HC.out _ hr).mono ?_; rintro e w1 ⟨rfl, k, rfl⟩)
        go_ret3
        exact DecRes.mk rfl (by decide) (by decide)
      · rw [if_neg h4]
        go_enter Try.func34, Try.ntmps34
        go_wp2_with (go_at_call 18; refine (HC.out _ hr).mono ?_; rintro e w1 ⟨rfl, k, rfl⟩)
        go_ret3
        exact DecRes.mk rfl (by omega) (by decide)
  · rw [if_pos h1]
    have h5 : ((er : Int) != 0) = true := by simp [h1]
    go_enter Try.func34, Try.ntmps34
    go_wp2_with (go_at_call 18; refine (HC.out _ hr).mono ?_; rintro e w1 ⟨rfl, k, rfl⟩)
    go_ret3
    exact DecRes.mk rfl (by decide) (by omega)
theorem getLength_call {n : Int} {u er : Nat} (m B cap least : Nat) (L : Int) (A : Option Addr) (zs : List Nat) (w : World) (hd : getLen least zs = (n, u, er)) (hm : m = zs.length) (hL : L = (least : Int)) (hr : Rd w B A (bs zs)) (hb : ∀ d ∈ zs, d < 256) (hcap : m ≤ cap) (hcap2 : cap ≤ maxLen) (hl : 1 ≤ least) (hl2 : least ≤ 1000) :
    Calls Try.prog 34 #[.slice A m cap, .int .i64 L] w fun e w' => e = .returned (.tuple #[.int .i64 n, .int .i64 (u : Int), .int .i64 (er : Int)]) ∧ ∃ k, w' = w.drewN k := by
  subst hL
  have h := getLength_any m B cap least A zs w hm hr hb hcap hcap2 hl hl2
  rw [hd] at h
  exact h
end Go.Proofs.Ytecfhhnmokdkiaa
