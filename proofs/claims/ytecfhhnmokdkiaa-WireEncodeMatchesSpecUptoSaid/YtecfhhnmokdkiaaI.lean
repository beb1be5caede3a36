import Derived.Test.YtecfhhnmokdkiaaH
set_option linter.unusedVariables false
namespace Go.Proofs.Ytecfhhnmokdkiaa
open Go.RowKit

set_option maxHeartbeats 400000 in
set_option maxRecDepth 100000 in
theorem nextInt_any (gg gb gu B m cap u : Nat) (A : Option Addr) (zs : List Nat) (n : Int) (k er : Nat) (w : World) (hm : m = zs.length) (hr : Rd w B A (bs zs)) (hb : ∀ d ∈ zs, d < 256) (hcap : m ≤ cap) (hcap2 : cap ≤ maxLen) (hu1 : 1 ≤ u) (hu : u ≤ m)
    (hG : w.cell? ⟨gg, 0, none⟩ = some (.func (.func 18) #[] #[])) (hB : w.cell? ⟨gb, 0, none⟩ = some (.slice A m cap)) (hU : w.cell? ⟨gu, 0, none⟩ = some (.int .i64 (u : Int))) (hF : w.frozen? ⟨gu, 0, none⟩ = false)
    (hd : dec (zs.drop u) = (n, k, er)) (hk : u + k ≤ m) :
    Calls Try.prog 40 #[.pointer (some ⟨gg, 0, none⟩), .pointer (some ⟨gb, 0, none⟩), .pointer (some ⟨gu, 0, none⟩)] w fun e w' => e = .returned (.tuple #[.int .i64 n, .int .i64 (er : Int)]) ∧ ∃ q, w' = (w.drewN q).setCell ⟨gu, 0, none⟩ (.int .i64 ((u : Int) + k)) := by
  have hcall : ∀ (A' : Option Addr) q c, Rd (w.drewN q) B A' (bs (zs.drop u)) → m - u ≤ c → c ≤ maxLen → Calls Try.prog 18 #[.slice A' (m - u) c] (w.drewN q) fun e w' => e = .returned (.tuple #[.int .i64 n, .int .i64 (k : Int), .int .i64 (er : Int)]) ∧ ∃ q', w' = (w.drewN q).drewN q' :=
    fun A' q c hr' hc hc2 => getInt_call (m - u) B c A' (zs.drop u) _ hd (by rw [List.length_drop, hm]) hr' (fun d h => hb d (List.mem_of_mem_drop h)) hc hc2
  have HC := Lib.hid hcall
  clear hcall
  unfold maxLen at hcap2
  have h0 : zs ≠ [] := fun h => by subst h; simp at hm; omega
  obtain ⟨b, o, rfl, hlt, hc⟩ := hr.at_ (by simpa [bs] using h0)
  have hr0 : Rd w B (some ⟨b, o, none⟩) (bs zs) := .inr ⟨b, o, rfl, hlt, hc⟩
  have hcut : ∀ q, Rd (w.drewN q) B (some ⟨b, o + u, none⟩) (bs (zs.drop u)) := fun q => by
    have := (hr0.drop u).drewN q
    simpa [bs] using this
  have hcut0 : u = m → ∀ q A, Rd (w.drewN q) B A (bs (zs.drop u)) := fun h q A => by
    rw [List.drop_of_length_le (by omega)]; exact Rd.nil _ _ _
  have HCUT := Lib.hid hcut
  by_cases hcu : cap = u
  · have hum : u = m := by omega
    have hc0 : ∀ (A' : Option Addr) q, Calls Try.prog 18 #[.slice A' 0 0] (w.drewN q) fun e w' => e = .returned (.tuple #[.int .i64 n, .int .i64 (k : Int), .int .i64 (er : Int)]) ∧ ∃ q', w' = (w.drewN q).drewN q' := fun A' q => by
      have h := HC.out A' q 0 (hcut0 hum q A') (by omega) (by simp [maxLen])
      rw [show m - u = 0 from by omega] at h
      exact h
    have HC0 := Lib.hid hc0
    subst hcu hum
    clear hc0
    clear hcut hr0 hc hr hm hd hb hcut0
    go_enter Try.func40, Try.ntmps40
    go_wp2_with fail
    go_quiet ((go_at_call 18; exact Calls.quiet_of (HC0.out _ _)))
    go_wp2_with fail
    go_ret2
    exact ⟨rfl, _, rfl⟩
  · clear hcut hr0 hc hr hm hd hb hcut0
    go_enter Try.func40, Try.ntmps40
    go_wp2_with fail
    go_quiet ((go_at_call 18; exact Calls.quiet_of (HC.out _ _ _ (HCUT.out _) (by omega) (by unfold maxLen; omega))))
    go_wp2_with fail
    go_ret2
    exact ⟨rfl, _, rfl⟩
end Go.Proofs.Ytecfhhnmokdkiaa
