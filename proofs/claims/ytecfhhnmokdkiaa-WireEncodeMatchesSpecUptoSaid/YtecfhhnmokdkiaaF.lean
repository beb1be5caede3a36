import Derived.Test.YtecfhhnmokdkiaaE
set_option linter.unusedVariables false
namespace Go.Proofs.Ytecfhhnmokdkiaa
open Go.RowKit

/-- The string of these bytes. -/
def mkS (l : List Nat) : ByteArray := ⟨(l.map UInt8.ofNat).toArray⟩
theorem mkS_nil : mkS [] = ⟨#[]⟩ := rfl
theorem sb_mkS (l : List Nat) (h : ∀ d ∈ l, d < 256) : sb (mkS l) = l := by
  simp only [sb, mkS, List.map_map]
  conv => rhs; rw [← List.map_id l]
  refine List.map_congr_left fun d hd => ?_
  simp [Nat.mod_eq_of_lt (h d hd)]
theorem mkS_sb (s : ByteArray) : mkS (sb s) = s := by
  apply sb_inj
  exact sb_mkS _ (sb_lt s)
theorem mkS_size (l : List Nat) : (mkS l).size = l.length := by simp [mkS, ByteArray.size]

theorem run_conv (B n c : Nat) (A : Option Addr) (ys : List Nat) (w : World) (hn : n = ys.length) (hr : Rd w B A (bs ys)) :
    (convert 28 9 (.slice A n c)).run Try.prog w = .ok (.string (mkS ys)) w := by
  subst hn
  rcases hr with h | ⟨b, o, rfl, _, hc⟩
  · have : ys = [] := by simpa [bs] using h
    subst this
    rcases A with _ | ad
    · rw [run_convert_bytes_nil w _ _ Try.underlying28 Try.underlying5 _ _ _ Try.underlying9]; rfl
    · have hl : (loadCells ad 0).run Try.prog w = .ok (([] : List Int).map (Value.int .u8)).toArray w := by
        have := run_loadCells_list (P := Try.prog) w ad [] (by simp)
        simpa using this
      rw [List.length_nil, run_convert_bytes_string w _ _ _ _ _ _ Try.underlying28 Try.underlying5 Try.underlying9, run_bytesToString w ad 0 c [] hl]
      rfl
  · rw [run_convert_bytes_arg w _ _ Try.underlying28 Try.underlying5 b o ys.length c (ys.map Int.ofNat) (by simp) ?_ _ Try.underlying9]
    · simp [strOfNums, mkS, List.map_map, Function.comp_def]
    · intro i hi
      rw [hc i _ (bs_get ys i hi)]
      simp [List.getD, List.getElem?_eq_getElem hi]

def StrRes (w : World) (r : List Nat × Nat × Nat) (e : Ending) (w' : World) : Prop := e = .returned (.tuple #[.string (mkS r.1), .int .i64 (r.2.1 : Int), .int .i64 (r.2.2 : Int)]) ∧ ∃ k, w' = w.drewN k
theorem StrRes.mk {w : World} {r : List Nat × Nat × Nat} {a : List Nat} {b c : Int} {k : Nat} {s : ByteArray} (h : r = (a, b.toNat, c.toNat)) (hs : s = mkS a) (hb : 0 ≤ b) (hc : 0 ≤ c) : StrRes w r (.returned (.tuple #[.string s, .int .i64 b, .int .i64 c])) (w.drewN k) := by
  subst h hs
  refine ⟨?_, k, rfl⟩
  simp [Int.toNat_of_nonneg hb, Int.toNat_of_nonneg hc]

set_option maxHeartbeats 400000 in
set_option maxRecDepth 100000 in
theorem getBytes_any (m B cap : Nat) (A : Option Addr) (zs : List Nat) (w : World) (hm : m = zs.length) (hr : Rd w B A (bs zs)) (hb : ∀ d ∈ zs, d < 256) (hcap : m ≤ cap) (hcap2 : cap ≤ maxLen) :
    Calls Try.prog 20 #[.slice A m cap] w (StrRes w (getBytes zs)) := by
  obtain ⟨n, u, er, hd⟩ : ∃ n u er, getLen 1 zs = (n, u, er) := ⟨_, _, _, rfl⟩
  rw [getBytes_eq hd]
  have hcall := fun W (hr : Rd W B A (bs zs)) => getLength_call m B cap 1 1 A zs W hd hm rfl hr hb hcap hcap2 (by omega) (by omega)
  have HC := Lib.hid hcall
  have her := getLen_er hd
  by_cases h1 : er = 0
  · subst h1
    obtain ⟨h2, h3, h4, h5⟩ := getLen_ok (by omega) hd
    clear hcall hd her
    obtain ⟨N, rfl⟩ := Int.eq_ofNat_of_zero_le h2
    simp only [Int.toNat_natCast, Nat.mul_one] at h4 ⊢
    rw [if_neg (by simp)]
    obtain ⟨b, o, rfl, hlt, hc⟩ := hr.at_ (by intro h; have := congrArg List.length h; simp [bs] at this; subst this; simp at h4; omega)
    have hr0 : Rd w B (some ⟨b, o, none⟩) (bs zs) := .inr ⟨b, o, rfl, hlt, hc⟩
    have hcut : Rd w B (some ⟨b, o + u, none⟩) (bs ((zs.drop u).take N)) := by
      have := (hr0.drop u).take N
      simpa [bs] using this
    have hlen : N = ((zs.drop u).take N).length := by rw [List.length_take, List.length_drop]; omega
    have hcv : ∀ k, (convert 28 9 (.slice (some ⟨b, o + u, none⟩) N (cap - u))).run Try.prog (w.drewN k) = .ok (.string (mkS ((zs.drop u).take N))) (w.drewN k) := fun k => run_conv B N _ _ _ _ hlen (hcut.drewN k)
    have hcv0 : N = 0 → ∀ k c, (convert 28 9 (.slice (some ⟨b, o, none⟩) 0 c)).run Try.prog (w.drewN k) = .ok (.string (mkS ((zs.drop u).take N))) (w.drewN k) := fun h k c => run_conv B 0 c _ _ _ (by subst h; rfl) (by subst h; exact Rd.nil _ _ _)
    have h4m : u + N ≤ m := by omega
    unfold maxLen at hcap2
    generalize hS : mkS ((zs.drop u).take N) = S at hcv hcv0
    have HS := Lib.hid hS
    have HR := Lib.hid hr
    clear hr hr0 hcut hlen hS hc hb hm h4 h5
    by_cases hcu : cap = u
    · have hN : N = 0 := by omega
      have hcv1 := hcv0 hN
      subst hN hcu
      clear hcv hcv0
      go_enter Try.func20, Try.ntmps20
      go_wp2_with (go_at_call 34; refine (HC.out _ HR.out).mono ?_; rintro e w1 ⟨rfl, k, rfl⟩)
      go_ret3
      exact StrRes.mk (by simp) HS.out.symm (by omega) (by decide)
    · clear hcv0
      go_enter Try.func20, Try.ntmps20
      go_wp2_with (go_at_call 34; refine (HC.out _ HR.out).mono ?_; rintro e w1 ⟨rfl, k, rfl⟩)
      go_ret3
      exact StrRes.mk (by congr 2) HS.out.symm (by omega) (by decide)
  · rw [if_pos h1]
    have h5 : ((er : Int) != 0) = true := by simp [h1]
    clear hd hcall hb hm
    go_enter Try.func20, Try.ntmps20
    go_wp2_with (go_at_call 34; refine (HC.out _ hr).mono ?_; rintro e w1 ⟨rfl, k, rfl⟩)
    go_ret3
    exact StrRes.mk rfl mkS_nil.symm (by decide) (by omega)
end Go.Proofs.Ytecfhhnmokdkiaa
