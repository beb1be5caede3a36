import Derived.Test.YtecfhhnmokdkiaaJ
set_option linter.unusedVariables false
namespace Go.Proofs.Ytecfhhnmokdkiaa
open Go.RowKit

theorem getBytes_call {s : List Nat} {u er : Nat} (m B cap : Nat) (A : Option Addr) (zs : List Nat) (w : World) (hd : getBytes zs = (s, u, er)) (hn : m = zs.length) (hr : Rd w B A (bs zs)) (hb : ∀ d ∈ zs, d < 256) (hcap : m ≤ cap) (hcap2 : cap ≤ maxLen) :
    Calls Try.prog 20 #[.slice A m cap] w fun e w' => e = .returned (.tuple #[.string (mkS s), .int .i64 (u : Int), .int .i64 (er : Int)]) ∧ ∃ k, w' = w.drewN k := by
  have h := getBytes_any m B cap A zs w hn hr hb hcap hcap2
  rw [hd] at h
  exact h

set_option maxHeartbeats 400000 in
set_option maxRecDepth 100000 in
theorem nextStr_any (gg gb gu B m cap u : Nat) (A : Option Addr) (zs : List Nat) (s : List Nat) (k er : Nat) (w : World) (hm : m = zs.length) (hr : Rd w B A (bs zs)) (hb : ∀ d ∈ zs, d < 256) (hcap : m ≤ cap) (hcap2 : cap ≤ maxLen) (hu1 : 1 ≤ u) (hu : u ≤ m)
    (hG : w.cell? ⟨gg, 0, none⟩ = some (.func (.func 20) #[] #[])) (hB : w.cell? ⟨gb, 0, none⟩ = some (.slice A m cap)) (hU : w.cell? ⟨gu, 0, none⟩ = some (.int .i64 (u : Int))) (hF : w.frozen? ⟨gu, 0, none⟩ = false)
    (hd : getBytes (zs.drop u) = (s, k, er)) (hk : u + k ≤ m) :
    Calls Try.prog 41 #[.pointer (some ⟨gg, 0, none⟩), .pointer (some ⟨gb, 0, none⟩), .pointer (some ⟨gu, 0, none⟩)] w fun e w' => e = .returned (.tuple #[.string (mkS s), .int .i64 (er : Int)]) ∧ ∃ q, w' = (w.drewN q).setCell ⟨gu, 0, none⟩ (.int .i64 ((u : Int) + k)) := by
  have hcall : ∀ (A' : Option Addr) q c, Rd (w.drewN q) B A' (bs (zs.drop u)) → m - u ≤ c → c ≤ maxLen → Calls Try.prog 20 #[.slice A' (m - u) c] (w.drewN q) fun e w' => e = .returned (.tuple #[.string (mkS s), .int .i64 (k : Int), .int .i64 (er : Int)]) ∧ ∃ q', w' = (w.drewN q).drewN q' :=
    fun A' q c hr' hc hc2 => getBytes_call (m - u) B c A' (zs.drop u) _ hd (by rw [List.length_drop, hm]) hr' (fun d h => hb d (List.mem_of_mem_drop h)) hc hc2
  have HC := Lib.hid hcall
  clear hcall
  unfold maxLen at hcap2
  have h0 : zs ≠ [] := fun h => by subst h; simp at hm; omega
  obtain ⟨b, o, rfl, hlt, hc⟩ := hr.at_ (by simpa [bs] using h0)
  have hr0 : Rd w B (some ⟨b, o, none⟩) (bs zs) := .inr ⟨b, o, rfl, hlt, hc⟩
  have hcut : ∀ q, Rd (w.drewN q) B (some ⟨b, o + u, none⟩) (bs (zs.drop u)) := fun q => by
    have := (hr0.drop u).drewN q
    simpa [bs] using this
  have hcut0 : u = m → ∀ q A, Rd (w.drewN q) B A (bs (zs.drop u)) := fun h q A => by
    rw [List.drop_of_length_le (by omega)]; exact Rd.nil _ _ _
  have HCUT := Lib.hid hcut
  by_cases hcu : cap = u
  · have hum : u = m := by omega
    have hc0 : ∀ (A' : Option Addr) q, Calls Try.prog 20 #[.slice A' 0 0] (w.drewN q) fun e w' => e = .returned (.tuple #[.string (mkS s), .int .i64 (k : Int), .int .i64 (er : Int)]) ∧ ∃ q', w' = (w.drewN q).drewN q' := fun A' q => by
      have h := HC.out A' q 0 (hcut0 hum q A') (by omega) (by simp [maxLen])
      rw [show m - u = 0 from by omega] at h
      exact h
    have HC0 := Lib.hid hc0
    subst hcu hum
    clear hc0
    clear hcut hr0 hc hr hm hd hb hcut0
    go_enter Try.func41, Try.ntmps41
    go_wp2_with fail
    go_quiet ((go_at_call 20; exact Calls.quiet_of (HC0.out _ _)))
    go_wp2_with fail
    go_ret2
    exact ⟨rfl, _, rfl⟩
  · clear hcut hr0 hc hr hm hd hb hcut0
    go_enter Try.func41, Try.ntmps41
    go_wp2_with fail
    go_quiet ((go_at_call 20; exact Calls.quiet_of (HC.out _ _ _ (HCUT.out _) (by omega) (by unfold maxLen; omega))))
    go_wp2_with fail
    go_ret2
    exact ⟨rfl, _, rfl⟩

/-- The string of these bytes, as a value. -/
def sv (l : List Nat) : Value := .string (mkS l)
theorem info_str : (Try.prog.info? 9).map (fun i => (i.zero, i.size, i.bytes)) = some (some (.string ByteArray.empty), 1, 16) := by kernel_rfl
theorem getBytes_le {b : List Nat} {s : List Nat} {k er : Nat} (h : getBytes b = (s, k, er)) : k ≤ b.length := by
  obtain ⟨n, u, er', hd⟩ : ∃ n u er, getLen 1 b = (n, u, er) := ⟨_, _, _, rfl⟩
  rw [getBytes_eq hd] at h
  split at h
  · cases h; omega
  · rename_i h1
    have h1 : er' = 0 := by omega
    subst h1
    have := getLen_ok (by omega) hd
    cases h
    omega

set_option maxHeartbeats 1000000 in
set_option maxRecDepth 100000 in
theorem getListStr_any (m cap : Nat) (A : Option Addr) (zs : List Nat) (w : World) (hm : m = zs.length) (hr : Rd w w.heap.size A (bs zs)) (hb : ∀ d ∈ zs, d < 256) (hcap : m ≤ cap) (hcap2 : cap ≤ maxLen) (hm2 : m ≤ 100000) :
    Calls Try.prog 37 #[.slice A m cap, .int .i64 1, .func (.func 20) #[] #[]] w (LRes w 9 ((getL 1 getBytes zs).1.map sv) (getL 1 getBytes zs).2.1 (getL 1 getBytes zs).2.2) := by
  obtain ⟨n, u, er, hd⟩ : ∃ n u er, getLen 1 zs = (n, u, er) := ⟨_, _, _, rfl⟩
  rw [getL_eq hd]
  have hcall := fun W (hr : Rd W w.heap.size A (bs zs)) => getLength_call m w.heap.size cap 1 1 A zs W hd hm rfl hr hb hcap hcap2 (by omega) (by omega)
  have HC := Lib.hid hcall
  have her := getLen_er hd
  have hrb : ∀ W, Below w.heap.size w W → Rd W w.heap.size A (bs zs) := fun W hW => hr.below hW
  have HR := Lib.hid hrb
  clear hcall hrb
  by_cases h1 : er = 0
  · subst h1
    obtain ⟨h2, h3, h4, h5⟩ := getLen_ok (by omega) hd
    obtain ⟨N, rfl⟩ := Int.eq_ofNat_of_zero_le h2
    simp only [Int.toNat_natCast, Nat.mul_one] at h4 ⊢
    rw [if_neg (by simp)]
    have h4m : u + N ≤ m := by omega
    have HM := Lib.hid hm
    have HB := Lib.hid hb
    clear h4 h5 hd her hm hb hr h2
    go_enter Try.func37, Try.ntmps37
    go_wp2_with (first
      | (go_at_call 34; refine (HC.out _ (HR.out _ (((Below.refl _ _).alloc (Nat.le_refl _) _).alloc (by simp) _))).mono ?_; rintro e w1 ⟨rfl, k, rfl⟩)
      | (with_reducible refine wpList_makeV (n := N) Try.underlying23 info_str rfl (by omega) (by simp only [maxLen]; omega) rfl (.tmp 26) (.tmp 26) rfl rfl rfl rfl rfl ?_; intro w2 hown2 hbel2 hsz2))
    have hv2 := Vars.made rfl rfl rfl hbel2
    simp at hown2 hsz2
    clear hbel2
    go_loopw [30] (fun i wr => ∃ (xs : List (List Nat)) (at_ : Nat), i = .int .i64 (xs.length : Int) ∧ Vars w wr (.slice A m cap) (.func (.func 20) #[] #[]) (.int .i64 (at_ : Int)) ∧
        wr.ownsRow (w.heap.size + 1 + 1 + 1) 9 1 (.slice (some ⟨w.heap.size + 1 + 1 + 1, 0, none⟩) N N) N (xs.map sv ++ List.replicate (N - xs.length) (.string ByteArray.empty)) ∧ Sofar getBytes N u zs xs at_)
      (fun i _ => N - (intOf i).toNat)
    case atStart => exact ⟨[], u, rfl, hv2, by simpa using hown2, Sofar.start (by have := HM.out; omega)⟩
    case round =>
      obtain ⟨xs, at_, rfl, hv, hown, hs⟩ := hrel
      clear hown2 hsz2 hv2
      have hxl := hs.len
      by_cases hlt : xs.length < N
      · obtain ⟨n, k, er, hg⟩ : ∃ n k er, getBytes (zs.drop at_) = (n, k, er) := ⟨_, _, _, rfl⟩
        have hle := getBytes_le hg
        rw [List.length_drop] at hle
        have hat : at_ + k ≤ m := by have := hs.hi; have := HM.out; omega
        have hnx := fun W (hv : Vars w W (.slice A m cap) (.func (.func 20) #[] #[]) (.int .i64 (at_ : Int))) => nextStr_any _ _ _ w.heap.size m cap at_ A zs n k er W HM.out (HR.out _ hv.bel) HB.out hcap hcap2 (by have := hs.lo; omega) (by omega) hv.c1 hv.c0 hv.c2 hv.f2 hg hat
        have HNX := Lib.hid hnx
        have hcell : wr.cell? ⟨w.heap.size + 1 + 1 + 1, xs.length, none⟩ = some (.string ByteArray.empty) := by
          rw [hown.cellAt xs.length (by omega)]
          rw [List.getElem?_append_right (by simp), List.getElem?_replicate, if_pos (by simp; omega)]
        have hset := Lib.hid (set_next xs N sv (.string ByteArray.empty) n hlt)
        have hfr := hown.frozenAt xs.length
        have hb3 : ∀ q, wr.cell? ⟨w.heap.size + 1 + 1 + 1, xs.length, none⟩ = some (.string ByteArray.empty) → ∀ z', Vars w ((wr.drewN q).setCell ⟨w.heap.size + 1 + 1, 0, none⟩ z') (.slice A m cap) (.func (.func 20) #[] #[]) z' ∧
            ((wr.drewN q).setCell ⟨w.heap.size + 1 + 1, 0, none⟩ z').ownsRow (w.heap.size + 1 + 1 + 1) 9 1 (.slice (some ⟨w.heap.size + 1 + 1 + 1, 0, none⟩) N N) N (xs.map sv ++ List.replicate (N - xs.length) (.string ByteArray.empty)) ∧
            ((wr.drewN q).setCell ⟨w.heap.size + 1 + 1, 0, none⟩ z').cell? ⟨w.heap.size + 1 + 1 + 1, xs.length, none⟩ = some (.string ByteArray.empty) ∧ ((wr.drewN q).setCell ⟨w.heap.size + 1 + 1, 0, none⟩ z').frozen? ⟨w.heap.size + 1 + 1 + 1, xs.length, none⟩ = false := fun q hc z' =>
          ⟨hv.setU q z', ownsRow_setCell_below (w := wr.drewN q) hown (by show w.heap.size + 1 + 1 < _; omega) _, (World.cell?_setCell_other _ _ _ _ (by simp)).trans hc, (World.frozen?_setCell _ _ _ _).trans hfr⟩
        have H3 := Lib.hid (fun q => hb3 q hcell)
        have HS := Lib.hid hs
        have HG := Lib.hid hg
        have hv0 := Lib.hid hv
        clear hnx hle hcell hfr hb3 hs hg hv hown
        by_cases her : er = 0
        · subst her
          go_wp2_with (go_at_call 41; refine (HNX.out _ hv0.out).mono ?_; rintro e w3 ⟨rfl, q, hw3⟩; obtain ⟨hv3, hown3, hc3, hf3⟩ := H3.out q (.int .i64 ((at_ : Int) + k)); rw [← hw3] at hv3 hown3 hc3 hf3; clear hw3)
          go_roundw
          case rel =>
            refine ⟨xs ++ [n], at_ + k, by simp, by simpa using hv3.far (p := ⟨w.heap.size + 1 + 1 + 1, xs.length, none⟩) (by show _ < w.heap.size + 1 + 1 + 1; omega) _, ?_, HS.out.next hlt HG.out (by have := HM.out; omega)⟩
            rw [← hset.out]
            exact (hown3.stored xs.length _).1
          case measure => simp [intOf]; omega
        · have h5 : ((er : Int) != 0) = true := by simp [her]
          go_wp2_with (go_at_call 41; refine (HNX.out _ hv0.out).mono ?_; rintro e w3 ⟨rfl, q, hw3⟩; obtain ⟨hv3, hown3, hc3, hf3⟩ := H3.out q (.int .i64 ((at_ : Int) + k)); rw [← hw3] at hv3 hown3 hc3 hf3; clear hw3)
          go_ret3
          rw [HS.out.bad hlt HG.out her, comb_err her]
          exact ⟨_, rfl, World.ownsRow_nil _ _ _ _, (hv3.far (p := ⟨w.heap.size + 1 + 1 + 1, xs.length, none⟩) (by show _ < w.heap.size + 1 + 1 + 1; omega) _).bel⟩
      · have hxN : xs.length = N := by omega
        have hend := hs.done hxN
        have hlo := hs.lo
        subst hxN
        have HE := Lib.hid hend
        have HO := Lib.hid hown
        clear hend hs hown
        have hc2 := hv.c2
        go_wp2_with fail
        go_quiet (fail)
        go_wp2_with fail
        go_ret3
        rw [HE.out, comb_start xs u at_ hlo]
        refine ⟨_, rfl, ?_, below_drewN hv.bel _⟩
        have h6 := own_less (base' := w.heap.size) HO.out (by omega)
        have h7 : wr.ownsRow w.heap.size 9 1 (.slice (some ⟨w.heap.size + 1 + 1 + 1, 0, none⟩) xs.length xs.length) (xs.map sv).length (xs.map sv) := by simpa using h6
        exact h7
  · rw [if_pos h1]
    have h5 : ((er : Int) != 0) = true := by simp [h1]
    clear hd hb hm
    go_enter Try.func37, Try.ntmps37
    go_wp2_with (go_at_call 34; refine (HC.out _ (HR.out _ (((Below.refl _ _).alloc (Nat.le_refl _) _).alloc (by simp) _))).mono ?_; rintro e w1 ⟨rfl, k, rfl⟩)
    go_ret3
    exact ⟨_, rfl, World.ownsRow_nil _ _ _ _, (below_drewN (((Below.refl _ _).alloc (Nat.le_refl _) _).alloc (by simp) _) _).alloc (by simp; omega) _⟩
end Go.Proofs.Ytecfhhnmokdkiaa
