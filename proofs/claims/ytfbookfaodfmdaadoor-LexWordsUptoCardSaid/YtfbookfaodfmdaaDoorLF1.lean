import Derived.Test.YtfbookfaodfmdaaDoorArr
import Derived.Test.YtfbookfaodfmdaaDoorLA
set_option linter.unusedVariables false
set_option linter.unusedSimpArgs false
namespace Go.Proofs.YtfbookfaodfmdaaDoor
open Go.RowKit

/-- A number made small. -/
def ar (n : Int) (m : Nat) : Nat := (if n < 0 then -(n + 1) else n).toNat % m
theorem ar_lt (n : Int) (m : Nat) (h : 0 < m) : ar n m < m := Nat.mod_lt _ h
set_option maxHeartbeats 400000 in
set_option maxRecDepth 100000 in
theorem Around_any (n : Int) (m : Nat) (h0 : 0 < m) (h1 : m ≤ 1000000) (hn : InR n) (w : World) :
    Calls Tryd.prog 10 #[.int .i64 n, .int .i64 (m : Int)] w fun e w' => e = .returned (.int .i64 ((ar n m : Nat) : Int)) ∧ w' = w := by
  obtain ⟨hlo, hhi⟩ := hn
  have hm0 : (m : Int) ≠ 0 := by omega
  have hm1 : ((m : Int) == 0) = false := by simpa using hm0
  by_cases h : n < 0
  · have e : ((-(n + 1) : Int).tmod (m : Int)) = ((ar n m : Nat) : Int) := by
      unfold ar
      rw [if_pos h, Int.tmod_eq_emod_of_nonneg (by omega), Int.natCast_emod, Int.toNat_of_nonneg (by omega)]
    have hb := ar_lt n m h0
    generalize ar n m = R at e hb ⊢
    have hR : (R : Int) ≤ 1000000 := by omega
    have hR0 : (0 : Int) ≤ (R : Int) := by omega
    go_enter Tryd.func10, Tryd.ntmps10
    go_wp2
    go_ret
    exact ⟨rfl, rfl⟩
  · have e : (n.tmod (m : Int)) = ((ar n m : Nat) : Int) := by
      unfold ar
      rw [if_neg h, Int.tmod_eq_emod_of_nonneg (by omega), Int.natCast_emod, Int.toNat_of_nonneg (by omega)]
    have hb := ar_lt n m h0
    generalize ar n m = R at e hb ⊢
    have hR : (R : Int) ≤ 1000000 := by omega
    have hR0 : (0 : Int) ≤ (R : Int) := by omega
    go_enter Tryd.func10, Tryd.ntmps10
    go_wp2
    go_ret
    exact ⟨rfl, rfl⟩
theorem take_ne {α : Type} [DecidableEq α] {xs ys : List α} {k : Nat} (hx : k < xs.length) (hy : k < ys.length) (h : xs[k] ≠ ys[k]) : xs ≠ ys := by
  rintro rfl; exact h rfl
theorem take_next {α : Type} {xs ys : List α} {k : Nat} (hx : k < xs.length) (hy : k < ys.length) (h : xs.take k = ys.take k) (e : xs[k] = ys[k]) : xs.take (k + 1) = ys.take (k + 1) := by
  rw [List.take_succ_eq_append_getElem hx, List.take_succ_eq_append_getElem hy, h, e]

theorem str_ne {x y : ByteArray} (h : x ≠ y) : (x.toList == y.toList) = false := by
  rw [beq_eq_false_iff_ne, ByteArray.toList_eq, ByteArray.toList_eq]
  intro e
  apply h
  cases x; cases y
  simp at e
  simp [e]

set_option maxHeartbeats 400000 in
set_option maxRecDepth 100000 in
theorem SameTexts_any (n m B c d : Nat) (A A' : Option Addr) (xs ys : List ByteArray) (w : World) (hn : n = xs.length) (hm : m = ys.length) (hr : Rd w B A (ss xs)) (hr' : Rd w B A' (ss ys)) (hn1 : n ≤ 9223372036854775807) :
    Calls Tryd.prog 24 #[.slice A n c, .slice A' m d] w (BoolRes w (decide (xs = ys))) := by
  by_cases hnm : n = m
  · subst hnm
    have hb : ((n : Int) != n) = false := by simp
    have HN := Lib.hid hn
    have HM := Lib.hid hm
    clear hn hm
    go_enter Tryd.func24, Tryd.ntmps24
    go_wp2
    go_loopw [5] (fun i wr => ∃ k q : Nat, k ≤ n ∧ i = .int .i64 (k : Int) ∧ wr = w.drewN q ∧ xs.take k = ys.take k) (fun i _ => n - (intOf i).toNat)
    case atStart => exact ⟨0, 0, Nat.zero_le _, rfl, rfl, by simp⟩
    case round =>
      obtain ⟨k, q, hk, rfl, rfl, ht⟩ := hrel
      by_cases hlt : k < n
      · have hx : k < xs.length := by have := HN.out; omega
        have hy : k < ys.length := by have := HM.out; omega
        obtain ⟨b, o, rfl, _, hc⟩ := hr.at_ (by intro h; have := congrArg List.length h; simp only [ss, List.length_map] at this; simp at this; subst this; simp at hx)
        obtain ⟨b', o', rfl, _, hc'⟩ := hr'.at_ (by intro h; have := congrArg List.length h; simp only [ss, List.length_map] at this; simp at this; subst this; simp at hy)
        have hcx := hc k _ (ss_get xs k hx)
        have hcy := hc' k _ (ss_get ys k hy)
        rw [List.getElem?_eq_getElem hx, Option.getD_some] at hcx
        rw [List.getElem?_eq_getElem hy, Option.getD_some] at hcy
        have hne := Lib.hid (take_ne hx hy)
        have hnx := Lib.hid (take_next hx hy ht)
        clear hc hc' ht hr hr'
        have hi : (k : Int) < (n : Int) := by omega
        generalize xs[k] = x at hcx hne hnx
        generalize ys[k] = y at hcy hne hnx
        by_cases hxy : x = y
        · subst hxy
          have hbb : (x.toList == x.toList) = true := by simp
          go_wp2_with fail
          go_quiet (fail)
          go_wp2_with fail
          go_roundw
          case rel => exact ⟨k + 1, _, by omega, by go_num, rfl, by simpa using hnx.out⟩
          case measure => simp [intOf]; omega
        · have hbb : (x.toList == y.toList) = false := str_ne hxy
          go_wp2_with fail
          go_quiet (fail)
          go_wp2_with fail
          go_ret
          exact ⟨by rw [decide_eq_false (hne.out hxy)]; rfl, _, World.drewN_drewN _ _ _⟩
      · have hkn : k = n := by omega
        subst hkn
        have heq : xs = ys := by
          rw [List.take_of_length_le (by have := HN.out; omega), List.take_of_length_le (by have := HM.out; omega)] at ht; exact ht
        have HE := Lib.hid heq
        clear heq ht
        go_wp2_with fail
        go_ret
        exact BoolRes.mk (decide_eq_true HE.out).symm
  · have hb : ((n : Int) != m) = true := by simp; omega
    have hf : decide (xs = ys) = false := by simp; rintro rfl; omega
    rw [hf]
    clear hf hn hm
    go_enter Tryd.func24, Tryd.ntmps24
    go_wp2
    go_ret
    exact BoolRes.mk (k := 0) rfl

/-- Integers as values. -/
def iv (l : List Int) : List Value := l.map (Value.int .i64)
theorem iv_get (l : List Int) (j : Nat) (h : j < l.length) : (iv l)[j]? = some (.int .i64 (l[j]'h)) := by
  simp [iv, List.getElem?_map, List.getElem?_eq_getElem h]
/-- An element of a list made small; 0 behind its end. -/
def at_ (l : List Int) (i m : Nat) : Nat := if h : i < l.length then ar (l[i]'h) m else 0
set_option maxHeartbeats 400000 in
set_option maxRecDepth 100000 in
theorem At_any (l : List Int) (i m n B c : Nat) (A : Option Addr) (hn : n = l.length) (hn1 : n ≤ maxLen) (h0 : 0 < m) (h1 : m ≤ 1000000) (hl : ∀ x ∈ l, InR x) (w : World) (hr : Rd w B A (iv l)) :
    Calls Tryd.prog 28 #[.slice A n c, .int .i64 (i : Int), .int .i64 (m : Int)] w fun e w' => e = .returned (.int .i64 ((at_ l i m : Nat) : Int)) ∧ w' = w := by
  have hi0 : (0 : Int) ≤ (i : Int) := by omega
  unfold at_
  by_cases h : i < l.length
  · rw [dif_pos h]
    have hin : (i : Int) < (n : Int) := by omega
    obtain ⟨b, o, rfl, _, hc⟩ := hr.at_ (by intro e; have := congrArg List.length e; simp [iv] at this; subst this; simp at h)
    have hcell := hc i _ (iv_get l i h)
    have HA := Lib.hid (Around_any l[i] m h0 h1 (hl _ (List.getElem_mem h)) w)
    generalize ar l[i] m = R at HA ⊢
    generalize l[i] = X at hcell HA
    clear hc hr h0 h1 hl hn hn1
    go_enter Tryd.func28, Tryd.ntmps28
    go_wp2_with (go_at_call 10; (with_reducible refine HA.out.mono ?_); rintro e w' ⟨rfl, hw⟩; rw [hw])
    go_ret
    exact ⟨rfl, rfl⟩
  · rw [dif_neg h]
    have hin : (n : Int) ≤ (i : Int) := by omega
    clear hr h0 h1 hl hn
    go_enter Tryd.func28, Tryd.ntmps28
    go_wp2
    go_ret
    exact ⟨rfl, rfl⟩

/-- The keywords. -/
def kws : List ByteArray := [⟨#[109, 111, 100, 117, 108, 101]⟩, ⟨#[117, 115, 101]⟩, ⟨#[114, 101, 99]⟩, ⟨#[99, 97, 115, 101]⟩, ⟨#[102, 117, 110]⟩, ⟨#[111, 110]⟩, ⟨#[116, 101, 115, 116]⟩, ⟨#[99, 111, 110, 118]⟩, ⟨#[116, 114, 117, 101]⟩, ⟨#[102, 97, 108, 115, 101]⟩, ⟨#[110, 111, 116]⟩, ⟨#[97, 110, 100]⟩, ⟨#[111, 114]⟩, ⟨#[105, 102]⟩, ⟨#[116, 104, 101, 110]⟩, ⟨#[101, 108, 115, 101]⟩, ⟨#[108, 101, 116]⟩, ⟨#[105, 110]⟩, ⟨#[109, 97, 116, 99, 104]⟩, ⟨#[102, 111, 108, 100]⟩, ⟨#[111, 118, 101, 114]⟩, ⟨#[100, 111]⟩, ⟨#[108, 101, 110]⟩, ⟨#[106, 111, 105, 110]⟩, ⟨#[76, 105, 115, 116]⟩, ⟨#[73, 110, 116]⟩, ⟨#[66, 111, 111, 108]⟩]
def isKw (s : ByteArray) : Bool := kws.any fun k => s.toList == k.toList
set_option maxHeartbeats 4000000 in
set_option maxRecDepth 100000 in
theorem isKeyword_any (s : ByteArray) (w : World) :
    Calls Tryd.prog 37 #[.string s] w fun e w' => e = .returned (.bool (isKw s)) ∧ w' = w := by
  go_enter Tryd.func37, Tryd.ntmps37
  go_wp2
  all_goals
    go_ret
    refine ⟨?_, rfl⟩
    simp_all [isKw, kws]
def jBeh (s : ByteArray) : Bool := s.toList == (⟨#[40]⟩ : ByteArray).toList || s.toList == (⟨#[91]⟩ : ByteArray).toList || s.toList == (⟨#[46]⟩ : ByteArray).toList
def jBef (s : ByteArray) : Bool := s.toList == (⟨#[41]⟩ : ByteArray).toList || s.toList == (⟨#[93]⟩ : ByteArray).toList || s.toList == (⟨#[44]⟩ : ByteArray).toList || s.toList == (⟨#[46]⟩ : ByteArray).toList
set_option maxHeartbeats 1000000 in
set_option maxRecDepth 100000 in
theorem joinsBehind_any (s : ByteArray) (w : World) :
    Calls Tryd.prog 39 #[.string s] w fun e w' => e = .returned (.bool (jBeh s)) ∧ w' = w := by
  go_enter Tryd.func39, Tryd.ntmps39
  go_wp2
  all_goals
    go_ret
    refine ⟨?_, rfl⟩
    simp_all [jBeh]
set_option maxHeartbeats 1000000 in
set_option maxRecDepth 100000 in
theorem joinsBefore_any (s : ByteArray) (w : World) :
    Calls Tryd.prog 40 #[.string s] w fun e w' => e = .returned (.bool (jBef s)) ∧ w' = w := by
  go_enter Tryd.func40, Tryd.ntmps40
  go_wp2
  all_goals
    go_ret
    refine ⟨?_, rfl⟩
    simp_all [jBef]
end Go.Proofs.YtfbookfaodfmdaaDoor
