import Derived.Test.YtecfhhnmokdkiaaM
set_option linter.unusedVariables false
namespace Go.Proofs.Ytecfhhnmokdkiaa
open Go.RowKit

def BoolRes (w : World) (p : Bool) (e : Ending) (w' : World) : Prop := e = .returned (.bool p) ∧ ∃ k, w' = w.drewN k
theorem BoolRes.mk {w : World} {p q : Bool} {k : Nat} (h : q = p) : BoolRes w p (.returned (.bool q)) (w.drewN k) := by subst h; exact ⟨rfl, k, rfl⟩

theorem take_ne {α : Type} [DecidableEq α] {xs ys : List α} {k : Nat} (hx : k < xs.length) (hy : k < ys.length) (h : xs[k] ≠ ys[k]) : xs ≠ ys := by
  rintro rfl; exact h rfl
theorem take_next {α : Type} {xs ys : List α} {k : Nat} (hx : k < xs.length) (hy : k < ys.length) (h : xs.take k = ys.take k) (e : xs[k] = ys[k]) : xs.take (k + 1) = ys.take (k + 1) := by
  rw [List.take_succ_eq_append_getElem hx, List.take_succ_eq_append_getElem hy, h, e]

theorem str_ne {x y : ByteArray} (h : x ≠ y) : (x.toList == y.toList) = false := by
  rw [beq_eq_false_iff_ne, ByteArray.toList_eq, ByteArray.toList_eq]
  intro e
  apply h
  cases x; cases y
  simp at e
  simp [e]

set_option maxHeartbeats 400000 in
set_option maxRecDepth 100000 in
theorem Same_any (n m B c d : Nat) (A A' : Option Addr) (xs ys : List Nat) (w : World) (hn : n = xs.length) (hm : m = ys.length) (hr : Rd w B A (bs xs)) (hr' : Rd w B A' (bs ys)) (hn1 : n ≤ 9223372036854775807) :
    Calls Try.prog 7 #[.slice A n c, .slice A' m d] w (BoolRes w (decide (xs = ys))) := by
  by_cases hnm : n = m
  · subst hnm
    have hb : ((n : Int) != n) = false := by simp
    have HN := Lib.hid hn
    have HM := Lib.hid hm
    clear hn hm
    go_enter Try.func7, Try.ntmps7
    go_wp2
    go_loopw [5] (fun i wr => ∃ k q : Nat, k ≤ n ∧ i = .int .i64 (k : Int) ∧ wr = w.drewN q ∧ xs.take k = ys.take k) (fun i _ => n - (intOf i).toNat)
    case atStart => exact ⟨0, 0, Nat.zero_le _, rfl, rfl, by simp⟩
    case round =>
      obtain ⟨k, q, hk, rfl, rfl, ht⟩ := hrel
      by_cases hlt : k < n
      · have hx : k < xs.length := by have := HN.out; omega
        have hy : k < ys.length := by have := HM.out; omega
        obtain ⟨b, o, rfl, _, hc⟩ := hr.at_ (by intro h; have := congrArg List.length h; rw [bs_len] at this; simp at this; subst this; simp at hx)
        obtain ⟨b', o', rfl, _, hc'⟩ := hr'.at_ (by intro h; have := congrArg List.length h; rw [bs_len] at this; simp at this; subst this; simp at hy)
        have hcx := hc k _ (bs_get xs k hx)
        have hcy := hc' k _ (bs_get ys k hy)
        rw [List.getElem?_eq_getElem hx, Option.getD_some] at hcx
        rw [List.getElem?_eq_getElem hy, Option.getD_some] at hcy
        have hne := Lib.hid (take_ne hx hy)
        have hnx := Lib.hid (take_next hx hy ht)
        clear hc hc' ht hr hr'
        have hi : (k : Int) < (n : Int) := by omega
        generalize xs[k] = x at hcx hne hnx
        generalize ys[k] = y at hcy hne hnx
        by_cases hxy : x = y
        · subst hxy
          have hbb : ((x : Int) != x) = false := by simp
          go_wp2_with fail
          go_quiet (fail)
          go_wp2_with fail
          go_roundw
          case rel => exact ⟨k + 1, _, by omega, by go_num, rfl, by simpa using hnx.out⟩
          case measure => simp [intOf]; omega
        · have hbb : ((x : Int) != y) = true := by simp; omega
          go_wp2_with fail
          go_quiet (fail)
          go_wp2_with fail
          go_ret
          exact ⟨by rw [decide_eq_false (hne.out hxy)]; rfl, _, World.drewN_drewN _ _ _⟩
      · have hkn : k = n := by omega
        subst hkn
        have heq : xs = ys := by
          rw [List.take_of_length_le (by have := HN.out; omega), List.take_of_length_le (by have := HM.out; omega)] at ht; exact ht
        have HE := Lib.hid heq
        clear heq ht
        go_wp2_with fail
        go_ret
        exact BoolRes.mk (decide_eq_true HE.out).symm
  · have hb : ((n : Int) != m) = true := by simp; omega
    have hf : decide (xs = ys) = false := by simp; rintro rfl; omega
    rw [hf]
    clear hf hn hm
    go_enter Try.func7, Try.ntmps7
    go_wp2
    go_ret
    exact BoolRes.mk (k := 0) rfl
set_option maxHeartbeats 400000 in
set_option maxRecDepth 100000 in
theorem SameInts_any (n m B c d : Nat) (A A' : Option Addr) (xs ys : List Int) (w : World) (hn : n = xs.length) (hm : m = ys.length) (hr : Rd w B A (is xs)) (hr' : Rd w B A' (is ys)) (hn1 : n ≤ 9223372036854775807) :
    Calls Try.prog 24 #[.slice A n c, .slice A' m d] w (BoolRes w (decide (xs = ys))) := by
  by_cases hnm : n = m
  · subst hnm
    have hb : ((n : Int) != n) = false := by simp
    have HN := Lib.hid hn
    have HM := Lib.hid hm
    clear hn hm
    go_enter Try.func24, Try.ntmps24
    go_wp2
    go_loopw [5] (fun i wr => ∃ k q : Nat, k ≤ n ∧ i = .int .i64 (k : Int) ∧ wr = w.drewN q ∧ xs.take k = ys.take k) (fun i _ => n - (intOf i).toNat)
    case atStart => exact ⟨0, 0, Nat.zero_le _, rfl, rfl, by simp⟩
    case round =>
      obtain ⟨k, q, hk, rfl, rfl, ht⟩ := hrel
      by_cases hlt : k < n
      · have hx : k < xs.length := by have := HN.out; omega
        have hy : k < ys.length := by have := HM.out; omega
        obtain ⟨b, o, rfl, _, hc⟩ := hr.at_ (by intro h; have := congrArg List.length h; simp only [is, List.length_map] at this; simp at this; subst this; simp at hx)
        obtain ⟨b', o', rfl, _, hc'⟩ := hr'.at_ (by intro h; have := congrArg List.length h; simp only [is, List.length_map] at this; simp at this; subst this; simp at hy)
        have hcx := hc k _ (is_get xs k hx)
        have hcy := hc' k _ (is_get ys k hy)
        rw [List.getElem?_eq_getElem hx, Option.getD_some] at hcx
        rw [List.getElem?_eq_getElem hy, Option.getD_some] at hcy
        have hne := Lib.hid (take_ne hx hy)
        have hnx := Lib.hid (take_next hx hy ht)
        clear hc hc' ht hr hr'
        have hi : (k : Int) < (n : Int) := by omega
        generalize xs[k] = x at hcx hne hnx
        generalize ys[k] = y at hcy hne hnx
        by_cases hxy : x = y
        · subst hxy
          have hbb : (x != x) = false := by simp
          go_wp2_with fail
          go_quiet (fail)
          go_wp2_with fail
          go_roundw
          case rel => exact ⟨k + 1, _, by omega, by go_num, rfl, by simpa using hnx.out⟩
          case measure => simp [intOf]; omega
        · have hbb : (x != y) = true := by simp [hxy]
          go_wp2_with fail
          go_quiet (fail)
          go_wp2_with fail
          go_ret
          exact ⟨by rw [decide_eq_false (hne.out hxy)]; rfl, _, World.drewN_drewN _ _ _⟩
      · have hkn : k = n := by omega
        subst hkn
        have heq : xs = ys := by
          rw [List.take_of_length_le (by have := HN.out; omega), List.take_of_length_le (by have := HM.out; omega)] at ht; exact ht
        have HE := Lib.hid heq
        clear heq ht
        go_wp2_with fail
        go_ret
        exact BoolRes.mk (decide_eq_true HE.out).symm
  · have hb : ((n : Int) != m) = true := by simp; omega
    have hf : decide (xs = ys) = false := by simp; rintro rfl; omega
    rw [hf]
    clear hf hn hm
    go_enter Try.func24, Try.ntmps24
    go_wp2
    go_ret
    exact BoolRes.mk (k := 0) rfl
set_option maxHeartbeats 400000 in
set_option maxRecDepth 100000 in
theorem SameTexts_any (n m B c d : Nat) (A A' : Option Addr) (xs ys : List ByteArray) (w : World) (hn : n = xs.length) (hm : m = ys.length) (hr : Rd w B A (ss xs)) (hr' : Rd w B A' (ss ys)) (hn1 : n ≤ 9223372036854775807) :
    Calls Try.prog 27 #[.slice A n c, .slice A' m d] w (BoolRes w (decide (xs = ys))) := by
  by_cases hnm : n = m
  · subst hnm
    have hb : ((n : Int) != n) = false := by simp
    have HN := Lib.hid hn
    have HM := Lib.hid hm
    clear hn hm
    go_enter Try.func27, Try.ntmps27
    go_wp2
    go_loopw [5] (fun i wr => ∃ k q : Nat, k ≤ n ∧ i = .int .i64 (k : Int) ∧ wr = w.drewN q ∧ xs.take k = ys.take k) (fun i _ => n - (intOf i).toNat)
    case atStart => exact ⟨0, 0, Nat.zero_le _, rfl, rfl, by simp⟩
    case round =>
      obtain ⟨k, q, hk, rfl, rfl, ht⟩ := hrel
      by_cases hlt : k < n
      · have hx : k < xs.length := by have := HN.out; omega
        have hy : k < ys.length := by have := HM.out; omega
        obtain ⟨b, o, rfl, _, hc⟩ := hr.at_ (by intro h; have := congrArg List.length h; simp only [ss, List.length_map] at this; simp at this; subst this; simp at hx)
        obtain ⟨b', o', rfl, _, hc'⟩ := hr'.at_ (by intro h; have := congrArg List.length h; simp only [ss, List.length_map] at this; simp at this; subst this; simp at hy)
        have hcx := hc k _ (ss_get xs k hx)
        have hcy := hc' k _ (ss_get ys k hy)
        rw [List.getElem?_eq_getElem hx, Option.getD_some] at hcx
        rw [List.getElem?_eq_getElem hy, Option.getD_some] at hcy
        have hne := Lib.hid (take_ne hx hy)
        have hnx := Lib.hid (take_next hx hy ht)
        clear hc hc' ht hr hr'
        have hi : (k : Int) < (n : Int) := by omega
        generalize xs[k] = x at hcx hne hnx
        generalize ys[k] = y at hcy hne hnx
        by_cases hxy : x = y
        · subst hxy
          have hbb : (x.toList == x.toList) = true := by simp
          go_wp2_with fail
          go_quiet (fail)
          go_wp2_with fail
          go_roundw
          case rel => exact ⟨k + 1, _, by omega, by go_num, rfl, by simpa using hnx.out⟩
          case measure => simp [intOf]; omega
        · have hbb : (x.toList == y.toList) = false := str_ne hxy
          go_wp2_with fail
          go_quiet (fail)
          go_wp2_with fail
          go_ret
          exact ⟨by rw [decide_eq_false (hne.out hxy)]; rfl, _, World.drewN_drewN _ _ _⟩
      · have hkn : k = n := by omega
        subst hkn
        have heq : xs = ys := by
          rw [List.take_of_length_le (by have := HN.out; omega), List.take_of_length_le (by have := HM.out; omega)] at ht; exact ht
        have HE := Lib.hid heq
        clear heq ht
        go_wp2_with fail
        go_ret
        exact BoolRes.mk (decide_eq_true HE.out).symm
  · have hb : ((n : Int) != m) = true := by simp; omega
    have hf : decide (xs = ys) = false := by simp; rintro rfl; omega
    rw [hf]
    clear hf hn hm
    go_enter Try.func27, Try.ntmps27
    go_wp2
    go_ret
    exact BoolRes.mk (k := 0) rfl
end Go.Proofs.Ytecfhhnmokdkiaa
