import Derived.Test.YtoopilemlgamkaaDoorH16
set_option linter.unusedVariables false
namespace Go.Proofs.YtoopilemlgamkaaDoor
open Go.RowKit

def LawRes (w : World) (e : Ending) (w' : World) : Prop := e = .returned (.bool true) ∧ Below w.heap.size w w'

theorem app_nil (a : ByteArray) : a ++ (⟨#[]⟩ : ByteArray) = a := by
  apply ByteArray.ext
  rw [ByteArray.data_append]
  exact Array.append_empty

theorem str_eq (a b : ByteArray) (p : Bool) (hp : decide (a = b) = p) : (a.toList == b.toList) = p := by
  rw [← hp, ByteArray.toList_eq, ByteArray.toList_eq]
  by_cases h : a = b
  · subst h; simp
  · have h2 : ¬ a.data = b.data := fun e => h (ByteArray.ext e)
    simp [h, h2]

set_option maxHeartbeats 2000000 in
set_option maxRecDepth 100000 in
theorem heq_long1 (a b : ByteArray) (w : World) (SA : Hid (Calls Tryd.prog 13 #[] w fun e w' => e = .returned (.bool true) ∧ Below w.heap.size w w')) (hc : (400 : Int) < (a.size : Int)) :
    Calls Tryd.prog 9 #[.string a, .string b] w (LawRes w) := by
  go_enter Tryd.func9, Tryd.ntmps9
  go_wp2_with (go_at_call 13; with_reducible refine SA.out.mono ?_; rintro e w1 ⟨rfl, hb1⟩)
  go_ret
  exact ⟨rfl, hb1⟩
set_option maxHeartbeats 2000000 in
set_option maxRecDepth 100000 in
theorem heq_long2 (a b : ByteArray) (w : World) (SA : Hid (Calls Tryd.prog 13 #[] w fun e w' => e = .returned (.bool true) ∧ Below w.heap.size w w')) (hc : ¬ (400 : Int) < (a.size : Int)) (hc2 : (400 : Int) < (b.size : Int)) :
    Calls Tryd.prog 9 #[.string a, .string b] w (LawRes w) := by
  go_enter Tryd.func9, Tryd.ntmps9
  go_wp2_with (go_at_call 13; with_reducible refine SA.out.mono ?_; rintro e w1 ⟨rfl, hb1⟩)
  go_ret
  exact ⟨rfl, hb1⟩
set_option maxHeartbeats 4000000 in
set_option maxRecDepth 100000 in
theorem heq_true (a b c : ByteArray) (w : World) (SA : Hid (Calls Tryd.prog 13 #[] w fun e w' => e = .returned (.bool true) ∧ Below w.heap.size w w'))
    (hc : ¬ (400 : Int) < (a.size : Int)) (hc2 : ¬ (400 : Int) < (b.size : Int)) (hab : (a.toList == b.toList) = true) (happ : a ++ (⟨#[]⟩ : ByteArray) = c)
    (E1 : Hid (∀ W, Calls Tryd.prog 27 #[.string a, .string b] W fun e w' => e = .returned (.bool true) ∧ Below W.heap.size W w'))
    (E2 : Hid (∀ W, Calls Tryd.prog 27 #[.string b, .string a] W fun e w' => e = .returned (.bool true) ∧ Below W.heap.size W w'))
    (E3 : Hid (∀ W, Calls Tryd.prog 27 #[.string a, .string c] W fun e w' => e = .returned (.bool true) ∧ Below W.heap.size W w')) :
    Calls Tryd.prog 9 #[.string a, .string b] w (LawRes w) := by
  go_enter Tryd.func9, Tryd.ntmps9
  go_upto_region 7 with (first
    | (go_at_call 13; with_reducible refine SA.out.mono ?_; rintro e w1 ⟨rfl, hb1⟩; have U := hb1; clear hb1 SA)
    | (go_at_call 27; with_reducible refine (E1.out _).mono ?_; rintro e w2 ⟨rfl, hb2⟩; replace U := later U hb2; clear hb2 E1)
    | (go_at_call 27; with_reducible refine (E2.out _).mono ?_; rintro e w3 ⟨rfl, hb3⟩; replace U := later U hb3; clear hb3 E2)
    | (go_at_call 27; with_reducible refine (E3.out _).mono ?_; rintro e w4 ⟨rfl, hb4⟩; replace U := later U hb4; clear hb4 E3))
  go_wp2_with fail
  go_ret
  exact ⟨rfl, U⟩
set_option maxHeartbeats 4000000 in
set_option maxRecDepth 100000 in
theorem heq_false (a b c : ByteArray) (w : World) (SA : Hid (Calls Tryd.prog 13 #[] w fun e w' => e = .returned (.bool true) ∧ Below w.heap.size w w'))
    (hc : ¬ (400 : Int) < (a.size : Int)) (hc2 : ¬ (400 : Int) < (b.size : Int)) (hab : (a.toList == b.toList) = false) (happ : a ++ (⟨#[]⟩ : ByteArray) = c)
    (E1 : Hid (∀ W, Calls Tryd.prog 27 #[.string a, .string b] W fun e w' => e = .returned (.bool false) ∧ Below W.heap.size W w'))
    (E2 : Hid (∀ W, Calls Tryd.prog 27 #[.string b, .string a] W fun e w' => e = .returned (.bool false) ∧ Below W.heap.size W w'))
    (E3 : Hid (∀ W, Calls Tryd.prog 27 #[.string a, .string c] W fun e w' => e = .returned (.bool true) ∧ Below W.heap.size W w')) :
    Calls Tryd.prog 9 #[.string a, .string b] w (LawRes w) := by
  go_enter Tryd.func9, Tryd.ntmps9
  go_upto_region 7 with (first
    | (go_at_call 13; with_reducible refine SA.out.mono ?_; rintro e w1 ⟨rfl, hb1⟩; have U := hb1; clear hb1 SA)
    | (go_at_call 27; with_reducible refine (E1.out _).mono ?_; rintro e w2 ⟨rfl, hb2⟩; replace U := later U hb2; clear hb2 E1)
    | (go_at_call 27; with_reducible refine (E2.out _).mono ?_; rintro e w3 ⟨rfl, hb3⟩; replace U := later U hb3; clear hb3 E2)
    | (go_at_call 27; with_reducible refine (E3.out _).mono ?_; rintro e w4 ⟨rfl, hb4⟩; replace U := later U hb4; clear hb4 E3))
  go_wp2_with fail
  go_ret
  exact ⟨rfl, U⟩
theorem HashEqualIsEquality_any (a b : ByteArray) (w : World) (hk : Kc w) :
    Calls Tryd.prog 9 #[.string a, .string b] w (LawRes w) := by
  have SA := Lib.hid (sanity_any w hk)
  by_cases ha : 400 < a.size
  · exact heq_long1 a b w SA (by omega)
  · by_cases hb : 400 < b.size
    · exact heq_long2 a b w SA (by omega) (by omega)
    · obtain ⟨c, hcc⟩ : ∃ c, a ++ (⟨#[]⟩ : ByteArray) = c := ⟨_, rfl⟩
      have hca : a = c := by rw [← hcc, app_nil]
      have E3 : Hid (∀ W, Calls Tryd.prog 27 #[.string a, .string c] W fun e w' => e = .returned (.bool true) ∧ Below W.heap.size W w') := fun W => q_eq a c true W (by omega) (decide_eq_true hca)
      by_cases h : a = b
      · have hp : decide (a = b) = true := decide_eq_true h
        have hp2 : decide (b = a) = true := decide_eq_true h.symm
        exact heq_true a b c w SA (by omega) (by omega) (str_eq a b true hp) hcc (fun W => q_eq a b true W (by omega) hp) (fun W => q_eq b a true W (by omega) hp2) E3
      · have hp : decide (a = b) = false := decide_eq_false h
        have hp2 : decide (b = a) = false := decide_eq_false fun e => h e.symm
        exact heq_false a b c w SA (by omega) (by omega) (str_eq a b false hp) hcc (fun W => q_eq a b false W (by omega) hp) (fun W => q_eq b a false W (by omega) hp2) E3
end Go.Proofs.YtoopilemlgamkaaDoor
