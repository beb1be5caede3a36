import Derived.Test.YtfbookfaodfmdaaDoorLE
import Derived.Test.YtfbookfaodfmdaaDoorLF1
set_option linter.unusedVariables false
set_option linter.unusedSimpArgs false
namespace Go.Proofs.YtfbookfaodfmdaaDoor
open Go.RowKit

/-- A row of strings of the call's own. -/
def OwnS (w : World) (base : Nat) (v : Value) (L : List ByteArray) : Prop := w.ownsRow base 9 1 v L.length (ss L)
theorem OwnS.nil (w : World) (base : Nat) : OwnS w base (.slice none 0 0) [] := World.ownsRow_nil w base _ 1
theorem OwnS.later {w w' : World} {base : Nat} {v : Value} {T : List ByteArray} (h : OwnS w base v T) (hb : Below w.heap.size w w') : OwnS w' base v T := own_below' h hb
theorem OwnS.shape {w : World} {base : Nat} {v : Value} {T : List ByteArray} (h : OwnS w base v T) : ∃ A c, v = .slice A T.length c ∧ T.length ≤ c ∧ c ≤ maxLen ∧ Rd w w.heap.size A (ss T) := by
  obtain ⟨A, cap, hv, h1, h2, _⟩ := own_shape h
  subst hv
  exact ⟨A, cap, rfl, h1, h2, Rd.own h⟩
theorem OwnT.shape {w : World} {base : Nat} {v : Value} {T : List (List Nat × List Nat)} (h : OwnT w base v T) : ∃ A c, v = .slice A T.length c ∧ T.length ≤ c ∧ c ≤ maxLen ∧ Rd w w.heap.size A (tv T) := by
  obtain ⟨A, cap, hv, h1, h2, _⟩ := own_shape h
  subst hv
  exact ⟨A, cap, rfl, h1, h2, Rd.own h⟩
theorem info_strs : (Tryd.prog.info? 9).map (fun i => (i.zero, i.size, i.bytes)) = some (some (.string ⟨#[]⟩), 1, 16) := by kernel_rfl
/-- 'append(out, x)' of one string. -/
theorem wpList_putSt {w : World} {base : Nat} {v : Value} {xs : List ByteArray} {ops : Array Oper} {rest : List Oper} {o : Oper} {a : Act} {Q : Exit → Act → World → Prop} {x : ByteArray} {c : Nat}
    (hown : OwnS w base v xs) (hbase : base ≤ w.heap.size) (hbytes : xs.length ≤ 1000000)
    (hgd : o.guard = none) (s y : Operand) (ho : o.op = .call { callee := .builtin .append, args := #[s, y], argTypes := #[26, 26] })
    (hs : a.eval s = v) (hy : a.eval y = .slice (some ⟨w.heap.size, 0, none⟩) 1 c)
    (h : ∀ v' w', OwnS w' base v' (xs ++ [x]) → Below base w w' → wpList Tryd.prog ops Q rest (a.put o.dst v') w') :
    wpList Tryd.prog ops Q (o :: rest) a (w.alloc (.cells #[.string x] 9)) := by
  refine wpList_put1 hown Tryd.underlying26 info_strs rfl rfl hbase (by simp only [maxLen]; omega) (by omega) hgd s y ho hs hy ?_
  intro v' w' h1 h2
  refine h v' w' ?_ h2
  unfold OwnS
  rw [List.length_append]
  unfold ss
  rw [List.map_append]
  exact h1
theorem tv_get (T : List (List Nat × List Nat)) (j : Nat) (h : j < T.length) : (tv T)[2 * j]? = some (.string (mkS (T[j]'h).1)) ∧ (tv T)[2 * j + 1]? = some (.string (mkS (T[j]'h).2)) := by
  induction T generalizing j with
  | nil => simp at h
  | cons x T ih =>
    cases j with
    | zero => exact ⟨rfl, rfl⟩
    | succ j =>
      have h2 := ih j (by simpa using h)
      rw [show 2 * (j + 1) = 2 * j + 1 + 1 by omega]
      exact h2
/-- The two cells of a token in a row that is read. -/
theorem tok_at {w : World} {B : Nat} {A : Option Addr} {T : List (List Nat × List Nat)} (hr : Rd w B A (tv T)) (j : Nat) (h : j < T.length) : ∃ b o, A = some ⟨b, o, none⟩ ∧ b < B ∧ w.cell? ⟨b, o + 2 * j, none⟩ = some (.string (mkS (T[j]'h).1)) ∧ w.cell? ⟨b, o + 2 * j + 1, none⟩ = some (.string (mkS (T[j]'h).2)) := by
  obtain ⟨b, o, rfl, hb, hc⟩ := hr.at_ (by intro e; have h9 := congrArg List.length e; rw [tv_len] at h9; simp only [List.length_nil] at h9; omega)
  have h2 := tv_get T j h
  exact ⟨b, o, rfl, hb, hc _ _ h2.1, by have := hc _ _ h2.2; rwa [← Nat.add_assoc] at this⟩

/-- What Blank says. -/
def blk (L : List Nat) : Bool := decide ((SC L).1.length = 0) && decide ((SC L).2.2 = -1)
set_option maxHeartbeats 1000000 in
set_option maxRecDepth 100000 in
theorem Blank_any (s : ByteArray) (h2 : s.size ≤ 281474976710656) (w : World) (hk : Kx w) :
    Calls Tryd.prog 21 #[.string s] w fun e w' => e = .returned (.bool (blk (sb s))) ∧ Below w.heap.size w w' := by
  have HS := Lib.hid (Scan_any s h2 w hk)
  unfold blk
  generalize SC (sb s) = Z at HS ⊢
  obtain ⟨T, E, n⟩ := Z
  simp only at HS ⊢
  clear hk
  by_cases h0 : T.length = 0
  · have h0i : ((T.length : Nat) : Int) = 0 := by omega
    go_enter Tryd.func21, Tryd.ntmps21
    go_wp2_with (go_at_call 11; (with_reducible refine HS.out.mono ?_); rintro e w1 ⟨v1, rfl, hown, hb⟩; obtain ⟨A, c, rfl, _, _, _⟩ := hown.shape; clear hown)
    go_ret
    refine ⟨?_, hb⟩
    simp [h0]
    rfl
  · have h0i : (((T.length : Nat) : Int) == 0) = false := by rw [beq_eq_false_iff_ne]; omega
    go_enter Tryd.func21, Tryd.ntmps21
    go_wp2_with (go_at_call 11; (with_reducible refine HS.out.mono ?_); rintro e w1 ⟨v1, rfl, hown, hb⟩; obtain ⟨A, c, rfl, _, _, _⟩ := hown.shape; clear hown)
    go_ret
    refine ⟨?_, hb⟩
    simp [h0]
set_option maxHeartbeats 1000000 in
set_option maxRecDepth 100000 in
theorem texts_any (m cap B : Nat) (A : Option Addr) (T : List (List Nat × List Nat)) (w : World) (hm : m = T.length) (hm2 : m ≤ 100000) (hr : Rd w w.heap.size A (tv T)) :
    Calls Tryd.prog 36 #[.slice A m cap] w fun e w' => ∃ v', e = .returned v' ∧ OwnS w' w.heap.size v' (T.map fun x => mkS x.1) ∧ Below w.heap.size w w' := by
  have HM := Lib.hid hm
  have HR := Lib.hid hr
  clear hm hr
  go_enter Tryd.func36, Tryd.ntmps36
  go_wp2_with fail
  go_loopw [3, 4] (fun v i W => ∃ j : Nat, j ≤ m ∧ i = .int .i64 (j : Int) ∧ OwnS W w.heap.size v ((T.take j).map fun x => mkS x.1) ∧ Below w.heap.size w W) (fun _ i _ => m - (intOf i).toNat)
  case atStart => exact ⟨0, Nat.zero_le _, rfl, OwnS.nil _ _, Below.refl _ _⟩
  case round =>
    obtain ⟨j, hj, rfl, hown, hb⟩ := hrel
    by_cases hlt : j < m
    · have hjl : j < T.length := by have := HM.out; omega
      have hji : (j : Int) < (m : Int) := by omega
      have hj0 : (0 : Int) ≤ (j : Int) := by omega
      obtain ⟨b, o, rfl, hbB, hc1, hc2⟩ := tok_at HR.out j hjl
      have hc3 := (hb.cell (p := ⟨b, o + 2 * j, none⟩) hbB).trans hc1
      have hn : ((T.take (j + 1)).map fun x => mkS x.1) = ((T.take j).map fun x => mkS x.1) ++ [mkS T[j].1] := by rw [List.take_succ_eq_append_getElem hjl, List.map_append]; rfl
      have hl : ((T.take j).map fun x => mkS x.1).length ≤ 1000000 := by simp; omega
      have HN := Lib.hid hn
      generalize mkS T[j].1 = X at hc3 HN
      generalize ((T.take j).map fun x => mkS x.1) = M at HN hown hl
      clear hc1 hc2 hn hjl
      rw [show o + 2 * j = o + j * 2 by omega] at hc3
      go_wp2_with (refine wpList_putSt (x := X) hown hb.size hl rfl _ _ rfl rfl rfl ?_; intro v5 w5 hown5 hb5)
      go_roundw
      case rel => exact ⟨j + 1, by omega, by go_num, by rw [HN.out]; exact hown5, hb.trans hb5⟩
      case measure => simp [intOf]; omega
    · obtain rfl : j = m := by omega
      rw [List.take_of_length_le (by rw [HM.out]; exact Nat.le_refl _)] at hown
      go_wp2_with fail
      go_ret
      exact ⟨_, rfl, hown, hb⟩
end Go.Proofs.YtfbookfaodfmdaaDoor
