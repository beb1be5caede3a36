import Derived.Test.YtoopilemlgamkaaDoorG7
set_option linter.unusedVariables false
namespace Go.Proofs.YtoopilemlgamkaaDoor
open Go.RowKit

set_option maxHeartbeats 1000000 in
set_option maxRecDepth 100000 in
theorem rof_aux (tag : Int) (A : Option Addr) (m cap : Nat) (M D : List Nat) (w : World) (HD : Hid (D.length = 16))
    (FI : Hid (∀ W, Below w.heap.size w W → Calls Tryd.prog 26 #[.int .i64 tag, .slice A m cap] W fun e w' => ∃ v', e = .returned v' ∧ OwnB w' W.heap.size v' M ∧ Below W.heap.size W w'))
    (FS : Hid (∀ W A n c, Below w.heap.size w W → n = M.length → Rd W W.heap.size A (bs M) → Calls Tryd.prog 45 #[.slice A n c] W fun e w' => e = .returned (.agg (bs D).toArray) ∧ Below W.heap.size W w')) :
    Calls Tryd.prog 25 #[.int .i64 tag, .slice A m cap] w fun e w' => e = .returned (.agg (bs D).toArray) ∧ Below w.heap.size w w' := by
  have HDL : Hid ((bs D).length = 16) := by show (bs D).length = 16; rw [bs_len, HD.out]
  have HI5 : Hid ((Tryd.prog.info? 44).map (·.size) = some (bs D).length) := Lib.hid (by rw [HDL.out]; exact info_dig)
  go_enter Tryd.func25, Tryd.ntmps25
  go_upto_region 1 with fail
  have a1 := Arr.new' w 44 #[.int .u8 0, .int .u8 0, .int .u8 0, .int .u8 0, .int .u8 0, .int .u8 0, .int .u8 0, .int .u8 0, .int .u8 0, .int .u8 0, .int .u8 0, .int .u8 0, .int .u8 0, .int .u8 0, .int .u8 0, .int .u8 0] 16 (bs (List.replicate 16 0)) rfl (by simp [bs]) (by decide)
  have hbw := new_later w (.cells #[.int .u8 0, .int .u8 0, .int .u8 0, .int .u8 0, .int .u8 0, .int .u8 0, .int .u8 0, .int .u8 0, .int .u8 0, .int .u8 0, .int .u8 0, .int .u8 0, .int .u8 0, .int .u8 0, .int .u8 0, .int .u8 0] 44)
  generalize hW : w.alloc (.cells #[.int .u8 0, .int .u8 0, .int .u8 0, .int .u8 0, .int .u8 0, .int .u8 0, .int .u8 0, .int .u8 0, .int .u8 0, .int .u8 0, .int .u8 0, .int .u8 0, .int .u8 0, .int .u8 0, .int .u8 0, .int .u8 0] 44) = wa at a1 hbw ⊢
  clear hW
  go_wp2_with (first
    | (go_at_call 26; with_reducible refine (FI.out _ hbw).mono ?_; rintro e w1 ⟨v1, rfl, o1, b1⟩; have V1 := later hbw b1; have A1 := a1.later b1; obtain ⟨A2, n2, c2, rfl, HN2⟩ := o1.shape'; clear FI b1)
    | (go_at_call 45; with_reducible refine (FS.out _ A2 n2 c2 V1 HN2.out o1.rd).mono ?_; rintro e w2 ⟨rfl, b2⟩; have V2 := later V1 b2; have A2' := A1.later b2; clear FS b2)
    | (refine wpList_store_arr rfl _ (.tmp 4) (.tmp 8) rfl w.heap.size 0 16 44 _ (bs D) _ rfl rfl rfl A2' (by rw [HDL.out]; omega) HI5.out (bs_cell D) ?_; intro w9 f9 o9; have hbw9 := V2.trans o9.bel; rw [setAll_all _ _ (by rw [HDL.out, bs_len]; rfl)] at f9))
  exact bodyPost_ret (results_one rfl _ _ w.heap.size (bs D) _ rfl f9.range Tryd.underlying44 rfl HI5.out) rfl ⟨rfl, hbw9⟩
theorem rof_any (tag : Int) (A : Option Addr) (m cap : Nat) (l : List ByteArray) (w : World) (hm : m = l.length) (hr : Rd w w.heap.size A (ss l)) (hin : ∀ s ∈ l, s.size ≤ 1000) (hl : m ≤ 100) (hk : Kr w) :
    Calls Tryd.prog 25 #[.int .i64 tag, .slice A m cap] w fun e w' => e = .returned (.agg (bs ((sha (ofIn tag l)).take 16)).toArray) ∧ Below w.heap.size w w' := by
  have hin2 : ∀ s ∈ l, s.size ≤ 100000 := fun s hs => Nat.le_trans (hin s hs) (by decide)
  have hML : (ofIn tag l).length ≤ 1000000 := by
    have h1 : ∀ s ∈ l, (encS s).length ≤ 1009 := fun s hs => by
      have h2 := (enc_len s.size (by have := hin s hs; omega)).2
      have h3 := hin s hs
      unfold encS; rw [List.length_append, sb_len]; omega
    have h2 := flatMap_len_le encS 1009 l h1
    unfold ofIn; rw [List.length_cons]; omega
  have hMB := ofIn_all tag l hin2
  obtain ⟨M, hM⟩ : ∃ M, ofIn tag l = M := ⟨_, rfl⟩
  rw [hM] at hML hMB ⊢
  refine rof_aux tag A m cap M _ w (Lib.hid (by rw [List.length_take, sha_len]; rfl)) ?_ ?_
  · exact Lib.hid fun W hW => by rw [← hM]; exact rinput_any tag A m cap l W hm ((hr.below hW).more hW.size) hin2 (by omega)
  · exact Lib.hid fun W A n c hW hn hr => rshort_any A n c M W hn hr hMB hML (hk.later hW)

/-- Strings, one after the other. -/
def joinB (l : List ByteArray) : ByteArray := l.foldl (· ++ ·) ByteArray.empty
theorem joinB_snoc (l : List ByteArray) (s : ByteArray) : joinB (l ++ [s]) = joinB l ++ s := by unfold joinB; rw [List.foldl_append]; rfl
theorem sb_app (a b : ByteArray) : sb (a ++ b) = sb a ++ sb b := by simp [sb]
theorem sb_join : ∀ l : List ByteArray, sb (joinB l) = l.flatMap sb := by
  intro l
  have h : ∀ (l : List ByteArray) (a : ByteArray), sb (l.foldl (· ++ ·) a) = sb a ++ l.flatMap sb := by
    intro l
    induction l with
    | nil => intro a; simp
    | cons s l ih => intro a; rw [List.foldl_cons, ih, sb_app, List.flatMap_cons, List.append_assoc]
  unfold joinB
  rw [h]; exact List.nil_append _
theorem size_app (a b : ByteArray) : (a ++ b).size = a.size + b.size := by
  have := congrArg List.length (sb_app a b)
  rw [sb_len, List.length_append, sb_len, sb_len] at this; exact this
theorem join_size (B : Nat) (l : List ByteArray) (h : ∀ s ∈ l, s.size ≤ B) : (joinB l).size ≤ B * l.length := by
  have h1 := flatMap_len_le sb B l (fun s hs => by rw [sb_len]; exact h s hs)
  have h2 := congrArg List.length (sb_join l)
  rw [sb_len] at h2
  omega

set_option maxHeartbeats 1000000 in
set_option maxRecDepth 100000 in
theorem joined_any (A : Option Addr) (m cap : Nat) (l : List ByteArray) (w : World) (hm : m = l.length) (hr : Rd w w.heap.size A (ss l)) (hin : ∀ s ∈ l, s.size ≤ 1000) (hl : m ≤ 100) :
    Calls Tryd.prog 19 #[.slice A m cap] w fun e w' => e = .returned (.string (joinB l)) ∧ w' = w := by
  have HM := Lib.hid hm
  have HR := Lib.hid hr
  have HIN := Lib.hid hin
  clear hm hr hin
  go_enter Tryd.func19, Tryd.ntmps19
  go_wp2_with fail
  go_loopw [3, 4] (fun v i W => ∃ k : Nat, k ≤ m ∧ i = .int .i64 (k : Int) ∧ v = .string (joinB (l.take k)) ∧ W = w) (fun _ i _ => m - (intOf i).toNat)
  case atStart => exact ⟨0, Nat.zero_le _, rfl, rfl, rfl⟩
  case round =>
    obtain ⟨k, hk, rfl, rfl, rfl⟩ := hrel
    by_cases hlt : k < m
    · have hlt' : k < l.length := by have := HM.out; omega
      obtain ⟨b, o, rfl, _, hc⟩ := HR.out.at_ (by intro h; have := congrArg List.length h; simp [ss] at this; subst this; simp at hlt')
      have hcell := hc k _ (ss_get l k hlt')
      have hin := HIN.out l[k] (List.getElem_mem hlt')
      rw [List.getElem?_eq_getElem hlt', Option.getD_some] at hcell
      have hsn := joinB_snoc (l.take k) l[k]
      rw [← List.take_succ_eq_append_getElem hlt'] at hsn
      have hsz := join_size 1000 (l.take k) (fun s hs => HIN.out s (List.mem_of_mem_take hs))
      have hMk : (l.take k).length ≤ 100 := by rw [List.length_take]; omega
      have HSN := Lib.hid hsn
      generalize joinB (l.take k) = J at HSN hsz ⊢
      generalize l[k] = S at hcell hin HSN
      have hJ : J.size ≤ 100000 := by omega
      have hkm : (k : Int) < (m : Int) := by omega
      have hk0 : (0 : Int) ≤ (k : Int) := by omega
      clear hc hsn hMk hsz
      go_wp2_with fail
      go_roundw
      case rel => exact ⟨k + 1, by omega, by go_num, by rw [HSN.out], by trivial⟩
      case measure => simp [intOf]; omega
    · have hkm : k = m := by omega
      subst hkm
      have hlen : l.take k = l := List.take_of_length_le (by have := HM.out; omega)
      rw [hlen]
      have hkk : ((k : Int) < (k : Int)) = False := by simp
      clear hlen
      go_wp2_with fail
      go_ret
      exact ⟨rfl, rfl⟩

def fewS (l : List ByteArray) : Prop := l.length ≤ 12 ∧ ∀ s ∈ l, s.size ≤ 400
instance (l : List ByteArray) : Decidable (fewS l) := by unfold fewS; infer_instance
set_option maxHeartbeats 1000000 in
set_option maxRecDepth 100000 in
theorem few_yes (A : Option Addr) (m cap : Nat) (l : List ByteArray) (w : World) (hm : m = l.length) (hr : Rd w w.heap.size A (ss l)) (hf : fewS l) :
    Calls Tryd.prog 16 #[.slice A m cap] w fun e w' => e = .returned (.bool true) ∧ w' = w := by
  have HM := Lib.hid hm
  have HR := Lib.hid hr
  have HIN := Lib.hid hf.2
  have h12 : ¬ (12 : Int) < (m : Int) := by have := hf.1; omega
  have hm12 : m ≤ 12 := by have := hf.1; omega
  clear hm hr hf
  go_enter Tryd.func16, Tryd.ntmps16
  go_wp2_with fail
  go_loopw [3] (fun i W => ∃ k : Nat, k ≤ m ∧ i = .int .i64 (k : Int) ∧ W = w) (fun i _ => m - (intOf i).toNat)
  case atStart => exact ⟨0, Nat.zero_le _, rfl, rfl⟩
  case round =>
    obtain ⟨k, hk, rfl, rfl⟩ := hrel
    by_cases hlt : k < m
    · have hlt' : k < l.length := by have := HM.out; omega
      obtain ⟨b, o, rfl, _, hc⟩ := HR.out.at_ (by intro h; have := congrArg List.length h; simp [ss] at this; subst this; simp at hlt')
      have hcell := hc k _ (ss_get l k hlt')
      have hin := HIN.out l[k] (List.getElem_mem hlt')
      rw [List.getElem?_eq_getElem hlt', Option.getD_some] at hcell
      generalize l[k] = S at hcell hin
      have hS : ¬ (400 : Int) < (S.size : Int) := by omega
      have hkm : (k : Int) < (m : Int) := by omega
      have hk0 : (0 : Int) ≤ (k : Int) := by omega
      clear hc
      go_wp2_with fail
      go_roundw
      case rel => exact ⟨k + 1, by omega, by go_num, by trivial⟩
      case measure => simp [intOf]; omega
    · have hkm : k = m := by omega
      subst hkm
      have hkk : ((k : Int) < (k : Int)) = False := by simp
      go_wp2_with fail
      go_ret
      exact ⟨rfl, rfl⟩
set_option maxHeartbeats 1000000 in
set_option maxRecDepth 100000 in
theorem few_no (A : Option Addr) (m cap : Nat) (l : List ByteArray) (w : World) (hm : m = l.length) (hr : Rd w w.heap.size A (ss l)) (hf : ¬ fewS l) :
    Calls Tryd.prog 16 #[.slice A m cap] w fun e w' => e = .returned (.bool false) ∧ w' = w := by
  have HM := Lib.hid hm
  have HR := Lib.hid hr
  have HF := Lib.hid hf
  clear hm hr hf
  by_cases h12 : (12 : Int) < (m : Int)
  · go_enter Tryd.func16, Tryd.ntmps16
    go_wp2_with fail
    go_ret
    exact ⟨rfl, rfl⟩
  · have hm12 : m ≤ 12 := by omega
    go_enter Tryd.func16, Tryd.ntmps16
    go_wp2_with fail
    go_loopw [3] (fun i W => ∃ k : Nat, k ≤ m ∧ i = .int .i64 (k : Int) ∧ W = w ∧ Hid (∀ s ∈ l.take k, s.size ≤ 400)) (fun i _ => m - (intOf i).toNat)
    case atStart => exact ⟨0, Nat.zero_le _, rfl, rfl, Lib.hid (fun s hs => by simp at hs)⟩
    case round =>
      obtain ⟨k, hk, rfl, rfl, HH⟩ := hrel
      by_cases hlt : k < m
      · have hlt' : k < l.length := by have := HM.out; omega
        obtain ⟨b, o, rfl, _, hc⟩ := HR.out.at_ (by intro h; have := congrArg List.length h; simp [ss] at this; subst this; simp at hlt')
        have hcell := hc k _ (ss_get l k hlt')
        rw [List.getElem?_eq_getElem hlt', Option.getD_some] at hcell
        have HN : Hid (l[k].size ≤ 400 → ∀ s ∈ l.take (k + 1), s.size ≤ 400) := Lib.hid fun h s hs => by
          rw [List.take_succ_eq_append_getElem hlt'] at hs
          rcases List.mem_append.1 hs with h1 | h1
          · exact HH.out s h1
          · rw [List.mem_singleton] at h1; subst h1; exact h
        generalize l[k] = S at hcell HN
        have hkm : (k : Int) < (m : Int) := by omega
        have hk0 : (0 : Int) ≤ (k : Int) := by omega
        clear hc
        by_cases hS : (400 : Int) < (S.size : Int)
        · go_wp2_with fail
          go_ret
          exact ⟨rfl, rfl⟩
        · have HN2 := Lib.hid (HN.out (by omega))
          go_wp2_with fail
          go_roundw
          case rel => exact ⟨k + 1, by omega, by go_num, by trivial, HN2⟩
          case measure => simp [intOf]; omega
      · have hkm : k = m := by omega
        subst hkm
        exact absurd (⟨by have := HM.out; omega, by have h := HH.out; rw [List.take_of_length_le (by have := HM.out; omega)] at h; exact h⟩ : fewS l) HF.out
end Go.Proofs.YtoopilemlgamkaaDoor
