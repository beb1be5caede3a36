import Derived.Test.YtoopilemlgamkaaDoorG6
import Derived.Test.YtoopilemlgamkaaDoorH14
set_option linter.unusedVariables false
namespace Go.Proofs.YtoopilemlgamkaaDoor
open Go.RowKit

def dg (Z : List Nat) (j : Nat) : List Nat := Z.take j ++ List.replicate (16 - j) 0
theorem dg_zero (Z : List Nat) : dg Z 0 = List.replicate 16 0 := rfl
theorem dg_all (Z : List Nat) : dg Z 16 = Z.take 16 := by simp [dg]
theorem dg_get (Z : List Nat) (j : Nat) (hZ : Z.length = 32) (hj : j < 16) : (dg Z j)[j]? = some 0 := by
  have hl : (Z.take j).length = j := by rw [List.length_take]; omega
  unfold dg
  rw [List.getElem?_append_right (by omega), hl, Nat.sub_self, List.getElem?_replicate, if_pos (by omega)]
theorem dg_set (Z : List Nat) (j : Nat) (hZ : Z.length = 32) (hj : j < 16) : (dg Z j).set j (Z.getD j 0) = dg Z (j + 1) := by
  have hl : (Z.take j).length = j := by rw [List.length_take]; omega
  have hz : j < Z.length := by omega
  unfold dg
  rw [List.set_append_right _ _ (by omega), hl, Nat.sub_self, show 16 - j = (16 - (j + 1)) + 1 by omega, List.replicate_succ, List.set_cons_zero, List.take_succ_eq_append_getElem hz, List.getD_eq_getElem?_getD, List.getElem?_eq_getElem hz, List.append_assoc]
  rfl

set_option maxHeartbeats 1000000 in
set_option maxRecDepth 100000 in
theorem rshort_aux (A : Option Addr) (n c : Nat) (Z D : List Nat) (w : World) (FS : Hid (∀ W, Below w.heap.size w W → Calls Tryd.prog 15 #[.slice A n c] W fun e w' => e = .returned (.agg (bs Z).toArray) ∧ Below W.heap.size W w'))
    (HZ : Hid (Z.length = 32)) (HD : Hid (Z.take 16 = D)) (HZB : Hid (AllB Z)) :
    Calls Tryd.prog 45 #[.slice A n c] w fun e w' => e = .returned (.agg (bs D).toArray) ∧ Below w.heap.size w w' := by
  have HBL : Hid ((bs Z).length = 32) := by show (bs Z).length = 32; rw [bs_len, HZ.out]
  go_enter Tryd.func45, Tryd.ntmps45
  go_upto_region 1 with fail
  have a1 := Arr.new' w 44 #[.int .u8 0, .int .u8 0, .int .u8 0, .int .u8 0, .int .u8 0, .int .u8 0, .int .u8 0, .int .u8 0, .int .u8 0, .int .u8 0, .int .u8 0, .int .u8 0, .int .u8 0, .int .u8 0, .int .u8 0, .int .u8 0] 16 (bs (List.replicate 16 0)) rfl (by simp [bs]) (by decide)
  have hbw := new_later w (.cells #[.int .u8 0, .int .u8 0, .int .u8 0, .int .u8 0, .int .u8 0, .int .u8 0, .int .u8 0, .int .u8 0, .int .u8 0, .int .u8 0, .int .u8 0, .int .u8 0, .int .u8 0, .int .u8 0, .int .u8 0, .int .u8 0] 44)
  generalize hW : w.alloc (.cells #[.int .u8 0, .int .u8 0, .int .u8 0, .int .u8 0, .int .u8 0, .int .u8 0, .int .u8 0, .int .u8 0, .int .u8 0, .int .u8 0, .int .u8 0, .int .u8 0, .int .u8 0, .int .u8 0, .int .u8 0, .int .u8 0] 44) = wa at a1 hbw ⊢
  clear hW
  go_upto_region 3 with (first
    | (go_at_call 15; with_reducible refine (FS.out _ hbw).mono ?_; rintro e w3 ⟨rfl, b3⟩)
    | (with_reducible refine wpList_store_new rfl _ (.tmp 3) (.tmp 7) rfl rfl rfl info_sum HBL.out rfl (all_oneCell_toArray (bs_cell Z)) ?_; intro w5 hbel5 hrow5 hsz5))
  have A3 : Arr w5 w3.heap.size 32 24 (bs Z) := Arr.of_row hrow5 HBL.out (by decide)
  have A1 := (a1.later b3).later hbel5
  have V5 := later (later hbw b3) hbel5
  have hl1 := a1.lt
  have hs3 := b3.size
  have n4 := Arr.new' w5 44 #[.int .u8 0, .int .u8 0, .int .u8 0, .int .u8 0, .int .u8 0, .int .u8 0, .int .u8 0, .int .u8 0, .int .u8 0, .int .u8 0, .int .u8 0, .int .u8 0, .int .u8 0, .int .u8 0, .int .u8 0, .int .u8 0] 16 (bs (List.replicate 16 0)) rfl (by simp [bs]) (by decide)
  have nb4 := new_later w5 (.cells #[.int .u8 0, .int .u8 0, .int .u8 0, .int .u8 0, .int .u8 0, .int .u8 0, .int .u8 0, .int .u8 0, .int .u8 0, .int .u8 0, .int .u8 0, .int .u8 0, .int .u8 0, .int .u8 0, .int .u8 0, .int .u8 0] 44)
  have A3' := A3.later nb4
  have A1' := A1.later nb4
  have V6 := later V5 nb4
  generalize hW : w5.alloc (.cells #[.int .u8 0, .int .u8 0, .int .u8 0, .int .u8 0, .int .u8 0, .int .u8 0, .int .u8 0, .int .u8 0, .int .u8 0, .int .u8 0, .int .u8 0, .int .u8 0, .int .u8 0, .int .u8 0, .int .u8 0, .int .u8 0] 44) = w6 at n4 nb4 A3' A1' V6 ⊢
  clear hW nb4 A1 A3 V5 a1 hbw b3 hbel5 hrow5
  obtain ⟨G4, hG4⟩ : ∃ G, w5.heap.size = G := ⟨_, rfl⟩
  obtain ⟨G3, hG3⟩ : ∃ G, w3.heap.size = G := ⟨_, rfl⟩
  rw [hG4] at n4 hsz5 ⊢
  rw [hG3] at A3' hs3 hsz5 ⊢
  clear hG3 hG4
  have hq1 : w.heap.size < G3 := by omega
  have hq2 : G3 < G4 := by omega
  go_wp2_with fail
  go_loopw [5] (fun i W => ∃ j : Nat, j ≤ 16 ∧ i = .int .i64 (j : Int) ∧ Arr W G4 16 44 (bs (dg Z j)) ∧ Arr W G3 32 24 (bs Z) ∧ Arr W w.heap.size 16 44 (bs (List.replicate 16 0)) ∧ Below w.heap.size w W) (fun i _ => 16 - (intOf i).toNat)
  case atStart => exact ⟨0, by omega, rfl, n4, A3', A1', V6⟩
  case round =>
    obtain ⟨j, hj, rfl, e4, e3, e1, hb⟩ := hrel
    clear n4 A3' A1' V6
    by_cases hlt : j < 16
    · have hZj : (bs Z)[j]? = some (.int .u8 ((Z.getD j 0 : Nat) : Int)) := by
        have := bs_get Z j (by have := HZ.out; omega)
        rw [List.getD_eq_getElem?_getD]; exact this
      have hcz := e3.cell hZj
      have hzb := getD_lt HZB.out (by decide) j
      have hco := e4.cell (by have := bs_get (dg Z j) j (by unfold dg; rw [List.length_append, List.length_take, List.length_replicate]; have := HZ.out; omega); rw [dg_get Z j HZ.out hlt] at this; exact this)
      have hfo := e4.free j
      have hset := bs_setN (dg Z j) j (Z.getD j 0)
      rw [dg_set Z j HZ.out hlt] at hset
      generalize Z.getD j 0 = X at hcz hzb hset
      have HSET := Lib.hid hset
      have E4 := Lib.hid e4
      have E3 := Lib.hid e3
      have E1 := Lib.hid e1
      have hji : (j : Int) < 16 := by omega
      have hji2 : (j : Int) < 32 := by omega
      have hj0 : (0 : Int) ≤ (j : Int) := by omega
      clear hset hZj e4 e3 e1
      go_wp2_with fail
      go_roundw
      case rel => exact ⟨j + 1, by omega, by go_num, by rw [← HSET.out]; exact E4.out.set_ _ _, E3.out.other (by omega) _, E1.out.other (by omega) _, hb.setCell (show w.heap.size ≤ G4 by omega) _⟩
      case measure => simp [intOf]; omega
    · have hj16 : j = 16 := by omega
      subst hj16
      rw [dg_all, HD.out] at e4
      have hR := Lib.hid e4.range
      have HDL : Hid ((bs D).length = 16) := by show (bs D).length = 16; rw [bs_len, ← HD.out, List.length_take, HZ.out]; rfl
      have HI5 : Hid ((Tryd.prog.info? 44).map (·.size) = some (bs D).length) := Lib.hid (by rw [HDL.out]; exact info_dig)
      clear e4 e3
      go_wp2_with (first
        | (with_reducible refine wpList_load_mid rfl _ (.tmp 4) rfl G4 0 rfl (bs D) _ hR.out Tryd.underlying44 rfl HI5.out ?_)
        | (refine wpList_store_arr rfl _ (.tmp 2) (.tmp 18) rfl w.heap.size 0 16 44 _ (bs D) _ rfl rfl rfl e1 (by rw [HDL.out]; omega) HI5.out (bs_cell D) ?_; intro w9 f9 o9; have hbw9 := hb.trans o9.bel; rw [setAll_all _ _ (by rw [HDL.out, bs_len]; rfl)] at f9))
      exact bodyPost_ret (results_one rfl _ _ w.heap.size (bs D) _ rfl f9.range Tryd.underlying44 rfl HI5.out) rfl ⟨rfl, hbw9⟩
theorem rshort_any (A : Option Addr) (n c : Nat) (zs : List Nat) (w : World) (hn : n = zs.length) (hr : Rd w w.heap.size A (bs zs)) (hb : AllB zs) (hsz : zs.length ≤ 1000000) (hk : Kr w) :
    Calls Tryd.prog 45 #[.slice A n c] w fun e w' => e = .returned (.agg (bs ((sha zs).take 16)).toArray) ∧ Below w.heap.size w w' := by
  obtain ⟨Z, hZ⟩ : ∃ Z, sha zs = Z := ⟨_, rfl⟩
  rw [hZ]
  refine rshort_aux A n c Z (Z.take 16) w ?_ (Lib.hid (by rw [← hZ]; exact sha_len _)) (Lib.hid rfl) (Lib.hid (by rw [← hZ]; exact sha_all _))
  exact Lib.hid fun W hW => by rw [← hZ]; exact rsum_any A n c zs W hn ((hr.below hW).more hW.size) hb hsz (hk.later hW)

set_option maxHeartbeats 1000000 in
set_option maxRecDepth 100000 in
theorem rinput_aux (tag : Int) (T : Nat) (A : Option Addr) (m cap : Nat) (l : List ByteArray) (w : World) (hT : tag % 256 = (T : Int)) (HM : Hid (m = l.length)) (hr : Rd w w.heap.size A (ss l)) (HIN : Hid (∀ s ∈ l, s.size ≤ 100000)) (hl : m ≤ 1000) :
    Calls Tryd.prog 26 #[.int .i64 tag, .slice A m cap] w fun e w' => ∃ v', e = .returned v' ∧ OwnB w' w.heap.size v' (ofIn tag l) ∧ Below w.heap.size w w' := by
  have hwr : IntKind.u8.wrap tag = (T : Int) := by rw [IntKind.wrap_u8']; exact hT
  have own0 : OwnB (w.alloc (.cells #[.int .u8 (T : Int)] 5)) w.heap.size (.slice (some ⟨w.heap.size, 0, none⟩) 1 1) (ofIn tag []) := by
    have h := arr_new w 5 #[.int .u8 (T : Int)] 1 rfl (by decide)
    have e : ofIn tag [] = [T] := by rw [ofIn_zero, hT]; rfl
    rw [e]; exact h
  have hb0 := new_later w (.cells #[.int .u8 (T : Int)] 5)
  have HR := Lib.hid hr
  clear hT hr
  go_enter Tryd.func26, Tryd.ntmps26
  go_wp2_with fail
  go_loopw [5, 6] (fun v i W => ∃ k : Nat, k ≤ m ∧ i = .int .i64 (k : Int) ∧ OwnB W w.heap.size v (ofIn tag (l.take k)) ∧ Below w.heap.size w W) (fun _ i _ => m - (intOf i).toNat)
  case atStart => exact ⟨0, Nat.zero_le _, rfl, own0, hb0⟩
  case round =>
    obtain ⟨k, hk, rfl, hown, hb⟩ := hrel
    have hbs := hb.size
    clear own0 hb0
    by_cases hlt : k < m
    · have hlt' : k < l.length := by have := HM.out; omega
      obtain ⟨b, o, rfl, _, hc⟩ := (HR.out.below hb).at_ (by intro h; have := congrArg List.length h; simp [ss] at this; subst this; simp at hlt')
      have hcell := hc k _ (ss_get l k hlt')
      have hin := HIN.out l[k] (List.getElem_mem hlt')
      rw [List.getElem?_eq_getElem hlt', Option.getD_some] at hcell
      have hsn := ofIn_snoc tag (l.take k) l[k]
      rw [← List.take_succ_eq_append_getElem hlt'] at hsn
      have HSN := Lib.hid hsn
      have hML := ofIn_len tag (l.take k) (fun s hs => HIN.out s (List.mem_of_mem_take hs))
      have hMk : (l.take k).length ≤ 1000 := by rw [List.length_take]; omega
      have heL := encS_len l[k] hin
      generalize ofIn tag (l.take k) = M at hown HSN hML
      generalize l[k] = S at hcell hin HSN heL
      have FB : Hid (∀ W, Calls Tryd.prog 46 #[.string S] W (RowRes (encS S) W)) := Lib.hid fun W => RowRes.of (refBytes_any S W (by omega))
      have hML2 : M.length ≤ 200000000 := by omega
      have hkm : (k : Int) < (m : Int) := by omega
      have hk0 : (0 : Int) ≤ (k : Int) := by omega
      clear hc hsn hML hMk
      generalize encS S = ES at FB HSN heL
      go_wp2_with (first
        | (go_at_call 46; refine (FB.out _).mono ?_; rintro e w3 ⟨A3, c3, rfl, hr3, _, _, hb3⟩)
        | (at_builtin; refine wpList_putL (hown.below hb3) hr3 rfl (Nat.le_trans hbs hb3.size) (by omega) rfl _ _ rfl rfl rfl ?_; intro v4 w4 hown4 hbel4))
      go_roundw
      case rel => exact ⟨k + 1, by omega, by go_num, by rw [HSN.out]; exact hown4, (later hb hb3).trans hbel4⟩
      case measure => simp [intOf]; omega
    · have hkm : k = m := by omega
      subst hkm
      have hlen : l.take k = l := List.take_of_length_le (by have := HM.out; omega)
      rw [hlen] at hown
      have hkk : ((k : Int) < (k : Int)) = False := by simp
      clear hlen
      go_wp2_with fail
      go_ret
      exact ⟨_, rfl, hown, hb⟩
theorem rinput_any (tag : Int) (A : Option Addr) (m cap : Nat) (l : List ByteArray) (w : World) (hm : m = l.length) (hr : Rd w w.heap.size A (ss l)) (hin : ∀ s ∈ l, s.size ≤ 100000) (hl : m ≤ 1000) :
    Calls Tryd.prog 26 #[.int .i64 tag, .slice A m cap] w fun e w' => ∃ v', e = .returned v' ∧ OwnB w' w.heap.size v' (ofIn tag l) ∧ Below w.heap.size w w' :=
  rinput_aux tag (tag % 256).toNat A m cap l w (by omega) (Lib.hid hm) hr (Lib.hid hin) hl
end Go.Proofs.YtoopilemlgamkaaDoor
