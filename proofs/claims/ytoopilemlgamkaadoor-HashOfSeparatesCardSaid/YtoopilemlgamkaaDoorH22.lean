import Derived.Test.YtoopilemlgamkaaDoorH21
set_option linter.unusedVariables false
set_option linter.unusedSimpArgs false
namespace Go.Proofs.YtoopilemlgamkaaDoor
open Go.RowKit

theorem enc_inj {n n' : Nat} {r r' : List Nat} (h : enc (n : Int) ++ r = enc (n' : Int) ++ r') : n = n' ∧ r = r' := by
  rw [enc_pos, enc_pos, List.cons_append, List.cons_append] at h
  have h1 := (List.cons.inj h).1
  have h2 := (List.cons.inj h).2
  have h3 := List.append_inj h2 (by omega)
  refine ⟨?_, h3.2⟩
  rw [← val_digs n, ← val_digs n', h3.1]
theorem encS_inj {s s' : ByteArray} {r r' : List Nat} (h : encS s ++ r = encS s' ++ r') : s = s' ∧ r = r' := by
  unfold encS at h
  rw [List.append_assoc, List.append_assoc] at h
  have h1 := enc_inj h
  have h2 := List.append_inj h1.2 (by rw [sb_len, sb_len]; exact h1.1)
  exact ⟨sb_inj h2.1, h2.2⟩
theorem encS_ne (s : ByteArray) : encS s ≠ [] := by
  unfold encS
  rw [enc_pos]; simp
theorem encs_inj : ∀ (l l' : List ByteArray), l.flatMap encS = l'.flatMap encS → l = l'
  | [], [], _ => rfl
  | [], s :: l', h => by
    rw [List.flatMap_nil, List.flatMap_cons] at h
    exact absurd (List.append_eq_nil_iff.1 h.symm).1 (encS_ne s)
  | s :: l, [], h => by
    rw [List.flatMap_nil, List.flatMap_cons] at h
    exact absurd (List.append_eq_nil_iff.1 h).1 (encS_ne s)
  | s :: l, s' :: l', h => by
    rw [List.flatMap_cons, List.flatMap_cons] at h
    have h1 := encS_inj h
    rw [h1.1, encs_inj l l' h1.2]
theorem ofIn_inj {t t' : Nat} {l l' : List ByteArray} (ht : t < 256) (ht' : t' < 256) (h : ofIn (t : Int) l = ofIn (t' : Int) l') : t = t' ∧ l = l' := by
  unfold ofIn at h
  have h1 := (List.cons.inj h).1
  exact ⟨by omega, encs_inj _ _ (List.cons.inj h).2⟩
theorem mkS_inj {x y : List Nat} (hx : AllB x) (hy : AllB y) (h : mkS x = mkS y) : x = y := by
  rw [← sb_mkS x hx, ← sb_mkS y hy, h]
theorem wpList_eqlArr {P : Program} {ops : Array Oper} {rest : List Oper} {op : Oper} {a : Act} {w : World} {Q : Exit → Act → World → Prop} (ty : TypeId) (x y : Operand) (u : TypeId) (ho : op.op = .binOp .eql ty x y u) (hw : Region.wanted op (yielded ops a.tmps) = true)
    (X Y : Array Value) (hx : a.eval x = .agg X) (hy : a.eval y = .agg Y) (b : Bool) (heg : P.eqGuardType P.depth ty = false) (hrun : ∀ W, (binOp .eql ty (.agg X) (.agg Y)).run P W = .ok (.bool b) W)
    (h : wpList P ops Q rest (a.put op.dst (.bool b)) w) : wpList P ops Q (op :: rest) a w :=
  wpList_step fun K hK => by
    rw [if_pos hw]
    exact wp_eqlArr ty x y u ho X Y hx hy heg (hrun w) (hK _ _ h)
theorem take_same {α : Type} [DecidableEq α] {a b : List α} {i : Nat} (ha : i < a.length) (hb : i < b.length) (h : a.take i = b.take i) : (a.take (i + 1) = b.take (i + 1)) ↔ a[i] = b[i] := by
  rw [List.take_succ_eq_append_getElem ha, List.take_succ_eq_append_getElem hb, h]
  constructor
  · intro e; exact (List.cons.inj (List.append_inj' e rfl).2).1
  · intro e; rw [e]
theorem take_diff {α : Type} {a b : List α} {i : Nat} (h : ¬ a.take i = b.take i) : ¬ a.take (i + 1) = b.take (i + 1) := fun e => h (by
  have := congrArg (List.take i) e
  rwa [List.take_take, List.take_take, Nat.min_eq_left (by omega)] at this)

set_option maxHeartbeats 2000000 in
set_option maxRecDepth 100000 in
theorem hos_many (t0 t1 : Nat) (A : Option Addr) (la ca : Nat) (B : Option Addr) (lb cb : Nat) (w : World) (p : Bool)
    (SA : Hid (∀ W, Below w.heap.size w W → Calls Tryd.prog 13 #[] W fun e w' => e = .returned (.bool true) ∧ Below W.heap.size W w'))
    (EF1 : Hid (∀ W, Below w.heap.size w W → Calls Tryd.prog 16 #[.slice A la ca] W fun e w' => e = .returned (.bool p) ∧ w' = W))
    (EF2 : Hid (p = true → ∀ W, Below w.heap.size w W → Calls Tryd.prog 16 #[.slice B lb cb] W fun e w' => e = .returned (.bool false) ∧ w' = W)) :
    Calls Tryd.prog 8 #[.agg #[.int .u8 (t0 : Int), .int .u8 (t1 : Int)], .slice A la ca, .slice B lb cb] w (LawRes w) := by
  have hb0 := new_later w (.cells #[.int .u8 (t0 : Int), .int .u8 (t1 : Int)] 48)
  cases p
  · go_enter Tryd.func8, Tryd.ntmps8
    go_wp2_with (first
      | (go_at_call 13; refine (SA.out _ hb0).mono ?_; rintro e w1 ⟨rfl, hb1⟩; have U1 := later hb0 hb1; clear hb1 SA)
      | (go_at_call 16; with_reducible refine (EF1.out _ U1).mono ?_; rintro e w2 ⟨rfl, rfl⟩; clear EF1))
    go_ret
    exact ⟨rfl, U1⟩
  · have EF := Lib.hid (EF2.out rfl)
    clear EF2
    go_enter Tryd.func8, Tryd.ntmps8
    go_wp2_with (first
      | (go_at_call 13; refine (SA.out _ hb0).mono ?_; rintro e w1 ⟨rfl, hb1⟩; have U1 := later hb0 hb1; clear hb1 SA)
      | (go_at_call 16; with_reducible refine (EF1.out _ U1).mono ?_; rintro e w2 ⟨rfl, rfl⟩; clear EF1)
      | (go_at_call 16; with_reducible refine (EF.out _ U1).mono ?_; rintro e w2 ⟨rfl, rfl⟩; clear EF))
    go_ret
    exact ⟨rfl, U1⟩

set_option maxHeartbeats 8000000 in
set_option maxRecDepth 100000 in
theorem hos_main (t0 t1 : Nat) (A : Option Addr) (la ca : Nat) (a : List ByteArray) (B : Option Addr) (lb cb : Nat) (b : List ByteArray) (w : World) (ht0 : t0 < 256) (ht1 : t1 < 256)
    (HA : Hid (la = a.length)) (HB : Hid (lb = b.length)) (HRA : Hid (Rd w w.heap.size A (ss a))) (HRB : Hid (Rd w w.heap.size B (ss b))) (hla : la ≤ 12) (hlb : lb ≤ 12)
    (XA XB Z1 Z2 D1 D2 : List Nat) (SX SY : ByteArray) (d : Bool)
    (SA : Hid (∀ W, Below w.heap.size w W → Calls Tryd.prog 13 #[] W fun e w' => e = .returned (.bool true) ∧ Below W.heap.size W w'))
    (EF1 : Hid (∀ W, Below w.heap.size w W → Calls Tryd.prog 16 #[.slice A la ca] W fun e w' => e = .returned (.bool true) ∧ w' = W))
    (EF2 : Hid (∀ W, Below w.heap.size w W → Calls Tryd.prog 16 #[.slice B lb cb] W fun e w' => e = .returned (.bool true) ∧ w' = W))
    (EI1 : Hid (∀ W, Below w.heap.size w W → Calls Tryd.prog 26 #[.int .i64 (t0 : Int), .slice A la ca] W fun e w' => ∃ v', e = .returned v' ∧ OwnB w' W.heap.size v' XA ∧ Below W.heap.size W w'))
    (EI2 : Hid (∀ W, Below w.heap.size w W → Calls Tryd.prog 26 #[.int .i64 (t1 : Int), .slice B lb cb] W fun e w' => ∃ v', e = .returned v' ∧ OwnB w' W.heap.size v' XB ∧ Below W.heap.size W w'))
    (EO1 : Hid (∀ W, Below w.heap.size w W → Calls Tryd.prog 24 #[.int .i64 (t0 : Int), .slice A la ca] W fun e w' => e = .returned (.agg (bs D1).toArray) ∧ Below W.heap.size W w'))
    (EO2 : Hid (∀ W, Below w.heap.size w W → Calls Tryd.prog 24 #[.int .i64 (t1 : Int), .slice B lb cb] W fun e w' => e = .returned (.agg (bs D2).toArray) ∧ Below W.heap.size W w'))
    (EG1 : Hid (∀ W A n c, Below w.heap.size w W → n = XA.length → Rd W W.heap.size A (bs XA) → Calls Tryd.prog 14 #[.slice A n c] W fun e w' => e = .returned (.agg (bs Z1).toArray) ∧ Below W.heap.size W w'))
    (EG2 : Hid (∀ W A n c, Below w.heap.size w W → n = XB.length → Rd W W.heap.size A (bs XB) → Calls Tryd.prog 14 #[.slice A n c] W fun e w' => e = .returned (.agg (bs Z2).toArray) ∧ Below W.heap.size W w'))
    (HSX : Hid (mkS XA = SX)) (HSY : Hid (mkS XB = SY)) (HEQ : Hid (t0 = t1 ∧ a = b → (SX.toList == SY.toList) = true)) (HNE : Hid (¬ (t0 = t1 ∧ a = b) → (SX.toList == SY.toList) = false))
    (HZ1 : Hid (Z1.length = 32)) (HZ2 : Hid (Z2.length = 32)) (HB1 : Hid (AllB Z1)) (HB2 : Hid (AllB Z2)) (HD1 : Hid (D1.length = 16)) (HD2 : Hid (D2.length = 16)) (HDD : Hid (d = decide (D1 = D2))) (HDZ : Hid (d = decide (Z1.take 16 = Z2.take 16))) :
    Calls Tryd.prog 8 #[.agg #[.int .u8 (t0 : Int), .int .u8 (t1 : Int)], .slice A la ca, .slice B lb cb] w (LawRes w) := by
  have hb0 := new_later w (.cells #[.int .u8 (t0 : Int), .int .u8 (t1 : Int)] 48)
  have a0 := Arr.new' w 48 #[.int .u8 (t0 : Int), .int .u8 (t1 : Int)] 2 [.int .u8 (t0 : Int), .int .u8 (t1 : Int)] rfl rfl (by decide)
  go_enter Tryd.func8, Tryd.ntmps8
  go_upto_region 4 with (first
    | (go_at_call 13; refine (SA.out _ hb0).mono ?_; rintro e w1 ⟨rfl, hb1⟩; have U1 := later hb0 hb1; have a1 := a0.later hb1; clear hb1 SA)
    | (go_at_call 16; with_reducible refine (EF1.out _ U1).mono ?_; rintro e w2 ⟨rfl, rfl⟩; clear EF1)
    | (go_at_call 16; with_reducible refine (EF2.out _ U1).mono ?_; rintro e w2 ⟨rfl, rfl⟩; clear EF2))
  clear hb0 a0
  have c0 := a1.cell (j := 0) rfl
  have c1 := a1.cell (j := 1) rfl
  go_cut [8] (fun p W => p = .bool (decide (t0 = t1 ∧ la = lb)) ∧ W = w2)
  case first =>
    by_cases h : t0 = t1
    · subst h
      by_cases h2 : la = lb
      · subst h2
        have hd : decide (t0 = t0 ∧ la = la) = true := by simp
        have HD := Lib.hid hd
        clear hd
        go_wp2_with fail
        go_meet
        exact ⟨by rw [HD.out], rfl⟩
      · have hd : decide (t0 = t0 ∧ la = lb) = false := by simp [h2]
        have hll : ((la : Int) == (lb : Int)) = false := beq_eq_false_iff_ne.2 (by omega)
        have HD := Lib.hid hd
        clear h2 hd
        go_wp2_with fail
        go_meet
        exact ⟨by rw [HD.out], rfl⟩
    · have hd : decide (t0 = t1 ∧ la = lb) = false := by simp [h]
      have htt : ((t0 : Int) == (t1 : Int)) = false := beq_eq_false_iff_ne.2 (by omega)
      have HD := Lib.hid hd
      clear h hd
      go_wp2_with fail
      go_meet
      exact ⟨by rw [HD.out], rfl⟩
  case rest =>
    obtain ⟨rfl, rfl⟩ := hcut
    go_wp2_with fail
    go_loopw [8, 9] (fun s i W => ∃ (k q : Nat) (c : Bool), k ≤ la ∧ i = .int .i64 (k : Int) ∧ s = .bool c ∧ W = wc.drewN q ∧ Hid (c = decide (t0 = t1 ∧ la = lb ∧ a.take k = b.take k))) (fun _ i _ => la - (intOf i).toNat)
    case atStart => exact ⟨0, 0, _, Nat.zero_le _, rfl, rfl, rfl, Lib.hid (by simp)⟩
    case round =>
      obtain ⟨k, q, c, hk, rfl, rfl, rfl, HC⟩ := hrel
      by_cases hlt : k < la
      · have hka : (k : Int) < (la : Int) := by omega
        cases c
        · have hns : ¬ (t0 = t1 ∧ a = b) := by
            rintro ⟨h1, h2⟩
            have h3 := of_decide_eq_false HC.out.symm
            exact h3 ⟨h1, by rw [HA.out, HB.out, h2], by rw [h2]⟩
          have V : Below w.heap.size w (wc.drewN q) := below_drewN U1 q
          have at0 : Arr (wc.drewN q) w.heap.size 2 48 [.int .u8 (t0 : Int), .int .u8 (t1 : Int)] := a1
          have hne1 := HNE.out hns
          clear HEQ HNE HC
          have LD1 : Hid ((bs D1).length = 16) := by show (bs D1).length = 16; rw [bs_len, HD1.out]
          have LD2 : Hid ((bs D2).length = 16) := by show (bs D2).length = 16; rw [bs_len, HD2.out]
          have LZ1 : Hid ((bs Z1).length = 32) := by show (bs Z1).length = 32; rw [bs_len, HZ1.out]
          have LZ2 : Hid ((bs Z2).length = 32) := by show (bs Z2).length = 32; rw [bs_len, HZ2.out]
          go_upto_region 17 with (first
            | (go_at_call 26; with_reducible refine (EI1.out _ V).mono ?_; rintro e w5 ⟨v5, rfl, ox, b5⟩; obtain ⟨A5, n5, c5, rfl, HN5⟩ := ox.shape'; replace V := later V b5; replace at0 := at0.later b5; have c15 := at0.cell (j := 1) rfl; clear EI1)
            | (go_at_call 26; with_reducible refine (EI2.out _ V).mono ?_; rintro e w6 ⟨v6, rfl, oy, b6⟩; obtain ⟨A6, n6, c6, rfl, HN6⟩ := oy.shape'; replace V := later V b6; replace ox := ox.below b6; replace at0 := at0.later b6; clear b5 b6 EI2; have c06 := at0.cell (j := 0) rfl)
            | (go_at_call 24; with_reducible refine (EO1.out _ V).mono ?_; rintro e w7 ⟨rfl, b7⟩; replace V := later V b7; replace at0 := at0.later b7; replace ox := ox.below b7; replace oy := oy.below b7; clear b7 EO1)
            | (with_reducible refine wpList_store_new rfl _ (.tmp 12) (.tmp 81) rfl rfl rfl info_dig LD1.out rfl (all_oneCell_toArray (bs_cell D1)) ?_; intro w8 b8 hrow8 hsz8; have R12 : Arr w8 w7.heap.size 16 44 (bs D1) := Arr.of_row hrow8 LD1.out (by decide); replace V := later V b8; replace at0 := at0.later b8; replace ox := ox.below b8; replace oy := oy.below b8; clear b8 hrow8 hsz8; have c18 := at0.cell (j := 1) rfl)
            | (go_at_call 24; with_reducible refine (EO2.out _ V).mono ?_; rintro e w9 ⟨rfl, b9⟩; replace V := later V b9; replace at0 := at0.later b9; replace ox := ox.below b9; replace oy := oy.below b9; replace R12 := R12.later b9; clear b9 EO2)
            | (with_reducible refine wpList_store_new rfl _ (.tmp 13) (.tmp 86) rfl rfl rfl info_dig LD2.out rfl (all_oneCell_toArray (bs_cell D2)) ?_; intro w10 b10 hrow10 hsz10; have R13 : Arr w10 w9.heap.size 16 44 (bs D2) := Arr.of_row hrow10 LD2.out (by decide); replace V := later V b10; replace at0 := at0.later b10; replace ox := ox.below b10; replace oy := oy.below b10; replace R12 := R12.later b10; clear b10 hrow10 hsz10)
            | (go_at_call 14; with_reducible refine (EG1.out _ A5 n5 c5 V HN5.out ox.rd).mono ?_; rintro e w11 ⟨rfl, b11⟩; replace V := later V b11; replace ox := ox.below b11; replace oy := oy.below b11; replace R12 := R12.later b11; replace R13 := R13.later b11; clear b11 EG1)
            | (with_reducible refine wpList_store_new rfl _ (.tmp 14) (.tmp 88) rfl rfl rfl info_sum LZ1.out rfl (all_oneCell_toArray (bs_cell Z1)) ?_; intro w12 b12 hrow12 hsz12; have R14 : Arr w12 w11.heap.size 32 24 (bs Z1) := Arr.of_row hrow12 LZ1.out (by decide); replace V := later V b12; replace ox := ox.below b12; replace oy := oy.below b12; replace R12 := R12.later b12; replace R13 := R13.later b12; clear b12 hrow12 hsz12)
            | (go_at_call 14; with_reducible refine (EG2.out _ A6 n6 c6 V HN6.out oy.rd).mono ?_; rintro e w13 ⟨rfl, b13⟩; replace V := later V b13; replace ox := ox.below b13; replace oy := oy.below b13; replace R12 := R12.later b13; replace R13 := R13.later b13; replace R14 := R14.later b13; clear b13 EG2)
            | (with_reducible refine wpList_store_new rfl _ (.tmp 15) (.tmp 90) rfl rfl rfl info_sum LZ2.out rfl (all_oneCell_toArray (bs_cell Z2)) ?_; intro w14 b14 hrow14 hsz14; have R15 : Arr w14 w13.heap.size 32 24 (bs Z2) := Arr.of_row hrow14 LZ2.out (by decide); replace V := later V b14; replace ox := ox.below b14; replace oy := oy.below b14; replace R12 := R12.later b14; replace R13 := R13.later b14; replace R14 := R14.later b14; clear b14 hrow14 hsz14))
          have OX := Lib.hid ox
          have OY := Lib.hid oy
          clear ox oy at0
          generalize w7.heap.size = G12 at R12 ⊢
          generalize w9.heap.size = G13 at R13 ⊢
          generalize w11.heap.size = G14 at R14 ⊢
          generalize w13.heap.size = G15 at R15 ⊢
          go_wp2_with fail
          go_loopw [16, 17] (fun cl i W => ∃ (j q2 : Nat) (c2 : Bool), j ≤ 16 ∧ i = .int .i64 (j : Int) ∧ cl = .bool c2 ∧ W = w14.drewN q2 ∧ Hid (c2 = decide (Z1.take j = Z2.take j))) (fun _ i _ => 16 - (intOf i).toNat)
          case atStart => exact ⟨0, 0, true, Nat.zero_le _, rfl, rfl, rfl, Lib.hid (by simp)⟩
          case round =>
            obtain ⟨j, q2, c2, hj, rfl, rfl, rfl, HC2⟩ := hrel
            by_cases hlt2 : j < 16
            · have hji : (j : Int) < 16 := by omega
              have hji2 : (j : Int) < 32 := by omega
              have hj0 : (0 : Int) ≤ (j : Int) := by omega
              cases c2
              · have hn : ¬ Z1.take j = Z2.take j := of_decide_eq_false HC2.out.symm
                have HN := Lib.hid (take_diff hn)
                clear hn
                go_wp2_with fail
                go_quiet (fail)
                go_wp2_with fail
                go_roundw
                case rel => exact ⟨j + 1, _, false, by omega, by go_num, rfl, rfl, Lib.hid (decide_eq_false HN.out).symm⟩
                case measure => simp [intOf]; omega
              · have hy1 : Z1.take j = Z2.take j := of_decide_eq_true HC2.out.symm
                have HN := Lib.hid (take_same (show j < Z1.length by have := HZ1.out; omega) (show j < Z2.length by have := HZ2.out; omega) hy1)
                have g1 := bs_get Z1 j (by have := HZ1.out; omega)
                have g2 := bs_get Z2 j (by have := HZ2.out; omega)
                rw [List.getElem?_eq_getElem (show j < Z1.length by have := HZ1.out; omega), Option.getD_some] at g1
                rw [List.getElem?_eq_getElem (show j < Z2.length by have := HZ2.out; omega), Option.getD_some] at g2
                have d1 := R14.cell g1
                have d2 := R15.cell g2
                clear hy1 g1 g2
                generalize Z1[j]'(by have := HZ1.out; omega) = x1 at d1 HN
                generalize Z2[j]'(by have := HZ2.out; omega) = x2 at d2 HN
                by_cases hxy : x1 = x2
                · subst hxy
                  go_wp2_with fail
                  go_quiet (fail)
                  go_wp2_with fail
                  go_roundw
                  case rel => exact ⟨j + 1, _, true, by omega, by go_num, rfl, rfl, Lib.hid (decide_eq_true (HN.out.2 (by trivial))).symm⟩
                  case measure => simp [intOf]; omega
                · have hbx : ((x1 : Int) == (x2 : Int)) = false := beq_eq_false_iff_ne.2 (by omega)
                  have HXY := Lib.hid hxy
                  clear hxy
                  go_wp2_with fail
                  go_quiet (fail)
                  go_wp2_with fail
                  go_roundw
                  case rel => exact ⟨j + 1, _, false, by omega, by go_num, rfl, rfl, Lib.hid (decide_eq_false fun h => HXY.out (HN.out.1 h)).symm⟩
                  case measure => simp [intOf]; omega
            · have hj16 : j = 16 := by omega
              subst hj16
              have hcd : c2 = d := by rw [HC2.out, HDZ.out]
              have HQ : Hid (∀ W, (binOp .eql 44 (.agg (bs D1).toArray) (.agg (bs D2).toArray)).run Tryd.prog W = .ok (.bool d) W) := by
                refine Lib.hid fun W => ?_
                have h := run_eqDig W D1 D2 HD1.out HD2.out
                show ((Op.equalIn 10000 44 (.agg (bs D1).toArray) (.agg (bs D2).toArray)) >>= fun r => pure (Value.bool r)).run Tryd.prog W = _
                rw [Sem.run_bind, h, HDD.out]; rfl
              have I1 : Hid ((Tryd.prog.info? 44).map (·.size) = some (bs D1).length) := Lib.hid (by rw [LD1.out]; exact info_dig)
              have I2 : Hid ((Tryd.prog.info? 44).map (·.size) = some (bs D2).length) := Lib.hid (by rw [LD2.out]; exact info_dig)
              rw [hcd]
              clear hcd HC2 hlt2 hj
              have VV : Below w.heap.size w (w14.drewN q2) := below_drewN V q2
              have hx := run_conv (w14.drewN q2).heap.size n5 c5 A5 XA (w14.drewN q2) HN5.out OX.out.rd
              have hy := run_conv (w14.drewN q2).heap.size n6 c6 A6 XB (w14.drewN q2) HN6.out OY.out.rd
              rw [HSX.out] at hx
              rw [HSY.out] at hy
              have S12 := Lib.hid (show (w14.drewN q2).rangeAt G12 0 (bs D1) from R12.range)
              have S13 := Lib.hid (show (w14.drewN q2).rangeAt G13 0 (bs D2) from R13.range)
              clear V R12 R13 R14 R15
              cases d
              all_goals
                (go_wp2_with (first
                  | (refine wpList_eqlArr 44 (.tmp 114) (.tmp 115) _ rfl (by rfl) (bs D1).toArray (bs D2).toArray (by rfl) (by rfl) _ eqg_dig HQ.out ?_)
                  | (refine wpList_load_guarded _ (.tmp 12) rfl rfl G12 0 rfl (bs D1) _ S12.out Tryd.underlying44 rfl I1.out ?_)
                  | (refine wpList_load_guarded _ (.tmp 13) rfl rfl G13 0 rfl (bs D2) _ S13.out Tryd.underlying44 rfl I2.out ?_))
                 skip
                 go_ret
                 exact ⟨rfl, VV⟩)
        · obtain ⟨h1, h2, h3⟩ := of_decide_eq_true HC.out.symm
          have hka2 : k < a.length := by have := HA.out; omega
          have hkb2 : k < b.length := by have := HB.out; omega
          obtain ⟨ba, oa, rfl, _, hca⟩ := (HRA.out.below U1).at_ (by intro h; have := congrArg List.length h; simp [ss] at this; subst this; simp at hka2)
          obtain ⟨bb, ob, rfl, _, hcb⟩ := (HRB.out.below U1).at_ (by intro h; have := congrArg List.length h; simp [ss] at this; subst this; simp at hkb2)
          have hcella := hca k _ (ss_get a k hka2)
          have hcellb := hcb k _ (ss_get b k hkb2)
          rw [List.getElem?_eq_getElem hka2, Option.getD_some] at hcella
          rw [List.getElem?_eq_getElem hkb2, Option.getD_some] at hcellb
          have HN := Lib.hid (take_same hka2 hkb2 h3)
          have H12 := Lib.hid (show t0 = t1 ∧ la = lb from ⟨h1, h2⟩)
          have hkb : (k : Int) < (lb : Int) := by omega
          have hk0 : (0 : Int) ≤ (k : Int) := by omega
          clear hca hcb h1 h2 h3
          generalize a[k] = sa at hcella HN
          generalize b[k] = sb' at hcellb HN
          by_cases hss : sa = sb'
          · have hse : (sa.toList == sb'.toList) = true := str_eq sa sb' true (decide_eq_true hss)
            have HH := Lib.hid (HN.out.2 hss)
            clear hss
            go_wp2_with fail
            go_quiet (fail)
            go_wp2_with fail
            go_roundw
            case rel => exact ⟨k + 1, _, true, by omega, by go_num, rfl, rfl, Lib.hid (decide_eq_true ⟨H12.out.1, H12.out.2, HH.out⟩).symm⟩
            case measure => simp [intOf]; omega
          · have hse : (sa.toList == sb'.toList) = false := str_eq sa sb' false (decide_eq_false hss)
            have HH := Lib.hid (fun h => hss (HN.out.1 h))
            clear hss
            go_wp2_with fail
            go_quiet (fail)
            go_wp2_with fail
            go_roundw
            case rel => exact ⟨k + 1, _, false, by omega, by go_num, rfl, rfl, Lib.hid (decide_eq_false fun h => HH.out h.2.2).symm⟩
            case measure => simp [intOf]; omega
      · have hkl : k = la := by omega
        subst hkl
        have hka : ((k : Int) < (k : Int)) = False := by simp
        cases c
        · have hns : ¬ (t0 = t1 ∧ a = b) := by
            rintro ⟨h1, h2⟩
            have h3 := of_decide_eq_false HC.out.symm
            exact h3 ⟨h1, by rw [HA.out, HB.out, h2], by rw [h2]⟩
          have V : Below w.heap.size w (wc.drewN q) := below_drewN U1 q
          have at0 : Arr (wc.drewN q) w.heap.size 2 48 [.int .u8 (t0 : Int), .int .u8 (t1 : Int)] := a1
          have hne1 := HNE.out hns
          clear HEQ HNE HC
          have LD1 : Hid ((bs D1).length = 16) := by show (bs D1).length = 16; rw [bs_len, HD1.out]
          have LD2 : Hid ((bs D2).length = 16) := by show (bs D2).length = 16; rw [bs_len, HD2.out]
          have LZ1 : Hid ((bs Z1).length = 32) := by show (bs Z1).length = 32; rw [bs_len, HZ1.out]
          have LZ2 : Hid ((bs Z2).length = 32) := by show (bs Z2).length = 32; rw [bs_len, HZ2.out]
          go_upto_region 17 with (first
            | (go_at_call 26; with_reducible refine (EI1.out _ V).mono ?_; rintro e w5 ⟨v5, rfl, ox, b5⟩; obtain ⟨A5, n5, c5, rfl, HN5⟩ := ox.shape'; replace V := later V b5; replace at0 := at0.later b5; have c15 := at0.cell (j := 1) rfl; clear EI1)
            | (go_at_call 26; with_reducible refine (EI2.out _ V).mono ?_; rintro e w6 ⟨v6, rfl, oy, b6⟩; obtain ⟨A6, n6, c6, rfl, HN6⟩ := oy.shape'; replace V := later V b6; replace ox := ox.below b6; replace at0 := at0.later b6; clear b5 b6 EI2; have c06 := at0.cell (j := 0) rfl)
            | (go_at_call 24; with_reducible refine (EO1.out _ V).mono ?_; rintro e w7 ⟨rfl, b7⟩; replace V := later V b7; replace at0 := at0.later b7; replace ox := ox.below b7; replace oy := oy.below b7; clear b7 EO1)
            | (with_reducible refine wpList_store_new rfl _ (.tmp 12) (.tmp 81) rfl rfl rfl info_dig LD1.out rfl (all_oneCell_toArray (bs_cell D1)) ?_; intro w8 b8 hrow8 hsz8; have R12 : Arr w8 w7.heap.size 16 44 (bs D1) := Arr.of_row hrow8 LD1.out (by decide); replace V := later V b8; replace at0 := at0.later b8; replace ox := ox.below b8; replace oy := oy.below b8; clear b8 hrow8 hsz8; have c18 := at0.cell (j := 1) rfl)
            | (go_at_call 24; with_reducible refine (EO2.out _ V).mono ?_; rintro e w9 ⟨rfl, b9⟩; replace V := later V b9; replace at0 := at0.later b9; replace ox := ox.below b9; replace oy := oy.below b9; replace R12 := R12.later b9; clear b9 EO2)
            | (with_reducible refine wpList_store_new rfl _ (.tmp 13) (.tmp 86) rfl rfl rfl info_dig LD2.out rfl (all_oneCell_toArray (bs_cell D2)) ?_; intro w10 b10 hrow10 hsz10; have R13 : Arr w10 w9.heap.size 16 44 (bs D2) := Arr.of_row hrow10 LD2.out (by decide); replace V := later V b10; replace at0 := at0.later b10; replace ox := ox.below b10; replace oy := oy.below b10; replace R12 := R12.later b10; clear b10 hrow10 hsz10)
            | (go_at_call 14; with_reducible refine (EG1.out _ A5 n5 c5 V HN5.out ox.rd).mono ?_; rintro e w11 ⟨rfl, b11⟩; replace V := later V b11; replace ox := ox.below b11; replace oy := oy.below b11; replace R12 := R12.later b11; replace R13 := R13.later b11; clear b11 EG1)
            | (with_reducible refine wpList_store_new rfl _ (.tmp 14) (.tmp 88) rfl rfl rfl info_sum LZ1.out rfl (all_oneCell_toArray (bs_cell Z1)) ?_; intro w12 b12 hrow12 hsz12; have R14 : Arr w12 w11.heap.size 32 24 (bs Z1) := Arr.of_row hrow12 LZ1.out (by decide); replace V := later V b12; replace ox := ox.below b12; replace oy := oy.below b12; replace R12 := R12.later b12; replace R13 := R13.later b12; clear b12 hrow12 hsz12)
            | (go_at_call 14; with_reducible refine (EG2.out _ A6 n6 c6 V HN6.out oy.rd).mono ?_; rintro e w13 ⟨rfl, b13⟩; replace V := later V b13; replace ox := ox.below b13; replace oy := oy.below b13; replace R12 := R12.later b13; replace R13 := R13.later b13; replace R14 := R14.later b13; clear b13 EG2)
            | (with_reducible refine wpList_store_new rfl _ (.tmp 15) (.tmp 90) rfl rfl rfl info_sum LZ2.out rfl (all_oneCell_toArray (bs_cell Z2)) ?_; intro w14 b14 hrow14 hsz14; have R15 : Arr w14 w13.heap.size 32 24 (bs Z2) := Arr.of_row hrow14 LZ2.out (by decide); replace V := later V b14; replace ox := ox.below b14; replace oy := oy.below b14; replace R12 := R12.later b14; replace R13 := R13.later b14; replace R14 := R14.later b14; clear b14 hrow14 hsz14))
          have OX := Lib.hid ox
          have OY := Lib.hid oy
          clear ox oy at0
          generalize w7.heap.size = G12 at R12 ⊢
          generalize w9.heap.size = G13 at R13 ⊢
          generalize w11.heap.size = G14 at R14 ⊢
          generalize w13.heap.size = G15 at R15 ⊢
          go_wp2_with fail
          go_loopw [16, 17] (fun cl i W => ∃ (j q2 : Nat) (c2 : Bool), j ≤ 16 ∧ i = .int .i64 (j : Int) ∧ cl = .bool c2 ∧ W = w14.drewN q2 ∧ Hid (c2 = decide (Z1.take j = Z2.take j))) (fun _ i _ => 16 - (intOf i).toNat)
          case atStart => exact ⟨0, 0, true, Nat.zero_le _, rfl, rfl, rfl, Lib.hid (by simp)⟩
          case round =>
            obtain ⟨j, q2, c2, hj, rfl, rfl, rfl, HC2⟩ := hrel
            by_cases hlt2 : j < 16
            · have hji : (j : Int) < 16 := by omega
              have hji2 : (j : Int) < 32 := by omega
              have hj0 : (0 : Int) ≤ (j : Int) := by omega
              cases c2
              · have hn : ¬ Z1.take j = Z2.take j := of_decide_eq_false HC2.out.symm
                have HN := Lib.hid (take_diff hn)
                clear hn
                go_wp2_with fail
                go_quiet (fail)
                go_wp2_with fail
                go_roundw
                case rel => exact ⟨j + 1, _, false, by omega, by go_num, rfl, rfl, Lib.hid (decide_eq_false HN.out).symm⟩
                case measure => simp [intOf]; omega
              · have hy1 : Z1.take j = Z2.take j := of_decide_eq_true HC2.out.symm
                have HN := Lib.hid (take_same (show j < Z1.length by have := HZ1.out; omega) (show j < Z2.length by have := HZ2.out; omega) hy1)
                have g1 := bs_get Z1 j (by have := HZ1.out; omega)
                have g2 := bs_get Z2 j (by have := HZ2.out; omega)
                rw [List.getElem?_eq_getElem (show j < Z1.length by have := HZ1.out; omega), Option.getD_some] at g1
                rw [List.getElem?_eq_getElem (show j < Z2.length by have := HZ2.out; omega), Option.getD_some] at g2
                have d1 := R14.cell g1
                have d2 := R15.cell g2
                clear hy1 g1 g2
                generalize Z1[j]'(by have := HZ1.out; omega) = x1 at d1 HN
                generalize Z2[j]'(by have := HZ2.out; omega) = x2 at d2 HN
                by_cases hxy : x1 = x2
                · subst hxy
                  go_wp2_with fail
                  go_quiet (fail)
                  go_wp2_with fail
                  go_roundw
                  case rel => exact ⟨j + 1, _, true, by omega, by go_num, rfl, rfl, Lib.hid (decide_eq_true (HN.out.2 (by trivial))).symm⟩
                  case measure => simp [intOf]; omega
                · have hbx : ((x1 : Int) == (x2 : Int)) = false := beq_eq_false_iff_ne.2 (by omega)
                  have HXY := Lib.hid hxy
                  clear hxy
                  go_wp2_with fail
                  go_quiet (fail)
                  go_wp2_with fail
                  go_roundw
                  case rel => exact ⟨j + 1, _, false, by omega, by go_num, rfl, rfl, Lib.hid (decide_eq_false fun h => HXY.out (HN.out.1 h)).symm⟩
                  case measure => simp [intOf]; omega
            · have hj16 : j = 16 := by omega
              subst hj16
              have hcd : c2 = d := by rw [HC2.out, HDZ.out]
              have HQ : Hid (∀ W, (binOp .eql 44 (.agg (bs D1).toArray) (.agg (bs D2).toArray)).run Tryd.prog W = .ok (.bool d) W) := by
                refine Lib.hid fun W => ?_
                have h := run_eqDig W D1 D2 HD1.out HD2.out
                show ((Op.equalIn 10000 44 (.agg (bs D1).toArray) (.agg (bs D2).toArray)) >>= fun r => pure (Value.bool r)).run Tryd.prog W = _
                rw [Sem.run_bind, h, HDD.out]; rfl
              have I1 : Hid ((Tryd.prog.info? 44).map (·.size) = some (bs D1).length) := Lib.hid (by rw [LD1.out]; exact info_dig)
              have I2 : Hid ((Tryd.prog.info? 44).map (·.size) = some (bs D2).length) := Lib.hid (by rw [LD2.out]; exact info_dig)
              rw [hcd]
              clear hcd HC2 hlt2 hj
              have VV : Below w.heap.size w (w14.drewN q2) := below_drewN V q2
              have hx := run_conv (w14.drewN q2).heap.size n5 c5 A5 XA (w14.drewN q2) HN5.out OX.out.rd
              have hy := run_conv (w14.drewN q2).heap.size n6 c6 A6 XB (w14.drewN q2) HN6.out OY.out.rd
              rw [HSX.out] at hx
              rw [HSY.out] at hy
              have S12 := Lib.hid (show (w14.drewN q2).rangeAt G12 0 (bs D1) from R12.range)
              have S13 := Lib.hid (show (w14.drewN q2).rangeAt G13 0 (bs D2) from R13.range)
              clear V R12 R13 R14 R15
              cases d
              all_goals
                (go_wp2_with (first
                  | (refine wpList_eqlArr 44 (.tmp 114) (.tmp 115) _ rfl (by rfl) (bs D1).toArray (bs D2).toArray (by rfl) (by rfl) _ eqg_dig HQ.out ?_)
                  | (refine wpList_load_guarded _ (.tmp 12) rfl rfl G12 0 rfl (bs D1) _ S12.out Tryd.underlying44 rfl I1.out ?_)
                  | (refine wpList_load_guarded _ (.tmp 13) rfl rfl G13 0 rfl (bs D2) _ S13.out Tryd.underlying44 rfl I2.out ?_))
                 skip
                 go_ret
                 exact ⟨rfl, VV⟩)
        · have hs : t0 = t1 ∧ a = b := by
            obtain ⟨h1, h2, h3⟩ := of_decide_eq_true HC.out.symm
            refine ⟨h1, ?_⟩
            rwa [List.take_of_length_le (by have := HA.out; omega), List.take_of_length_le (by have := HB.out; omega)] at h3
          clear HC
          have V : Below w.heap.size w (wc.drewN q) := below_drewN U1 q
          have at0 : Arr (wc.drewN q) w.heap.size 2 48 [.int .u8 (t0 : Int), .int .u8 (t1 : Int)] := a1
          have heq := HEQ.out hs
          clear hs HEQ HNE EO1 EO2 EG1 EG2
          go_wp2_with (first
            | (go_at_call 26; with_reducible refine (EI1.out _ V).mono ?_; rintro e w5 ⟨v5, rfl, ox, b5⟩; obtain ⟨A5, n5, c5, rfl, HN5⟩ := ox.shape'; replace V := later V b5; replace at0 := at0.later b5; have c15 := at0.cell (j := 1) rfl; clear EI1)
            | (go_at_call 26; with_reducible refine (EI2.out _ V).mono ?_; rintro e w6 ⟨v6, rfl, oy, b6⟩; obtain ⟨A6, n6, c6, rfl, HN6⟩ := oy.shape'; replace V := later V b6; replace ox := ox.below b6; replace at0 := at0.later b6; clear b5 b6 EI2; have hx := run_conv w6.heap.size n5 c5 A5 XA w6 HN5.out ox.rd; have hy := run_conv w6.heap.size n6 c6 A6 XB w6 HN6.out oy.rd; rw [HSX.out] at hx; rw [HSY.out] at hy))
          go_ret
          exact ⟨rfl, V⟩
theorem HashOfSeparates_any (t0 t1 : Nat) (A : Option Addr) (la ca : Nat) (a : List ByteArray) (B : Option Addr) (lb cb : Nat) (b : List ByteArray) (w : World) (ht0 : t0 < 256) (ht1 : t1 < 256)
    (ha : la = a.length) (hb : lb = b.length) (hra : Rd w w.heap.size A (ss a)) (hrb : Rd w w.heap.size B (ss b)) (hk : Kc w) :
    Calls Tryd.prog 8 #[.agg #[.int .u8 (t0 : Int), .int .u8 (t1 : Int)], .slice A la ca, .slice B lb cb] w (LawRes w) := by
  have SA : Hid (∀ W, Below w.heap.size w W → Calls Tryd.prog 13 #[] W fun e w' => e = .returned (.bool true) ∧ Below W.heap.size W w') := Lib.hid fun W hW => sanity_any W (hk.later hW)
  have F1 := few_call A la ca a w ha hra
  have F2 := few_call B lb cb b w hb hrb
  by_cases hfa : fewS a
  · rw [decide_eq_true hfa] at F1
    by_cases hfb : fewS b
    · rw [decide_eq_true hfb] at F2
      have la12 : la ≤ 12 := by have := hfa.1; omega
      have lb12 : lb ≤ 12 := by have := hfb.1; omega
      have ina : ∀ s ∈ a, s.size ≤ 100000 := fun s hs => Nat.le_trans (hfa.2 s hs) (by decide)
      have inb : ∀ s ∈ b, s.size ≤ 100000 := fun s hs => Nat.le_trans (hfb.2 s hs) (by decide)
      have ra : InR (t0 : Int) := ⟨by omega, by omega⟩
      have rb : InR (t1 : Int) := ⟨by omega, by omega⟩
      have hinj := ofIn_inj (l := a) (l' := b) ht0 ht1
      have xaB := ofIn_all (t0 : Int) a ina
      have xbB := ofIn_all (t1 : Int) b inb
      have xaL := ofIn_len (t0 : Int) a ina
      have xbL := ofIn_len (t1 : Int) b inb
      have hal := hfa.1
      have hbl := hfb.1
      obtain ⟨XA, hXA⟩ : ∃ X, ofIn (t0 : Int) a = X := ⟨_, rfl⟩
      obtain ⟨XB, hXB⟩ : ∃ X, ofIn (t1 : Int) b = X := ⟨_, rfl⟩
      have hsame : t0 = t1 ∧ a = b → XA = XB := by rintro ⟨rfl, rfl⟩; rw [← hXA, ← hXB]
      rw [hXA] at hinj xaB xaL
      rw [hXB] at hinj xbB xbL
      obtain ⟨Z1, hZ1⟩ : ∃ Z, sha XA = Z := ⟨_, rfl⟩
      obtain ⟨Z2, hZ2⟩ : ∃ Z, sha XB = Z := ⟨_, rfl⟩
      refine hos_main t0 t1 A la ca a B lb cb b w ht0 ht1 (Lib.hid ha) (Lib.hid hb) (Lib.hid hra) (Lib.hid hrb) la12 lb12 XA XB Z1 Z2 (Z1.take 16) (Z2.take 16) (mkS XA) (mkS XB) (decide (Z1.take 16 = Z2.take 16)) SA F1 F2 ?_ ?_ ?_ ?_ ?_ ?_ (Lib.hid rfl) (Lib.hid rfl) ?_ ?_
        (Lib.hid (by rw [← hZ1, sha_len])) (Lib.hid (by rw [← hZ2, sha_len])) (Lib.hid (by rw [← hZ1]; exact sha_all _)) (Lib.hid (by rw [← hZ2]; exact sha_all _)) (Lib.hid (by rw [List.length_take, ← hZ1, sha_len]; rfl)) (Lib.hid (by rw [List.length_take, ← hZ2, sha_len]; rfl)) (Lib.hid rfl) (Lib.hid rfl)
      · exact Lib.hid fun W hW => by rw [← hXA]; exact rinput_any _ A la ca a W ha ((hra.below hW).more hW.size) ina (by omega)
      · exact Lib.hid fun W hW => by rw [← hXB]; exact rinput_any _ B lb cb b W hb ((hrb.below hW).more hW.size) inb (by omega)
      · exact Lib.hid fun W hW => by rw [← hZ1, ← hXA]; exact Of_any _ A la ca a W ra ha ((hra.below hW).more hW.size) ina (by omega) (hk.later hW)
      · exact Lib.hid fun W hW => by rw [← hZ2, ← hXB]; exact Of_any _ B lb cb b W rb hb ((hrb.below hW).more hW.size) inb (by omega) (hk.later hW)
      · exact Lib.hid fun W A n c hW hn hr => by rw [← hZ1]; exact sum_any A n c XA W hn hr xaB (hk.later hW) (by omega)
      · exact Lib.hid fun W A n c hW hn hr => by rw [← hZ2]; exact sum_any A n c XB W hn hr xbB (hk.later hW) (by omega)
      · exact Lib.hid fun h => str_eq _ _ true (decide_eq_true (by rw [hsame h]))
      · exact Lib.hid fun h => str_eq _ _ false (decide_eq_false fun e => h (hinj (mkS_inj xaB xbB e)))
    · rw [decide_eq_false hfb] at F2
      exact hos_many t0 t1 A la ca B lb cb w true SA F1 (Lib.hid fun _ => F2.out)
  · rw [decide_eq_false hfa] at F1
    exact hos_many t0 t1 A la ca B lb cb w false SA F1 (Lib.hid fun h => by cases h)
end Go.Proofs.YtoopilemlgamkaaDoor
