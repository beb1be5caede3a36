import Derived.Test.YtbfoajfpnfkfnaaDoorS18
set_option linter.unusedVariables false
set_option linter.unusedSimpArgs false
namespace Go.Proofs.YtbfoajfpnfkfnaaDoor
open Go.RowKit

def SRes (w : World) (e : Ending) (w' : World) : Prop := e = .returned (.bool true) ∧ Below w.heap.size w w'
/-- Whether one digit so far is less. -/
def lessB (x y : List Nat) : Nat → Bool
  | 0 => false
  | k + 1 => lessB x y k || decide (x.getD k 0 < y.getD k 0)
theorem lessB_of {x y : List Nat} {i : Nat} (h : x.getD i 0 < y.getD i 0) : ∀ k, i < k → lessB x y k = true
  | 0, hk => by omega
  | k + 1, hk => by
    unfold lessB
    by_cases hik : i = k
    · subst hik; rw [decide_eq_true h, Bool.or_true]
    · rw [lessB_of h k (by omega), Bool.true_or]
theorem wpList_load_grd {P : Program} {ops : Array Oper} {rest : List Oper} {op : Oper} {a : Act} {w : World} {Q : Exit → Act → World → Prop} (ty : TypeId) (x : Operand) (ho : op.op = .load ty x) (hw : Region.wanted op (yielded ops a.tmps) = true)
    (b o : Nat) (hx : a.eval x = .pointer (some ⟨b, o, none⟩)) (cs : List Value) (d : TypeDesc) (hc : w.rangeAt b o cs)
    (hu : P.underlying ty = some d) (hd : d.isRow = true) (hi : (P.info? ty).map (·.size) = some cs.length)
    (h : wpList P ops Q rest (a.put op.dst (.agg cs.toArray)) w) : wpList P ops Q (op :: rest) a w :=
  wpList_step fun K hK => by
    rw [if_pos hw]
    exact wp_load_mid ty x ho b o hx cs d hc hu hd hi (hK _ _ h)
theorem wpList_eqlDig {ops : Array Oper} {rest : List Oper} {op : Oper} {a : Act} {w : World} {Q : Exit → Act → World → Prop} (x y : Operand) (u : TypeId) (ho : op.op = .binOp .eql 44 x y u) (hw : Region.wanted op (yielded ops a.tmps) = true)
    (X Y : Array Value) (hx : a.eval x = .agg X) (hy : a.eval y = .agg Y) (b : Bool) (hrun : ∀ W, (binOp .eql 44 (.agg X) (.agg Y)).run Tryd.prog W = .ok (.bool b) W)
    (h : wpList Tryd.prog ops Q rest (a.put op.dst (.bool b)) w) : wpList Tryd.prog ops Q (op :: rest) a w :=
  wpList_step fun K hK => by
    rw [if_pos hw]
    unfold Oper.wp execOp
    simp only [ho, hx, hy, Sem.run_bind, run_eqGuard_agg _ _ _ _ _ _ _ eqg_dig3, hrun w, Result.andThen_ok, Sem.run_pure]
    exact hK _ _ h

set_option maxHeartbeats 8000000 in
set_option maxRecDepth 100000 in
theorem cross_aux (a b X Y : List Nat) (q : Bool) (w : World) (ha : a.length = 16) (hb : b.length = 16) (HXL : Hid (X.length = 68)) (HYL : Hid (Y.length = 68))
    (HSA : Hid (∀ W, Below w.heap.size w W → Calls Tryd.prog 28 #[] W fun e w' => e = .returned (.bool true) ∧ Below W.heap.size W w'))
    (HDA : Hid (∀ W, Calls Tryd.prog 29 #[.agg (bs a).toArray] W fun e w' => ∃ g, e = .returned (.slice (some ⟨g, 0, none⟩) 68 68) ∧ W.heap.size ≤ g ∧ Arr w' g 68 76 (isv X) ∧ Below W.heap.size W w'))
    (HDB : Hid (∀ W, Calls Tryd.prog 29 #[.agg (bs b).toArray] W fun e w' => ∃ g, e = .returned (.slice (some ⟨g, 0, none⟩) 68 68) ∧ W.heap.size ≤ g ∧ Arr w' g 68 76 (isv Y) ∧ Below W.heap.size W w'))
    (HQ : Hid (decide (a = b) = q)) (HEND : Hid (q = false → lessB X Y 68 = true ∧ lessB Y X 68 = true)) :
    Calls Tryd.prog 12 #[.agg (bs a).toArray, .agg (bs b).toArray] w (SRes w) := by
  have hini := duo_new w 44 44 (bs a).toArray (bs b).toArray (bs a) (bs b) 16 16 rfl rfl (by rw [bs_len, ha]) (by rw [bs_len, hb]) (by decide) (by decide)
  have HLA : Hid ((bs a).length = 16) := Lib.hid (by rw [bs_len, ha])
  have HLB : Hid ((bs b).length = 16) := Lib.hid (by rw [bs_len, hb])
  have HIA : Hid ((Tryd.prog.info? 44).map (·.size) = some (bs a).length) := Lib.hid (by rw [HLA.out]; exact info_dig)
  have HIB : Hid ((Tryd.prog.info? 44).map (·.size) = some (bs b).length) := Lib.hid (by rw [HLB.out]; exact info_dig)
  have HEQ : Hid (∀ W, (binOp .eql 44 (.agg (bs a).toArray) (.agg (bs b).toArray)).run Tryd.prog W = .ok (.bool q) W) := Lib.hid fun W => run_eqDigB W a b q ha hb HQ.out
  have hu := Tryd.underlying44
  clear ha hb HQ
  go_enter Tryd.func12, Tryd.ntmps12
  go_upto_region 1 with fail
  generalize hW : (w.alloc (.cells (bs a).toArray 44)).alloc (.cells (bs b).toArray 44) = wa at hini ⊢
  clear hW
  obtain ⟨P1, P2, V0⟩ := hini
  go_upto_region 8 with (first
    | (go_at_call 28; (with_reducible refine (HSA.out _ V0).mono ?_); rintro e w1 ⟨rfl, hb1⟩; have V1 := later V0 hb1; have A1 := P1.later hb1; have B1 := P2.later hb1; clear HSA hb1)
    | (with_reducible refine wpList_load_mid rfl _ (.tmp 2) rfl w.heap.size 0 rfl (bs a) _ A1.range Tryd.underlying44 rfl HIA.out ?_)
    | (go_at_call 29; (with_reducible refine (HDA.out _).mono ?_); rintro e w2 ⟨g, rfl, hg, D2, hb2⟩; have V2 := later V1 hb2; have A2 := A1.later hb2; have B2 := B1.later hb2; clear HDA hb2)
    | (with_reducible refine wpList_load_mid rfl _ (.tmp 3) rfl (w.heap.size + 1) 0 rfl (bs b) _ B2.range Tryd.underlying44 rfl HIB.out ?_)
    | (go_at_call 29; (with_reducible refine (HDB.out _).mono ?_); rintro e w3 ⟨g2, rfl, hg2, E3, hb3⟩; have V3 := later V2 hb3; have A3 := A2.later hb3; have B3 := B2.later hb3; have D3 := D2.later hb3; clear HDB hb3))
  clear V0 P1 P2 V1 A1 B1 V2 A2 B2 D2
  go_wp2_with fail
  go_loopw [8, 9, 10] (fun l m j W => ∃ k : Nat, k ≤ 68 ∧ j = .int .i64 (k : Int) ∧ l = .bool (lessB X Y k) ∧ m = .bool (lessB Y X k) ∧ Arr W g 68 76 (isv X) ∧ Arr W g2 68 76 (isv Y) ∧ Arr W w.heap.size 16 44 (bs a) ∧ Arr W (w.heap.size + 1) 16 44 (bs b) ∧ Below w.heap.size w W) (fun _ _ j _ => 68 - (intOf j).toNat)
  case atStart => exact ⟨0, by omega, rfl, rfl, rfl, D3, E3, A3, B3, V3⟩
  case round =>
    obtain ⟨k, hk, rfl, rfl, rfl, D4, E4, A4, B4, V4⟩ := hrel
    clear D3 E3 A3 B3 V3
    by_cases hlt : k < 68
    · have hki : (k : Int) < 68 := by omega
      have hk0 : (0 : Int) ≤ (k : Int) := by omega
      have hcx := D4.cell (isv_at X k (by rw [HXL.out]; exact hlt))
      have hcy := E4.cell (isv_at Y k (by rw [HYL.out]; exact hlt))
      have HS1 : Hid (lessB X Y (k + 1) = (lessB X Y k || decide (X.getD k 0 < Y.getD k 0))) := Lib.hid rfl
      have HS2 : Hid (lessB Y X (k + 1) = (lessB Y X k || decide (Y.getD k 0 < X.getD k 0))) := Lib.hid rfl
      have HR : Hid (∀ n, Arr (wr.drewN n) g 68 76 (isv X) ∧ Arr (wr.drewN n) g2 68 76 (isv Y) ∧ Arr (wr.drewN n) w.heap.size 16 44 (bs a) ∧ Arr (wr.drewN n) (w.heap.size + 1) 16 44 (bs b) ∧ Below w.heap.size w (wr.drewN n)) := Lib.hid fun n => ⟨D4, E4, A4, B4, below_drewN V4 n⟩
      generalize X.getD k 0 = x at hcx HS1 HS2
      generalize Y.getD k 0 = y at hcy HS1 HS2
      generalize lessB X Y k = l at HS1 ⊢
      generalize lessB Y X k = m at HS2 ⊢
      clear D4 E4 A4 B4 V4
      rcases Nat.lt_trichotomy x y with hA | hA | hA
      · have hB : ¬ y < x := by omega
        have iA : (x : Int) < (y : Int) := by omega
        have iB : ¬ (y : Int) < (x : Int) := by omega
        cases l <;> cases m
        all_goals
          go_wp2_with fail
          go_quiet (fail)
          go_wp2_with fail
          go_quiet (fail)
          go_wp2_with fail
          go_roundw
          case rel => exact ⟨k + 1, by omega, by go_num, by rw [HS1.out]; simp [hA, hB], by rw [HS2.out]; simp [hA, hB], HR.out _⟩
          case measure => simp [intOf]; omega
      · subst hA
        have hA : ¬ x < x := by omega
        have hB : ¬ x < x := by omega
        have iA : ¬ (x : Int) < (x : Int) := by omega
        cases l <;> cases m
        all_goals
          go_wp2_with fail
          go_quiet (fail)
          go_wp2_with fail
          go_quiet (fail)
          go_wp2_with fail
          go_roundw
          case rel => exact ⟨k + 1, by omega, by go_num, by rw [HS1.out]; simp [hA, hB], by rw [HS2.out]; simp [hA, hB], HR.out _⟩
          case measure => simp [intOf]; omega
      · have hB : ¬ x < y := by omega
        have iA : (y : Int) < (x : Int) := by omega
        have iB : ¬ (x : Int) < (y : Int) := by omega
        cases l <;> cases m
        all_goals
          go_wp2_with fail
          go_quiet (fail)
          go_wp2_with fail
          go_quiet (fail)
          go_wp2_with fail
          go_roundw
          case rel => exact ⟨k + 1, by omega, by go_num, by rw [HS1.out]; simp [hA, hB], by rw [HS2.out]; simp [hA, hB], HR.out _⟩
          case measure => simp [intOf]; omega
    · have hk68 : k = 68 := by omega
      subst hk68
      have HE1 : Hid (q = false → lessB X Y 68 = true) := Lib.hid fun hq => (HEND.out hq).1
      have HE2 : Hid (q = false → lessB Y X 68 = true) := Lib.hid fun hq => (HEND.out hq).2
      clear HEND
      cases q with
      | true =>
        go_wp2_with (first
          | (refine wpList_load_grd _ (.tmp 2) rfl rfl w.heap.size 0 rfl (bs a) _ A4.range Tryd.underlying44 rfl HIA.out ?_)
          | (refine wpList_load_grd _ (.tmp 3) rfl rfl (w.heap.size + 1) 0 rfl (bs b) _ B4.range Tryd.underlying44 rfl HIB.out ?_)
          | (refine wpList_eqlDig _ _ _ rfl rfl (bs a).toArray (bs b).toArray rfl rfl true HEQ.out ?_))
        go_ret
        exact ⟨rfl, V4⟩
      | false =>
        rw [HE1.out rfl, HE2.out rfl]
        go_wp2_with (first
          | (refine wpList_load_grd _ (.tmp 2) rfl rfl w.heap.size 0 rfl (bs a) _ A4.range Tryd.underlying44 rfl HIA.out ?_)
          | (refine wpList_load_grd _ (.tmp 3) rfl rfl (w.heap.size + 1) 0 rfl (bs b) _ B4.range Tryd.underlying44 rfl HIB.out ?_)
          | (refine wpList_eqlDig _ _ _ rfl rfl (bs a).toArray (bs b).toArray rfl rfl false HEQ.out ?_))
        go_ret
        exact ⟨rfl, V4⟩
theorem SignDigitsCross_any (a b : List Nat) (w : World) (ha : a.length = 16) (haB : ∀ x ∈ a, x < 256) (hb : b.length = 16) (hbB : ∀ x ∈ b, x < 256) (hk : Kc w) :
    Calls Tryd.prog 12 #[.agg (bs a).toArray, .agg (bs b).toArray] w (SRes w) := by
  refine cross_aux a b (digL a) (digL b) (decide (a = b)) w ha hb (Lib.hid (digL_len a ha)) (Lib.hid (digL_len b hb)) (Lib.hid fun W hW => ssanity_any W (hk.later hW)) (Lib.hid fun W => digits_any a _ ha haB W (Lib.hid rfl)) (Lib.hid fun W => digits_any b _ hb hbB W (Lib.hid rfl)) (Lib.hid rfl) (Lib.hid fun hq => ?_)
  obtain ⟨⟨i, hi, h1⟩, ⟨j, hj, h2⟩⟩ := cross ha hb haB hbB (of_decide_eq_false hq)
  exact ⟨lessB_of h1 68 hi, lessB_of h2 68 hj⟩
end Go.Proofs.YtbfoajfpnfkfnaaDoor
