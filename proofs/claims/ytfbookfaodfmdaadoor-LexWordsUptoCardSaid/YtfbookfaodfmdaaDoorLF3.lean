import Derived.Test.YtfbookfaodfmdaaDoorLF2
set_option linter.unusedVariables false
set_option linter.unusedSimpArgs false
namespace Go.Proofs.YtfbookfaodfmdaaDoor
open Go.RowKit

theorem info_rtok : (Tryd.prog.info? 57).map (fun i => (i.zero, i.size, i.bytes)) = some (some (.agg #[.string ⟨#[]⟩, .string ⟨#[]⟩]), 2, 32) := by kernel_rfl
/-- A row of the document's tokens of the call's own. -/
def OwnR (w : World) (base : Nat) (v : Value) (T : List (List Nat × List Nat)) : Prop := w.ownsRow base 57 2 v T.length (tv T)
theorem OwnR.nil (w : World) (base : Nat) : OwnR w base (.slice none 0 0) [] := World.ownsRow_nil w base _ 2
theorem OwnR.later {w w' : World} {base : Nat} {v : Value} {T : List (List Nat × List Nat)} (h : OwnR w base v T) (hb : Below w.heap.size w w') : OwnR w' base v T := own_below' h hb
theorem OwnR.drewN {w : World} {base : Nat} {v : Value} {T : List (List Nat × List Nat)} (h : OwnR w base v T) (n : Nat) : OwnR (w.drewN n) base v T := h
theorem OwnR.shape {w : World} {base : Nat} {v : Value} {T : List (List Nat × List Nat)} (h : OwnR w base v T) : ∃ A c, v = .slice A T.length c ∧ T.length ≤ c ∧ c ≤ maxLen ∧ Rd w w.heap.size A (tv T) := by
  obtain ⟨A, cap, hv, h1, h2, _⟩ := own_shape h
  subst hv
  exact ⟨A, cap, rfl, h1, h2, Rd.own h⟩
theorem step_putR {w : World} {base : Nat} {v : Value} {T : List (List Nat × List Nat)} {ops : Array Oper} {o : Oper} {a : Act} {K : Act → World → Prop} {Q : Exit → Act → World → Prop} {E : Prop} {p q : List Nat} {c : Nat} {x y : ByteArray}
    (hown : OwnR w base v T) (hx' : x = mkS p) (hy' : y = mkS q) (hbase : base ≤ w.heap.size) (hbytes : T.length ≤ 1000000)
    (hgd : o.guard = none) (s z : Operand) (ho : o.op = .call { callee := .builtin .append, args := #[s, z], argTypes := #[30, 30] })
    (hs : a.eval s = v) (hy : a.eval z = .slice (some ⟨w.heap.size, 0, none⟩) 1 c)
    (h : ∀ v' w', OwnR w' base v' (T ++ [(p, q)]) → Below base w w' → K (a.put o.dst v') w') :
    if Region.wanted o (yielded ops a.tmps) = true then Oper.wp Tryd.prog o a (w.alloc (.cells #[.string x, .string y] 57)) K Q else E := by
  subst hx' hy'
  obtain ⟨i0, hi0, hz0, hz1, hz2⟩ := info_parts info_rtok
  refine step_append_lies _ hgd s z _ ho base _ i0 _ 2 32 Tryd.underlying30 hi0 hz0 hz1 hz2 rfl (by decide) v T.length (tv T) hs (World.ownsRow.alloc hown _) ⟨w.heap.size, 0, none⟩ 1 c [.string (mkS p), .string (mkS q)] hy rfl ?_ ?_ (by decide) (by simp only [maxLen]; omega) (by omega) (by simp; omega) _ rfl ?_
  · intro j u hu
    have ha : (⟨w.heap.size, 0, none⟩ : Addr).add j = ⟨w.heap.size, 0 + j, none⟩ := by unfold Addr.add; split <;> simp_all
    rw [ha, cell_of_row (w.alloc _) w.heap.size (0 + j) _ _ (0, 0) (heap_alloc_new w _)]
    simpa using hu
  · intro u hu
    simp at hu
    rcases hu with rfl | rfl <;> rfl
  · intro g cap w' h1 h2 _ _
    refine h _ w' ?_ (((Below.refl base w).alloc hbase _).grown h2 (by simp; omega) (fun k hk => (World.ownsRow.lt hown k hk).1))
    unfold OwnR
    rw [tv_app, tv_one, List.length_append]
    exact h1

set_option maxHeartbeats 1000000 in
set_option maxRecDepth 100000 in
theorem plain_any (m cap : Nat) (A : Option Addr) (T : List (List Nat × List Nat)) (w : World) (hm : m = T.length) (hm2 : m ≤ 100000) (hr : Rd w w.heap.size A (tv T)) :
    Calls Tryd.prog 14 #[.slice A m cap] w fun e w' => ∃ v', e = .returned v' ∧ OwnR w' w.heap.size v' T ∧ Below w.heap.size w w' := by
  have HM := Lib.hid hm
  have HR := Lib.hid hr
  clear hm hr
  go_enter Tryd.func14, Tryd.ntmps14
  go_wp2_with fail
  go_loopw [3, 4] (fun v i W => ∃ j : Nat, j ≤ m ∧ i = .int .i64 (j : Int) ∧ OwnR W w.heap.size v (T.take j) ∧ Below w.heap.size w W) (fun _ i _ => m - (intOf i).toNat)
  case atStart => exact ⟨0, Nat.zero_le _, rfl, OwnR.nil _ _, Below.refl _ _⟩
  case round =>
    obtain ⟨j, hj, rfl, hown, hb⟩ := hrel
    by_cases hlt : j < m
    · have hjl : j < T.length := by have := HM.out; omega
      have hji : (j : Int) < (m : Int) := by omega
      have hj0 : (0 : Int) ≤ (j : Int) := by omega
      obtain ⟨b, o, rfl, hbB, hc1, hc2⟩ := tok_at HR.out j hjl
      have hc3 := (hb.cell (p := ⟨b, o + 2 * j, none⟩) hbB).trans hc1
      have hc4 := (hb.cell (p := ⟨b, o + 2 * j + 1, none⟩) hbB).trans hc2
      have hn : T.take (j + 1) = T.take j ++ [T[j]] := by rw [List.take_succ_eq_append_getElem hjl]
      have hl : (T.take j).length ≤ 1000000 := by simp; omega
      have HN := Lib.hid hn
      generalize T[j] = X at hc3 hc4 HN
      obtain ⟨X1, X2⟩ := X
      generalize T.take j = M at HN hown hl
      simp only at hc3 hc4
      clear hc1 hc2 hn hjl
      rw [show o + 2 * j = o + j * 2 by omega] at hc3 hc4
      have hd3 : wr.drew.cell? ⟨b, o + j * 2, none⟩ = some (.string (mkS X1)) := hc3
      have hd4 : wr.drew.cell? ⟨b, o + j * 2 + 1, none⟩ = some (.string (mkS X2)) := hc4
      go_wp2_with fail
      go_region_law (refine step_putR (p := X1) (q := X2) (hown.drewN 1) rfl rfl hb.size hl rfl _ _ rfl rfl rfl ?_; intro v5 w5 hown5 hb5)
      all_goals (go_wp2_with fail)
      all_goals
        go_roundw
        case rel => exact ⟨j + 1, by omega, by go_num, by rw [HN.out]; exact hown5, (below_drewN hb 1).trans hb5⟩
        case measure => simp [intOf]; omega
    · obtain rfl : j = m := by omega
      rw [List.take_of_length_le (by rw [HM.out]; exact Nat.le_refl _)] at hown
      go_wp2_with fail
      go_ret
      exact ⟨_, rfl, hown, hb⟩


theorem fields_rtok : (Tryd.prog.fieldsOf 57).toList.map (fun f => (f.name, f.type, f.offset)) = [("Text", 9, 0), ("Before", 9, 1)] := by kernel_rfl
theorem fields_tok : (Tryd.prog.fieldsOf 40).toList.map (fun f => (f.name, f.type, f.offset)) = [("Text", 9, 0), ("Before", 9, 1)] := by kernel_rfl
theorem eqf_two (a b c d : ByteArray) (W : World) (F : List Field) (hF : F.map (fun f => (f.name, f.type, f.offset)) = [("Text", 9, 0), ("Before", 9, 1)]) :
    (Op.eqFields 9999 #[.string a, .string b] #[.string c, .string d] F).run Tryd.prog W = .ok (a.toList == c.toList && b.toList == d.toList) W := by
  rcases F with _ | ⟨f, _ | ⟨g, _ | ⟨z, F⟩⟩⟩
  · simp at hF
  · simp at hF
  · simp only [List.map_cons, List.map_nil, List.cons.injEq, Prod.mk.injEq, and_true] at hF
    obtain ⟨⟨h1, h2, h3⟩, h4, h5, h6⟩ := hF
    have p1 := fun W => run_partS (P := Tryd.prog) W 9 Tryd.underlying9 #[.string a, .string b] 0 _ rfl
    have p2 := fun W => run_partS (P := Tryd.prog) W 9 Tryd.underlying9 #[.string c, .string d] 0 _ rfl
    have p3 := fun W => run_partS (P := Tryd.prog) W 9 Tryd.underlying9 #[.string a, .string b] 1 _ rfl
    have p4 := fun W => run_partS (P := Tryd.prog) W 9 Tryd.underlying9 #[.string c, .string d] 1 _ rfl
    have p5 := fun W => run_equalIn_string (P := Tryd.prog) W 9998 9 a c Tryd.underlying9
    have p6 := fun W => run_equalIn_string (P := Tryd.prog) W 9998 9 b d Tryd.underlying9
    simp only [Op.eqFields, h1, h2, h3, h4, h5, h6]
    generalize (a.toList == c.toList) = X at *
    generalize (b.toList == d.toList) = Y at *
    cases X <;> cases Y <;> simp [p1, p2, p3, p4, p5, p6]
  · simp at hF
theorem neq_rtok (a b c d : ByteArray) (W : World) :
    (binOp .neq 57 (.agg #[.string a, .string b]) (.agg #[.string c, .string d])).run Tryd.prog W = .ok (.bool (!(a.toList == c.toList && b.toList == d.toList))) W := by
  rw [run_neq_struct, run_equalIn_agg _ _ _ _ _ (by kernel_rfl) (by kernel_rfl), eqf_two _ _ _ _ _ _ fields_rtok]
  rfl
theorem neq_tok (a b c d : ByteArray) (W : World) :
    (binOp .neq 40 (.agg #[.string a, .string b]) (.agg #[.string c, .string d])).run Tryd.prog W = .ok (.bool (!(a.toList == c.toList && b.toList == d.toList))) W := by
  rw [run_neq_struct, run_equalIn_agg _ _ _ _ _ (by kernel_rfl) (by kernel_rfl), eqf_two _ _ _ _ _ _ fields_tok]
  rfl
theorem beq_str (a b : ByteArray) : (a.toList == b.toList) = decide (a = b) := by
  by_cases h : a = b
  · subst h; simp
  · rw [str_ne h]; simp [h]

/-- The tokens as values, as strings. -/
def tb (T : List (List Nat × List Nat)) : List (ByteArray × ByteArray) := T.map fun x => (mkS x.1, mkS x.2)
set_option maxHeartbeats 1000000 in
set_option maxRecDepth 100000 in
theorem RSame_any (n m B c d : Nat) (A A' : Option Addr) (xs ys : List (List Nat × List Nat)) (w : World) (hn : n = xs.length) (hm : m = ys.length) (hr : Rd w B A (tv xs)) (hr' : Rd w B A' (tv ys)) (hn1 : n ≤ 1000000) :
    Calls Tryd.prog 13 #[.slice A n c, .slice A' m d] w (BoolRes w (decide (tb xs = tb ys))) := by
  by_cases hnm : n = m
  · subst hnm
    have hb : ((n : Int) != n) = false := by simp
    have HN := Lib.hid hn
    have HM := Lib.hid hm
    clear hn hm
    go_enter Tryd.func13, Tryd.ntmps13
    go_wp2
    go_loopw [5] (fun i wr => ∃ k q : Nat, k ≤ n ∧ i = .int .i64 (k : Int) ∧ wr = w.drewN q ∧ (tb xs).take k = (tb ys).take k) (fun i _ => n - (intOf i).toNat)
    case atStart => exact ⟨0, 0, Nat.zero_le _, rfl, rfl, by simp⟩
    case round =>
      obtain ⟨k, q, hk, rfl, rfl, ht⟩ := hrel
      by_cases hlt : k < n
      · have hx : k < xs.length := by have := HN.out; omega
        have hy : k < ys.length := by have := HM.out; omega
        have hx' : k < (tb xs).length := by unfold tb; rw [List.length_map]; exact hx
        have hy' : k < (tb ys).length := by unfold tb; rw [List.length_map]; exact hy
        obtain ⟨b, o, rfl, _, hc1, hc2⟩ := tok_at hr k hx
        obtain ⟨b', o', rfl, _, hc3, hc4⟩ := tok_at hr' k hy
        have hne := Lib.hid (take_ne hx' hy')
        have hnx := Lib.hid (take_next hx' hy' ht)
        have ex : (tb xs)[k] = (mkS xs[k].1, mkS xs[k].2) := by simp [tb]
        have ey : (tb ys)[k] = (mkS ys[k].1, mkS ys[k].2) := by simp [tb]
        rw [ex, ey] at hne hnx
        clear ht hr hr' ex ey
        have hi : (k : Int) < (n : Int) := by omega
        generalize mkS xs[k].1 = x1 at hc1 hne hnx
        generalize mkS xs[k].2 = x2 at hc2 hne hnx
        generalize mkS ys[k].1 = y1 at hc3 hne hnx
        generalize mkS ys[k].2 = y2 at hc4 hne hnx
        rw [show o + 2 * k = o + k * 2 by omega] at hc1 hc2
        rw [show o' + 2 * k = o' + k * 2 by omega] at hc3 hc4
        have hnq := fun W => neq_rtok x1 x2 y1 y2 W
        rw [beq_str, beq_str, ← Bool.decide_and] at hnq
        by_cases hxy : x1 = y1 ∧ x2 = y2
        · rw [decide_eq_true hxy] at hnq
          have HXY : Hid ((x1, x2) = (y1, y2)) := Lib.hid (by rw [hxy.1, hxy.2])
          clear hxy
          go_wp2_with fail
          go_quiet (fail)
          go_wp2_with fail
          go_roundw
          case rel => exact ⟨k + 1, _, by omega, by go_num, rfl, by simpa using hnx.out HXY.out⟩
          case measure => simp [intOf]; omega
        · rw [decide_eq_false hxy] at hnq
          have HXY : Hid ((x1, x2) ≠ (y1, y2)) := Lib.hid (by intro h; exact hxy (by simpa using h))
          clear hxy
          go_wp2_with fail
          go_quiet (fail)
          go_wp2_with fail
          go_ret
          exact ⟨by rw [decide_eq_false (hne.out HXY.out)]; rfl, _, World.drewN_drewN _ _ _⟩
      · have hkn : k = n := by omega
        subst hkn
        have heq : tb xs = tb ys := by
          rw [List.take_of_length_le (by unfold tb; rw [List.length_map]; have := HN.out; omega), List.take_of_length_le (by unfold tb; rw [List.length_map]; have := HM.out; omega)] at ht; exact ht
        have HE := Lib.hid heq
        clear heq ht
        go_wp2_with fail
        go_ret
        exact BoolRes.mk (decide_eq_true HE.out).symm
  · have hb : ((n : Int) != m) = true := by simp; omega
    have hf : decide (tb xs = tb ys) = false := by
      rw [decide_eq_false_iff_not]; intro e; have := congrArg List.length e; unfold tb at this; rw [List.length_map, List.length_map] at this; omega
    rw [hf]
    clear hf hn hm
    go_enter Tryd.func13, Tryd.ntmps13
    go_wp2
    go_ret
    exact BoolRes.mk (k := 0) rfl
end Go.Proofs.YtfbookfaodfmdaaDoor
