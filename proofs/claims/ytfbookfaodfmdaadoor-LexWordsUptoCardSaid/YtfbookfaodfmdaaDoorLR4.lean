import Derived.Test.YtfbookfaodfmdaaDoorLR3
set_option linter.unusedVariables false
set_option linter.unusedSimpArgs false
namespace Go.Proofs.YtfbookfaodfmdaaDoor
open Go.RowKit

theorem wpList_putR {w : World} {base : Nat} {v : Value} {T : List (List Nat × List Nat)} {ops : Array Oper} {rest : List Oper} {o : Oper} {a : Act} {Q : Exit → Act → World → Prop} {p q : List Nat} {c : Nat} {x y : ByteArray}
    (hown : OwnR w base v T) (hx' : x = mkS p) (hy' : y = mkS q) (hbase : base ≤ w.heap.size) (hbytes : T.length ≤ 1000000)
    (hgd : o.guard = none) (s z : Operand) (ho : o.op = .call { callee := .builtin .append, args := #[s, z], argTypes := #[30, 30] })
    (hs : a.eval s = v) (hy : a.eval z = .slice (some ⟨w.heap.size, 0, none⟩) 1 c)
    (h : ∀ v' w', OwnR w' base v' (T ++ [(p, q)]) → Below base w w' → wpList Tryd.prog ops Q rest (a.put o.dst v') w') :
    wpList Tryd.prog ops Q (o :: rest) a (w.alloc (.cells #[.string x, .string y] 57)) := by
  subst hx' hy'
  obtain ⟨i0, hi0, hz0, hz1, hz2⟩ := info_parts info_rtok
  refine wpList_append_lies _ hgd s z _ ho base _ i0 _ 2 32 Tryd.underlying30 hi0 hz0 hz1 hz2 rfl (by decide) v T.length (tv T) hs (World.ownsRow.alloc hown _) ⟨w.heap.size, 0, none⟩ 1 c [.string (mkS p), .string (mkS q)] hy rfl ?_ ?_ (by decide) (by simp only [maxLen]; omega) (by omega) (by simp; omega) _ rfl ?_
  · intro j u hu
    have ha : (⟨w.heap.size, 0, none⟩ : Addr).add j = ⟨w.heap.size, 0 + j, none⟩ := by unfold Addr.add; split <;> simp_all
    rw [ha, cell_of_row (w.alloc _) w.heap.size (0 + j) _ _ (0, 0) (heap_alloc_new w _)]
    simpa using hu
  · intro u hu
    simp at hu
    rcases hu with rfl | rfl <;> rfl
  · intro g cap w' h1 h2 _ _
    refine h _ w' ?_ (((Below.refl base w).alloc hbase _).grown h2 (by simp; omega) (fun k hk => (World.ownsRow.lt hown k hk).1))
    unfold OwnR
    rw [tv_app, tv_one, List.length_append]
    exact h1

set_option maxHeartbeats 4000000 in
set_option maxRecDepth 100000 in
theorem RScan_any (s : ByteArray) (h2 : s.size ≤ 281474976710656) (w : World) :
    Calls Tryd.prog 12 #[.string s] w fun e w' => ∃ v, e = .returned (.tuple #[v, .string (mkS (SC (sb s)).2.1), .int .i64 (SC (sb s)).2.2]) ∧ OwnR w' w.heap.size v (SC (sb s)).1 ∧ Below w.heap.size w w' := by
  have HL := Lib.hid (sb_len s)
  by_cases hbig : 8192 < s.size
  · have hbi : (8192 : Int) < (s.size : Int) := by omega
    have e : SC (sb s) = ([], [], 8192) := sc_long (by rw [sb_len]; exact hbig)
    rw [e]
    clear e HL
    go_enter Tryd.func12, Tryd.ntmps12
    go_wp2_with fail
    go_ret3
    exact ⟨_, rfl, OwnR.nil _ _, Below.refl _ _⟩
  · have hsz : (s.size : Int) ≤ 8192 := by omega
    have hszn : s.size ≤ 8192 := by omega
    have HE : Hid (∀ r, S [] (sb s) = r → SC (sb s) = match r with | .ok T e => (T, e, -1) | .bad n => ([], [], (n : Int))) := Lib.hid (by rintro r rfl; unfold SC; rw [if_neg (by rw [HL.out]; exact hbig)]; cases S [] (sb s) <;> rfl)
    generalize hZ : SC (sb s) = Z at HE ⊢
    clear hZ
    have HX := Lib.hid fun (n : Nat) (h : n < s.size) => str_step s n h
    have HEX := Lib.hid fun (a b : Nat) => ext_mk s a b
    have HSL := Lib.hid fun (a b : Nat) (h1 : a ≤ b) (h2 : b ≤ s.size) => slice_str s a b h1 h2
    have HSK := Lib.hid fun (n : Nat) (h : n ≤ s.size) (W : World) => skip_any s n h h2 W
    have HEN := Lib.hid fun (n : Nat) (h : n < s.size) (W : World) => end_any s n h h2 W
    generalize sb s = L at HE HX HEX HL HSK HEN
    clear h2 hbig
    go_enter Tryd.func12, Tryd.ntmps12
    go_wp2_with fail
    go_loopw [5, 6, 7, 8, 9] (fun v k _ _ _ W => ∃ (T : List (List Nat × List Nat)) (n : Nat), n ≤ s.size ∧ T.length ≤ n ∧ k = .int .i64 (n : Int) ∧ OwnR W w.heap.size v T ∧ Below w.heap.size w W ∧ Hid (S [] L = (S [] (L.drop n)).app T n)) (fun _ k _ _ _ _ => s.size - (intOf k).toNat)
    case atStart => exact ⟨[], 0, by omega, by simp, rfl, OwnR.nil _ _, Below.refl _ _, Lib.hid (by simp [app_nil])⟩
    case round =>
      obtain ⟨T, n, hn, hT, rfl, hown, hbel, hrel⟩ := hrel
      have hk0 : (0 : Int) ≤ (n : Int) := by omega
      obtain ⟨hs1, hs2⟩ := S_skl _ [] (L.drop n) (Nat.le_refl _)
      have hle := skl_le false (L.drop n)
      rw [List.length_drop, HL.out] at hle
      have HSKn := Lib.hid (HSK.out n hn)
      obtain ⟨k, hk⟩ : ∃ k, skl false (L.drop n) = k := ⟨_, rfl⟩
      rw [hk] at hs1 hs2 hle HSKn
      rw [List.drop_drop] at hs1 hs2
      rw [List.nil_append] at hs1
      obtain ⟨f, hf⟩ : ∃ f, n + k = f := ⟨_, rfl⟩
      rw [hf] at hs1 hs2 HSKn
      have hfs : f ≤ s.size := by omega
      have hnf : n ≤ f := by omega
      have hnfi : (n : Int) ≤ (f : Int) := by omega
      have hfsi : (f : Int) ≤ (s.size : Int) := by omega
      have hsl1 := HSL.out n f hnf hfs
      rw [HEX.out, show f - n = k by omega] at hsl1
      have HRL := hrel.out
      rw [hs1, app_app, List.append_nil, hf] at HRL
      by_cases hend : f = s.size
      · rw [show L.drop f = [] from List.drop_of_length_le (by rw [HL.out]; omega), S_nil] at HRL
        have h3 := HE.out _ HRL
        simp only [Res.app, List.append_nil] at h3
        have HZ := Lib.hid h3
        generalize (L.drop n).take k = B at hsl1 HZ
        clear HRL h3 hs1 hs2 hrel hk hf
        subst hend
        go_wp2_with (go_at_call 34; (with_reducible refine (HSKn.out _).mono ?_); rintro e w' ⟨rfl, hw⟩; rw [hw]; clear hw)
        go_ret3
        rw [HZ.out]
        exact ⟨_, rfl, hown, hbel⟩
      · have hflt : f < s.size := by omega
        have hfi : ((f : Int) == (s.size : Int)) = false := by rw [beq_eq_false_iff_ne]; omega
        obtain ⟨c, t, hct, hc1, hc2⟩ : ∃ c t, L.drop f = c :: t ∧ kd c ≠ 1 ∧ kd c ≠ 2 := by
          rcases hs2 with h | h
          · have := congrArg List.length h
            rw [List.length_drop, HL.out] at this
            simp at this; omega
          · exact h
        have HENf := Lib.hid (HEN.out f hflt)
        have htl := tk_le (L.drop f)
        rw [List.length_drop, HL.out] at htl
        unfold enI at HENf
        by_cases htk : tk (L.drop f) = 0 ∨ 16 < tk (L.drop f)
        · rw [if_pos htk] at HENf
          rw [hct] at htk HRL
          rw [S_bad hc1 hc2 htk] at HRL
          have h3 := HE.out _ HRL
          simp only [Res.app, Nat.add_zero] at h3
          have HZ := Lib.hid h3
          generalize (L.drop n).take k = B at hsl1
          clear HRL h3 hs1 hs2 hrel hk hf htk hct hend
          go_wp2_with (first
            | (go_at_call 34; (with_reducible refine (HSKn.out _).mono ?_); rintro e w' ⟨rfl, hw⟩; rw [hw]; clear hw)
            | (go_at_call 35; (with_reducible refine (HENf.out _).mono ?_); rintro e w' ⟨rfl, q, hw⟩; rw [hw]; clear hw))
          go_ret3
          rw [HZ.out]
          exact ⟨_, rfl, OwnR.nil _ _, below_drewN hbel _⟩
        · rw [if_neg htk] at HENf
          have hHR : S [] L = (S [] (L.drop (f + tk (L.drop f)))).app (T ++ [((L.drop f).take (tk (L.drop f)), (L.drop n).take k)]) (f + tk (L.drop f)) := by
            rw [HRL]
            have h5 : S ((L.drop n).take k) (L.drop f) = (S [] ((L.drop f).drop (tk (L.drop f)))).app [((L.drop f).take (tk (L.drop f)), (L.drop n).take k)] (tk (L.drop f)) := by
              rw [hct] at htk ⊢
              exact S_tok hc1 hc2 htk
            rw [h5, app_app, List.drop_drop]
          obtain ⟨C, hC⟩ : ∃ C, tk (L.drop f) = C := ⟨_, rfl⟩
          rw [hC] at hHR HENf htl htk
          obtain ⟨g, hg⟩ : ∃ g, f + C = g := ⟨_, rfl⟩
          rw [hg] at hHR HENf
          have hgs : g ≤ s.size := by omega
          have hfgi : (f : Int) ≤ (g : Int) := by omega
          have hgsi : (g : Int) ≤ (s.size : Int) := by omega
          have hg0 : ¬ (g : Int) < 0 := by omega
          have hsl2 := HSL.out f g (by omega) hgs
          rw [HEX.out, show g - f = C by omega] at hsl2
          have HRR := Lib.hid hHR
          have HO := Lib.hid hown
          have HG : Hid (n + 1 ≤ g ∧ (T ++ [((L.drop f).take C, (L.drop n).take k)]).length ≤ g) := Lib.hid (by rw [List.length_append]; simp; omega)
          have hTl : T.length ≤ 1000000 := by omega
          generalize (L.drop n).take k = B at hsl1 HRR HG
          generalize (L.drop f).take C = X at hsl2 HRR HG
          have HB := Lib.hid hbel
          clear HRL hs1 hs2 hrel hk hf htk hct hend hHR hC hg htl hown hbel
          go_wp2_with (first
            | (go_at_call 34; (with_reducible refine (HSKn.out _).mono ?_); rintro e w' ⟨rfl, hw⟩; rw [hw]; clear hw)
            | (go_at_call 35; (with_reducible refine (HENf.out _).mono ?_); rintro e w' ⟨rfl, q, hw⟩; rw [hw]; clear hw)
            | (refine wpList_putR (p := X) (q := B) (HO.out.drewN _) rfl rfl (show w.heap.size ≤ wr.heap.size from HB.out.size) hTl rfl _ _ rfl rfl rfl ?_; intro v5 w5 hown5 hb5))
          refine ⟨⟨_, g, by omega, HG.out.2, by go_num, hown5, (below_drewN HB.out _).trans hb5, HRR⟩, by have := HG.out.1; simp [intOf]; omega⟩
end Go.Proofs.YtfbookfaodfmdaaDoor
