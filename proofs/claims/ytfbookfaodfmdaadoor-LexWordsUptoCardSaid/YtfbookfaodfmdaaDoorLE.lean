import Derived.Test.YtfbookfaodfmdaaDoorLD
import Derived.Deep.RegionLaw
import Derived.Deep.AppendLies
set_option linter.unusedVariables false
set_option linter.unusedSimpArgs false
namespace Go.Proofs.YtfbookfaodfmdaaDoor
open Go.RowKit

/-- Tokens as values. -/
def tv (T : List (List Nat × List Nat)) : List Value := T.flatMap fun x => [.string (mkS x.1), .string (mkS x.2)]
theorem tv_len (T : List (List Nat × List Nat)) : (tv T).length = 2 * T.length := by
  induction T with
  | nil => rfl
  | cons x T ih => simp [tv] at ih ⊢; omega
theorem tv_app (T T' : List (List Nat × List Nat)) : tv (T ++ T') = tv T ++ tv T' := by simp [tv]
theorem tv_one (a b : List Nat) : tv [(a, b)] = [.string (mkS a), .string (mkS b)] := rfl
theorem info_tok : (Tryd.prog.info? 40).map (fun i => (i.zero, i.size, i.bytes)) = some (some (.agg #[.string ⟨#[]⟩, .string ⟨#[]⟩]), 2, 32) := by kernel_rfl
/-- The value is a row of tokens of the call's own. -/
def OwnT (w : World) (base : Nat) (v : Value) (T : List (List Nat × List Nat)) : Prop := w.ownsRow base 40 2 v T.length (tv T)
theorem OwnT.nil (w : World) (base : Nat) : OwnT w base (.slice none 0 0) [] := World.ownsRow_nil w base _ 2
theorem OwnT.later {w w' : World} {base : Nat} {v : Value} {T : List (List Nat × List Nat)} (h : OwnT w base v T) (hb : Below w.heap.size w w') : OwnT w' base v T := own_below' h hb
theorem OwnT.drewN {w : World} {base : Nat} {v : Value} {T : List (List Nat × List Nat)} (h : OwnT w base v T) (n : Nat) : OwnT (w.drewN n) base v T := h

/-- 'append(l, Token{..})' in a region that draws its order. -/
theorem step_putT {w : World} {base : Nat} {v : Value} {T : List (List Nat × List Nat)} {ops : Array Oper} {o : Oper} {a : Act} {K : Act → World → Prop} {Q : Exit → Act → World → Prop} {E : Prop} {p q : List Nat} {c : Nat} {x y : ByteArray}
    (hown : OwnT w base v T) (hx' : x = mkS p) (hy' : y = mkS q) (hbase : base ≤ w.heap.size) (hbytes : T.length ≤ 1000000)
    (hgd : o.guard = none) (s z : Operand) (ho : o.op = .call { callee := .builtin .append, args := #[s, z], argTypes := #[27, 27] })
    (hs : a.eval s = v) (hy : a.eval z = .slice (some ⟨w.heap.size, 0, none⟩) 1 c)
    (h : ∀ v' w', OwnT w' base v' (T ++ [(p, q)]) → Below base w w' → K (a.put o.dst v') w') :
    if Region.wanted o (yielded ops a.tmps) = true then Oper.wp Tryd.prog o a (w.alloc (.cells #[.string x, .string y] 40)) K Q else E := by
  subst hx' hy'
  obtain ⟨i0, hi0, hz0, hz1, hz2⟩ := info_parts info_tok
  refine step_append_lies _ hgd s z _ ho base _ i0 _ 2 32 Tryd.underlying27 hi0 hz0 hz1 hz2 rfl (by decide) v T.length (tv T) hs (World.ownsRow.alloc hown _) ⟨w.heap.size, 0, none⟩ 1 c [.string (mkS p), .string (mkS q)] hy rfl ?_ ?_ (by decide) (by simp only [maxLen]; omega) (by omega) (by simp; omega) _ rfl ?_
  · intro j u hu
    have ha : (⟨w.heap.size, 0, none⟩ : Addr).add j = ⟨w.heap.size, 0 + j, none⟩ := by unfold Addr.add; split <;> simp_all
    rw [ha, cell_of_row (w.alloc _) w.heap.size (0 + j) _ _ (0, 0) (heap_alloc_new w _)]
    simpa using hu
  · intro u hu
    simp at hu
    rcases hu with rfl | rfl <;> rfl
  · intro g cap w' h1 h2 _ _
    refine h _ w' ?_ (((Below.refl base w).alloc hbase _).grown h2 (by simp; omega) (fun k hk => (World.ownsRow.lt hown k hk).1))
    unfold OwnT
    rw [tv_app, tv_one, List.length_append]
    exact h1

/-- What Scan returns. -/
def SC (L : List Nat) : List (List Nat × List Nat) × List Nat × Int :=
  if 8192 < L.length then ([], [], 8192) else match S [] L with | .ok T e => (T, e, -1) | .bad n => ([], [], (n : Int))
theorem sb_ext (s : ByteArray) (a b : Nat) : sb (s.extract a b) = ((sb s).drop a).take (b - a) := by
  unfold sb
  rw [Lib.extract_data, List.map_take, List.map_drop]
theorem ext_mk (s : ByteArray) (a b : Nat) : s.extract a b = mkS (((sb s).drop a).take (b - a)) := by
  rw [← sb_ext, mkS_sb]
theorem sb_from (s : ByteArray) (a : Nat) : sb (s.extract a s.size) = (sb s).drop a := by
  rw [sb_ext, List.take_of_length_le]
  rw [List.length_drop, sb_len]; omega
theorem slice_str (s : ByteArray) (a b : Nat) (h1 : a ≤ b) (h2 : b ≤ s.size) (W : World) : (Instr.slice 9 (.string s) (some (.int .i64 (a : Int))) (some (.int .i64 (b : Int))) none).run Tryd.prog W = .ok (.string (s.extract a b)) W := by
  have := run_slice_string (P := Tryd.prog) W 9 s .i64 .i64 (a : Int) (b : Int) Tryd.underlying9 (by omega) (by omega) (by omega)
  simpa using this
theorem slice_from (s : ByteArray) (a : Nat) (h1 : a ≤ s.size) (W : World) : (Instr.slice 9 (.string s) (some (.int .i64 (a : Int))) none none).run Tryd.prog W = .ok (.string (s.extract a s.size)) W := by
  rw [run_slice_string_from_if W 9 s .i64 (a : Int) Tryd.underlying9, if_pos ⟨by omega, by omega⟩]
  simp
theorem slice_to (s : ByteArray) (a : Nat) (h1 : a ≤ s.size) (W : World) : (Instr.slice 9 (.string s) none (some (.int .i64 (a : Int))) none).run Tryd.prog W = .ok (.string (s.extract 0 a)) W := by
  rw [run_slice_string_to_if W 9 s .i64 (a : Int) Tryd.underlying9, if_pos ⟨by omega, by omega⟩]
  simp
theorem pend_step (L : List Nat) (a k j : Nat) (h : a ≤ k) : (L.drop a).take (k + j - a) = (L.drop a).take (k - a) ++ (L.drop k).take j := by
  have e : k + j - a = (k - a) + j := by omega
  rw [e, List.take_add, List.drop_drop]
  congr 3
  omega

section
variable {L : List Nat} {n n0 : Nat} {T : List (List Nat × List Nat)} {R : Res} {c : Nat}
theorem st_space (h : n0 ≤ n) (hd : L.drop n = c :: L.drop (n + 1)) (hk : kd c = 1) (hr : R = (S ((L.drop n0).take (n - n0)) (L.drop n)).app T n) : R = (S ((L.drop n0).take (n + 1 - n0)) (L.drop (n + 1))).app T (n + 1) := by
  rw [hr, hd, S_space hk, app_app, List.append_nil, pend_step L n0 n 1 h]
  congr 3
  rw [hd]; rfl
theorem st_cmt (h : n0 ≤ n) (hd : L.drop n = c :: L.drop (n + 1)) (hk : kd c = 2) (hr : R = (S ((L.drop n0).take (n - n0)) (L.drop n)).app T n) : R = (S ((L.drop n0).take (n + cmt (L.drop n) - n0)) (L.drop (n + cmt (L.drop n)))).app T (n + cmt (L.drop n)) := by
  have e : S ((L.drop n0).take (n - n0)) (L.drop n) = (S ((L.drop n0).take (n - n0) ++ (L.drop n).take (cmt (L.drop n))) ((L.drop n).drop (cmt (L.drop n)))).app [] (cmt (L.drop n)) := by
    rw [hd, S_cmt hk]
  rw [hr, e, app_app, List.append_nil, pend_step L n0 n _ h, List.drop_drop]
theorem st_tok (hd : L.drop n = c :: L.drop (n + 1)) (h1 : kd c ≠ 1) (h2 : kd c ≠ 2) (ht : ¬ (tk (L.drop n) = 0 ∨ 16 < tk (L.drop n))) (hr : R = (S ((L.drop n0).take (n - n0)) (L.drop n)).app T n) : R = (S ((L.drop (n + tk (L.drop n))).take (n + tk (L.drop n) - (n + tk (L.drop n)))) (L.drop (n + tk (L.drop n)))).app (T ++ [((L.drop n).take (tk (L.drop n)), (L.drop n0).take (n - n0))]) (n + tk (L.drop n)) := by
  have e : ∀ p, S p (L.drop n) = (S [] ((L.drop n).drop (tk (L.drop n)))).app [((L.drop n).take (tk (L.drop n)), p)] (tk (L.drop n)) := by
    intro p
    rw [hd] at ht ⊢
    exact S_tok h1 h2 ht
  rw [hr, e, app_app, Nat.sub_self, List.take_zero, List.drop_drop]
theorem st_bad (hd : L.drop n = c :: L.drop (n + 1)) (h1 : kd c ≠ 1) (h2 : kd c ≠ 2) (ht : tk (L.drop n) = 0 ∨ 16 < tk (L.drop n)) (hr : R = (S ((L.drop n0).take (n - n0)) (L.drop n)).app T n) : R = .bad n := by
  rw [hr, hd] at *
  rw [S_bad h1 h2 ht]; rfl
theorem st_end (hd : L.drop n = []) (hr : R = (S ((L.drop n0).take (n - n0)) (L.drop n)).app T n) : R = .ok T ((L.drop n0).take (n - n0)) := by
  rw [hr, hd, S_nil]; simp [Res.app]
end

set_option maxHeartbeats 4000000 in
set_option maxRecDepth 100000 in
theorem Scan_any (s : ByteArray) (h2 : s.size ≤ 281474976710656) (w : World) (hk : Kx w) :
    Calls Tryd.prog 11 #[.string s] w fun e w' => ∃ v, e = .returned (.tuple #[v, .string (mkS (SC (sb s)).2.1), .int .i64 (SC (sb s)).2.2]) ∧ OwnT w' w.heap.size v (SC (sb s)).1 ∧ Below w.heap.size w w' := by
  have HL := Lib.hid (sb_len s)
  by_cases hbig : 8192 < s.size
  · have hbi : (8192 : Int) < (s.size : Int) := by omega
    have e : SC (sb s) = ([], [], 8192) := by unfold SC; rw [if_pos (by rw [HL.out]; exact hbig)]
    rw [e]
    clear e hk HL
    go_enter Tryd.func11, Tryd.ntmps11
    go_wp2_with fail
    go_step3
    go_wp2_with fail
    rw [Exit.noGoto_ret]
    go_ret3
    exact ⟨_, rfl, OwnT.nil _ _, Below.refl _ _⟩
  · have hsz : (s.size : Int) ≤ 8192 := by omega
    have HE : Hid (∀ r, S [] (sb s) = r → SC (sb s) = match r with | .ok T e => (T, e, -1) | .bad n => ([], [], (n : Int))) := Lib.hid (by rintro r rfl; unfold SC; rw [if_neg (by rw [HL.out]; exact hbig)])
    generalize SC (sb s) = Z at HE ⊢
    have HX := Lib.hid fun (n : Nat) (h : n < s.size) => str_step s n h
    have HSF := Lib.hid fun (n : Nat) => sb_from s n
    have HEX := Lib.hid fun (a b : Nat) => ext_mk s a b
    generalize sb s = L at HE HX HSF HEX HL
    have HKD := Lib.hid fun (W : World) (hW : Kx W) (c : Nat) (hc : c < 256) => kindOf_any c hc W hW
    have HC := Lib.hid fun (W : World) (t : ByteArray) => commentSize_any t W
    have HW := Lib.hid fun (W : World) (hW : Kx W) (t : ByteArray) (h1 : 0 < t.size) (h2 : t.size ≤ 140737488355328) => wordSize_any t h1 h2 W hW
    have HS := Lib.hid fun (W : World) (hW : Kx W) (t : ByteArray) => signSize_any t W hW
    have HK0 := Lib.hid hk
    clear hk h2 hbig
    go_enter Tryd.func11, Tryd.ntmps11
    go_wp2_with fail
    go_step3
    go_wp2_with fail
    go_step3
    go_wp2_with fail
    go_loopw [5, 6, 7, 8] (fun v a k _ W => ∃ (T : List (List Nat × List Nat)) (n0 n : Nat), n0 ≤ n ∧ n ≤ s.size ∧ T.length ≤ n ∧ a = .int .i64 (n0 : Int) ∧ k = .int .i64 (n : Int) ∧ OwnT W w.heap.size v T ∧ Below w.heap.size w W ∧ Hid (S [] L = (S ((L.drop n0).take (n - n0)) (L.drop n)).app T n)) (fun _ _ k _ _ => s.size - (intOf k).toNat)
    case atStart => exact ⟨[], 0, 0, by omega, by omega, by simp, rfl, rfl, OwnT.nil _ _, Below.refl _ _, Lib.hid (by simp [app_nil])⟩
    case round =>
      obtain ⟨T, n0, n, h0n, hn, hT, rfl, rfl, hown, hbel, hrel⟩ := hrel
      have hk0 : (0 : Int) ≤ (n : Int) := by omega
      have hn0 : (0 : Int) ≤ (n0 : Int) := by omega
      have hn1 : (n0 : Int) ≤ (n : Int) := by omega
      by_cases hlt : n < s.size
      · have hki : (n : Int) < (s.size : Int) := by omega
        have hki' : (n : Int) ≤ (s.size : Int) := by omega
        obtain ⟨c, hc, hd, hx⟩ := HX.out n hlt
        have HKW := Lib.hid (HK0.out.later hbel)
        have hcall := Lib.hid (HKD.out wr HKW.out c hc)
        have HD := Lib.hid hd
        have hk5 := kd_le c
        generalize hK : kd c = K at hcall hk5
        have HKc := Lib.hid hK
        clear hd hc hK
        have HEQ : Hid (sb (s.extract n s.size) = L.drop n) := Lib.hid (HSF.out n)
        have hes : (s.extract n s.size).size = s.size - n := by rw [← sb_len, HEQ.out, List.length_drop, HL.out]
        have HLD : Hid ((L.drop n).length = s.size - n) := Lib.hid (by rw [List.length_drop, HL.out])
        by_cases e1 : K = 1
        · subst e1
          clear hes
          go_wp2_with (go_at_call 30; (with_reducible refine hcall.out.mono ?_); rintro e w' ⟨rfl, hw⟩; rw [hw])
          go_roundw
          case rel => exact ⟨T, n0, n + 1, by omega, by omega, by omega, rfl, by go_num, hown, hbel, Lib.hid (st_space h0n HD.out HKc.out hrel.out)⟩
          case measure => simp [intOf]; omega
        · by_cases e2 : K = 2
          · subst e2
            have HCW : Hid (∀ W, Calls Tryd.prog 31 #[.string (s.extract n s.size)] W fun e w' => e = .returned (.int .i64 ((cmt (L.drop n) : Nat) : Int)) ∧ w' = W) := Lib.hid fun W => by rw [← HEQ.out]; exact HC.out W _
            have HR2 := Lib.hid (st_cmt h0n HD.out HKc.out hrel.out)
            have hc1 : 0 < cmt (L.drop n) := by rw [HD.out]; exact cmt_pos HKc.out
            have hc2 : cmt (L.drop n) ≤ s.size - n := by rw [← HLD.out]; exact cmt_le _
            generalize cmt (L.drop n) = C at HCW HR2 hc1 hc2
            have hc3 : (n : Int) + (C : Int) ≤ 8192 := by omega
            have hc0 : (0 : Int) ≤ (C : Int) := by omega
            clear hes
            go_wp2_with (first
              | (go_at_call 30; (with_reducible refine hcall.out.mono ?_); rintro e w' ⟨rfl, hw⟩; rw [hw]; clear hw)
              | (go_at_call 31; (with_reducible refine (HCW.out _).mono ?_); rintro e w'' ⟨rfl, hw⟩; rw [hw]))
            go_roundw
            case rel => exact ⟨T, n0, n + C, by omega, by omega, by omega, rfl, by go_num, hown, hbel, HR2⟩
            case measure => simp [intOf]; omega
          · have HN1 : Hid (kd c ≠ 1) := Lib.hid (by rw [HKc.out]; exact e1)
            have HN2 : Hid (kd c ≠ 2) := Lib.hid (by rw [HKc.out]; exact e2)
            have HBAD : Hid (tk (L.drop n) = 0 ∨ 16 < tk (L.drop n) → S [] L = .bad n) := Lib.hid fun ht => st_bad HD.out HN1.out HN2.out ht hrel.out
            have HTOK := Lib.hid fun ht => st_tok (n0 := n0) HD.out HN1.out HN2.out ht hrel.out
            have HTK : Hid (tk (L.drop n) = if K = 3 ∨ K = 4 then wsz (L.drop n) else if K = 5 then sgn (L.drop n) else 0) := Lib.hid (by rw [← HKc.out, HD.out, tk_cons])
            have HTL : Hid (tk (L.drop n) ≤ s.size - n) := Lib.hid (by rw [← HLD.out]; exact tk_le _)
            have HWW : Hid (Calls Tryd.prog 32 #[.string (s.extract n s.size)] wr fun e w' => e = .returned (.int .i64 ((wsz (L.drop n) : Nat) : Int)) ∧ w' = wr) := Lib.hid (by rw [← HEQ.out]; exact HW.out wr HKW.out _ (by rw [hes]; omega) (by rw [hes]; omega))
            have HSS : Hid (Calls Tryd.prog 33 #[.string (s.extract n s.size)] wr fun e w' => e = .returned (.int .i64 ((sgn (L.drop n) : Nat) : Int)) ∧ w' = wr) := Lib.hid (by rw [← HEQ.out]; exact HS.out wr HKW.out _)
            clear hes
            by_cases e3 : K = 3
            · subst e3
              rw [show wsz (L.drop n) = tk (L.drop n) by rw [HTK.out, if_pos (.inl rfl)]] at HWW
              clear HSS HTK
              generalize tk (L.drop n) = C at HBAD HTOK HTL HWW
              by_cases hC0 : C = 0
              · subst hC0
                have hz : Z = ([], [], (n : Int)) := HE.out _ (HBAD.out (.inl rfl))
                go_wp2_with (first
                  | (go_at_call 30; (with_reducible refine hcall.out.mono ?_); rintro e w' ⟨rfl, hw⟩; rw [hw]; clear hw)
                  | (go_at_call 32; (with_reducible refine HWW.out.mono ?_); rintro e w'' ⟨rfl, hw⟩; rw [hw]; clear hw))
                rw [Exit.noGoto_ret]
                go_ret3
                rw [hz]
                exact ⟨_, rfl, OwnT.nil _ _, hbel⟩
              by_cases hC16 : 16 < C
              · have h16 : (16 : Int) < (C : Int) := by omega
                have hC0b : (((C : Nat) : Int) == 0) = false := by rw [beq_eq_false_iff_ne]; omega
                have hz : Z = ([], [], (n : Int)) := HE.out _ (HBAD.out (.inr hC16))
                go_wp2_with (first
                  | (go_at_call 30; (with_reducible refine hcall.out.mono ?_); rintro e w' ⟨rfl, hw⟩; rw [hw]; clear hw)
                  | (go_at_call 32; (with_reducible refine HWW.out.mono ?_); rintro e w'' ⟨rfl, hw⟩; rw [hw]; clear hw))
                rw [Exit.noGoto_ret]
                go_ret3
                rw [hz]
                exact ⟨_, rfl, OwnT.nil _ _, hbel⟩
              · have h16 : (C : Int) ≤ 16 := by omega
                have hc0 : (0 : Int) ≤ (C : Int) := by omega
                have hC0b : (((C : Nat) : Int) == 0) = false := by rw [beq_eq_false_iff_ne]; omega
                have HT2 := Lib.hid (HTOK.out (by omega))
                have hTl := HTL.out
                have hwr : IntKind.i64.wrap ((n : Int) + (C : Int)) = (n : Int) + (C : Int) := by rw [IntKind.wrap_i64]; omega
                have hs1 := slice_str s n (n + C) (by omega) (by omega)
                have hs2 := slice_str s n0 n (by omega) (by omega)
                rw [HEX.out, Nat.add_sub_cancel_left] at hs1
                rw [HEX.out] at hs2
                rw [Int.natCast_add] at hs1
                have hnc : (n : Int) + (C : Int) ≤ (s.size : Int) := by omega
                have hnc2 : (n : Int) + (C : Int) ≤ 8192 := by omega
                have hnc3 : (n : Int) ≤ (n : Int) + (C : Int) := by omega
                go_wp2_with (first
                  | (go_at_call 30; (with_reducible refine hcall.out.mono ?_); rintro e w' ⟨rfl, hw⟩; rw [hw]; clear hw)
                  | (go_at_call 32; (with_reducible refine HWW.out.mono ?_); rintro e w'' ⟨rfl, hw⟩; rw [hw]; clear hw))
                go_region_law (refine step_putT (p := (L.drop n).take C) (q := (L.drop n0).take (n - n0)) (hown.drewN 1) rfl rfl hbel.size (by omega) rfl _ _ rfl rfl rfl ?_; intro v5 w5 hown5 hbel5)
                all_goals (go_wp2_with fail)
                all_goals
                  go_roundw
                  case rel => exact ⟨_, n + C, n + C, by omega, by omega, by simp; omega, by go_num, by go_num, hown5, (below_drewN hbel 1).trans hbel5, HT2⟩
                  case measure => simp [intOf]; omega
            by_cases e4 : K = 4
            · subst e4
              rw [show wsz (L.drop n) = tk (L.drop n) by rw [HTK.out, if_pos (.inr rfl)]] at HWW
              clear HSS HTK
              generalize tk (L.drop n) = C at HBAD HTOK HTL HWW
              by_cases hC0 : C = 0
              · subst hC0
                have hz : Z = ([], [], (n : Int)) := HE.out _ (HBAD.out (.inl rfl))
                go_wp2_with (first
                  | (go_at_call 30; (with_reducible refine hcall.out.mono ?_); rintro e w' ⟨rfl, hw⟩; rw [hw]; clear hw)
                  | (go_at_call 32; (with_reducible refine HWW.out.mono ?_); rintro e w'' ⟨rfl, hw⟩; rw [hw]; clear hw))
                rw [Exit.noGoto_ret]
                go_ret3
                rw [hz]
                exact ⟨_, rfl, OwnT.nil _ _, hbel⟩
              by_cases hC16 : 16 < C
              · have h16 : (16 : Int) < (C : Int) := by omega
                have hC0b : (((C : Nat) : Int) == 0) = false := by rw [beq_eq_false_iff_ne]; omega
                have hz : Z = ([], [], (n : Int)) := HE.out _ (HBAD.out (.inr hC16))
                go_wp2_with (first
                  | (go_at_call 30; (with_reducible refine hcall.out.mono ?_); rintro e w' ⟨rfl, hw⟩; rw [hw]; clear hw)
                  | (go_at_call 32; (with_reducible refine HWW.out.mono ?_); rintro e w'' ⟨rfl, hw⟩; rw [hw]; clear hw))
                rw [Exit.noGoto_ret]
                go_ret3
                rw [hz]
                exact ⟨_, rfl, OwnT.nil _ _, hbel⟩
              · have h16 : (C : Int) ≤ 16 := by omega
                have hc0 : (0 : Int) ≤ (C : Int) := by omega
                have hC0b : (((C : Nat) : Int) == 0) = false := by rw [beq_eq_false_iff_ne]; omega
                have HT2 := Lib.hid (HTOK.out (by omega))
                have hTl := HTL.out
                have hwr : IntKind.i64.wrap ((n : Int) + (C : Int)) = (n : Int) + (C : Int) := by rw [IntKind.wrap_i64]; omega
                have hs1 := slice_str s n (n + C) (by omega) (by omega)
                have hs2 := slice_str s n0 n (by omega) (by omega)
                rw [HEX.out, Nat.add_sub_cancel_left] at hs1
                rw [HEX.out] at hs2
                rw [Int.natCast_add] at hs1
                have hnc : (n : Int) + (C : Int) ≤ (s.size : Int) := by omega
                have hnc2 : (n : Int) + (C : Int) ≤ 8192 := by omega
                have hnc3 : (n : Int) ≤ (n : Int) + (C : Int) := by omega
                go_wp2_with (first
                  | (go_at_call 30; (with_reducible refine hcall.out.mono ?_); rintro e w' ⟨rfl, hw⟩; rw [hw]; clear hw)
                  | (go_at_call 32; (with_reducible refine HWW.out.mono ?_); rintro e w'' ⟨rfl, hw⟩; rw [hw]; clear hw))
                go_region_law (refine step_putT (p := (L.drop n).take C) (q := (L.drop n0).take (n - n0)) (hown.drewN 1) rfl rfl hbel.size (by omega) rfl _ _ rfl rfl rfl ?_; intro v5 w5 hown5 hbel5)
                all_goals (go_wp2_with fail)
                all_goals
                  go_roundw
                  case rel => exact ⟨_, n + C, n + C, by omega, by omega, by simp; omega, by go_num, by go_num, hown5, (below_drewN hbel 1).trans hbel5, HT2⟩
                  case measure => simp [intOf]; omega
            by_cases e5 : K = 5
            · subst e5
              rw [show sgn (L.drop n) = tk (L.drop n) by rw [HTK.out, if_neg (by decide), if_pos rfl]] at HSS
              clear HWW HTK
              generalize tk (L.drop n) = C at HBAD HTOK HTL HSS
              by_cases hC0 : C = 0
              · subst hC0
                have hz : Z = ([], [], (n : Int)) := HE.out _ (HBAD.out (.inl rfl))
                go_wp2_with (first
                  | (go_at_call 30; (with_reducible refine hcall.out.mono ?_); rintro e w' ⟨rfl, hw⟩; rw [hw]; clear hw)
                  | (go_at_call 33; (with_reducible refine HSS.out.mono ?_); rintro e w'' ⟨rfl, hw⟩; rw [hw]; clear hw))
                rw [Exit.noGoto_ret]
                go_ret3
                rw [hz]
                exact ⟨_, rfl, OwnT.nil _ _, hbel⟩
              by_cases hC16 : 16 < C
              · have h16 : (16 : Int) < (C : Int) := by omega
                have hC0b : (((C : Nat) : Int) == 0) = false := by rw [beq_eq_false_iff_ne]; omega
                have hz : Z = ([], [], (n : Int)) := HE.out _ (HBAD.out (.inr hC16))
                go_wp2_with (first
                  | (go_at_call 30; (with_reducible refine hcall.out.mono ?_); rintro e w' ⟨rfl, hw⟩; rw [hw]; clear hw)
                  | (go_at_call 33; (with_reducible refine HSS.out.mono ?_); rintro e w'' ⟨rfl, hw⟩; rw [hw]; clear hw))
                rw [Exit.noGoto_ret]
                go_ret3
                rw [hz]
                exact ⟨_, rfl, OwnT.nil _ _, hbel⟩
              · have h16 : (C : Int) ≤ 16 := by omega
                have hc0 : (0 : Int) ≤ (C : Int) := by omega
                have hC0b : (((C : Nat) : Int) == 0) = false := by rw [beq_eq_false_iff_ne]; omega
                have HT2 := Lib.hid (HTOK.out (by omega))
                have hTl := HTL.out
                have hwr : IntKind.i64.wrap ((n : Int) + (C : Int)) = (n : Int) + (C : Int) := by rw [IntKind.wrap_i64]; omega
                have hs1 := slice_str s n (n + C) (by omega) (by omega)
                have hs2 := slice_str s n0 n (by omega) (by omega)
                rw [HEX.out, Nat.add_sub_cancel_left] at hs1
                rw [HEX.out] at hs2
                rw [Int.natCast_add] at hs1
                have hnc : (n : Int) + (C : Int) ≤ (s.size : Int) := by omega
                have hnc2 : (n : Int) + (C : Int) ≤ 8192 := by omega
                have hnc3 : (n : Int) ≤ (n : Int) + (C : Int) := by omega
                go_wp2_with (first
                  | (go_at_call 30; (with_reducible refine hcall.out.mono ?_); rintro e w' ⟨rfl, hw⟩; rw [hw]; clear hw)
                  | (go_at_call 33; (with_reducible refine HSS.out.mono ?_); rintro e w'' ⟨rfl, hw⟩; rw [hw]; clear hw))
                go_region_law (refine step_putT (p := (L.drop n).take C) (q := (L.drop n0).take (n - n0)) (hown.drewN 1) rfl rfl hbel.size (by omega) rfl _ _ rfl rfl rfl ?_; intro v5 w5 hown5 hbel5)
                all_goals (go_wp2_with fail)
                all_goals
                  go_roundw
                  case rel => exact ⟨_, n + C, n + C, by omega, by omega, by simp; omega, by go_num, by go_num, hown5, (below_drewN hbel 1).trans hbel5, HT2⟩
                  case measure => simp [intOf]; omega
            obtain rfl : K = 0 := by omega
            have h0 : tk (L.drop n) = 0 := by rw [HTK.out, if_neg (by decide), if_neg (by decide)]
            have hz : Z = ([], [], (n : Int)) := HE.out _ (HBAD.out (.inl h0))
            go_wp2_with ((go_at_call 30; (with_reducible refine hcall.out.mono ?_); rintro e w' ⟨rfl, hw⟩; rw [hw]; clear hw))
            rw [Exit.noGoto_ret]
            go_ret3
            rw [hz]
            exact ⟨_, rfl, OwnT.nil _ _, hbel⟩
      · obtain rfl : n = s.size := by omega
        have hend := st_end (by rw [List.drop_eq_nil_iff, HL.out]; exact Nat.le_refl _) hrel.out
        have hz := HE.out _ hend
        have hz2 : Z = (T, (L.drop n0).take (s.size - n0), -1) := hz
        have hs3 := slice_from s n0 (by omega)
        rw [HEX.out] at hs3
        go_wp2_with fail
        go_quiet (fail)
        go_wp2_with fail
        rw [Exit.noGoto_ret]
        go_ret3
        rw [hz2]
        exact ⟨_, rfl, hown.drewN _, below_drewN hbel _⟩
end Go.Proofs.YtfbookfaodfmdaaDoor
