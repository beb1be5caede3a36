import Derived.Test.YtoopilemlgamkaaDoorH10
import Derived.Test.YtoopilemlgamkaaDoorShaT
import Derived.Deep.AppendLies
set_option linter.unusedVariables false
namespace Go.Proofs.YtoopilemlgamkaaDoor
open Go.RowKit

theorem hexD_get (W : World) (kk : IntKind) (x : Nat) (hx : x < 16) : (Instr.index 9 (.string { data := #[48, 49, 50, 51, 52, 53, 54, 55, 56, 57, 97, 98, 99, 100, 101, 102] }) (.int kk (x : Int))).run Tryd.prog W = .ok (.int .u8 ((hexD x : Nat) : Int)) W := by
  rw [run_index_str W _ kk x (by simpa [ByteArray.size] using hx)]
  congr 3
  have : ∀ y : Fin 16, (sb { data := #[48, 49, 50, 51, 52, 53, 54, 55, 56, 57, 97, 98, 99, 100, 101, 102] }).getD y.val 0 = hexD y.val := by decide
  exact_mod_cast this ⟨x, hx⟩
theorem hexL_len (l : List Nat) : (hexL l).length = 2 * l.length := by
  induction l with
  | nil => rfl
  | cons x l ih => unfold hexL at ih ⊢; simp only [List.flatMap_cons, List.length_append, List.length_cons, List.length_nil]; omega
theorem hexL_snoc (l : List Nat) (x : Nat) : hexL (l ++ [x]) = hexL l ++ [hexD (x / 16), hexD (x % 16)] := by unfold hexL; simp

/-- 'append(out, x, y)' of two bytes, in a region that draws its order. -/
theorem step_put2 {w : World} {base : Nat} {v : Value} {xs : List Nat} {ops : Array Oper} {o : Oper} {a : Act} {K : Act → World → Prop} {Q : Exit → Act → World → Prop} {E : Prop} {p q c : Nat}
    (hown : OwnB w base v xs) (hbase : base ≤ w.heap.size) (hbytes : xs.length + 2 ≤ 140737488355328)
    (hgd : o.guard = none) (s y : Operand) (ho : o.op = .call { callee := .builtin .append, args := #[s, y], argTypes := #[22, 22] })
    (hs : a.eval s = v) (hy : a.eval y = .slice (some ⟨w.heap.size, 0, none⟩) 2 c)
    (h : ∀ v' w', OwnB w' base v' (xs ++ [p, q]) → Below base w w' → K (a.put o.dst v') w') :
    if Region.wanted o (yielded ops a.tmps) = true then Oper.wp Tryd.prog o a (w.alloc (.cells #[.int .u8 (p : Int), .int .u8 (q : Int)] 5)) K Q else E := by
  obtain ⟨i0, hi0, hz0, hz1, hz2⟩ := info_parts info_u8
  refine step_append_lies _ hgd s y _ ho base _ i0 (.int .u8 0) 1 1 Tryd.underlying22 hi0 hz0 hz1 hz2 rfl (by decide) v xs.length (bs xs) hs (World.ownsRow.alloc hown _) ⟨w.heap.size, 0, none⟩ 2 c [.int .u8 (p : Int), .int .u8 (q : Int)] hy rfl ?_ ?_ (by decide) (by simp only [maxLen]; omega) (by omega) (by simp; omega) _ rfl ?_
  · intro j u hu
    have ha : (⟨w.heap.size, 0, none⟩ : Addr).add j = ⟨w.heap.size, 0 + j, none⟩ := by unfold Addr.add; split <;> simp_all
    rw [ha, cell_of_row (w.alloc _) w.heap.size (0 + j) _ _ (0, 0) (heap_alloc_new w _)]
    simpa using hu
  · intro u hu
    simp at hu
    rcases hu with rfl | rfl <;> rfl
  · intro g cap w' h1 h2 _ _
    refine h _ w' ?_ (((Below.refl base w).alloc hbase _).grown h2 (by simp; omega) (fun k hk => (World.ownsRow.lt hown k hk).1))
    unfold OwnB
    rw [bs_app, List.length_append]
    exact h1

set_option maxHeartbeats 1000000 in
set_option maxRecDepth 100000 in
theorem hex_any (s : ByteArray) (w : World) (hs : s.size ≤ 1000) :
    Calls Tryd.prog 35 #[.string s] w fun e w' => e = .returned (.string (mkS (hexL (sb s)))) ∧ Below w.heap.size w w' := by
  go_enter Tryd.func35, Tryd.ntmps35
  go_wp2_with fail
  obtain ⟨DG, hDG⟩ : ∃ DG : ByteArray, { data := #[48, 49, 50, 51, 52, 53, 54, 55, 56, 57, 97, 98, 99, 100, 101, 102] } = DG := ⟨_, rfl⟩
  rw [hDG]
  have HDG := Lib.hid hDG
  clear hDG
  go_loopw [4, 5] (fun v i W => ∃ k : Nat, k ≤ s.size ∧ i = .int .i64 (k : Int) ∧ OwnB W w.heap.size v (hexL ((sb s).take k)) ∧ Below w.heap.size w W) (fun _ i _ => s.size - (intOf i).toNat)
  case atStart => exact ⟨0, Nat.zero_le _, rfl, OwnB.nil _ _, Below.refl _ _⟩
  case round =>
    obtain ⟨k, hk, rfl, hown, hb⟩ := hrel
    by_cases hlt : k < s.size
    · have hia := fun W => run_index_str W s .i64 k hlt
      have hkl : k < (sb s).length := by rw [sb_len]; exact hlt
      have hg : (sb s).getD k 0 = (sb s)[k] := by rw [List.getD_eq_getElem?_getD, List.getElem?_eq_getElem hkl]; rfl
      have hv := getD_lt (l := sb s) (sb_lt s) (by decide) k
      have ht := hexL_snoc ((sb s).take k) ((sb s).getD k 0)
      rw [hg, ← List.take_succ_eq_append_getElem hkl, ← hg] at ht
      have hl : (hexL ((sb s).take k)).length ≤ 2000 := by rw [hexL_len, List.length_take]; omega
      generalize (sb s).getD k 0 = X at hia hv ht
      have HT := Lib.hid ht
      have hd1 : ∀ W, (Instr.index 9 (.string DG) (.int .u8 ((X : Int) / 16))).run Tryd.prog W = .ok (.int .u8 ((hexD (X / 16) : Nat) : Int)) W := fun W => by
        have e : (X : Int) / 16 = ((X / 16 : Nat) : Int) := by omega
        rw [e, ← HDG.out]; exact hexD_get W .u8 (X / 16) (by omega)
      have hd2 : ∀ W, (Instr.index 9 (.string DG) (.int .u8 ((X : Int) % 16))).run Tryd.prog W = .ok (.int .u8 ((hexD (X % 16) : Nat) : Int)) W := fun W => by
        have e : (X : Int) % 16 = ((X % 16 : Nat) : Int) := by omega
        rw [e, ← HDG.out]; exact hexD_get W .u8 (X % 16) (by omega)
      have ht1 : (X : Int).tdiv 16 = (X : Int) / 16 := Int.tdiv_eq_ediv_of_nonneg (by omega)
      have ht2 : (X : Int).tmod 16 = (X : Int) % 16 := Int.tmod_eq_emod_of_nonneg (by omega)
      have hw1 : IntKind.u8.wrap ((X : Int) / 16) = (X : Int) / 16 := by rw [IntKind.wrap_u8']; omega
      have hw2 : IntKind.u8.wrap ((X : Int) % 16) = (X : Int) % 16 := by rw [IntKind.wrap_u8']; omega
      obtain ⟨Y, hY⟩ : ∃ Y, hexD (X / 16) = Y := ⟨_, rfl⟩
      obtain ⟨Z, hZ⟩ : ∃ Z, hexD (X % 16) = Z := ⟨_, rfl⟩
      rw [hY] at hd1
      rw [hZ] at hd2
      have HY := Lib.hid hY
      have HZ := Lib.hid hZ
      have hki : (k : Int) < (s.size : Int) := by omega
      have hk0 : (0 : Int) ≤ (k : Int) := by omega
      clear ht hkl hg hY hZ
      go_wp2_with fail
      go_region_law (refine step_put2 (p := Y) (q := Z) (show OwnB wr.drew _ _ _ from hown) hb.size (by omega) rfl _ _ rfl rfl rfl ?_; intro v5 w5 hown5 hbel5)
      all_goals (go_wp2_with fail)
      all_goals
        go_roundw
        case rel => exact ⟨k + 1, by omega, by go_num, by rw [HT.out, HY.out, HZ.out]; exact hown5, (show Below w.heap.size w wr.drew from ⟨hb.os, hb.tape, hb.output, hb.size, hb.block⟩).trans hbel5⟩
        case measure => simp [intOf]; omega
    · have hkn : k = s.size := by omega
      subst hkn
      rw [List.take_of_length_le (by rw [sb_len]; exact Nat.le_refl _)] at hown
      obtain ⟨va, vc, rfl, _, _⟩ := hown.shape
      have hcv := run_conv wr.heap.size _ vc va _ wr rfl hown.rd
      go_wp2_with fail
      go_ret
      exact ⟨rfl, hb⟩
end Go.Proofs.YtoopilemlgamkaaDoor
