import Derived.Test.YtbfoajfpnfkfnaaDoorS9
import Derived.Test.YtbfoajfpnfkfnaaDoorS5
import Derived.Maps.AppendAt
set_option linter.unusedVariables false
set_option linter.unusedSimpArgs false
namespace Go.Proofs.YtbfoajfpnfkfnaaDoor
open Go.RowKit

/-- 'append(out, x)', and a row of another block stays. -/
theorem wpList_putJ {w : World} {base : Nat} {v : Value} {xs : List Nat} {ops : Array Oper} {rest : List Oper} {o : Oper} {a : Act} {Q : Exit → Act → World → Prop} {x : Nat} {X : Int} {c : Nat}
    (hown : OwnI w base v xs) (hX : X = (x : Int)) (hbase : base ≤ w.heap.size) (hbytes : xs.length ≤ 100000)
    (hgd : o.guard = none) (s y : Operand) (ho : o.op = .call { callee := .builtin .append, args := #[s, y], argTypes := #[51, 51] })
    (hs : a.eval s = v) (hy : a.eval y = .slice (some ⟨w.heap.size, 0, none⟩) 1 c)
    (h : ∀ v' w', OwnI w' base v' (xs ++ [x]) → Below base w w' → (∀ g n e cs, Arr w g n e cs → v.ownBlock ≠ some g → Arr w' g n e cs ∧ v'.ownBlock ≠ some g) → wpList Tryd.prog ops Q rest (a.put o.dst v') w') :
    wpList Tryd.prog ops Q (o :: rest) a (w.alloc (.cells #[.int .i64 X] 3)) := by
  subst hX
  obtain ⟨i0, hi0, hz0, hz1, hz2⟩ := info_parts info_int
  have hown' : (w.alloc (.cells #[.int .i64 (x : Int)] 3)).ownsRow base 3 1 v xs.length (isv xs) := World.ownsRow.alloc hown _
  refine wpList_append_own_at _ hgd s y _ ho base _ i0 (.int .i64 0) 1 8 Tryd.underlying51 hi0 hz0 hz1 hz2 rfl (by decide) v xs.length (isv xs) hs hown' ⟨w.heap.size, 0, none⟩ 1 c [.int .i64 (x : Int)] hy rfl ?_ ?_ (by simp only [maxLen]; omega) (by omega) (by simp; omega) ?_
  · intro j y hj
    match j, hj with
    | 0, hj => simp at hj; subst hj; simp [Addr.add]
  · intro y hy; simp at hy; subst hy; rfl
  · intro v' w' h1 hg _ hloc
    refine h v' w' ?_ (((Below.refl base w).alloc hbase _).grown hg (by simp; omega) (fun k hk => (World.ownsRow.lt hown k hk).1)) ?_
    · unfold OwnI
      rw [isv_app, List.length_append]
      exact h1
    · intro g n e cs hA hne
      have hlt := hA.lt
      refine ⟨World.ownsRow.kept (World.ownsRow.alloc hA _) hg (.inr (fun e => hne e.symm)), ?_⟩
      rcases hloc with hl | hl
      · rw [hl]; exact hne
      · rw [hl]; intro e; simp at e; omega
theorem OwnI.some_ {w : World} {base : Nat} {v : Value} {xs : List Nat} (h : OwnI w base v xs) (h0 : 0 < xs.length) : ∃ g cap, v = .slice (some ⟨g, 0, none⟩) xs.length cap ∧ base ≤ g ∧ ∀ (j x : Nat), xs[j]? = some x → w.cell? ⟨g, j, none⟩ = some (.int .i64 (x : Int)) := by
  unfold OwnI at h
  obtain ⟨g, cap, rfl, hb, _, _⟩ := own_some h h0
  refine ⟨g, cap, rfl, hb, fun j x hx => ?_⟩
  have hj := (List.getElem?_eq_some_iff.1 hx).1
  rw [World.ownsRow.cellAt h j (by simpa using hj), isv_get hx]
theorem OwnI.apart {w : World} {base : Nat} {v : Value} {xs : List Nat} (h : OwnI w base v xs) : v.ownBlock ≠ some w.heap.size := fun e => by
  have := (World.ownsRow.lt h _ e).2
  omega
theorem dig4_vals {X : Nat} (hv : X < 256) : (#[.int .i64 ((X : Int) / 64), .int .i64 ((X : Int) / 16 % 4), .int .i64 ((X : Int) / 4 % 4), .int .i64 ((X : Int) % 4)] : Array Value) = (isv (dig4 X)).toArray := by
  have h : X / 64 = X / 64 % 4 := by omega
  have e : ((X : Int) / 64) = ((X / 64 % 4 : Nat) : Int) := by rw [← h]; rfl
  rw [e]
  rfl
theorem take_snoc (l : List Nat) (j : Nat) (hj : j < l.length) : l.take (j + 1) = l.take j ++ [l.getD j 0] := by
  rw [List.take_succ_eq_append_getElem hj, List.getD_eq_getElem?_getD, List.getElem?_eq_getElem hj]; rfl

set_option maxHeartbeats 4000000 in
set_option maxRecDepth 100000 in
theorem rdigits_aux (d DL : List Nat) (hd : d.length = 16) (hdb : AllB d) (w : World) (HDL : Hid (digL d = DL)) :
    Calls Tryd.prog 30 #[.agg (bs d).toArray] w fun e w' => ∃ v', e = .returned v' ∧ OwnI w' w.heap.size v' DL ∧ Below w.heap.size w w' := by
  have HD := Lib.hid hd
  have HB := Lib.hid hdb
  have HLb : Hid ((bs d).length = 16) := by show (bs d).length = 16; rw [bs_len, hd]
  have a1 := Arr.new' w 44 (bs d).toArray 16 (bs d) rfl HLb.out (by decide)
  have hbw := new_later w (.cells (bs d).toArray 44)
  clear hd hdb
  go_enter Tryd.func30, Tryd.ntmps30
  go_wp2_with fail
  generalize hW : w.alloc (.cells (bs d).toArray 44) = wa at a1 hbw ⊢
  clear hW
  have hgl := a1.lt
  obtain ⟨B, hB⟩ : ∃ B, wa.heap.size = B := ⟨_, rfl⟩
  go_loopw [3, 4, 5] (fun v s i W => ∃ k : Nat, k ≤ 16 ∧ i = .int .i64 (k : Int) ∧ s = .int .i64 ((chk (dg64 (d.take k)) : Nat) : Int) ∧ OwnI W B v (dg64 (d.take k)) ∧ Below B wa W) (fun _ _ i _ => 16 - (intOf i).toNat)
  case atStart => exact ⟨0, by omega, rfl, rfl, OwnI.nil _ _, Below.refl _ _⟩
  case round =>
    obtain ⟨k, hk, rfl, rfl, hown, hb⟩ := hrel
    have hbs := hb.size
    have hcl := chk_le (dg64 (d.take k))
    have hdl : (dg64 (d.take k)).length = 4 * k := by have := HD.out; rw [dg64_len, List.length_take]; omega
    by_cases hlt : k < 16
    · have hkl : k < d.length := by have := HD.out; omega
      have hbk : (bs d)[k]? = some (.int .u8 ((d[k] : Nat) : Int)) := by
        have := bs_get d k hkl
        rwa [List.getElem?_eq_getElem hkl, Option.getD_some] at this
      have hcell := (a1.below hb (by omega)).cell hbk
      have hv := HB.out _ (List.getElem_mem hkl)
      have hsn := dg64_snoc (d.take k) d[k]
      rw [← List.take_succ_eq_append_getElem hkl] at hsn
      have HSN := Lib.hid hsn
      clear hbk hsn
      generalize d[k] = X at hcell hv HSN
      generalize dg64 (d.take k) = M at hown hcl hdl HSN ⊢
      have f0 : (X : Int).tdiv 64 = ((X / 64 : Nat) : Int) := rfl
      have f1 : (X : Int).tdiv 16 = ((X / 16 : Nat) : Int) := rfl
      have f2 : (X : Int).tdiv 4 = ((X / 4 : Nat) : Int) := rfl
      have hki : (k : Int) < 16 := by omega
      have hk0 : (0 : Int) ≤ (k : Int) := by omega
      go_wp2_with fail
      rw [dig4_vals hv]
      have hG := Arr.new' wr 3 (isv (dig4 X)).toArray 4 (isv (dig4 X)) rfl (by rw [isv_len, dig4_len]) (by decide)
      have hap := OwnI.apart hown
      have hown2 : OwnI (wr.alloc (.cells (isv (dig4 X)).toArray 3)) B u3 M := World.ownsRow.alloc hown _
      have hb2 : Below B wa (wr.alloc (.cells (isv (dig4 X)).toArray 3)) := hb.alloc (by omega) _
      have HD4 : Hid (∀ x ∈ dig4 X, x < 4) := Lib.hid (dig4_lt X)
      have HL4 : Hid ((dig4 X).length = 4) := Lib.hid (dig4_len X)
      generalize dig4 X = DG at HSN hG hown2 hb2 HD4 HL4 ⊢
      obtain ⟨G, hGe⟩ : ∃ G, wr.heap.size = G := ⟨_, rfl⟩
      rw [hGe] at hG hap ⊢
      have hGB : B ≤ G := by omega
      generalize wr.alloc (.cells (isv DG).toArray 3) = wb at hG hown2 hb2 ⊢
      clear hcell f0 f1 f2 hown hb hbs hGe hv
      go_loopw [3, 4, 8] (fun v s i W => ∃ j : Nat, j ≤ 4 ∧ i = .int .i64 (j : Int) ∧ s = .int .i64 ((chk (M ++ DG.take j) : Nat) : Int) ∧ OwnI W B v (M ++ DG.take j) ∧ Arr W G 4 3 (isv DG) ∧ v.ownBlock ≠ some G ∧ Below B wa W) (fun _ _ i _ => 4 - (intOf i).toNat)
      case atStart => exact ⟨0, by omega, rfl, by simp, by simpa using hown2, hG, hap, hb2⟩
      case round =>
        obtain ⟨j, hj, rfl, rfl, hownj, hGj, hapj, hbj⟩ := hrel
        have hbsj := hbj.size
        by_cases hlj : j < 4
        · have hjl : j < DG.length := by have := HL4.out; omega
          have hts := take_snoc DG j hjl
          have hx4 : DG.getD j 0 < 4 := by
            rw [List.getD_eq_getElem?_getD, List.getElem?_eq_getElem hjl]
            exact HD4.out _ (List.getElem_mem hjl)
          have HCJ : Hid (∀ W, Arr W G 4 3 (isv DG) → W.cell? ⟨G, j, none⟩ = some (.int .i64 ((DG.getD j 0 : Nat) : Int))) := Lib.hid fun W hA => hA.cell (isv_at DG j hjl)
          have hcj := HCJ.out _ hGj
          have hc1 := chk_snoc (M ++ DG.take j) (DG.getD j 0)
          rw [List.append_assoc, ← hts] at hc1
          have hl1 : (M ++ DG.take j).length ≤ 68 := by rw [List.length_append, List.length_take]; omega
          have hcl1 := chk_le (M ++ DG.take j)
          have HC1 := Lib.hid hc1
          have HTS : Hid (M ++ DG.take (j + 1) = (M ++ DG.take j) ++ [DG.getD j 0]) := Lib.hid (by rw [List.append_assoc, hts])
          clear hc1 hts hjl
          generalize M ++ DG.take j = MJ at hownj HC1 HTS hl1 hcl1 ⊢
          generalize DG.getD j 0 = x at hcj HCJ hx4 HC1 HTS
          have HGJ := Lib.hid hGj
          have HOJ := Lib.hid hownj
          have HAJ := Lib.hid hapj
          have HBJ := Lib.hid hbj
          clear hGj hownj hapj hbj hG hown2 hap hb2
          have hji : (j : Int) < 4 := by omega
          have hj0 : (0 : Int) ≤ (j : Int) := by omega
          go_wp2_with (at_builtin; refine wpList_putJ HOJ.out rfl (by omega) (by omega) rfl _ _ rfl rfl rfl ?_; intro v5 w5 hown5 hbel5 hoth5; obtain ⟨hG5, hap5⟩ := hoth5 _ _ _ _ HGJ.out HAJ.out; have hb5 := HBJ.out.trans hbel5; have hcj5 := HCJ.out _ hG5)
          refine ⟨⟨j + 1, hlj, by go_num, ?_, ?_, hG5, hap5, hb5⟩, by simp [intOf]; omega⟩
          · rw [HC1.out]; congr 1; omega
          · rw [HTS.out]; exact hown5
        · have hj4 : j = 4 := by omega
          subst hj4
          rw [List.take_of_length_le (by have := HL4.out; omega), ← HSN.out] at hownj ⊢
          have HO := Lib.hid hownj
          have HBJ := Lib.hid hbj
          clear hGj hownj hapj hbj hG hown2 hap hb2 HSN
          go_wp2_with fail
          go_roundw
          case rel => exact ⟨k + 1, hlt, by go_num, rfl, HO.out, HBJ.out⟩
          case measure => simp [intOf]; omega
    · have hk16 : k = 16 := by omega
      subst hk16
      rw [List.take_of_length_le (by have := HD.out; omega)] at hown hcl hdl ⊢
      have HDL2 : Hid (dg64 d ++ dig4 (chk (dg64 d)) = DL) := HDL
      generalize dg64 d = M at hown hcl hdl HDL2 ⊢
      generalize chk M = C at hcl HDL2 ⊢
      have hC : C < 256 := by omega
      have f0 : (C : Int).tdiv 64 = ((C / 64 : Nat) : Int) := rfl
      have f1 : (C : Int).tdiv 16 = ((C / 16 : Nat) : Int) := rfl
      have f2 : (C : Int).tdiv 4 = ((C / 4 : Nat) : Int) := rfl
      have HO := Lib.hid hown
      have HBJ := Lib.hid hb
      have HDV := Lib.hid (dig4_vals hC)
      have HL4 : Hid ((dig4 C).length = 4) := Lib.hid (dig4_len C)
      clear hown hb a1
      go_wp2_with (at_builtin; refine wpList_put4 HO.out HDV.out HL4.out (by omega) (by omega) rfl _ _ rfl rfl rfl ?_; intro v5 w5 hown5 hbel5)
      go_ret
      refine ⟨_, rfl, ?_, ?_⟩
      · rw [HDL2.out] at hown5
        exact own_less hown5 (by omega)
      · exact (hbw.trans (HBJ.out.mono (by omega))).trans (hbel5.mono (by omega))
end Go.Proofs.YtbfoajfpnfkfnaaDoor
