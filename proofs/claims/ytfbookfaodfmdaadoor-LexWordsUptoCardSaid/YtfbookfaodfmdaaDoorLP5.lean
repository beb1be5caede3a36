import Derived.Test.YtfbookfaodfmdaaDoorLQ2
import Derived.Test.YtfbookfaodfmdaaDoorLP4
import Derived.Deep.RegionHeldLaw
set_option linter.unusedVariables false
set_option linter.unusedSimpArgs false
namespace Go.Proofs.YtfbookfaodfmdaaDoor
open Go.RowKit

/-- Two rows of the call's own lie in different blocks. -/
def Apart (u v : Value) : Prop := ∀ g, u.ownBlock = some g → v.ownBlock ≠ some g
theorem Apart.symm {u v : Value} (h : Apart u v) : Apart v u := fun g h1 h2 => h g h2 h1
/-- 'append(l, Token{..})' in a region that draws its order, and another row stays. -/
theorem step_putT2 {w : World} {base : Nat} {v : Value} {T : List (List Nat × List Nat)} {ops : Array Oper} {o : Oper} {a : Act} {K : Act → World → Prop} {Q : Exit → Act → World → Prop} {E : Prop} {p q : List Nat} {c : Nat} {x y : ByteArray}
    (hown : OwnT w base v T) (hx' : x = mkS p) (hy' : y = mkS q) (hbase : base ≤ w.heap.size) (hbytes : T.length ≤ 1000000)
    (hgd : o.guard = none) (s z : Operand) (ho : o.op = .call { callee := .builtin .append, args := #[s, z], argTypes := #[27, 27] })
    (hs : a.eval s = v) (hy : a.eval z = .slice (some ⟨w.heap.size, 0, none⟩) 1 c)
    (h : ∀ v' w', OwnT w' base v' (T ++ [(p, q)]) → Below base w w' → (∀ u T', OwnT w base u T' → Apart u v → OwnT w' base u T' ∧ Apart u v') → K (a.put o.dst v') w') :
    if Region.wanted o (yielded ops a.tmps) = true then Oper.wp Tryd.prog o a (w.alloc (.cells #[.string x, .string y] 40)) K Q else E := by
  subst hx' hy'
  obtain ⟨i0, hi0, hz0, hz1, hz2⟩ := info_parts info_tok
  refine step_append_lies _ hgd s z _ ho base _ i0 _ 2 32 Tryd.underlying27 hi0 hz0 hz1 hz2 rfl (by decide) v T.length (tv T) hs (World.ownsRow.alloc hown _) ⟨w.heap.size, 0, none⟩ 1 c [.string (mkS p), .string (mkS q)] hy rfl ?_ ?_ (by decide) (by simp only [maxLen]; omega) (by omega) (by simp; omega) _ rfl ?_
  · intro j u hu
    have ha : (⟨w.heap.size, 0, none⟩ : Addr).add j = ⟨w.heap.size, 0 + j, none⟩ := by unfold Addr.add; split <;> simp_all
    rw [ha, cell_of_row (w.alloc _) w.heap.size (0 + j) _ _ (0, 0) (heap_alloc_new w _)]
    simpa using hu
  · intro u hu
    simp at hu
    rcases hu with rfl | rfl <;> rfl
  · intro g cap w' h1 h2 h3 _
    refine h _ w' ?_ (((Below.refl base w).alloc hbase _).grown h2 (by simp; omega) (fun k hk => (World.ownsRow.lt hown k hk).1)) ?_
    · unfold OwnT
      rw [tv_app, tv_one, List.length_append]
      exact h1
    · intro u T' hu hap
      refine ⟨World.ownsRow.kept (World.ownsRow.alloc hu _) h2 ?_, ?_⟩
      · cases hub : u.ownBlock with
        | none => exact .inl rfl
        | some k => exact .inr fun e => hap k hub e.symm
      · intro k hk e
        have e2 : k = g := (Option.some.inj e).symm
        subst e2
        rcases h3 with h3 | h3
        · exact hap k hk h3
        · have := (World.ownsRow.lt hu k hk).2
          rw [alloc_size1] at h3
          omega
theorem ss_map_get {P : List (List Nat)} {i : Nat} (h : i < P.length) : (ss (P.map mkS))[i]? = some (.string (mkS P[i])) := by simp [ss, List.getElem?_eq_getElem h]
theorem ss_usl_get {P : List (List Nat)} {i : Nat} (h : i < P.length + 1) : (ss (usl (P.map mkS)))[i]? = some (.string (mkS (usb P i))) := by
  rw [usl_mk]; simp [ss, List.getElem?_range h]
theorem tkG_take {P : List (List Nat)} {m : List Int} {i : Nat} (h : i < P.length) : (tkG P m).take (i + 1) = (tkG P m).take i ++ [(P[i], gpL m i)] := by
  rw [List.take_succ_eq_append_getElem (by rw [tkG_len]; exact h), tkG_get P m i h]
theorem tkU_take {P : List (List Nat)} {i : Nat} (h : i < P.length) : (tkU P).take (i + 1) = (tkU P).take i ++ [(P[i], usb P i)] := by
  rw [List.take_succ_eq_append_getElem (by rw [tkU_len]; exact h), tkU_get P i h]

set_option maxHeartbeats 8000000 in
set_option maxRecDepth 100000 in
theorem LexLayouts_any (m cap m' cap' : Nat) (A A' : Option Addr) (l l' : List Int) (last : Int) (w : World) (hm : m = l.length) (hm' : m' = l'.length) (hm2 : m ≤ maxLen) (hm2' : m' ≤ maxLen) (hl : ∀ x ∈ l, InR x) (hl' : ∀ x ∈ l', InR x) (hr : Rd w w.heap.size A (iv l)) (hr' : Rd w w.heap.size A' (iv l')) (hlast : InR last) (hk : Kx w) :
    Calls Tryd.prog 6 #[.slice A m cap, .slice A' m' cap', .int .i64 last] w (SRes w) := by
  obtain ⟨P, hPe⟩ : ∃ P, pcL l = P := ⟨_, rfl⟩
  have hPall : ∀ p ∈ P, p ∈ allP := by rw [← hPe]; exact pcL_all l
  have hPlen : P.length ≤ 30 := by rw [← hPe]; exact pcL_len l
  obtain ⟨n, hn⟩ : ∃ n, P.length = n := ⟨_, rfl⟩
  have HPC : Hid (Calls Tryd.prog 16 #[.slice A m cap] w fun e w' => ∃ A c, e = .returned (.slice A n c) ∧ Rd w' w'.heap.size A (ss (P.map mkS)) ∧ Below w.heap.size w w') := Lib.hid <| by
    refine (Pieces_any m cap A l w hm hm2 hl hr).mono ?_
    rintro e w' ⟨v, rfl, ho, hb⟩
    obtain ⟨A, c, rfl, _, _, hr⟩ := ho.shape
    unfold pcs at hr ⊢
    rw [hPe] at hr ⊢
    rw [List.length_map, hn]
    exact ⟨A, c, rfl, hr, hb⟩
  have HUS := Lib.hid fun (c : Nat) (A : Option Addr) (W : World) (hr : Rd W W.heap.size A (ss (P.map mkS))) => Usual_any n c A (P.map mkS) W (by rw [List.length_map, hn]) (by omega) hr
  have HAT := Lib.hid fun (i : Nat) (W : World) (hW : Below w.heap.size w W) => At_any l' i 4000 m' w.heap.size cap' A' hm' hm2' (by decide) (by decide) hl' W (hr'.below hW)
  have hin : ∀ i, InR ((at_ l' i 4000 : Nat) : Int) := by
    intro i
    have : at_ l' i 4000 < 4000 := by unfold at_; split; exact ar_lt _ _ (by decide); decide
    exact ⟨by omega, by omega⟩
  have HGP := Lib.hid fun (i : Nat) (W : World) => Gap_any ((at_ l' i 4000 : Nat) : Int) (i : Int) (hin i) W
  have HGL := Lib.hid fun (W : World) => Gap_any last 0 hlast W
  have hend := gapL_cb last false
  have hendl := gapL_len last false
  obtain ⟨hG1, hG2⟩ := tkG_read (m := l') hPall hPlen hend.1 hendl
  obtain ⟨hU1, hU2⟩ := tkU_read hPall hPlen
  have hGT := tkG_TB (m := l') hPall
  have hUT := tkU_TB hPall
  have hGB : ∀ d ∈ cat (tkG P l') ++ gapL last false, d < 256 := fun d hd => (List.mem_append.1 hd).elim (cat_bytes hGT d) (hend.2 d)
  have hUB : ∀ d ∈ cat (tkU P) ++ [], d < 256 := fun d hd => (List.mem_append.1 hd).elim (cat_bytes hUT d) (by simp)
  rw [← sb_mkS _ hGB] at hG1
  rw [← sb_mkS _ hUB] at hU1
  have HSG := Lib.hid (Scan_read (s := mkS (cat (tkG P l') ++ gapL last false)) (by rw [mkS_size, List.length_append]; omega) hG1 n (by rw [tkG_len, hn]))
  have HSU := Lib.hid (Scan_read (s := mkS (cat (tkU P) ++ [])) (by rw [mkS_size, List.length_append]; simp; omega) hU1 n (by rw [tkU_len, hn]))
  have HTG := Lib.hid fun (c : Nat) (A : Option Addr) (W : World) (hr : Rd W W.heap.size A (tv (tkG P l'))) => Text_any n c A (tkG P l') (gapL last false) W (by rw [tkG_len, hn]) (by omega) hGT hend.2 (by omega) hr
  have HTU := Lib.hid fun (c : Nat) (A : Option Addr) (W : World) (hr : Rd W W.heap.size A (tv (tkU P))) => Text_any n c A (tkU P) [] W (by rw [tkU_len, hn]) (by omega) hUT (by simp) (by simp; omega) hr
  have HPL := Lib.hid fun (T : List (List Nat × List Nat)) (hT : T.length = n) (c : Nat) (A : Option Addr) (W : World) (hr : Rd W W.heap.size A (tv T)) => plain_rd n c A T W hT.symm (by omega) hr
  have HSM := Lib.hid fun (T : List (List Nat × List Nat)) (hT : T.length = n) (c d : Nat) (A A' : Option Addr) (W : World) (hr : Rd W W.heap.size A (tv T)) (hr' : Rd W W.heap.size A' (tv T)) => same_rd n c d A A' T W hT.symm (by omega) hr hr'
  have HTGn : Hid ((tkG P l').length = n) := Lib.hid (by rw [tkG_len, hn])
  have HTUn : Hid ((tkU P).length = n) := Lib.hid (by rw [tkU_len, hn])
  have HPN := Lib.hid hn
  have HK := Lib.hid hk
  have HLV := Lib.hid fun (W : World) (hW : Kx W) => lives_any W hW
  have hni : (n : Int) ≤ 30 := by omega
  have hn0 : (0 : Int) ≤ (n : Int) := by omega
  have hwn : IntKind.i64.wrap ((n : Int) + 1) = ((n + 1 : Nat) : Int) := (IntWalk.i64_in _ (by omega)).trans (by omega)
  clear hG1 hG2 hU1 hU2 hGT hUT hGB hUB hend hendl hin hPall hPlen hPe hn hm hm' hl hl' hr hr' hlast hk
  go_enter Tryd.func6, Tryd.ntmps6
  go_upto_region 5 with (first
    | (go_at_call 16; (with_reducible refine HPC.out.mono ?_); rintro e w1 ⟨A1, c1, rfl, hr1, hb1⟩; have HR1 := Lib.hid hr1; have HB1 := Lib.hid hb1; clear hr1 hb1)
    | (go_at_call 25; (with_reducible refine (HUS.out _ _ _ HR1.out).mono ?_); rintro e w4 ⟨rfl, ho4, hb4⟩; have HR4 := Lib.hid (Rd.own ho4); have HB4 := Lib.hid (later HB1.out hb4); have HR1' := Lib.hid (HR1.out.later hb4); clear ho4 hb4))
  obtain ⟨n1, hn1⟩ : ∃ n1, n + 1 = n1 := ⟨_, rfl⟩
  rw [hn1] at hwn ⊢
  have hnn : (n : Int) < (n1 : Int) := by omega
  have hn10 : (0 : Int) ≤ (n1 : Int) := by omega
  have HN1 := Lib.hid hn1
  clear hn1
  generalize w1.heap.size = bu at HR4 ⊢
  have HV4 : Hid (w.heap.size ≤ w4.heap.size) := Lib.hid HB4.out.size
  go_wp2_with fail
  go_loopw [8, 9, 11] (fun v8 v9 i W => ∃ j : Nat, j ≤ n ∧ i = .int .i64 (j : Int) ∧ OwnT W w4.heap.size v8 ((tkG P l').take j) ∧ OwnT W w4.heap.size v9 ((tkU P).take j) ∧ Apart v8 v9 ∧ Below w4.heap.size w4 W) (fun _ _ i _ => n - (intOf i).toNat)
  case atStart => exact ⟨0, by omega, rfl, OwnT.nil _ _, OwnT.nil _ _, fun g h => by simp [Value.ownBlock] at h, Below.refl _ _⟩
  case round =>
    obtain ⟨j, hj, rfl, ho8, ho9, hap, hb⟩ := hrel
    by_cases hlt : j < n
    · have hji : (j : Int) < (n : Int) := by omega
      have hji1 : (j : Int) < (n1 : Int) := by omega
      have hj0 : (0 : Int) ≤ (j : Int) := by omega
      have hjP : j < P.length := by rw [HPN.out]; exact hlt
      obtain ⟨bw, ow, rfl, hbB, hcw⟩ := HR1'.out.at_ (by intro e; have h9 := congrArg List.length e; simp [ss] at h9; subst h9; simp at hjP)
      have hcj := hcw j _ (ss_map_get hjP)
      have hlu : bu < w4.heap.size := by
        obtain ⟨b, o, h1, h2, _⟩ := HR4.out.at_ (by intro e; have h9 := congrArg List.length e; rw [usl_mk] at h9; simp [ss] at h9)
        cases h1; exact h2
      have hcu : w4.cell? ⟨bu, j, none⟩ = some (.string (mkS (usb P j))) := by
        obtain ⟨b, o, h1, h2, h3⟩ := HR4.out.at_ (by intro e; have h9 := congrArg List.length e; rw [usl_mk] at h9; simp [ss] at h9)
        cases h1
        have := h3 j _ (ss_usl_get (by omega))
        simpa using this
      have HCW : Hid (∀ W, Below w4.heap.size w4 W → W.cell? ⟨bw, ow + j, none⟩ = some (.string (mkS P[j])) ∧ W.cell? ⟨bu, j, none⟩ = some (.string (mkS (usb P j)))) := Lib.hid fun W hW => ⟨(hW.cell (p := ⟨bw, ow + j, none⟩) hbB).trans hcj, (hW.cell (p := ⟨bu, j, none⟩) hlu).trans hcu⟩
      have HTG1 := Lib.hid (tkG_take (m := l') hjP)
      have HTU1 := Lib.hid (tkU_take hjP)
      have hl8 : ((tkG P l').take j).length ≤ 1000000 := by rw [List.length_take]; omega
      have hl9 : ((tkU P).take j).length ≤ 1000000 := by rw [List.length_take]; omega
      have HATj : Hid (∀ W, Below w.heap.size w W → Calls Tryd.prog 28 #[.slice A' m' cap', .int .i64 (j : Int), .int .i64 4000] W fun e w' => e = .returned (.int .i64 ((at_ l' j 4000 : Nat) : Int)) ∧ w' = W) := Lib.hid fun W hW => HAT.out j W hW
      have HGPj := Lib.hid (HGP.out j)
      have HGE : Hid (gapL ((at_ l' j 4000 : Nat) : Int) (decide ((j : Int) ≠ 0)) = gpL l' j) := Lib.hid rfl
      rw [HGE.out] at HGPj
      generalize P[j] = p at HCW HTG1 HTU1
      generalize gpL l' j = q at HGPj HTG1
      generalize usb P j = u at HCW HTU1
      generalize at_ l' j 4000 = a4 at HATj HGPj
      generalize (tkG P l').take j = M8 at ho8 HTG1 hl8
      generalize (tkU P).take j = M9 at ho9 HTU1 hl9
      have HB4r := Lib.hid (later HB4.out (hb.mono (Nat.le_refl _)))
      have HO8 := Lib.hid ho8
      have HO9 := Lib.hid ho9
      have HAP := Lib.hid hap
      have HBr := Lib.hid hb
      have hbd : Below w4.heap.size w4 wr.drew := below_drewN hb 1
      clear hcw hcj hcu ho8 ho9 hap hb hjP hlt HGE
      go_upto_region 10 with fail
      go_region_held_law (fun W => W.cell? ⟨bw, ow + j, none⟩ = some (.string (mkS p)))
        (first | exact (HCW.out _ hbd).1 | exact (HCW.out _ hbg).1 | exact (HCW.out _ (hbg.alloc hbg.size _)).1 | exact (HCW.out _ hb5).1)
        (first
          | (refine step_putT2 (p := p) (q := q) hown2 rfl rfl hbg.size hl8 rfl _ _ rfl rfl rfl ?_; intro v5 w5 hown5 hb50 hoth5; have hb5 := hbg.trans hb50)
          | (go_at_call 28; (with_reducible refine (HATj.out _ (later HB4.out hbd)).mono ?_); rintro e wa ⟨rfl, hwa⟩; rw [hwa])
          | (go_at_call 18; (with_reducible refine (HGPj.out _).mono ?_); rintro e wg ⟨rfl, hbg0⟩; have hbg := hbd.trans (hbg0.mono hbd.size); have hown2 := (HO8.out.drewN 1).later hbg0; have hown3 := (HO9.out.drewN 1).later hbg0))
      obtain ⟨hown9, hap9⟩ := hoth5 _ _ hown3 HAP.out.symm
      have hbd5 : Below w4.heap.size w4 w5.drew := below_drewN hb5 1
      obtain ⟨hcl1, hcl2⟩ := HCW.out _ hbd5
      have hbs5 := hb5.size
      have HO5 := Lib.hid hown5
      have HAP9 := Lib.hid hap9
      have HB5 := Lib.hid hb5
      clear hoth5 hown5 hown2 hown3 hbg hbg0 hb50 hbd hbd5 HCW HATj HGPj hap9 hb5
      go_upto_region 11 with fail
      go_region_law (refine step_putT2 (p := p) (q := u) (hown9.drewN 1) rfl rfl hbs5 hl9 rfl _ _ rfl rfl rfl ?_; intro v6 w6 hown6 hb60 hoth6)
      all_goals
        obtain ⟨hown8, hap8⟩ := hoth6 _ _ (HO5.out.drewN 1) HAP9.out.symm
        have HB6 := Lib.hid ((below_drewN HB5.out 1).trans hb60)
        clear hoth6 hb60
        go_wp2_with fail
        refine ⟨⟨j + 1, by omega, by go_num, by rw [HTG1.out]; exact hown8, by rw [HTU1.out]; exact hown6, hap8, HB6.out⟩, by simp [intOf]; omega⟩
    · obtain rfl : j = n := by omega
      have hlu : bu < w4.heap.size := by
        obtain ⟨b, o, h1, h2, _⟩ := HR4.out.at_ (by intro e; have h9 := congrArg List.length e; rw [usl_mk] at h9; simp [ss] at h9)
        cases h1; exact h2
      have hcu : w4.cell? ⟨bu, j, none⟩ = some (.string ⟨#[]⟩) := by
        obtain ⟨b, o, h1, h2, h3⟩ := HR4.out.at_ (by intro e; have h9 := congrArg List.length e; rw [usl_mk] at h9; simp [ss] at h9)
        cases h1
        have h4 := h3 j _ (ss_usl_get (by have := HPN.out; omega))
        have h5 : usb P j = [] := by unfold usb; rw [if_neg (by have := HPN.out; omega)]
        rw [h5] at h4
        rw [Nat.zero_add] at h4
        exact h4
      rw [List.take_of_length_le (by have := HTGn.out; omega)] at ho8
      rw [List.take_of_length_le (by have := HTUn.out; omega)] at ho9
      obtain ⟨A8, c8, rfl, _, _, hr8⟩ := ho8.shape
      obtain ⟨A9, c9, rfl, _, _, hr9⟩ := ho9.shape
      rw [HTGn.out, HTUn.out]
      have HR8 := Lib.hid hr8
      have HR9 := Lib.hid hr9
      have HBr := Lib.hid (later HB4.out hb)
      have HKr := Lib.hid (HK.out.later HBr.out)
      have HCU : Hid (∀ W, Below wr.heap.size wr W → W.cell? ⟨bu, j, none⟩ = some (.string ⟨#[]⟩)) := Lib.hid fun W hW => ((later hb hW).cell (p := ⟨bu, j, none⟩) hlu).trans hcu
      have hjlt : ¬ (j : Int) < (j : Int) := by omega
      clear ho8 ho9 hr8 hr9 hb hap hcu hlt hj
      have HGL2 : Hid (∀ W, Calls Tryd.prog 18 #[.int .i64 last, .int .i64 0] W fun e w' => e = .returned (.string (mkS (gapL last false))) ∧ Below W.heap.size W w') := Lib.hid fun W => by have h := HGL.out W; simpa using h
      have HSU2 : Hid (∀ W, Kx W → Calls Tryd.prog 11 #[.string (mkS (cat (tkU P) ++ []))] W fun e w' => ∃ A c, e = .returned (.tuple #[.slice A j c, .string ⟨#[]⟩, .int .i64 (-1)]) ∧ Rd w' w'.heap.size A (tv (tkU P)) ∧ Below W.heap.size W w') := Lib.hid fun W hW => HSU.out W hW
      have HTU2 : Hid (∀ (c : Nat) (A : Option Addr) (W : World), Rd W W.heap.size A (tv (tkU P)) → Calls Tryd.prog 27 #[.slice A j c, .string ⟨#[]⟩] W fun e w' => e = .returned (.string (mkS (cat (tkU P) ++ []))) ∧ Below W.heap.size W w') := Lib.hid fun c A W hr => HTU.out c A W hr
      have HPG := Lib.hid (HPL.out _ HTGn.out)
      have HPU := Lib.hid (HPL.out _ HTUn.out)
      have HSMG := Lib.hid (HSM.out _ HTGn.out)
      have HSMU := Lib.hid (HSM.out _ HTUn.out)
      generalize mkS (cat (tkG P l') ++ gapL last false) = yG at HSG HTG
      generalize mkS (gapL last false) = y0 at HSG HTG HGL2
      generalize mkS (cat (tkU P) ++ []) = yU at HSU2 HTU2
      clear HGL HSU HTU HPL HSM HAT HGP HUS HPC
      go_upto_region 14 with (first
        | (go_at_call 18; (with_reducible refine (HGL2.out _).mono ?_); rintro e w5 ⟨rfl, hb5⟩; have HB5 := Lib.hid hb5; clear hb5)
        | (go_at_call 27; (with_reducible refine (HTG.out _ _ _ (HR8.out.later HB5.out)).mono ?_); rintro e w6 ⟨rfl, hb6⟩; have HB6 := Lib.hid (later HB5.out hb6); clear hb6)
        | (go_at_call 11; (with_reducible refine (HSG.out _ (HKr.out.later HB6.out)).mono ?_); rintro e w7 ⟨A3, c3, rfl, hr7, hb7⟩; have HB7 := Lib.hid (later HB6.out hb7); have HR7 := Lib.hid hr7; clear hr7 hb7))
      have hcu7 := HCU.out _ HB7.out
      go_upto_region 15 with (first
        | (go_at_call 27; (with_reducible refine (HTU2.out _ _ _ (HR9.out.later HB7.out)).mono ?_); rintro e w8 ⟨rfl, hb8⟩; have HB8 := Lib.hid (later HB7.out hb8); have HB78 := Lib.hid hb8; clear hb8)
        | (go_at_call 11; (with_reducible refine (HSU2.out _ (HKr.out.later HB8.out)).mono ?_); rintro e w9 ⟨A4, c4, rfl, hr9, hb9⟩; have HB9 := Lib.hid (later HB8.out hb9); have HB79 := Lib.hid (later HB78.out hb9); have HR9' := Lib.hid hr9; clear hr9 hb9))
      clear hcu7
      go_wp2_with (first
        | (go_at_call 14; (with_reducible refine (HPG.out _ _ _ (HR7.out.later HB79.out)).mono ?_); rintro e w10 ⟨A10, c10, rfl, hr10, hb10⟩; have HB10 := Lib.hid hb10; have HR10 := Lib.hid hr10; clear hr10 hb10)
        | (go_at_call 14; (with_reducible refine (HPG.out _ _ _ (HR8.out.later (later HB9.out HB10.out))).mono ?_); rintro e w11 ⟨A11, c11, rfl, hr11, hb11⟩; have HB11 := Lib.hid hb11; have HR11 := Lib.hid hr11; clear hr11 hb11)
        | (go_at_call 13; (with_reducible refine (HSMG.out _ _ _ _ _ (HR10.out.later HB11.out) HR11.out).mono ?_); rintro e w12 ⟨rfl, hb12⟩; have HB12 := Lib.hid (later (later HB10.out HB11.out) hb12); clear hb12)
        | (go_at_call 14; (with_reducible refine (HPU.out _ _ _ (HR9'.out.later HB12.out)).mono ?_); rintro e w13 ⟨A13, c13, rfl, hr13, hb13⟩; have HB13 := Lib.hid hb13; have HR13 := Lib.hid hr13; clear hr13 hb13)
        | (go_at_call 14; (with_reducible refine (HPU.out _ _ _ (HR9.out.later (later (later HB9.out HB12.out) HB13.out))).mono ?_); rintro e w14 ⟨A14, c14, rfl, hr14, hb14⟩; have HB14 := Lib.hid hb14; have HR14 := Lib.hid hr14; clear hr14 hb14)
        | (go_at_call 13; (with_reducible refine (HSMU.out _ _ _ _ _ (HR13.out.later HB14.out) HR14.out).mono ?_); rintro e w15 ⟨rfl, hb15⟩; have HB15 := Lib.hid (later (later (later (later HB9.out HB12.out) HB13.out) HB14.out) hb15); clear hb15)
        | (go_at_call 15; (with_reducible refine (HLV.out _ (HKr.out.later HB15.out)).mono ?_); rintro e w16 ⟨rfl, hb16⟩; have HB16 := Lib.hid (later HB15.out hb16); clear hb16))
      go_ret
      exact ⟨rfl, later HBr.out HB16.out⟩
end Go.Proofs.YtfbookfaodfmdaaDoor
