import Derived.Test.YtbfoajfpnfkfnaaDoorS11
set_option linter.unusedVariables false
set_option linter.unusedSimpArgs false
namespace Go.Proofs.YtbfoajfpnfkfnaaDoor
open Go.RowKit

theorem Laid.len {sd : List Nat} {h idx l k : Nat} {L L' : List ByteArray} (a : Laid sd h idx l k L L') : L'.length = h := a.1
theorem Env.keep {W0 W W' : World} {gs gn gh gi gb gr h idx : Nat} {sd : List Nat} (e0 : Env W0 gs gn gh gi gb gr h idx sd) (e : Env W gs gn gh gi gb gr h idx sd) (k : ∀ k, k < W0.heap.size → W'.heap[k]? = W.heap[k]?) : Env W' gs gn gh gi gb gr h idx sd :=
  ⟨(cell_heap (p := ⟨gs, 0, none⟩) (k gs (World.block_lt_of_cell? W0 _ e0.cs))).trans e.cs, (cell_heap (p := ⟨gn, 0, none⟩) (k gn (World.block_lt_of_cell? W0 _ e0.cn))).trans e.cn, (cell_heap (p := ⟨gh, 0, none⟩) (k gh (World.block_lt_of_cell? W0 _ e0.ch))).trans e.ch,
    (cell_heap (p := ⟨gi, 0, none⟩) (k gi (World.block_lt_of_cell? W0 _ e0.ci))).trans e.ci, (cell_heap (p := ⟨gb, 0, none⟩) (k gb (World.block_lt_of_cell? W0 _ e0.cb))).trans e.cb, e.ns, e.nn, e.nh, e.ni, e.nb⟩
theorem Kc.fr {g : Nat} {w w' : World} (h : Kc w) (f : Fr g w w') (hg : 2 ≤ g) : Kc w' :=
  ⟨Nat.le_trans h.1 f.1.size, fun t x hx => f.cell (by show (1 : Nat) ≠ _; omega) (h.2 t x hx)⟩

set_option maxHeartbeats 4000000 in
set_option maxRecDepth 100000 in
theorem node_succ (gs gn gh gi gb gr h idx l lv k k2 k3 : Nat) (sd : List Nat) (L : List ByteArray) (W : World) (hlv : lv = l + 1) (hk2 : k2 = 2 * k) (hk3 : k3 = k2 + 1) (hg2 : 2 ≤ gr) (E : Env W gs gn gh gi gb gr h idx sd) (A : Arr W gr h 9 (ss L)) (hL : L.length = h) (hh : h ≤ 6) (hi : idx < 64) (hl6 : l ≤ 6) (hk : k < 64) (hK : Kc W)
    (IH : ∀ kk, kk = k2 ∨ kk = k3 → ∀ (X : World) (M : List ByteArray), Env X gs gn gh gi gb gr h idx sd → Arr X gr h 9 (ss M) → M.length = h → Kc X →
      Calls Tryd.prog 65 #[.int .i64 (l : Int), .int .i64 (kk : Int), .pointer (some ⟨gs, 0, none⟩), .pointer (some ⟨gn, 0, none⟩), .pointer (some ⟨gh, 0, none⟩), .pointer (some ⟨gi, 0, none⟩), .pointer (some ⟨gb, 0, none⟩)] X (NodeRes gr h idx l kk sd M X)) :
    Calls Tryd.prog 65 #[.int .i64 (lv : Int), .int .i64 (k : Int), .pointer (some ⟨gs, 0, none⟩), .pointer (some ⟨gn, 0, none⟩), .pointer (some ⟨gh, 0, none⟩), .pointer (some ⟨gi, 0, none⟩), .pointer (some ⟨gb, 0, none⟩)] W (NodeRes gr h idx lv k sd L W) := by
  have IH2 := Lib.hid (IH k2 (.inl rfl))
  have IH3 := Lib.hid (IH k3 (.inr rfl))
  clear IH
  have HLV := Lib.hid hlv
  have HK2 := Lib.hid hk2
  have HK3 := Lib.hid hk3
  have HPR : Hid (∀ X, Kc X → Calls Tryd.prog 66 #[.agg (bs (nodeL sd l k2)).toArray, .agg (bs (nodeL sd l k3)).toArray] X fun e w' => e = .returned (.agg (bs (nodeL sd lv k)).toArray) ∧ Below X.heap.size X w') := Lib.hid fun X hX => by
    have h := parent_any (nodeL sd l k2) (nodeL sd l k3) X (nodeL_len _ _ _) (nodeL_len _ _ _) (nodeL_all _ _ _) (nodeL_all _ _ _) hX
    rw [hlv, show nodeL sd (l + 1) k = parL (nodeL sd l k2) (nodeL sd l k3) by rw [hk3, hk2]; rfl]
    exact h
  have HD16 : Hid ((nodeL sd lv k).length = 16) := Lib.hid (nodeL_len _ _ _)
  obtain ⟨D, HD⟩ : ∃ D, Hid (nodeL sd lv k = D) := ⟨_, Lib.hid rfl⟩
  rw [HD.out] at HPR HD16
  have HDB : Hid ((bs D).length = 16) := Lib.hid (by rw [bs_len, HD16.out])
  have HTX : Hid (∀ X, Calls Tryd.prog 63 #[.agg (bs D).toArray] X fun e w' => e = .returned (.string (mkS D)) ∧ Below X.heap.size X w') := Lib.hid fun X => stext_any D HD16.out X
  have hini := duo_new W 44 44 #[.int .u8 0, .int .u8 0, .int .u8 0, .int .u8 0, .int .u8 0, .int .u8 0, .int .u8 0, .int .u8 0, .int .u8 0, .int .u8 0, .int .u8 0, .int .u8 0, .int .u8 0, .int .u8 0, .int .u8 0, .int .u8 0] #[.int .u8 0, .int .u8 0, .int .u8 0, .int .u8 0, .int .u8 0, .int .u8 0, .int .u8 0, .int .u8 0, .int .u8 0, .int .u8 0, .int .u8 0, .int .u8 0, .int .u8 0, .int .u8 0, .int .u8 0, .int .u8 0] (bs (List.replicate 16 0)) (bs (List.replicate 16 0)) 16 16 rfl rfl (by simp [bs]) (by simp [bs]) (by decide) (by decide)
  have hlt := A.lt
  have hlv0 : ((lv : Int) == 0) = false := beq_eq_false_iff_ne.2 (by omega)
  have hs1 : IntKind.i64.wrap ((lv : Int) - 1) = (l : Int) := by rw [IntWalk.i64_in _ (by omega)]; omega
  have hm1 : IntKind.i64.wrap (2 * (k : Int)) = (k2 : Int) := by rw [IntWalk.i64_in _ (by omega)]; omega
  have hm2 : IntKind.i64.wrap ((k2 : Int) + 1) = (k3 : Int) := by rw [IntWalk.i64_in _ (by omega)]; omega
  clear hlv hk2 hk3
  go_enter Tryd.func65, Tryd.ntmps65
  go_upto_region 4 with fail
  generalize hW : (W.alloc (.cells #[.int .u8 0, .int .u8 0, .int .u8 0, .int .u8 0, .int .u8 0, .int .u8 0, .int .u8 0, .int .u8 0, .int .u8 0, .int .u8 0, .int .u8 0, .int .u8 0, .int .u8 0, .int .u8 0, .int .u8 0, .int .u8 0] 44)).alloc (.cells #[.int .u8 0, .int .u8 0, .int .u8 0, .int .u8 0, .int .u8 0, .int .u8 0, .int .u8 0, .int .u8 0, .int .u8 0, .int .u8 0, .int .u8 0, .int .u8 0, .int .u8 0, .int .u8 0, .int .u8 0, .int .u8 0] 44) = wa at hini ⊢
  clear hW
  obtain ⟨P1, P2, V⟩ := hini
  have E0 : Env wa.drew gs gn gh gi gb gr h idx sd := E.fr (Fr.of_below (below_drew V) (by omega))
  have A0 : Arr wa.drew gr h 9 (ss L) := A.below (below_drew V) (by omega)
  have K0 : Kc wa.drew := hK.later (below_drew V)
  have F0 : Fr gr W wa.drew := Fr.of_below (below_drew V) (by omega)
  have P10 : Arr wa.drew W.heap.size 16 44 (bs (List.replicate 16 0)) := P1
  have P20 : Arr wa.drew (W.heap.size + 1) 16 44 (bs (List.replicate 16 0)) := P2
  have hne1 : W.heap.size ≠ gr := by omega
  have hne2 : W.heap.size + 1 ≠ gr := by omega
  have hgl : gr ≤ W.heap.size := by omega
  have hu := Tryd.underlying44
  have hiz : (Tryd.prog.info? 44).map (·.size) = some (bs D).length := by rw [HDB.out]; exact info_dig
  have hzl : (bs D).length = 16 := HDB.out
  have hz1 : ∀ v ∈ bs D, v.oneCell' = true := bs_cell D
  have hgn : gn < W.heap.size := World.block_lt_of_cell? W _ E.cn
  have HKEEP : Hid (∀ X, Env X gs gn gh gi gb gr h idx sd → Arr X (W.heap.size + 1) 16 44 (bs (List.replicate 16 0)) → (X.setCells (W.heap.size + 1) 0 (bs D)).cell? ⟨gn, 0, none⟩ = some (.func (.func 65) #[] #[.pointer (some ⟨gs, 0, none⟩), .pointer (some ⟨gn, 0, none⟩), .pointer (some ⟨gh, 0, none⟩), .pointer (some ⟨gi, 0, none⟩), .pointer (some ⟨gb, 0, none⟩)]) ∧ (X.setCells (W.heap.size + 1) 0 (bs D)).there (W.heap.size + 1) 0 16) := Lib.hid fun X hE hA =>
    ⟨(cell_heap ((Only.setCells (W.heap.size + 1) 0 (bs D) X).2 gn (by omega))).trans hE.cn, (hA.setCells (o := 0) (bs D)).there⟩
  go_region_held3 (fun X => X.cell? ⟨gn, 0, none⟩ = some (.func (.func 65) #[] #[.pointer (some ⟨gs, 0, none⟩), .pointer (some ⟨gn, 0, none⟩), .pointer (some ⟨gh, 0, none⟩), .pointer (some ⟨gi, 0, none⟩), .pointer (some ⟨gb, 0, none⟩)]) ∧ X.there (W.heap.size + 1) 0 16)
    (first | exact ⟨E0.cn, P20.there⟩ | exact ⟨E1.cn, P21.there⟩ | exact ⟨E2.cn, P22.there⟩ | exact ⟨E3.cn, P23.there⟩ | exact HKEEP.out _ E3 P23)
    (first
    | (go_at_call 65; (with_reducible refine (IH2.out _ _ E0 A0 hL K0).mono ?_); rintro e w1 ⟨rfl, L1, A1, J1, F1⟩; have E1 := E0.fr F1; have K1 := K0.fr F1 hg2; have P11 := P10.fr F1 hne1; have P21 := P20.fr F1 hne2; have G1 := F0.trans F1; have JL1 := J1.len)
    | (go_at_call 65; (with_reducible refine (IH3.out _ _ E1 A1 JL1 K1).mono ?_); rintro e w2 ⟨rfl, L2, A2, J2, F2⟩; have E2 := E1.fr F2; have K2 := K1.fr F2 hg2; have P12 := P11.fr F2 hne1; have P22 := P21.fr F2 hne2; have G2 := G1.trans F2)
    | (go_at_call 66; (with_reducible refine (HPR.out _ K2).mono ?_); rintro e w3 ⟨rfl, hb3⟩; have F3 := Fr.of_below hb3 (Nat.le_of_lt A2.lt); have E3 := E2.fr F3; have P13 := P12.fr F3 hne1; have P23 := P22.fr F3 hne2; have A3 := A2.later hb3; have G3 := G2.trans F3))
  have O4 := Only.setCells (W.heap.size + 1) 0 (bs D) w3
  have f9 := P23.setCells (o := 0) (bs D)
  rw [setAll_all _ _ (by rw [HDB.out]; simp [bs])] at f9
  have R9 := P13.only O4 (by omega)
  have A9 := A3.only O4 (by omega)
  have E9 := E.keep E3 (W' := w3.setCells (W.heap.size + 1) 0 (bs D)) (fun k hk => O4.2 k (by omega))
  have G9 := G3.more (W'' := w3.setCells (W.heap.size + 1) 0 (bs D)) (O4.bel.mono (by omega)) hgl
  have z9 : W.heap.size ≤ (w3.setCells (W.heap.size + 1) 0 (bs D)).heap.size := G9.1.size
  rename_i hHeld
  clear hHeld
  generalize w3.setCells (W.heap.size + 1) 0 (bs D) = w9 at f9 R9 A9 E9 G9 z9 ⊢
  have JL2 := J2.len
  rw [HK2.out] at J1
  rw [HK3.out, HK2.out] at J2
  clear O4 HKEEP P13 P23 E3 A3 G3 F3 hb3 E2 A2 K2 P12 P22 G2 F2 E1 A1 K1 P11 P21 G1 F1 IH2 IH3 HPR E0 A0 K0 F0 P10 P20 P1 P2 V
  have hch := E9.ch
  have hci := E9.ci
  have hcb := E9.cb
  have HSH : Hid ((idx : Int) / 2 ^ lv = ((idx / 2 ^ lv : Nat) : Int)) := Lib.hid (by rw [Int.natCast_ediv]; simp)
  have hxor : bits BinOp.xor IntKind.i64 ((idx : Int) / 2 ^ lv) 1 = ((sib idx lv : Nat) : Int) := by
    rw [HSH.out]; exact xor_i _ (by have := Nat.div_le_self idx (2 ^ lv); omega)
  have hlv0' : (0 : Int) ≤ (lv : Int) := by omega
  have hnb := E.nb
  by_cases h0 : lv < h
  · have h0I : (lv : Int) < (h : Int) := by omega
    by_cases hks : k = sib idx lv
    · have hkx : ((k : Int) == bits BinOp.xor IntKind.i64 ((idx : Int) / 2 ^ lv) 1) = true := by rw [hxor, hks]; exact beq_self_eq_true _
      have LY := Lib.hid (Laid.succ_yes J1 J2 (by have := HLV.out; omega) (by rw [hks, HLV.out]))
      rw [← HLV.out, HD.out] at LY
      clear hxor hks J1 J2
      have hL2 : lv < L2.length := by rw [JL2]; exact h0
      have HL2 := Lib.hid JL2
      clear JL2
      go_upto_region 6 with fail
      have f9d : Arr w9.drew (W.heap.size + 1) 16 44 (bs D) := f9
      have hcbd : w9.drew.cell? ⟨gb, 0, none⟩ = some (.slice (some ⟨gr, 0, none⟩) h h) := hcb
      have E9d : Env w9.drew gs gn gh gi gb gr h idx sd := ⟨E9.cs, E9.cn, E9.ch, E9.ci, E9.cb, E9.ns, E9.nn, E9.nh, E9.ni, E9.nb⟩
      have A9d : Arr w9.drew gr h 9 (ss L2) := A9
      have R9d : Arr w9.drew W.heap.size 16 44 (bs (List.replicate 16 0)) := R9
      have G9d : Fr gr W w9.drew := G9.more (below_drew (Below.refl _ w9)) hgl
      have hgr1 : gr ≤ w9.drew.heap.size := Nat.le_of_lt A9.lt
      have hgn1 : gr ≠ W.heap.size + 1 := by omega
      have hne2 : ∀ X : World, ∀ v, X.cell? ⟨gb, 0, none⟩ = some (.slice (some ⟨gr, 0, none⟩) h h) → (X.setCell ⟨gr, lv, none⟩ v).cell? ⟨gb, 0, none⟩ = some (.slice (some ⟨gr, 0, none⟩) h h) := fun X v hX => (World.cell?_setCell_other _ _ _ _ (by intro e; have := congrArg Addr.block e; simp at this; omega)).trans hX
      have hcl : ∀ X : World, Arr X gr h 9 (ss L2) → X.cell? ⟨gr, lv, none⟩ = some (.string L2[lv]) := fun X hX => hX.cell (j := lv) (show (ss L2)[lv]? = some (.string L2[lv]) by unfold ss; rw [List.getElem?_map, List.getElem?_eq_getElem hL2]; rfl)
      have HNE2 := Lib.hid hne2
      have HCLL := Lib.hid hcl
      clear hne2 hcl
      go_region_held3 (fun X => X.rangeAt (W.heap.size + 1) 0 (bs D) ∧ X.cell? ⟨gb, 0, none⟩ = some (.slice (some ⟨gr, 0, none⟩) h h))
        (first | exact ⟨f9d.range, hcbd⟩ | exact ⟨f5.range, hcb5⟩ | exact ⟨(f5.other hgn1 _).range, HNE2.out _ _ hcb5⟩)
        ((go_at_call 63; (with_reducible refine (HTX.out _).mono ?_); rintro e w5 ⟨rfl, hb5⟩; have f5 := f9d.later hb5; have F5 := Fr.of_below (W := w9.drew) hb5 hgr1; have E5 := E9d.fr F5; have hcb5 := E5.cb; have A5 := A9d.later hb5; have hce5 := HCLL.out _ A5; have hfe5 := A5.free lv; have R5 := R9d.later hb5; have G5 := G9d.trans F5))
      have A6 := A5.set_ lv (.string (mkS D))
      rw [ss_set] at A6
      have f6 := f5.other (b := gr) (j := lv) (by omega) (.string (mkS D))
      have R6 := R5.other (b := gr) (j := lv) (by omega) (.string (mkS D))
      have G6 := G5.set (j := lv) (.string (mkS D))
      clear hce5 hfe5 A5 f5 R5 E5 hcb5 f9d hcbd hb5 F5 G5
      go_wp2_with (first
        | (with_reducible refine wpList_load_mid rfl _ (.tmp 10) rfl (W.heap.size + 1) 0 rfl (bs D) _ f6.range hu rfl hiz ?_)
        | (refine wpList_store_arr rfl _ (.tmp 9) (.tmp 51) rfl W.heap.size 0 16 44 _ (bs D) _ rfl rfl rfl R6 (by rw [HDB.out]; omega) hiz (bs_cell D) ?_; intro w10 f10 o10; rw [setAll_all _ _ (by rw [HDB.out, bs_len]; rfl)] at f10))
      exact bodyPost_ret (results_one rfl _ _ W.heap.size (bs D) _ rfl f10.range Tryd.underlying44 rfl hiz) rfl ⟨by rw [HD.out], _, A6.only o10 (by omega), LY.out, G6.more o10.bel hgl⟩
    · have hkx : ((k : Int) == bits BinOp.xor IntKind.i64 ((idx : Int) / 2 ^ lv) 1) = false := by rw [hxor]; exact beq_eq_false_iff_ne.2 (by omega)
      have LY := Lib.hid (Laid.succ_no J1 J2 (fun hh => hks (by rw [HLV.out]; exact hh.2)))
      rw [← HLV.out] at LY
      clear hxor hks J1 J2 JL2
      go_wp2_with (first
        | (with_reducible refine wpList_load_mid rfl _ (.tmp 10) rfl (W.heap.size + 1) 0 rfl (bs D) _ f9.range hu rfl hiz ?_)
        | (refine wpList_store_arr rfl _ (.tmp 9) (.tmp 51) rfl W.heap.size 0 16 44 _ (bs D) _ rfl rfl rfl R9 (by rw [HDB.out]; omega) hiz (bs_cell D) ?_; intro w10 f10 o10; rw [setAll_all _ _ (by rw [HDB.out, bs_len]; rfl)] at f10))
      exact bodyPost_ret (results_one rfl _ _ W.heap.size (bs D) _ rfl f10.range Tryd.underlying44 rfl hiz) rfl ⟨by rw [HD.out], _, A9.only o10 (by omega), LY.out, G9.more o10.bel hgl⟩
  · have h0I : ¬ (lv : Int) < (h : Int) := by omega
    have LY := Lib.hid (Laid.succ_no (k := k) J1 J2 (fun hh => h0 (by rw [HLV.out]; exact hh.1)))
    rw [← HLV.out] at LY
    clear hxor J1 J2 JL2
    go_wp2_with (first
        | (with_reducible refine wpList_load_mid rfl _ (.tmp 10) rfl (W.heap.size + 1) 0 rfl (bs D) _ f9.range hu rfl hiz ?_)
        | (refine wpList_store_arr rfl _ (.tmp 9) (.tmp 51) rfl W.heap.size 0 16 44 _ (bs D) _ rfl rfl rfl R9 (by rw [HDB.out]; omega) hiz (bs_cell D) ?_; intro w10 f10 o10; rw [setAll_all _ _ (by rw [HDB.out, bs_len]; rfl)] at f10))
    exact bodyPost_ret (results_one rfl _ _ W.heap.size (bs D) _ rfl f10.range Tryd.underlying44 rfl hiz) rfl ⟨by rw [HD.out], _, A9.only o10 (by omega), LY.out, G9.more o10.bel hgl⟩
end Go.Proofs.YtbfoajfpnfkfnaaDoor
