import Derived.Test.YtbfoajfpnfkfnaaDoorS10
set_option linter.unusedVariables false
set_option linter.unusedSimpArgs false
namespace Go.Proofs.YtbfoajfpnfkfnaaDoor
open Go.RowKit

/-- What the tree's closure has captured. -/
structure Env (W : World) (gs gn gh gi gb gr h idx : Nat) (sd : List Nat) : Prop where
  cs : W.cell? ⟨gs, 0, none⟩ = some (.string (mkS sd))
  cn : W.cell? ⟨gn, 0, none⟩ = some (.func (.func 65) #[] #[.pointer (some ⟨gs, 0, none⟩), .pointer (some ⟨gn, 0, none⟩), .pointer (some ⟨gh, 0, none⟩), .pointer (some ⟨gi, 0, none⟩), .pointer (some ⟨gb, 0, none⟩)])
  ch : W.cell? ⟨gh, 0, none⟩ = some (.int .i64 (h : Int))
  ci : W.cell? ⟨gi, 0, none⟩ = some (.int .i64 (idx : Int))
  cb : W.cell? ⟨gb, 0, none⟩ = some (.slice (some ⟨gr, 0, none⟩) h h)
  ns : gs ≠ gr
  nn : gn ≠ gr
  nh : gh ≠ gr
  ni : gi ≠ gr
  nb : gb ≠ gr
/-- All but one block stands; there may be new ones. -/
def Fr (g : Nat) (W W' : World) : Prop := Below g W W' ∧ ∀ k, k ≠ g → k < W.heap.size → W'.heap[k]? = W.heap[k]?
theorem Fr.of_below {g : Nat} {W W' : World} (h : Below W.heap.size W W') (hg : g ≤ W.heap.size) : Fr g W W' := ⟨h.mono hg, fun k _ hk => h.block k hk⟩
theorem Fr.trans {g : Nat} {W W' W'' : World} (h : Fr g W W') (h' : Fr g W' W'') : Fr g W W'' :=
  ⟨h.1.trans h'.1, fun k hk hl => (h'.2 k hk (Nat.lt_of_lt_of_le hl h.1.size)).trans (h.2 k hk hl)⟩
theorem cell_heap {W W' : World} {p : Addr} (h : W'.heap[p.block]? = W.heap[p.block]?) : W'.cell? p = W.cell? p := by
  unfold World.cell?; rw [h]
theorem Fr.cell {g b o : Nat} {W W' : World} {v : Value} (h : Fr g W W') (hb : b ≠ g) (hc : W.cell? ⟨b, o, none⟩ = some v) : W'.cell? ⟨b, o, none⟩ = some v :=
  (cell_heap (p := ⟨b, o, none⟩) (h.2 b hb (World.block_lt_of_cell? W _ hc))).trans hc
theorem Env.fr {W W' : World} {gs gn gh gi gb gr h idx : Nat} {sd : List Nat} (e : Env W gs gn gh gi gb gr h idx sd) (f : Fr gr W W') : Env W' gs gn gh gi gb gr h idx sd :=
  ⟨f.cell e.ns e.cs, f.cell e.nn e.cn, f.cell e.nh e.ch, f.cell e.ni e.ci, f.cell e.nb e.cb, e.ns, e.nn, e.nh, e.ni, e.nb⟩
theorem Arr.fr {W W' : World} {b g n : Nat} {t : TypeId} {xs : List Value} (a : Arr W b n t xs) (f : Fr g W W') (hb : b ≠ g) : Arr W' b n t xs := by
  have hlt := a.lt
  refine ⟨a.1, ?_⟩
  rcases a.2 with h2 | ⟨g', cap, cur, hv, hg, hh, r⟩
  · exact .inl h2
  · refine .inr ⟨g', cap, cur, hv, hg, ?_, r⟩
    cases hv
    rw [f.2 _ hb hlt]
    exact hh
theorem Fr.more {g : Nat} {W W' W'' : World} (h : Fr g W W') (h' : Below W.heap.size W' W'') (hg : g ≤ W.heap.size) : Fr g W W'' := ⟨h.1.trans (h'.mono hg), fun k hk hl => (h'.block k hl).trans (h.2 k hk hl)⟩
theorem Fr.set {g j : Nat} {W W' : World} (h : Fr g W W') (v : Value) : Fr g W (W'.setCell ⟨g, j, none⟩ v) := ⟨h.1.setCell (p := ⟨g, j, none⟩) (Nat.le_refl g) v, fun k hk hl => (Below.heap_setCell _ _ _ _ (fun e => hk (by simpa using e))).trans (h.2 k hk hl)⟩
theorem xor_i (a : Nat) (ha : a < 1000000) : bits .xor .i64 (a : Int) 1 = ((a ^^^ 1 : Nat) : Int) := by
  have h0 : (BitVec.ofInt 64 (a : Int) ^^^ 1#64).toNat = a ^^^ 1 := by
    rw [BitVec.toNat_xor, BitVec.toNat_ofInt]
    have e1 : ((a : Int) % ((2 ^ 64 : Nat) : Int)).toNat = a := by omega
    rw [e1]; rfl
  have h1 : a ^^^ 1 < 2 ^ 20 := Nat.xor_lt_two_pow (by omega) (by omega)
  show IntKind.i64.wrap ((BitVec.ofInt 64 (a : Int) ^^^ BitVec.ofInt 64 1).toNat : Int) = _
  rw [show BitVec.ofInt 64 1 = 1#64 from rfl, h0]
  exact IntWalk.i64_in _ (by omega)
/-- Which elements a node's subtree lays. -/
def done (idx l k j : Nat) : Prop := j ≤ l ∧ sib idx j / 2 ^ (l - j) = k
def Laid (sd : List Nat) (h idx l k : Nat) (L L' : List ByteArray) : Prop :=
  L'.length = h ∧ ∀ j, j < h → (L'[j]? = L[j]? ∨ L'[j]? = some (mkS (nodeL sd j (sib idx j)))) ∧ (done idx l k j → L'[j]? = some (mkS (nodeL sd j (sib idx j))))
/-- What a call of the closure does. -/
def NodeRes (gr h idx l k : Nat) (sd : List Nat) (L : List ByteArray) (W : World) (e : Ending) (w' : World) : Prop :=
  e = .returned (.agg (bs (nodeL sd l k)).toArray) ∧ ∃ L', Arr w' gr h 9 (ss L') ∧ Laid sd h idx l k L L' ∧ Fr gr W w'
theorem Laid.none (sd : List Nat) {h idx l k : Nat} {L : List ByteArray} (hL : L.length = h) (hn : ∀ j, j < h → ¬ done idx l k j) : Laid sd h idx l k L L :=
  ⟨hL, fun j hj => ⟨.inl rfl, fun hd => absurd hd (hn j hj)⟩⟩
theorem Laid.zero_yes {sd : List Nat} {h idx k : Nat} {L : List ByteArray} (hL : L.length = h) (h0 : 0 < h) (hk : k = sib idx 0) : Laid sd h idx 0 k L (L.set 0 (mkS (nodeL sd 0 k))) := by
  refine ⟨by rw [List.length_set, hL], fun j hj => ?_⟩
  by_cases hj0 : j = 0
  · subst hj0
    rw [List.getElem?_set_self (by omega), hk]
    exact ⟨.inr rfl, fun _ => rfl⟩
  · rw [List.getElem?_set_ne (Ne.symm hj0)]
    exact ⟨.inl rfl, fun hd => absurd hd.1 (by omega)⟩
theorem Laid.zero_no {sd : List Nat} {h idx k : Nat} {L : List ByteArray} (hL : L.length = h) (hk : ¬ (0 < h ∧ k = sib idx 0)) : Laid sd h idx 0 k L L :=
  .none sd hL fun j hj hd => by
    have h0 : j = 0 := by have := hd.1; omega
    subst h0
    have := hd.2
    rw [Nat.pow_zero, Nat.div_one] at this
    exact hk ⟨hj, this.symm⟩
/-- Two subtrees, and perhaps the node itself. -/
theorem done_succ {idx l k j : Nat} (h : done idx (l + 1) k j) : j = l + 1 ∧ k = sib idx (l + 1) ∨ done idx l (2 * k) j ∨ done idx l (2 * k + 1) j := by
  obtain ⟨h1, h2⟩ := h
  by_cases hj : j = l + 1
  · subst hj
    rw [Nat.sub_self, Nat.pow_zero, Nat.div_one] at h2
    exact .inl ⟨rfl, h2.symm⟩
  · right
    have hjl : j ≤ l := by omega
    have hp : 2 ^ (l + 1 - j) = 2 ^ (l - j) * 2 := by rw [show l + 1 - j = (l - j) + 1 by omega, Nat.pow_succ]
    rw [hp, ← Nat.div_div_eq_div_mul] at h2
    by_cases he : sib idx j / 2 ^ (l - j) % 2 = 0
    · exact .inl ⟨hjl, by omega⟩
    · exact .inr ⟨hjl, by omega⟩
theorem Laid.both {sd : List Nat} {h idx l k : Nat} {L L1 L2 : List ByteArray} (h1 : Laid sd h idx l (2 * k) L L1) (h2 : Laid sd h idx l (2 * k + 1) L1 L2) :
    L2.length = h ∧ ∀ j, j < h → (L2[j]? = L[j]? ∨ L2[j]? = some (mkS (nodeL sd j (sib idx j)))) ∧ (done idx l (2 * k) j ∨ done idx l (2 * k + 1) j → L2[j]? = some (mkS (nodeL sd j (sib idx j)))) := by
  refine ⟨h2.1, fun j hj => ⟨?_, ?_⟩⟩
  · rcases (h2.2 j hj).1 with h | h
    · rw [h]; exact (h1.2 j hj).1
    · exact .inr h
  · rintro (hd | hd)
    · rcases (h2.2 j hj).1 with h | h
      · rw [h]; exact (h1.2 j hj).2 hd
      · exact h
    · exact (h2.2 j hj).2 hd
theorem Laid.succ_no {sd : List Nat} {h idx l k : Nat} {L L1 L2 : List ByteArray} (h1 : Laid sd h idx l (2 * k) L L1) (h2 : Laid sd h idx l (2 * k + 1) L1 L2) (hk : ¬ (l + 1 < h ∧ k = sib idx (l + 1))) : Laid sd h idx (l + 1) k L L2 := by
  obtain ⟨a, b⟩ := Laid.both h1 h2
  refine ⟨a, fun j hj => ⟨(b j hj).1, fun hd => ?_⟩⟩
  rcases done_succ hd with ⟨h3, h4⟩ | h3
  · exact absurd ⟨by omega, h4⟩ hk
  · exact (b j hj).2 h3
theorem Laid.succ_yes {sd : List Nat} {h idx l k : Nat} {L L1 L2 : List ByteArray} (h1 : Laid sd h idx l (2 * k) L L1) (h2 : Laid sd h idx l (2 * k + 1) L1 L2) (hl : l + 1 < h) (hk : k = sib idx (l + 1)) : Laid sd h idx (l + 1) k L (L2.set (l + 1) (mkS (nodeL sd (l + 1) k))) := by
  obtain ⟨a, b⟩ := Laid.both h1 h2
  refine ⟨by rw [List.length_set, a], fun j hj => ?_⟩
  by_cases hjl : j = l + 1
  · subst hjl
    rw [List.getElem?_set_self (by omega), hk]
    exact ⟨.inr rfl, fun _ => rfl⟩
  · rw [List.getElem?_set_ne (Ne.symm hjl)]
    refine ⟨(b j hj).1, fun hd => ?_⟩
    rcases done_succ hd with ⟨h3, _⟩ | h3
    · exact absurd h3 hjl
    · exact (b j hj).2 h3
theorem Laid.all {sd : List Nat} {h idx : Nat} {L L' : List ByteArray} (hl : Laid sd h idx h 0 L L') (hi : idx < 2 ^ h) : L' = (besL sd h idx).map mkS := by
  apply List.ext_getElem?
  intro j
  by_cases hj : j < h
  · have hd : done idx h 0 j := by
      refine ⟨by omega, ?_⟩
      have hp : 2 ^ h = 2 ^ (h - j) * 2 ^ j := by rw [← Nat.pow_add, show h - j + j = h by omega]
      have hx : idx / 2 ^ j < 2 ^ (h - j) := by rw [Nat.div_lt_iff_lt_mul (Nat.pow_pos (by decide))]; omega
      have h1 : 1 < 2 ^ (h - j) := by
        have : 2 ^ 1 ≤ 2 ^ (h - j) := Nat.pow_le_pow_right (by decide) (by omega)
        omega
      exact Nat.div_eq_of_lt (Nat.xor_lt_two_pow hx h1)
    rw [(hl.2 j hj).2 hd]
    unfold besL
    rw [List.map_map, List.getElem?_map, List.getElem?_range hj]
    rfl
  · rw [List.getElem?_eq_none (by rw [hl.1]; omega), List.getElem?_eq_none (by rw [List.length_map, besL_len]; omega)]

theorem ss_set (L : List ByteArray) (j : Nat) (s : ByteArray) : (ss L).set j (.string s) = ss (L.set j s) := by simp [ss, List.map_set]
theorem zero_heights (W : World) : (zeroValue 76).run Tryd.prog W = .ok (.agg (isv zero68).toArray) W := by kernel_rfl
theorem zero68_len : zero68.length = 68 := rfl
theorem top68_len : top68.length = 68 := rfl

set_option maxHeartbeats 2000000 in
set_option maxRecDepth 100000 in
theorem node_zero (gs gn gh gi gb gr h idx k : Nat) (sd : List Nat) (L : List ByteArray) (W : World) (E : Env W gs gn gh gi gb gr h idx sd) (A : Arr W gr h 9 (ss L)) (hL : L.length = h) (hh : h ≤ 6) (hi : idx < 64) (hk : k < 64) (hsd : AllB sd) (hsl : sd.length ≤ 1000) (hK : Kc W) :
    Calls Tryd.prog 65 #[.int .i64 0, .int .i64 (k : Int), .pointer (some ⟨gs, 0, none⟩), .pointer (some ⟨gn, 0, none⟩), .pointer (some ⟨gh, 0, none⟩), .pointer (some ⟨gi, 0, none⟩), .pointer (some ⟨gb, 0, none⟩)] W (NodeRes gr h idx 0 k sd L W) := by
  have HST : Hid (∀ X, Below W.heap.size W X → Calls Tryd.prog 53 #[.string (mkS sd), .int .i64 (k : Int)] X fun e w' => e = .returned (.string (mkS (startL sd k))) ∧ Below X.heap.size X w') := Lib.hid fun X hX => starts_any sd k (by omega) hsd hsl X (hK.later hX)
  have HTP : Hid (∀ X, Calls Tryd.prog 57 #[] X fun e w' => e = .returned (.agg (isv top68).toArray) ∧ Below X.heap.size X w') := Lib.hid fun X => tops_any X
  have HCL : Hid (∀ X, Below W.heap.size W X → Calls Tryd.prog 52 #[.int .i64 (k : Int), .string (mkS (startL sd k)), .agg (isv zero68).toArray, .agg (isv top68).toArray] X fun e w' => e = .returned (.string (mkS (climbL k (startL sd k) zero68 top68))) ∧ Below X.heap.size X w') :=
    Lib.hid fun X hX => climb_any k (startL sd k) zero68 top68 (by omega) (startL_len _ _) (startL_all _ _) zero68_len top68_len (fun c => by rw [show zero68.getD c 0 = 0 by unfold zero68; rw [List.getD_eq_getElem?_getD, List.getElem?_replicate]; split <;> rfl]; decide) (fun c => by unfold top68; rw [List.getD_eq_getElem?_getD, List.getElem?_replicate]; split <;> simp) X (hK.later hX)
  have HLF : Hid (∀ X, Below W.heap.size W X → Calls Tryd.prog 59 #[.string (mkS (climbL k (startL sd k) zero68 top68))] X fun e w' => e = .returned (.agg (bs (nodeL sd 0 k)).toArray) ∧ Below X.heap.size X w') :=
    Lib.hid fun X hX => leaf_any _ (climbL_all _ _ _ (startL_all _ _)) (by rw [climbL_len _ _ _ (startL_len _ _)]; decide) X (hK.later hX)
  generalize climbL k (startL sd k) zero68 top68 = CL at HCL HLF
  generalize startL sd k = SL at HST HCL
  have HD16 : Hid ((nodeL sd 0 k).length = 16) := Lib.hid (nodeL_len _ _ _)
  obtain ⟨D, HD⟩ : ∃ D, Hid (nodeL sd 0 k = D) := ⟨_, Lib.hid rfl⟩
  rw [HD.out] at HLF HD16
  have HDB : Hid ((bs D).length = 16) := Lib.hid (by rw [bs_len, HD16.out])
  have HTX : Hid (∀ X, Calls Tryd.prog 63 #[.agg (bs D).toArray] X fun e w' => e = .returned (.string (mkS D)) ∧ Below X.heap.size X w') := Lib.hid fun X => stext_any D HD16.out X
  have hz := zero_heights
  generalize (isv zero68).toArray = ZV at hz HCL
  generalize (isv top68).toArray = TV at HTP HCL
  have hini := duo_new W 44 44 #[.int .u8 0, .int .u8 0, .int .u8 0, .int .u8 0, .int .u8 0, .int .u8 0, .int .u8 0, .int .u8 0, .int .u8 0, .int .u8 0, .int .u8 0, .int .u8 0, .int .u8 0, .int .u8 0, .int .u8 0, .int .u8 0] #[.int .u8 0, .int .u8 0, .int .u8 0, .int .u8 0, .int .u8 0, .int .u8 0, .int .u8 0, .int .u8 0, .int .u8 0, .int .u8 0, .int .u8 0, .int .u8 0, .int .u8 0, .int .u8 0, .int .u8 0, .int .u8 0] (bs (List.replicate 16 0)) (bs (List.replicate 16 0)) 16 16 rfl rfl (by simp [bs]) (by simp [bs]) (by decide) (by decide)
  have hlt := A.lt
  go_enter Tryd.func65, Tryd.ntmps65
  go_upto_region 2 with fail
  generalize hW : (W.alloc (.cells #[.int .u8 0, .int .u8 0, .int .u8 0, .int .u8 0, .int .u8 0, .int .u8 0, .int .u8 0, .int .u8 0, .int .u8 0, .int .u8 0, .int .u8 0, .int .u8 0, .int .u8 0, .int .u8 0, .int .u8 0, .int .u8 0] 44)).alloc (.cells #[.int .u8 0, .int .u8 0, .int .u8 0, .int .u8 0, .int .u8 0, .int .u8 0, .int .u8 0, .int .u8 0, .int .u8 0, .int .u8 0, .int .u8 0, .int .u8 0, .int .u8 0, .int .u8 0, .int .u8 0, .int .u8 0] 44) = wa at hini ⊢
  clear hW
  obtain ⟨P1, P2, V⟩ := hini
  have E0 := E.fr (Fr.of_below V (by omega))
  have hcs := E0.cs
  have hu := Tryd.underlying44
  have hiz : (Tryd.prog.info? 44).map (·.size) = some (bs D).length := by rw [HDB.out]; exact info_dig
  go_upto_region 5 with (first
    | (go_at_call 53; with_reducible refine (HST.out _ V).mono ?_; rintro e w1 ⟨rfl, hb1⟩; have V1 := later V hb1; clear hcs)
    | (go_at_call 57; with_reducible refine (HTP.out _).mono ?_; rintro e w2 ⟨rfl, hb2⟩; have V2 := later V1 hb2)
    | (go_at_call 52; with_reducible refine (HCL.out _ V2).mono ?_; rintro e w3 ⟨rfl, hb3⟩; have V3 := later V2 hb3)
    | (go_at_call 59; with_reducible refine (HLF.out _ V3).mono ?_; rintro e w4 ⟨rfl, hb4⟩; have V4 := later V3 hb4; have Q1 := (((P1.later hb1).later hb2).later hb3).later hb4; have Q2 := (((P2.later hb1).later hb2).later hb3).later hb4; clear P1 P2 hb1 hb2 hb3 hb4)
    | (refine wpList_store_arr rfl _ (.tmp 10) (.tmp 20) rfl (W.heap.size + 1) 0 16 44 _ (bs D) _ rfl rfl rfl Q2 (by rw [HDB.out]; omega) hiz (bs_cell D) ?_; intro w9 f9 o9; have V9 := V4.trans (o9.bel.mono (by omega : W.heap.size ≤ W.heap.size + 1)); have R1 := Q1.only o9 (by omega); rw [setAll_all _ _ (by rw [HDB.out, bs_len]; rfl)] at f9; clear Q1 Q2))
  have E9 := E.fr (Fr.of_below V9 (by omega))
  have A9 := A.below V9 (by omega)
  have hch := E9.ch
  have hci := E9.ci
  have hcb := E9.cb
  clear E0 HST HTP HCL HLF V V1 V2 V3 V4
  by_cases h0 : 0 < h
  · have h0I : (0 : Int) < (h : Int) := by omega
    have hxor := xor_i idx (by omega)
    by_cases hks : k = sib idx 0
    · have hkx : ((k : Int) == bits BinOp.xor IntKind.i64 (idx : Int) 1) = true := by rw [hxor, hks]; unfold sib; rw [Nat.pow_zero, Nat.div_one]; exact beq_self_eq_true _
      clear hxor
      have HKS := Lib.hid hks
      clear hks
      have hce := A9.cell (j := 0) (show (ss L)[0]? = some (.string L[0]) by unfold ss; rw [List.getElem?_map, List.getElem?_eq_getElem (by omega)]; rfl)
      have hfe := A9.free 0
      have hnb := E.nb
      go_upto_region 6 with fail
      have f9d : Arr w9.drew (W.heap.size + 1) 16 44 (bs D) := f9
      have hcbd : w9.drew.cell? ⟨gb, 0, none⟩ = some (.slice (some ⟨gr, 0, none⟩) h h) := hcb
      have E9d : Env w9.drew gs gn gh gi gb gr h idx sd := ⟨E9.cs, E9.cn, E9.ch, E9.ci, E9.cb, E9.ns, E9.nn, E9.nh, E9.ni, E9.nb⟩
      have V9d : Below W.heap.size W w9.drew := below_drew V9
      have hgr1 : gr ≤ w9.drew.heap.size := Nat.le_of_lt A9.lt
      have hsz9 : W.heap.size ≤ w9.drew.heap.size := V9.size
      have hne1 : gr ≠ W.heap.size + 1 := by omega
      have hne2 : ∀ X : World, ∀ v, X.cell? ⟨gb, 0, none⟩ = some (.slice (some ⟨gr, 0, none⟩) h h) → (X.setCell ⟨gr, 0, none⟩ v).cell? ⟨gb, 0, none⟩ = some (.slice (some ⟨gr, 0, none⟩) h h) := fun X v hX => (World.cell?_setCell_other _ _ _ _ (by intro e; have := congrArg Addr.block e; simp at this; omega)).trans hX
      have hcl : ∀ X : World, Arr X gr h 9 (ss L) → X.cell? ⟨gr, 0, none⟩ = some (.string L[0]) := fun X hX => hX.cell (j := 0) (show (ss L)[0]? = some (.string L[0]) by unfold ss; rw [List.getElem?_map, List.getElem?_eq_getElem (by omega)]; rfl)
      have HNE2 := Lib.hid hne2
      have HCLL := Lib.hid hcl
      clear hne2 hcl
      go_region_held3 (fun X => X.rangeAt (W.heap.size + 1) 0 (bs D) ∧ X.cell? ⟨gb, 0, none⟩ = some (.slice (some ⟨gr, 0, none⟩) h h))
        (first | exact ⟨f9d.range, hcbd⟩ | exact ⟨f5.range, hcb5⟩ | exact ⟨(f5.other hne1 _).range, HNE2.out _ _ hcb5⟩)
        ((go_at_call 63; (with_reducible refine (HTX.out _).mono ?_); rintro e w5 ⟨rfl, hb5⟩; have f5 := f9d.later hb5; have E5 := E9d.fr (W' := w5) (Fr.of_below (W := w9.drew) hb5 hgr1); have hcb5 := E5.cb; have A5 : Arr w5 gr h 9 (ss L) := Arr.later (W := w9.drew) A9 hb5; have hce5 := HCLL.out _ A5; have hfe5 := A5.free 0; have R5 : Arr w5 W.heap.size 16 44 (bs (List.replicate 16 0)) := Arr.later (W := w9.drew) R1 hb5; have V5 : Below W.heap.size W w5 := V9d.trans (hb5.mono hsz9)))
      have A6 := A5.set_ 0 (.string (mkS D))
      rw [ss_set] at A6
      have f6 := f5.other (b := gr) (j := 0) (by omega) (.string (mkS D))
      have R6 := R5.other (b := gr) (j := 0) (by omega) (.string (mkS D))
      have F6 := (Fr.of_below V5 (by omega : gr ≤ W.heap.size)).set (j := 0) (.string (mkS D))
      have LY := Lib.hid (Laid.zero_yes (sd := sd) (k := k) hL h0 HKS.out)
      rw [HD.out] at LY
      clear hce hfe hce5 hfe5 A5 f5 R5 E5 hcb5 f9d hcbd V5 hb5
      go_wp2_with (first
        | (with_reducible refine wpList_load_mid rfl _ (.tmp 10) rfl (W.heap.size + 1) 0 rfl (bs D) _ f6.range hu rfl hiz ?_)
        | (refine wpList_store_arr rfl _ (.tmp 9) (.tmp 51) rfl W.heap.size 0 16 44 _ (bs D) _ rfl rfl rfl R6 (by rw [HDB.out]; omega) hiz (bs_cell D) ?_; intro w10 f10 o10; rw [setAll_all _ _ (by rw [HDB.out, bs_len]; rfl)] at f10))
      exact bodyPost_ret (results_one rfl _ _ W.heap.size (bs D) _ rfl f10.range Tryd.underlying44 rfl hiz) rfl ⟨by rw [HD.out], _, A6.only o10 (by omega), LY.out, F6.more o10.bel (by omega)⟩
    · have hkx : ((k : Int) == bits BinOp.xor IntKind.i64 (idx : Int) 1) = false := by
        rw [hxor]; unfold sib at hks; rw [Nat.pow_zero, Nat.div_one] at hks; exact beq_eq_false_iff_ne.2 (by omega)
      have HNO : Hid (¬ (0 < h ∧ k = sib idx 0)) := Lib.hid fun hh => hks hh.2
      clear hxor hks
      go_wp2_with (first
        | (with_reducible refine wpList_load_mid rfl _ (.tmp 10) rfl (W.heap.size + 1) 0 rfl (bs D) _ f9.range hu rfl hiz ?_)
        | (refine wpList_store_arr rfl _ (.tmp 9) (.tmp 51) rfl W.heap.size 0 16 44 _ (bs D) _ rfl rfl rfl R1 (by rw [HDB.out]; omega) hiz (bs_cell D) ?_; intro w10 f10 o10; rw [setAll_all _ _ (by rw [HDB.out, bs_len]; rfl)] at f10))
      exact bodyPost_ret (results_one rfl _ _ W.heap.size (bs D) _ rfl f10.range Tryd.underlying44 rfl hiz) rfl ⟨by rw [HD.out], L, A9.only o10 (by omega), Laid.zero_no hL HNO.out, (Fr.of_below V9 (by omega)).more (o10.bel) (by omega)⟩
  · have h0I : ¬ (0 : Int) < (h : Int) := by omega
    have HNO : Hid (¬ (0 < h ∧ k = sib idx 0)) := Lib.hid fun hh => h0 hh.1
    go_wp2_with (first
      | (with_reducible refine wpList_load_mid rfl _ (.tmp 10) rfl (W.heap.size + 1) 0 rfl (bs D) _ f9.range hu rfl hiz ?_)
      | (refine wpList_store_arr rfl _ (.tmp 9) (.tmp 51) rfl W.heap.size 0 16 44 _ (bs D) _ rfl rfl rfl R1 (by rw [HDB.out]; omega) hiz (bs_cell D) ?_; intro w10 f10 o10; rw [setAll_all _ _ (by rw [HDB.out, bs_len]; rfl)] at f10))
    exact bodyPost_ret (results_one rfl _ _ W.heap.size (bs D) _ rfl f10.range Tryd.underlying44 rfl hiz) rfl ⟨by rw [HD.out], L, A9.only o10 (by omega), Laid.zero_no hL HNO.out, (Fr.of_below V9 (by omega)).more (o10.bel) (by omega)⟩
end Go.Proofs.YtbfoajfpnfkfnaaDoor
