import Derived.Test.YtkpoiljioadfgaaDoorX04

set_option linter.unusedVariables false
set_option linter.unusedSimpArgs false
namespace Go.Proofs.YtkpoiljioadfgaaDoor
open Go.RowKit
structure Kv (w : World) : Prop where
  sz : 2 ≤ w.heap.size
  p0 : w.cell? ⟨0, 0, none⟩ = some (.int .i64 0)
  p1 : w.cell? ⟨0, 1, none⟩ = some (.int .i64 1)
  p2 : w.cell? ⟨0, 2, none⟩ = some (.int .i64 4)
  d0 : w.cell? ⟨1, 0, none⟩ = some (.int .i64 2)
  d1 : w.cell? ⟨1, 1, none⟩ = some (.int .i64 3)
theorem Kv.later {w w' : World} (h : Kv w) (hb : Below w.heap.size w w') : Kv w' := by
  have f : ∀ b o v, w.cell? ⟨b, o, none⟩ = some v → w'.cell? ⟨b, o, none⟩ = some v := fun b o v hv => (hb.cell (p := ⟨b, o, none⟩) (World.block_lt_of_cell? w _ hv)).trans hv
  exact ⟨Nat.le_trans h.sz hb.size, f _ _ _ h.p0, f _ _ _ h.p1, f _ _ _ h.p2, f _ _ _ h.d0, f _ _ _ h.d1⟩
theorem vty_kind {P : List Df} {f : Nat} {k s q i : Int} {ks : List Ty} (h : vty P f (.node k s q i ks) = true) :
    (k = 0 ∧ ks = []) ∨ (k = 1 ∧ ks = []) ∨ (k = 2 ∧ ∃ x, ks = [x]) ∨ (k = 3 ∧ ks = [] ∧ ∃ d, P[fnd P s q i]? = some d ∧ (d.kind = 0 ∨ d.kind = 1)) := by
  cases f with
  | zero => simp [vty] at h
  | succ f =>
    rw [vty] at h
    by_cases h1 : k = 0 ∨ k = 1
    · rw [if_pos h1] at h
      have h2 : ks = [] := by simp at h; exact h.1
      rcases h1 with h1 | h1
      · exact .inl ⟨h1, h2⟩
      · exact .inr (.inl ⟨h1, h2⟩)
    · rw [if_neg h1] at h
      by_cases h3 : k = 3
      · rw [if_pos h3] at h
        simp only [Bool.and_eq_true, decide_eq_true_eq] at h
        refine .inr (.inr (.inr ⟨h3, List.eq_nil_of_length_eq_zero h.1, ?_⟩))
        have h4 := h.2
        unfold isD at h4
        cases hg : P[fnd P s q i]? with
        | none => rw [hg] at h4; simp at h4
        | some d => rw [hg] at h4; refine ⟨d, rfl, ?_⟩; simpa using h4
      · rw [if_neg h3] at h
        by_cases h4 : k = 2
        · rw [if_pos h4] at h
          simp only [Bool.and_eq_true, decide_eq_true_eq] at h
          exact .inr (.inr (.inl ⟨h4, List.length_eq_one_iff.1 h.1⟩))
        · rw [if_neg h4] at h; simp at h
theorem shK_def {P : List Df} {t : Ty} {d : Df} (hk : t.kind = 3) (h : dfo P t = some d) : shK P t = if d.kind = 0 then 2 else 3 := by unfold shK; rw [if_pos hk, h]; rfl
theorem shS_def {P : List Df} {t : Ty} {d : Df} (hk : t.kind = 3) (h : dfo P t = some d) : shS P t = d.slots := by unfold shS; rw [if_pos hk, h]; rfl
theorem df_slots {w : World} {g p : Nat} {d : Df} {C : List Value} (h : w.rangeAt g p C) (hd : DfAt w d C) : ∃ sv, w.cell? ⟨g, p + 8, none⟩ = some sv ∧ SlsAt w sv d.slots := by
  obtain ⟨sv, T, E, lv, rfl, _, hs, _⟩ := hd
  exact ⟨sv, h 8 _ rfl, hs⟩
def ShRes (P : List Df) (t : Ty) (W0 w : World) (e : Ending) (w' : World) : Prop := ∃ sv, e = .returned (.tuple #[.int .i64 (shK P t), sv]) ∧ SlsAt W0 sv (shS P t) ∧ Below w.heap.size w w'
theorem SlsAt.nil (w : World) : SlsAt w (.slice none 0 0) [] := ⟨none, 0, rfl, ⟨Nat.le_refl _, by simp [maxLen]⟩, fun j x h => by simp at h⟩
set_option maxHeartbeats 4000000 in
set_option maxRecDepth 100000 in
theorem shape_any (P : List Df) (t : Ty) (W0 w : World) (v pv : Value) (hP0 : PrAt W0 P pv) (hx : TyAt W0 t v) (hb : Below W0.heap.size W0 w) (hv : vty P 24 t = true) (hK : Kv w) :
    Calls Tryd.prog 56 #[pv, v] w (ShRes P t W0 w) := by
  cases t with
  | node k s q i ks =>
  have hK' := vty_kind hv
  have hP1 := hP0
  obtain ⟨mv, A0, cap0, rfl, hm, hP⟩ := hP0
  obtain ⟨n, hn⟩ : ∃ n, P.length = n := ⟨_, rfl⟩
  rw [hn] at hP1 hm ⊢
  unfold TyAt at hx
  obtain ⟨A, cap, rfl, hmb, hkb⟩ := hx
  obtain ⟨len, hlen⟩ : ∃ len, ks.length = len := ⟨_, rfl⟩
  rw [hlen]
  have P0 := p2_new w mv (.slice A0 n cap0)
  have V0' := new_later w (.cells #[mv, .slice A0 n cap0] 26)
  have Q0 := t5_new (w.alloc (.cells #[mv, .slice A0 n cap0] 26)) k s q i A len cap
  have P1 := P0.later (new_later _ (.cells (t5 k s q i A len cap).toArray 31))
  have V1 := later V0' (new_later _ (.cells (t5 k s q i A len cap).toArray 31))
  rw [World.size_alloc] at Q0
  clear P0 V0'
  generalize hW : (w.alloc (.cells #[mv, .slice A0 n cap0] 26)).alloc (.cells (t5 k s q i A len cap).toArray 31) = wa at P1 V1 Q0
  have K1 := hK.later V1
  have kp0 := K1.p0
  have kp1 := K1.p1
  have kp2 := K1.p2
  have HK1 := Lib.hid K1
  have y0 := Q0.cell (j := 0) (v := .int .i64 k) rfl
  have y1 := Q0.cell (j := 1) (v := .int .i64 s) rfl
  have y2 := Q0.cell (j := 2) (v := .int .i64 q) rfl
  have y3 := Q0.cell (j := 3) (v := .int .i64 i) rfl
  have z0 := P1.cell (j := 0) (v := mv) rfl
  have z1 := P1.cell (j := 1) (v := .slice A0 n cap0) rfl
  have HPP := Lib.hid P1
  have HVV := Lib.hid V1
  have HB := Lib.hid hb
  have HPA := Lib.hid ((hP1.later hb).later V1)
  have HPX := Lib.hid hP
  have HN := Lib.hid hn
  clear K1 hK P1 V1 Q0 hb hP1 hP hlen hkb hmb hn
  rcases hK' with ⟨rfl, _⟩ | ⟨rfl, _⟩ | ⟨rfl, _⟩ | ⟨rfl, _, d, hd, hdk⟩
  · go_enter Tryd.func56, Tryd.ntmps56
    go_upto_region 1 with fail
    clear hW
    go_wp2_with fail
    go_ret2
    exact ⟨_, rfl, SlsAt.nil _, HVV.out⟩
  · go_enter Tryd.func56, Tryd.ntmps56
    go_upto_region 1 with fail
    clear hW
    go_wp2_with fail
    go_ret2
    exact ⟨_, rfl, SlsAt.nil _, HVV.out⟩
  · go_enter Tryd.func56, Tryd.ntmps56
    go_upto_region 1 with fail
    clear hW
    go_wp2_with fail
    go_ret2
    exact ⟨_, rfl, SlsAt.nil _, HVV.out⟩
  · have hjl : fnd P s q i < P.length := (List.getElem?_eq_some_iff.1 hd).1
    have hfi : fndI P s q i = (fnd P s q i : Int) := by unfold fndI; rw [if_pos hjl]
    have HF : Hid (∀ W, PrAt W P (.agg #[mv, .slice A0 n cap0]) → Calls Tryd.prog 49 #[.agg #[mv, .slice A0 n cap0], .agg #[.int .i64 s, .int .i64 q, .int .i64 i]] W fun e w' => e = .returned (.int .i64 (fnd P s q i : Int)) ∧ Below W.heap.size W w') := Lib.hid fun W hW => by rw [← hfi]; exact find_any P s q i W _ hW
    obtain ⟨g, o, C, hA, hrg, hdf⟩ := HPX.out _ _ hd
    have hSK : shK P (.node 3 s q i ks) = if d.kind = 0 then 2 else 3 := shK_def rfl hd
    have hSS : shS P (.node 3 s q i ks) = d.slots := shS_def rfl hd
    subst hA
    rw [HN.out] at hjl
    have HC : Hid (∀ W, Below W0.heap.size W0 W → W.cell? ⟨g, o + fnd P s q i * 31 + 3, none⟩ = some (.int .i64 d.kind)) := Lib.hid fun W hW' => (df_head (range_below hrg hW') (hdf.later hW')).2.2.2
    obtain ⟨sv, hsv, hsl⟩ := df_slots hrg hdf
    have HSV : Hid (∀ W, Below W0.heap.size W0 W → W.cell? ⟨g, o + fnd P s q i * 31 + 8, none⟩ = some sv) := Lib.hid fun W hW' => (hW'.cell (p := ⟨g, _, none⟩) (World.block_lt_of_cell? W0 _ hsv)).trans hsv
    have HSL := Lib.hid hsl
    have HSK := Lib.hid hSK
    have HSS := Lib.hid hSS
    generalize fnd P s q i = j at HF hjl HC HSV
    have hji : (j : Int) < (n : Int) := by omega
    have hj0 : (0 : Int) ≤ (j : Int) := by omega
    clear hd hfi hrg hdf hsv hsl hSK hSS hjl
    obtain ⟨K, hKd⟩ : ∃ K, d.kind = K := ⟨_, rfl⟩
    rw [hKd] at HC HSK hdk
    clear hKd
    rcases hdk with rfl | rfl
    · go_enter Tryd.func56, Tryd.ntmps56
      go_upto_region 1 with fail
      clear hW
      go_upto_region 4 with (first
        | (go_at_call 49; (with_reducible refine (HF.out _ HPA.out).mono ?_); rintro e w7 ⟨rfl, hb7⟩; have V7 := later HVV.out hb7; have hcs := (HPP.out.later hb7).cell (j := 1) (v := .slice (some ⟨g, o, none⟩) n cap0) rfl; have hck := HC.out _ (later HB.out V7); have hcv := HSV.out _ (later HB.out V7); have hk7 := (HK1.out.later hb7).d0))
      go_quiet (fail)
      go_wp2_with fail
      go_ret2
      exact ⟨sv, by rw [HSK.out]; rfl, by rw [HSS.out]; exact HSL.out, below_drewN V7 _⟩
    · go_enter Tryd.func56, Tryd.ntmps56
      go_upto_region 1 with fail
      clear hW
      go_upto_region 4 with (first
        | (go_at_call 49; (with_reducible refine (HF.out _ HPA.out).mono ?_); rintro e w7 ⟨rfl, hb7⟩; have V7 := later HVV.out hb7; have hcs := (HPP.out.later hb7).cell (j := 1) (v := .slice (some ⟨g, o, none⟩) n cap0) rfl; have hck := HC.out _ (later HB.out V7); have hcv := HSV.out _ (later HB.out V7); have hk7 := (HK1.out.later hb7).d1))
      go_quiet (fail)
      go_wp2_with fail
      go_ret2
      exact ⟨sv, by rw [HSK.out]; rfl, by rw [HSS.out]; exact HSL.out, below_drewN V7 _⟩
end Go.Proofs.YtkpoiljioadfgaaDoor

namespace Go.Proofs.YtkpoiljioadfgaaDoor
open Go.RowKit
theorem results_one {P : Program} {fn : Func} {p : Tmp} {ty : TypeId} (h : fn.results = #[.cell p ty]) (tmps : Array Value) (w : World) (g : Nat) (cs : List Value) (d : TypeDesc)
    (hp : tmps.getD p undef = .pointer (some ⟨g, 0, none⟩)) (hg : w.rangeAt g 0 cs)
    (hu : P.underlying ty = some d) (hd : d.isRow = true) (hi : (P.info? ty).map (·.size) = some cs.length) :
    (results fn tmps).run P w = .ok (.agg cs.toArray) w := by
  have hp' : tmps[p]?.getD undef = .pointer (some ⟨g, 0, none⟩) := by simpa using hp
  simp [results, h, hp', asAddr, run_loadVar_mid w g 0 ty cs d hg hu hd hi]
def z5 : List Value := [.int .i64 0, .int .i64 0, .int .i64 0, .int .i64 0, .slice none 0 0]
theorem slot_ty {w : World} {A : Option Addr} {len cap : Nat} {L : List Sl} {j : Nat} {x : Sl} (h : SlsAt w (.slice A len cap) L) (hx : L[j]? = some x) :
    ∃ g o C, A = some ⟨g, o, none⟩ ∧ Hid (w.rangeAt g (o + j * 11 + 4) C) ∧ Hid (TyAt w x.ty (.agg C.toArray)) ∧ Hid (C.length = 5) ∧ Hid ((Tryd.prog.info? 31).map (·.size) = some C.length) ∧ Hid (∀ v ∈ C, v.oneCell' = true) := by
  obtain ⟨A', cap', hv, _, hL⟩ := h
  cases hv
  obtain ⟨g, o, C, hA, hr, hs⟩ := hL j x hx
  obtain ⟨T, rfl, h5, hT⟩ := hs
  obtain ⟨k', s', q', i', B, len', cp, hsh⟩ := hT.shape
  have hT' : T = t5 k' s' q' i' B len' cp := by simpa using hsh
  subst hT'
  refine ⟨g, o, _, hA, Lib.hid fun n v hv => ?_, Lib.hid hT, Lib.hid rfl, Lib.hid info_type, Lib.hid (by intro v hv; simp [t5] at hv; rcases hv with rfl | rfl | rfl | rfl | rfl <;> rfl)⟩
  have hn : n < 5 := (List.getElem?_eq_some_iff.1 hv).1
  have := hr (4 + n) v (by rw [List.append_assoc, List.getElem?_append_right (by simp), List.getElem?_append_left (by simp [t5]; omega)]; simpa using hv)
  rwa [show o + j * 11 + (4 + n) = o + j * 11 + 4 + n by omega] at this
def TyRes (W0 : World) (t : Ty) (w : World) (e : Ending) (w' : World) : Prop := ∃ C : List Value, e = .returned (.agg C.toArray) ∧ C.length = 5 ∧ TyAt W0 t (.agg C.toArray) ∧ Below w.heap.size w w'
set_option maxHeartbeats 4000000 in
set_option maxRecDepth 100000 in
theorem kidType_any (t : Ty) (sl : List Sl) (k n : Int) (j len : Nat) (A : Option Addr) (cap : Nat) (W0 w : World) (tv sv : Value) (ht : TyAt W0 t tv) (hs : SlsAt W0 sv sl) (hb : Below W0.heap.size W0 w) (hj : (j : Int) ≤ 9223372036854775807)
    (h2 : k = 2 → j < sl.length) (h3 : k = 3 → 0 ≤ n ∧ n < (sl.length : Int)) (h4 : k ≠ 2 → k ≠ 3 → t.kids ≠ []) :
    Calls Tryd.prog 58 #[tv, sv, .agg (c3 k n A len cap).toArray, .int .i64 (j : Int)] w (TyRes W0 (kty t sl k n j) w) := by
  obtain ⟨kt, s, q, i, B, ln, cp, rfl⟩ := ht.shape
  have hs' := hs
  obtain ⟨SA, scap, rfl, hm, hL⟩ := hs
  obtain ⟨sn, hsn⟩ : ∃ sn, sl.length = sn := ⟨_, rfl⟩
  rw [hsn] at h2 h3 hm hs' ⊢
  have P0 := t5_new w kt s q i B ln cp
  have V0' := new_later w (.cells (t5 kt s q i B ln cp).toArray 31)
  have Q0 := c3_new (w.alloc (.cells (t5 kt s q i B ln cp).toArray 31)) k n A len cap
  have P1 := P0.later (new_later _ (.cells (c3 k n A len cap).toArray 53))
  have V1 := later V0' (new_later _ (.cells (c3 k n A len cap).toArray 53))
  rw [World.size_alloc] at Q0
  clear P0 V0'
  have R0 := Arr.new' ((w.alloc (.cells (t5 kt s q i B ln cp).toArray 31)).alloc (.cells (c3 k n A len cap).toArray 53)) 31 #[.int .i64 0, .int .i64 0, .int .i64 0, .int .i64 0, .slice none 0 0] 5 z5 rfl rfl (by decide)
  have R1 := new_later ((w.alloc (.cells (t5 kt s q i B ln cp).toArray 31)).alloc (.cells (c3 k n A len cap).toArray 53)) (.cells #[.int .i64 0, .int .i64 0, .int .i64 0, .int .i64 0, .slice none 0 0] 31)
  rw [World.size_alloc, World.size_alloc] at R0
  replace P1 := P1.later R1
  replace Q0 := Q0.later R1
  replace V1 := later V1 R1
  clear R1
  generalize hW : ((w.alloc (.cells (t5 kt s q i B ln cp).toArray 31)).alloc (.cells (c3 k n A len cap).toArray 53)).alloc (.cells #[.int .i64 0, .int .i64 0, .int .i64 0, .int .i64 0, .slice none 0 0] 31) = wa at P1 V1 Q0 R0
  have x0 := Q0.cell (j := 0) (v := .int .i64 k) rfl
  have x1 := Q0.cell (j := 1) (v := .int .i64 n) rfl
  have y4 := P1.cell (j := 4) (v := .slice B ln cp) rfl
  have HVV := Lib.hid V1
  have HB := Lib.hid hb
  have HR := Lib.hid R0
  have hj0 : (0 : Int) ≤ (j : Int) := by omega
  have HS := Lib.hid hs'
  have HSN := Lib.hid hsn
  have HT := Lib.hid ht
  clear P1 V1 Q0 hb hL R0 hs' hsn ht
  by_cases hk2 : k = 2
  · have hjl := h2 hk2
    have HKT : Hid (∀ x, sl[j]? = some x → kty t sl k n j = x.ty) := Lib.hid fun x hx => by unfold kty; rw [if_pos hk2, hx]; rfl
    have hk := hk2
    clear hk2 h2 h3 h4 y4 x1
    obtain ⟨x, hx⟩ : ∃ x, sl[j]? = some x := ⟨_, List.getElem?_eq_getElem (by rw [HSN.out]; exact hjl)⟩
    obtain ⟨g, o, C, hA, HRg, HTx, HC5, HI5, HOC⟩ := slot_ty HS.out hx
    subst hA
    rw [HKT.out x hx]
    have HRb := Lib.hid (range_below HRg.out (later HB.out HVV.out))
    have hji : (j : Int) < (sn : Int) := by omega
    clear hx hjl HKT
    subst hk
    go_enter Tryd.func58, Tryd.ntmps58
    go_upto_region 1 with fail
    clear hW
    go_wp2_with (first
      | (with_reducible refine wpList_load_mid rfl _ (.tmp 16) rfl g (o + j * 11 + 4) rfl C _ HRb.out Tryd.underlying31 rfl HI5.out ?_)
      | (refine wpList_store_arr rfl _ (.tmp 8) (.tmp 17) rfl (w.heap.size + 1 + 1) 0 5 31 _ C z5 rfl rfl rfl HR.out (by rw [HC5.out]; omega) HI5.out HOC.out ?_; intro w7 f7 o7))
    rw [setAll_all _ _ (by rw [HC5.out]; rfl)] at f7
    exact bodyPost_ret (results_one rfl _ _ (w.heap.size + 1 + 1) C _ rfl f7.range Tryd.underlying31 rfl HI5.out) rfl ⟨C, rfl, HC5.out, HTx.out, HVV.out.trans (o7.bel.mono (by omega))⟩
  by_cases hk3 : k = 3
  · obtain ⟨hn0, hn1⟩ := h3 hk3
    obtain ⟨m, rfl⟩ := Int.eq_ofNat_of_zero_le hn0
    have hml : m < sn := by omega
    have HKT : Hid (∀ x, sl[m]? = some x → kty t sl k (m : Int) j = x.ty) := Lib.hid fun x hx => by unfold kty; rw [if_neg hk2, if_pos hk3, Int.toNat_natCast, hx]; rfl
    have hk := hk3
    clear hk2 hk3 h2 h3 h4 y4 hj0
    obtain ⟨x, hx⟩ : ∃ x, sl[m]? = some x := ⟨_, List.getElem?_eq_getElem (by rw [HSN.out]; exact hml)⟩
    obtain ⟨g, o, C, hA, HRg, HTx, HC5, HI5, HOC⟩ := slot_ty HS.out hx
    subst hA
    rw [HKT.out x hx]
    have HRb := Lib.hid (range_below HRg.out (later HB.out HVV.out))
    clear hx hml HKT
    subst hk
    go_enter Tryd.func58, Tryd.ntmps58
    go_upto_region 1 with fail
    clear hW
    go_wp2_with (first
      | (with_reducible refine wpList_load_mid rfl _ (.tmp 24) rfl g (o + m * 11 + 4) rfl C _ HRb.out Tryd.underlying31 rfl HI5.out ?_)
      | (refine wpList_store_arr rfl _ (.tmp 8) (.tmp 25) rfl (w.heap.size + 1 + 1) 0 5 31 _ C z5 rfl rfl rfl HR.out (by rw [HC5.out]; omega) HI5.out HOC.out ?_; intro w7 f7 o7))
    rw [setAll_all _ _ (by rw [HC5.out]; rfl)] at f7
    exact bodyPost_ret (results_one rfl _ _ (w.heap.size + 1 + 1) C _ rfl f7.range Tryd.underlying31 rfl HI5.out) rfl ⟨C, rfl, HC5.out, HTx.out, HVV.out.trans (o7.bel.mono (by omega))⟩
  · have h5 := h4 hk2 hk3
    have hkb2 : (k == 2) = false := by rw [beq_eq_false_iff_ne]; exact hk2
    have hkb3 : (k == 3) = false := by rw [beq_eq_false_iff_ne]; exact hk3
    cases t with
    | node kt' s' q' i' ks =>
    cases ks with
    | nil => exact absurd rfl h5
    | cons x xs =>
      have hT := HT.out
      unfold TyAt at hT
      obtain ⟨B', cp', hv, hm', hks⟩ := hT
      have hv' : t5 kt s q i B ln cp = t5 kt' s' q' i' B' (x :: xs).length cp' := by simpa using hv
      simp only [t5, List.cons.injEq, Value.int.injEq, Value.slice.injEq, true_and, and_true] at hv'
      obtain ⟨rfl, rfl, rfl, rfl, rfl, rfl, rfl⟩ := hv'
      obtain ⟨g, o, C, hA, HRg, HTx, HC5, HI5, HOC⟩ := tkid_at hks (j := 0) (x := x) rfl
      subst hA
      have HKT : Hid (kty (.node kt s q i (x :: xs)) sl k n j = x) := Lib.hid (by unfold kty; rw [if_neg hk2, if_neg hk3]; rfl)
      rw [HKT.out]
      have HRb : Hid (wa.rangeAt g o C) := Lib.hid (by have h := range_below HRg.out (later HB.out HVV.out); simpa using h)
      have hli : (0 : Int) < ((x :: xs).length : Int) := by simp only [List.length_cons]; omega
      have hln : 0 < (x :: xs).length := by simp
      generalize (x :: xs).length = ll at hli hln y4 hW
      clear hk2 hk3 h2 h3 h4 h5 HKT hv hks HRg
      go_enter Tryd.func58, Tryd.ntmps58
      go_upto_region 1 with fail
      clear hW
      go_wp2_with (first
        | (with_reducible refine wpList_load_mid rfl _ (.tmp 28) rfl g o rfl C _ HRb.out Tryd.underlying31 rfl HI5.out ?_)
        | (refine wpList_store_arr rfl _ (.tmp 8) (.tmp 29) rfl (w.heap.size + 1 + 1) 0 5 31 _ C z5 rfl rfl rfl HR.out (by rw [HC5.out]; omega) HI5.out HOC.out ?_; intro w7 f7 o7))
      rw [setAll_all _ _ (by rw [HC5.out]; rfl)] at f7
      exact bodyPost_ret (results_one rfl _ _ (w.heap.size + 1 + 1) C _ rfl f7.range Tryd.underlying31 rfl HI5.out) rfl ⟨C, rfl, HC5.out, HTx.out, HVV.out.trans (o7.bel.mono (by omega))⟩
end Go.Proofs.YtkpoiljioadfgaaDoor

namespace Go.Proofs.YtkpoiljioadfgaaDoor
open Go.RowKit
def ar (n : Int) (m : Nat) : Nat := (if n < 0 then -(n + 1) else n).toNat % m
theorem ar_lt (n : Int) (m : Nat) (h : 0 < m) : ar n m < m := Nat.mod_lt _ h
set_option maxHeartbeats 400000 in
set_option maxRecDepth 100000 in
theorem Around_any (n : Int) (m : Nat) (h0 : 0 < m) (h1 : m ≤ 2097152) (hn : i64r n) (w : World) :
    Calls Tryd.prog 12 #[.int .i64 n, .int .i64 (m : Int)] w fun e w' => e = .returned (.int .i64 ((ar n m : Nat) : Int)) ∧ w' = w := by
  obtain ⟨hlo, hhi⟩ := hn
  have hm0 : (m : Int) ≠ 0 := by omega
  have hm1 : ((m : Int) == 0) = false := by simpa using hm0
  by_cases h : n < 0
  · have e : ((-(n + 1) : Int).tmod (m : Int)) = ((ar n m : Nat) : Int) := by
      unfold ar
      rw [if_pos h, Int.tmod_eq_emod_of_nonneg (by omega), Int.natCast_emod, Int.toNat_of_nonneg (by omega)]
    have hb := ar_lt n m h0
    generalize ar n m = R at e hb ⊢
    have hR : (R : Int) ≤ 2097152 := by omega
    have hR0 : (0 : Int) ≤ (R : Int) := by omega
    go_enter Tryd.func12, Tryd.ntmps12
    go_wp2
    go_ret
    exact ⟨rfl, rfl⟩
  · have e : (n.tmod (m : Int)) = ((ar n m : Nat) : Int) := by
      unfold ar
      rw [if_neg h, Int.tmod_eq_emod_of_nonneg (by omega), Int.natCast_emod, Int.toNat_of_nonneg (by omega)]
    have hb := ar_lt n m h0
    generalize ar n m = R at e hb ⊢
    have hR : (R : Int) ≤ 2097152 := by omega
    have hR0 : (0 : Int) ≤ (R : Int) := by omega
    go_enter Tryd.func12, Tryd.ntmps12
    go_wp2
    go_ret
    exact ⟨rfl, rfl⟩
def iv (l : List Int) : List Value := l.map (Value.int .i64)
theorem iv_get (l : List Int) (j : Nat) (h : j < l.length) : (iv l)[j]? = some (.int .i64 (l[j]'h)) := by
  simp [iv, List.getElem?_map, List.getElem?_eq_getElem h]
def at_ (l : List Int) (i m : Nat) : Nat := if h : i < l.length then ar (l[i]'h) m else 0
set_option maxHeartbeats 400000 in
set_option maxRecDepth 100000 in
theorem At_any (l : List Int) (i m n B c : Nat) (A : Option Addr) (hn : n = l.length) (hn1 : n ≤ maxLen) (h0 : 0 < m) (h1 : m ≤ 2097152) (hl : ∀ x ∈ l, i64r x) (w : World) (hr : Rd w B A (iv l)) :
    Calls Tryd.prog 44 #[.slice A n c, .int .i64 (i : Int), .int .i64 (m : Int)] w fun e w' => e = .returned (.int .i64 ((at_ l i m : Nat) : Int)) ∧ w' = w := by
  have hi0 : (0 : Int) ≤ (i : Int) := by omega
  unfold at_
  by_cases h : i < l.length
  · rw [dif_pos h]
    have hin : (i : Int) < (n : Int) := by omega
    obtain ⟨b, o, rfl, _, hc⟩ := hr.at_ (by intro e; have := congrArg List.length e; simp [iv] at this; subst this; simp at h)
    have hcell := hc i _ (iv_get l i h)
    have HA := Lib.hid (Around_any l[i] m h0 h1 (hl _ (List.getElem_mem h)) w)
    generalize ar l[i] m = R at HA ⊢
    generalize l[i] = X at hcell HA
    clear hc hr h0 h1 hl hn hn1
    go_enter Tryd.func44, Tryd.ntmps44
    go_wp2_with (go_at_call 12; (with_reducible refine HA.out.mono ?_); rintro e w' ⟨rfl, hw⟩; rw [hw])
    go_ret
    exact ⟨rfl, rfl⟩
  · rw [dif_neg h]
    have hin : (n : Int) ≤ (i : Int) := by omega
    clear hr h0 h1 hl hn
    go_enter Tryd.func44, Tryd.ntmps44
    go_wp2
    go_ret
    exact ⟨rfl, rfl⟩
set_option maxHeartbeats 400000 in
set_option maxRecDepth 100000 in
theorem ID_any (k : Nat) (hk : k ≤ 31) (w : World) :
    Calls Tryd.prog 15 #[.int .i64 (k : Int)] w fun e w' => e = .returned (.agg #[.int .i64 0, .int .i64 1, .int .i64 (k : Int)]) ∧ Below w.heap.size w w' := by
  have hk0 : (0 : Int) ≤ (k : Int) := by omega
  have hk1 : (k : Int) ≤ 31 := by omega
  have e1 : (k : Int) / 32 = 0 := by omega
  have e2 : (k : Int) % 32 = (k : Int) := by omega
  have hB := new_later w (.cells #[.int .i64 0, .int .i64 1, .int .i64 (k : Int)] 28)
  have A := Arr.new' w 28 #[.int .i64 0, .int .i64 1, .int .i64 (k : Int)] 3 [.int .i64 0, .int .i64 1, .int .i64 (k : Int)] rfl rfl (by decide)
  have HI : (Tryd.prog.info? 28).map (·.size) = some ([.int .i64 0, .int .i64 1, .int .i64 (k : Int)] : List Value).length := by kernel_rfl
  have HA := Lib.hid A
  have HBB := Lib.hid hB
  have HII := Lib.hid HI
  clear A hB HI
  go_enter Tryd.func15, Tryd.ntmps15
  go_wp2_with fail
  exact bodyPost_ret (results_one rfl _ _ w.heap.size [.int .i64 0, .int .i64 1, .int .i64 (k : Int)] _ rfl HA.out.range Tryd.underlying28 rfl HII.out) rfl ⟨rfl, HBB.out⟩
set_option maxHeartbeats 400000 in
set_option maxRecDepth 100000 in
theorem Of_any (a b c : Int) (w : World) :
    Calls Tryd.prog 14 #[.agg #[.int .i64 a, .int .i64 b, .int .i64 c]] w fun e w' => e = .returned (.agg #[.int .i64 3, .int .i64 a, .int .i64 b, .int .i64 c, .slice none 0 0]) ∧ Below w.heap.size w w' := by
  have Q0 := i3_new w a b c
  have V0 := new_later w (.cells #[.int .i64 a, .int .i64 b, .int .i64 c] 28)
  have V1 := later V0 (new_later _ (.cells #[.int .i64 3, .int .i64 a, .int .i64 b, .int .i64 c, .slice none 0 0] 31))
  have A := Arr.new' (w.alloc (.cells #[.int .i64 a, .int .i64 b, .int .i64 c] 28)) 31 #[.int .i64 3, .int .i64 a, .int .i64 b, .int .i64 c, .slice none 0 0] 5 [.int .i64 3, .int .i64 a, .int .i64 b, .int .i64 c, .slice none 0 0] rfl rfl (by decide)
  rw [World.size_alloc] at A
  have x0 := Q0.cell (j := 0) (v := .int .i64 a) rfl
  have x1 := Q0.cell (j := 1) (v := .int .i64 b) rfl
  have x2 := Q0.cell (j := 2) (v := .int .i64 c) rfl
  have HI : (Tryd.prog.info? 31).map (·.size) = some ([.int .i64 3, .int .i64 a, .int .i64 b, .int .i64 c, .slice none 0 0] : List Value).length := info_type
  have HA := Lib.hid A
  have HV := Lib.hid V1
  have HII := Lib.hid HI
  clear A V0 V1 Q0 HI
  go_enter Tryd.func14, Tryd.ntmps14
  go_wp2_with fail
  exact bodyPost_ret (results_one rfl _ _ (w.heap.size + 1) [.int .i64 3, .int .i64 a, .int .i64 b, .int .i64 c, .slice none 0 0] _ rfl HA.out.range Tryd.underlying31 rfl HII.out) rfl ⟨rfl, HV.out⟩
def TyNew (t : Ty) (w : World) (e : Ending) (w' : World) : Prop := ∃ k s q i A len cap, e = .returned (.agg #[.int .i64 k, .int .i64 s, .int .i64 q, .int .i64 i, .slice A len cap]) ∧ TyAt w' t (.agg #[.int .i64 k, .int .i64 s, .int .i64 q, .int .i64 i, .slice A len cap]) ∧ Below w.heap.size w w'
set_option maxHeartbeats 400000 in
set_option maxRecDepth 100000 in
theorem List_any (x : Ty) (w : World) (v : Value) (h : TyAt w x v) :
    Calls Tryd.prog 13 #[v] w (TyNew (.node 2 0 0 0 [x]) w) := by
  obtain ⟨k, s, q, i, B, ln, cp, rfl⟩ := h.shape
  have P0 := t5_new w k s q i B ln cp
  have V0 := new_later w (.cells (t5 k s q i B ln cp).toArray 31)
  have b2 := new_later (w.alloc (.cells (t5 k s q i B ln cp).toArray 31)) (.cells #[.int .i64 0, .int .i64 0, .int .i64 0, .int .i64 0, .slice none 0 0] 31)
  have R0 := Arr.new' (w.alloc (.cells (t5 k s q i B ln cp).toArray 31)) 31 #[.int .i64 0, .int .i64 0, .int .i64 0, .int .i64 0, .slice none 0 0] 5 z5 rfl rfl (by decide)
  rw [World.size_alloc] at R0
  have P1 := P0.later b2
  have V1 := later V0 b2
  generalize hW : (w.alloc (.cells (t5 k s q i B ln cp).toArray 31)).alloc (.cells #[.int .i64 0, .int .i64 0, .int .i64 0, .int .i64 0, .slice none 0 0] 31) = wa at P1 V1 R0
  have y0 := P1.cell (j := 0) (v := .int .i64 k) rfl
  have y1 := P1.cell (j := 1) (v := .int .i64 s) rfl
  have y2 := P1.cell (j := 2) (v := .int .i64 q) rfl
  have y3 := P1.cell (j := 3) (v := .int .i64 i) rfl
  have y4 := P1.cell (j := 4) (v := .slice B ln cp) rfl
  have V2 := new_later wa (.cells #[.int .i64 k, .int .i64 s, .int .i64 q, .int .i64 i, .slice B ln cp] 31)
  have K2 := Arr.new' wa 31 #[.int .i64 k, .int .i64 s, .int .i64 q, .int .i64 i, .slice B ln cp] 5 (t5 k s q i B ln cp) rfl rfl (by decide)
  have R2 := R0.later V2
  have hwl : w.heap.size + 1 < wa.heap.size := R0.lt
  have HR := Lib.hid R2
  have HV := Lib.hid (later V1 V2)
  have HTW := Lib.hid h
  have HK := Lib.hid K2
  have HI : Hid (∀ A : Option Addr, (Tryd.prog.info? 31).map (·.size) = some ([.int .i64 2, .int .i64 0, .int .i64 0, .int .i64 0, .slice A 1 1] : List Value).length) := Lib.hid fun A => info_type
  have HO : Hid (∀ A : Option Addr, ∀ v ∈ ([.int .i64 2, .int .i64 0, .int .i64 0, .int .i64 0, .slice A 1 1] : List Value), v.oneCell' = true) := Lib.hid fun A => by intro v hv; simp at hv; rcases hv with rfl | rfl | rfl | rfl | rfl <;> rfl
  clear P1 P0 V0 b2 V1 R0 R2 V2 K2 h
  go_enter Tryd.func13, Tryd.ntmps13
  go_upto_region 1 with fail
  clear hW
  go_wp2_with (refine wpList_store_arr rfl _ (.tmp 2) (.tmp 5) rfl (w.heap.size + 1) 0 5 31 _ [.int .i64 2, .int .i64 0, .int .i64 0, .int .i64 0, .slice (some ⟨wa.heap.size, 0, none⟩) 1 1] z5 rfl rfl rfl HR.out (show 0 + 5 ≤ 5 by omega) (HI.out _) (HO.out _) ?_; intro w7 f7 o7)
  rw [setAll_all z5 [.int .i64 2, .int .i64 0, .int .i64 0, .int .i64 0, .slice (some ⟨wa.heap.size, 0, none⟩) 1 1] rfl] at f7
  refine bodyPost_ret (results_one rfl _ _ (w.heap.size + 1) [.int .i64 2, .int .i64 0, .int .i64 0, .int .i64 0, .slice (some ⟨wa.heap.size, 0, none⟩) 1 1] _ rfl f7.range Tryd.underlying31 rfl (HI.out _)) rfl ?_
  have hb7 : Below w.heap.size w w7 := HV.out.trans (o7.bel.mono (by omega))
  refine ⟨2, 0, 0, 0, _, 1, 1, rfl, ?_, hb7⟩
  unfold TyAt
  refine ⟨_, 1, rfl, ⟨by simp, by simp [maxLen], by unfold i64r; omega, by unfold i64r; omega, by unfold i64r; omega, by unfold i64r; omega⟩, ?_⟩
  unfold KtAt
  refine ⟨⟨wa.heap.size, 0, t5 k s q i B ln cp, rfl, ?_, ?_⟩, by unfold KtAt; trivial⟩
  · exact (HK.out.only o7 (by omega)).range
  · exact HTW.out.later hb7
end Go.Proofs.YtkpoiljioadfgaaDoor

