import Derived.Test.YtjbleefpafnhhaaDoorZ01
import Derived.Test.YtjbleefpafnhhaaDoorZ05
import Derived.Test.YtjbleefpafnhhaaDoorZ06
import Derived.Test.YtjbleefpafnhhaaDoorZ24
import Derived.Test.YtjbleefpafnhhaaDoorZ33
import Derived.Test.YtjbleefpafnhhaaDoorZ36
import Derived.ProofKit
import Derived.OpenShut
import Derived.ShutString
import Derived.ChangeOld
import Derived.SizedLaws
import Derived.Deep.Slices
import Derived.Test.YtjbleefpafnhhaaDoorRows
import Derived.SliceStrings
import Derived.ChangeMaps5
import Derived.ChangeSame
import Derived.ChangeVars
import Derived.JoinedOf
import Derived.RowKit
/-
  ValueParts: what the walk needs of the program of Types, of a value's kids and of lists of it.
-/
set_option linter.unusedVariables false
set_option linter.unusedSimpArgs false
namespace Go.Proofs.YtjbleefpafnhhaaDoor
open Go.RowKit

/-- A sound program comes back that may be read. -/
def TypPr (w : World) (e : Ending) (w' : World) : Prop := ∃ (P : List Df) (mv : Value) (gd0 o n cap : Nat), n = P.length ∧ e = .returned (.agg #[mv, .slice (some ⟨gd0, o, none⟩) n cap]) ∧ PrAt w' P (.agg #[mv, .slice (some ⟨gd0, o, none⟩) n cap]) ∧ mv.oneCell' = true ∧ Snd P ∧ (∀ d : Df, P[0]? = some d → d.name = ⟨#[80, 111, 105, 110, 116]⟩) ∧ Below w.heap.size w w'
theorem Types_pr (ls : List Int) (LA : Option Addr) (ln lc : Nat) (w : World) (hN : Nums w ls LA ln) :
    Calls Tryd.prog 10 #[.slice LA ln lc] w (TypPr w) := by
  refine (Types_any ls LA ln lc w hN).mono ?_
  rintro e w' ⟨P, gm, B, M, dv, rfl, hG, _, hS, hn, hb⟩
  have hP := pr_of hG (show (Value.slice (some ⟨gm, 0, none⟩) 1 1).oneCell' = true from rfl)
  have hP2 := hP
  obtain ⟨mv, A, cap, he, hm, hd⟩ := hP
  have h0 : 0 < P.length := hS.len.1
  obtain ⟨g, o, C, rfl, _⟩ := hd 0 _ (List.getElem?_eq_getElem h0)
  have e1 : dv = .slice (some ⟨g, o, none⟩) P.length cap := by simp at he; exact he.2
  subst e1
  exact ⟨P, _, g, o, _, cap, rfl, rfl, hP2, rfl, hS, hn, hb⟩
theorem pr_get {w : World} {P : List Df} {mv : Value} {g o n cap : Nat} (h : PrAt w P (.agg #[mv, .slice (some ⟨g, o, none⟩) n cap])) {j : Nat} (hj : j < P.length) : ∃ C, w.rangeAt g (o + j * 31) C ∧ DfAt w P[j] C := by
  obtain ⟨mv', A, cap', e, _, hd⟩ := h
  obtain ⟨g', o', C, hA, hr, hd⟩ := hd j _ (List.getElem?_eq_getElem hj)
  simp at e
  obtain ⟨rfl, e, _, _⟩ := e
  rw [← e] at hA
  cases hA
  exact ⟨C, hr, hd⟩
theorem df_id {w : World} {d : Df} {C : List Value} (h : DfAt w d C) : ∃ R, C = [.int .i64 d.a, .int .i64 d.b, .int .i64 d.c] ++ R := by
  obtain ⟨sv, T, E, lv, rfl, _⟩ := h
  exact ⟨_, rfl⟩
/-- What lies in the world behind the law's first three lines. -/
structure VPs (W : World) (P : List Df) (mv dv : Value) (gP gD gv : Nat) (d : Df) (C : List Value) (x : Tr) (xk xn : Int) (xA : Option Addr) (xl xc : Nat) : Prop where
  hp : Arr W gP 2 26 [mv, dv]
  hpr : PrAt W P (.agg #[mv, dv])
  hk : Kv W
  hd : Arr W gD 31 46 C
  hdf : DfAt W d C
  hv : Arr W gv 3 53 [.int .i64 xk, .int .i64 xn, .slice xA xl xc]
  ht : TrAt W x (.agg #[.int .i64 xk, .int .i64 xn, .slice xA xl xc])
theorem VPs.later {W W' : World} {P : List Df} {mv dv : Value} {gP gD gv : Nat} {d : Df} {C : List Value} {x : Tr} {xk xn : Int} {xA : Option Addr} {xl xc : Nat} (h : VPs W P mv dv gP gD gv d C x xk xn xA xl xc) (hb : Below W.heap.size W W') : VPs W' P mv dv gP gD gv d C x xk xn xA xl xc :=
  ⟨h.hp.later hb, h.hpr.later hb, h.hk.later hb, h.hd.later hb, h.hdf.later hb, h.hv.later hb, h.ht.later hb⟩
theorem VPs.node {W : World} {P : List Df} {mv dv : Value} {gP gD gv : Nat} {d : Df} {C : List Value} {x : Tr} {xk xn : Int} {xA : Option Addr} {xl xc : Nat} (h : VPs W P mv dv gP gD gv d C x xk xn xA xl xc) : ∃ ks, x = .node xk xn ks ∧ xl = ks.length ∧ xl ≤ xc ∧ xc ≤ maxLen ∧ KsAt W xA 0 ks := by
  cases x with
  | node kx nx ks =>
    have ht := h.ht
    unfold TrAt at ht
    obtain ⟨A, cap, e, hm, hK⟩ := ht
    simp [c3] at e
    obtain ⟨rfl, rfl, rfl, rfl, rfl⟩ := e
    exact ⟨ks, rfl, rfl, hm.1, hm.2.1, hK⟩
/-- What a round of the law's loop reads. -/
theorem VPs.kid {W : World} {P : List Df} {mv dv : Value} {gP gD gv j : Nat} {C : List Value} {x : Tr} {xk xn : Int} {xA : Option Addr} {xl xc : Nat} (hj : j < P.length) (h : VPs W P mv dv gP gD gv P[j] C x xk xn xA xl xc) (hS : Snd P)
    (hF : ft P x (tD j) = true ∧ x.nodes ≤ 256 ∧ x.dep ≤ 10) (i : Nat) (hi : i < xl) (kk : Nat) (hk0 : P[j].kind = 0 → kk = i) (hk1 : P[j].kind ≠ 0 → xn = (kk : Int)) :
    ∃ gs os sn sc gx ox Tc Xc ty y, C[8]? = some (.slice (some ⟨gs, os, none⟩) sn sc) ∧ W.rangeAt gs (os + kk * 11 + 4) Tc ∧ Tc.length = 5 ∧ TyAt W ty (.agg Tc.toArray) ∧ xA = some ⟨gx, ox, none⟩ ∧ W.rangeAt gx (ox + i * 3) Xc ∧ Xc.length = 3 ∧ TrAt W y (.agg Xc.toArray) ∧ kk < sn ∧ (pv P y ty 24 0).1 = true := by
  obtain ⟨ks, rfl, rfl, _, _, hK⟩ := h.node
  have hki := List.getElem?_eq_getElem hi
  obtain ⟨gx, ox, Xc, hA, hr, hy⟩ := hK.get hki
  rw [Nat.zero_add] at hr
  have hXl : Xc.length = 3 := by
    obtain ⟨a, b, A, l, c, e⟩ := hy.shape
    have := congrArg (fun v : Value => match v with | .agg cs => cs.size | _ => 0) e
    simpa [c3] using this
  obtain ⟨p1, p2⟩ := part_fits hS hj hF.1
  have hs : ∃ s, P[j].slots[kk]? = some s ∧ ft P ks[i] s.ty = true := by
    by_cases e : P[j].kind = 0
    · obtain ⟨_, hl, hf⟩ := p1 e
      have := hk0 e
      subst this
      have hs := List.getElem?_eq_getElem (show kk < P[j].slots.length by omega)
      exact ⟨_, hs, hf kk _ _ hki hs⟩
    · obtain ⟨_, m, hm, hl, hf⟩ := p2 e
      have := hk1 e
      obtain rfl : m = kk := by omega
      have hs := List.getElem?_eq_getElem hl
      exact ⟨_, hs, hf i _ _ hki hs⟩
  obtain ⟨s, hs, hf⟩ := hs
  obtain ⟨SA, scap, h8, hsl⟩ := df8 h.hdf rfl rfl
  obtain ⟨gs, os, C', rfl, hr2, T, rfl, hT, hTy⟩ := hsl.get hs
  have hkn := kid_nodes hki
  have e1 := nodes_node xk xn ks
  have e2 := dep_node xk xn ks
  refine ⟨gs, os, _, scap, gx, ox, T, Xc, s.ty, ks[i], h8, ?_, hT, hTy, hA, hr, hXl, hy, (List.getElem?_eq_some_iff.1 hs).1, pv_true hf (by omega) (by omega)⟩
  rw [List.append_assoc] at hr2
  exact range_left (range_right hr2)
theorem VPs.num {W : World} {P : List Df} {mv dv : Value} {gP gD gv j : Nat} {C : List Value} {x : Tr} {xk xn : Int} {xA : Option Addr} {xl xc : Nat} (hj : j < P.length) (h : VPs W P mv dv gP gD gv P[j] C x xk xn xA xl xc) (hS : Snd P)
    (hF : ft P x (tD j) = true ∧ x.nodes ≤ 256 ∧ x.dep ≤ 10) (hk : P[j].kind = 1) : ∃ m : Nat, xn = (m : Int) := by
  obtain ⟨ks, rfl, _⟩ := h.node
  obtain ⟨_, m, hm, _⟩ := (part_fits hS hj hF.1).2 (by omega)
  exact ⟨m, hm⟩
theorem trv_twox {w : World} {gk : Nat} {k n a b : Int} {A : Option Addr} {l c : Nat} {x : Tr} (h : Arr w gk 6 53 [.int .i64 a, .int .i64 b, .slice A l c, .int .i64 a, .int .i64 b, .slice A l c]) (hx : TrAt w x (.agg #[.int .i64 a, .int .i64 b, .slice A l c])) (hk : i64r k) (hn : i64r n) : TrAt w (.node k n [x, x]) (.agg #[.int .i64 k, .int .i64 n, .slice (some ⟨gk, 0, none⟩) 2 2]) := by
  have hr := h.range
  unfold TrAt
  refine ⟨some ⟨gk, 0, none⟩, 2, rfl, ⟨Nat.le_refl _, by simp [maxLen], hk, hn⟩, ?_⟩
  unfold KsAt
  refine ⟨⟨gk, 0, _, rfl, by simpa using range_left (xs := [.int .i64 a, .int .i64 b, .slice A l c]) (ys := [.int .i64 a, .int .i64 b, .slice A l c]) hr, hx⟩, ?_⟩
  unfold KsAt
  exact ⟨⟨gk, 0, _, rfl, by simpa using range_right (xs := [.int .i64 a, .int .i64 b, .slice A l c]) (ys := [.int .i64 a, .int .i64 b, .slice A l c]) hr, hx⟩, by unfold KsAt; trivial⟩
/-- A list of the value, twice and once. -/
theorem pv_two {P : List Df} (hS : Snd P) {j : Nat} (hj : j < P.length) {x : Tr} (hF : ft P x (tD j) = true ∧ x.nodes ≤ 256 ∧ x.dep ≤ 10) : (pv P (.node 4 0 [x, x]) (tL (tD j)) 24 0).1 = decide (2 * (x.nodes : Int) + 1 ≤ 256) := by
  rw [pv_eq (ft_L P _ _ (hS.vty_D hj 22) (by simpa using hF.1)) (by rw [dep_node]; simp only [depL]; omega)]
  have e : (Tr.node 4 0 [x, x]).nodes = x.nodes + (x.nodes + 0) + 1 := by rw [nodes_node]; simp only [nodesL]
  by_cases h : 2 * (x.nodes : Int) + 1 ≤ 256
  · rw [decide_eq_true h, decide_eq_true (by omega)]
  · rw [decide_eq_false h, decide_eq_false (by omega)]
theorem pv_one {P : List Df} (hS : Snd P) {j : Nat} (hj : j < P.length) {x : Tr} (hF : ft P x (tD j) = true ∧ x.nodes ≤ 256 ∧ x.dep ≤ 10) (h : 2 * (x.nodes : Int) + 1 ≤ 256) : (pv P (.node 4 0 [x]) (tL (tD j)) 24 0).1 = true := by
  refine pv_true (ft_L P _ _ (hS.vty_D hj 22) (by simpa using hF.1)) ?_ (by rw [dep_node]; simp only [depL]; omega)
  rw [nodes_node]; simp only [nodesL]
  have := x.nodes_pos
  omega
theorem pv_neg (P : List Df) (n : Int) (h0 : 1099511627775 ≤ n) : (pv P (lf (-n)) tI 24 0).1 = decide (n ≤ 1099511627776) := by
  rw [pv_num]
  by_cases h : n ≤ 1099511627776
  · rw [decide_eq_true h, decide_eq_true (by omega)]
  · rw [decide_eq_false h, decide_eq_false (by omega)]
theorem pv_pos (P : List Df) (n : Int) (h0 : 1099511627775 ≤ n) : (pv P (lf n) tI 24 0).1 = decide (n ≤ 1099511627776) := by
  rw [pv_num]
  by_cases h : n ≤ 1099511627776
  · rw [decide_eq_true h, decide_eq_true (by omega)]
  · rw [decide_eq_false h, decide_eq_false (by omega)]
end Go.Proofs.YtjbleefpafnhhaaDoor
/-
  ValueParts: the walk.
-/
set_option linter.unusedVariables false
set_option linter.unusedSimpArgs false
namespace Go.Proofs.YtjbleefpafnhhaaDoor
open Go.RowKit

set_option maxHeartbeats 8000000 in
set_option maxRecDepth 100000 in
theorem ValueParts_any (l0 c0 l1 c1 : Nat) (A0 A1 : Option Addr) (z0 z1 : List Int) (wh ov : Int) (w : World) (hw : i64r wh) (ho : i64r ov) (hN0 : Nums w z0 A0 l0) (hN1 : Nums w z1 A1 l1) (hK : Kv w) :
    Calls Tryd.prog 9 #[.slice A0 l0 c0, .slice A1 l1 c1, .int .i64 wh, .int .i64 ov] w (BRes true w) := by
  have HTY := Lib.hid (Types_pr z0 A0 l0 c0 w hN0)
  have HN1 := Lib.hid hN1
  have HKV := Lib.hid hK
  have HW := Lib.hid hw
  have HOV := Lib.hid ho
  clear hN0 hN1 hK hw ho
  go_enter Tryd.func9, Tryd.ntmps9
  go_upto_region 1 with fail
  go_upto_region 2 with (first
    | (go_at_call 10; (with_reducible refine HTY.out.mono ?_); rintro e w1 ⟨P, mv, gd0, o, n, cap, hn, rfl, hP, hmv, hS, _, hb⟩; have HNN := Lib.hid hn; have HP1 := Lib.hid hP; have HMV := Lib.hid hmv; have HS := Lib.hid hS; have HB1 := Lib.hid hb; clear hn hP hmv hS hb HTY)
    | (refine wpList_store_arr rfl _ (.tmp 9) (.tmp 21) rfl w1.heap.size 0 2 26 _ [mv, .slice (some ⟨gd0, o, none⟩) n cap] [.slice none 0 0, .slice none 0 0] rfl rfl rfl (p2_new w1 _ _) (show 0 + 2 ≤ 2 by omega) info_prog (by intro v hv; simp at hv; rcases hv with rfl | rfl; exact HMV.out; rfl) ?_; intro w2 f2 o2; rw [setAll_all [.slice none 0 0, .slice none 0 0] [mv, .slice (some ⟨gd0, o, none⟩) n cap] rfl] at f2; have HP2 := Lib.hid f2; have HO2 := Lib.hid ((new_later w1 _).trans (o2.bel.mono (Nat.le_refl _))); clear f2 o2))
  have HB2 := Lib.hid (later HB1.out HO2.out)
  have HPr2 := Lib.hid (HP1.out.later HO2.out)
  generalize w1.heap.size = gP at HP2 ⊢
  have hn1 : 0 < n := by have := HNN.out; have := HS.out.len; omega
  have hn4 : n ≤ 4 := by have := HNN.out; have := HS.out.len; omega
  obtain ⟨j, hj⟩ : ∃ j, ar wh n = j := ⟨_, rfl⟩
  have hjn : j < P.length := by rw [← HNN.out, ← hj]; exact ar_lt wh n hn1
  obtain ⟨C, hCr, hCd⟩ := pr_get HPr2.out hjn
  refine regl2 (by kernel_rfl) _ _ gP gd0 o j n cap mv C wh rfl rfl rfl HP2.out hn1 hn4 hj HW.out hCr hCd.len hCd.cells ?_
  intro vs2 w3 gD h10 hgD hD3 hb3 a3 ha3
  simp only [Dl2, List.cons_append, List.nil_append, List.foldl_cons, List.foldl_nil, Act.put, List.setIfInBounds_toArray, List.set_cons_succ, List.set_cons_zero, h10] at ha3
  subst ha3
  have HB3 := Lib.hid (later HB2.out hb3)
  have HP3 := Lib.hid (HP2.out.later hb3)
  have HPr3 := Lib.hid (HPr2.out.later hb3)
  have HD3 := Lib.hid hD3
  have HDf3 := Lib.hid (hCd.later hb3)
  have HJN := Lib.hid hjn
  clear h10 hgD hD3 hb3 hCr hCd hj hn1 hn4 HPr2 HP2 HB2 HB1 HO2 HP1
  obtain ⟨R, hR⟩ := df_id HDf3.out
  have hid3 := HS.out.ids j _ (List.getElem?_eq_getElem HJN.out)
  rw [hid3.1, hid3.2.1, hid3.2.2] at hR
  go_upto_region 3 with fail
  refine regl3 (by kernel_rfl) _ _ gP gD j mv (.slice (some ⟨gd0, o, none⟩) n cap) (.slice A1 l1 c1) C R P rfl rfl rfl rfl HP3.out HD3.out hR (fun W hW => Value_any P HS.out z1 j HJN.out W _ _ A1 l1 c1 (HPr3.out.later hW) (ty_now 3 0 1 (1 + (j : Int)) (by unfold i64r; omega) (by unfold i64r; omega) (by unfold i64r; omega) (by have := HS.out.len; have := HJN.out; unfold i64r; omega) W) (HN1.out.later (later HB3.out hW))) ?_
  intro vs3 w4 gv x xk xn xA xl xc h11 hgv hv4 ht4 hF4 hb4 a4 ha4
  simp only [Dl3, List.cons_append, List.nil_append, List.foldl_cons, List.foldl_nil, Act.put, List.setIfInBounds_toArray, List.set_cons_succ, List.set_cons_zero, h11] at ha4
  subst ha4
  have HPS : Hid (VPs w4 P mv (.slice (some ⟨gd0, o, none⟩) n cap) gP gD gv P[j] C x xk xn xA xl xc) := Lib.hid ⟨HP3.out.later hb4, HPr3.out.later hb4, (HKV.out.later (later HB3.out hb4)), HD3.out.later hb4, HDf3.out.later hb4, hv4, ht4⟩
  have HF := Lib.hid hF4
  have HB4 := Lib.hid (later HB3.out hb4)
  clear h11 hgv hv4 ht4 hF4 hb4 HP3 HPr3 HD3 HDf3 HB3 hid3 HKV HN1
  have HR := Lib.hid hR
  clear hR
  go_wp2_with fail
  have hkd : P[j].kind = 0 ∨ P[j].kind = 1 := HS.out.knd j _ (List.getElem?_eq_getElem hjn)
  go_loopw [12] (fun iv W' => ∃ i : Nat, i ≤ xl ∧ iv = .int .i64 (i : Int) ∧ VPs W' P mv (.slice (some ⟨gd0, o, none⟩) n cap) gP gD gv P[j] C x xk xn xA xl xc ∧ Below w.heap.size w W') (fun iv _ => xl - (intOf iv).toNat)
  case atStart => exact ⟨0, Nat.zero_le _, by go_num, HPS.out, HB4.out⟩
  case round =>
    clear HPS HB4
    obtain ⟨i, hi, rfl, hps, hb⟩ := hrel
    have hi0 : (0 : Int) ≤ (i : Int) := by omega
    have x1 := hps.hv.cell (j := 1) (v := .int .i64 xn) rfl
    have x2 := hps.hv.cell (j := 2) (v := .slice xA xl xc) rfl
    have x3 := hps.hd.cell (j := 3) (df3 hps.hdf)
    have hxm : (xl : Int) ≤ 9223372036854775807 := by
      obtain ⟨ks, hx0, hx1, hx2, hx3, hx4⟩ := hps.node
      have hx5 : xl ≤ maxLen := Nat.le_trans hx2 hx3
      clear hx0 hx1 hx2 hx3 hx4
      simp only [maxLen] at hx5
      omega
    have HPS := Lib.hid hps
    have HBr := Lib.hid hb
    clear hps hb
    by_cases hlt : i < xl
    · have hli : (i : Int) < (xl : Int) := by omega
      rcases hkd with hk0 | hk1
      · obtain ⟨gs, os, sn, sc, gx, ox, Tc, Xc, ty, y, HH0⟩ := HPS.out.kid hjn HS.out HF.out i hlt i (fun _ => rfl) (fun h => absurd hk0 h)
        have HH := Lib.hid HH0
        rw [hk0] at x3
        clear hk0 HH0
        go_upto_region 10 with fail
        obtain ⟨h8, hT, hTl, hTy, hA, hX, hXl, hXt, hks, hpv⟩ := HH.out
        refine vpreg10 (by kernel_rfl) _ _ gP gD gv gs os gx ox i i sn sc xl xc mv (.slice (some ⟨gd0, o, none⟩) n cap) C Tc Xc xk xn P ty y rfl rfl rfl rfl rfl rfl HPS.out.hp HPS.out.hpr HPS.out.hk HPS.out.hd h8 hT hTl hTy (hA ▸ HPS.out.hv) hX hXl hXt (by omega) (by omega) (by omega) (by omega) hpv ?_
        intro vs5 w5 h63 hb5 a5 ha5
        simp only [vpD10, List.cons_append, List.nil_append, List.foldl_cons, List.foldl_nil, Act.put, List.setIfInBounds_toArray, List.set_cons_succ, List.set_cons_zero, h63] at ha5
        subst ha5
        have HPS5 := Lib.hid (HPS.out.later hb5)
        have HB5 := Lib.hid (later HBr.out hb5)
        clear h63 hb5 h8 hT hTl hTy hA hX hXl hXt hks hpv HH HPS HBr x1 x2 x3
        go_wp2_with fail
        go_roundw
        case rel => exact ⟨i + 1, by omega, by go_num, HPS5.out, HB5.out⟩
        case measure => simp [intOf]; omega
      · obtain ⟨m, rfl⟩ := HPS.out.num hjn HS.out HF.out hk1
        obtain ⟨gs, os, sn, sc, gx, ox, Tc, Xc, ty, y, HH0⟩ := HPS.out.kid hjn HS.out HF.out i hlt m (fun h => absurd h (by omega)) (fun _ => rfl)
        have HH := Lib.hid HH0
        rw [hk1] at x3
        clear hk1 HH0
        go_upto_region 10 with fail
        obtain ⟨h8, hT, hTl, hTy, hA, hX, hXl, hXt, hks, hpv⟩ := HH.out
        refine vpreg10 (by kernel_rfl) _ _ gP gD gv gs os gx ox m i sn sc xl xc mv (.slice (some ⟨gd0, o, none⟩) n cap) C Tc Xc xk (m : Int) P ty y rfl rfl rfl rfl rfl rfl HPS.out.hp HPS.out.hpr HPS.out.hk HPS.out.hd h8 hT hTl hTy (hA ▸ HPS.out.hv) hX hXl hXt (by omega) (by omega) (by omega) (by omega) hpv ?_
        intro vs5 w5 h63 hb5 a5 ha5
        simp only [vpD10, List.cons_append, List.nil_append, List.foldl_cons, List.foldl_nil, Act.put, List.setIfInBounds_toArray, List.set_cons_succ, List.set_cons_zero, h63] at ha5
        subst ha5
        have HPS5 := Lib.hid (HPS.out.later hb5)
        have HB5 := Lib.hid (later HBr.out hb5)
        clear h63 hb5 h8 hT hTl hTy hA hX hXl hXt hks hpv HH HPS HBr x1 x2 x3
        go_wp2_with fail
        go_roundw
        case rel => exact ⟨i + 1, by omega, by go_num, HPS5.out, HB5.out⟩
        case measure => simp [intOf]; omega
    · have hli : ¬ (i : Int) < (xl : Int) := by omega
      have hj10 : j < 10 := by have := HS.out.len; omega
      obtain ⟨nn, hnn⟩ : ∃ nn, x.nodes = nn := ⟨_, rfl⟩
      have HNX := Lib.hid hnn
      have HIX := Lib.hid (hi)
      have HOF : Hid (∀ W, Calls Tryd.prog 14 #[.agg #[.int .i64 0, .int .i64 1, .int .i64 (1 + (j : Int))]] W fun e w' => e = .returned (.agg #[.int .i64 3, .int .i64 0, .int .i64 1, .int .i64 (1 + (j : Int)), .slice none 0 0]) ∧ Below W.heap.size W w') := Lib.hid fun W => Of_any 0 1 (1 + (j : Int)) W
      have HLI : Hid (∀ W, Calls Tryd.prog 13 #[.agg #[.int .i64 3, .int .i64 0, .int .i64 1, .int .i64 (1 + (j : Int)), .slice none 0 0]] W (TyNew (tL (tD j)) W)) := Lib.hid fun W => List_any (tD j) W _ (tD_at W j hj10)
      have HG0 : Hid (wr.rangeAt gD 0 [.int .i64 0, .int .i64 1, .int .i64 (1 + (j : Int))]) := Lib.hid (range_left (ys := R) (by have := HPS.out.hd.range; rwa [HR.out] at this))
      have HII : Hid ((Tryd.prog.info? 28).map (·.size) = some ([.int .i64 0, .int .i64 1, .int .i64 (1 + (j : Int))] : List Value).length) := Lib.hid info_id
      clear x1 x3 hnn hi hlt hkd
      go_upto_region 13 with (first
        | (with_reducible refine wpList_load_mid rfl _ (.tmp 64) rfl gD 0 rfl [.int .i64 0, .int .i64 1, .int .i64 (1 + (j : Int))] _ HG0.out Tryd.underlying28 rfl HII.out ?_)
        | (go_at_call 14; (with_reducible refine (HOF.out _).mono ?_); rintro e w6 ⟨rfl, hb⟩; have HB6 := Lib.hid hb; clear hb)
        | (go_at_call 13; (with_reducible refine (HLI.out _).mono ?_); rintro e w7 ⟨tk, ts, tq, ti, tA, tl, tc, rfl, ht, hb⟩; have HT7 := Lib.hid ht; have HB7 := Lib.hid (later HB6.out hb); clear hb ht)
        | (refine wpList_store_arr rfl _ (.tmp 14) (.tmp 67) rfl w7.heap.size 0 5 31 _ [.int .i64 tk, .int .i64 ts, .int .i64 tq, .int .i64 ti, .slice tA tl tc] [.int .i64 0, .int .i64 0, .int .i64 0, .int .i64 0, .slice none 0 0] rfl rfl rfl (t5_new w7 0 0 0 0 none 0 0) (show 0 + 5 ≤ 5 by omega) info_typesz (List.all_eq_true.mp (by rfl)) ?_; intro w8 f o; rw [setAll_all [.int .i64 0, .int .i64 0, .int .i64 0, .int .i64 0, .slice none 0 0] [.int .i64 tk, .int .i64 ts, .int .i64 tq, .int .i64 ti, .slice tA tl tc] rfl] at f; have HR8 := Lib.hid f.range; have HO8 := Lib.hid ((new_later w7 (.cells #[.int .i64 0, .int .i64 0, .int .i64 0, .int .i64 0, .slice none 0 0] 31)).trans (o.bel.mono (Nat.le_refl _))); clear f o))
      have HB8 := Lib.hid (later HB7.out HO8.out)
      have HPSw8 := Lib.hid (HPS.out.later HB8.out)
      have HT8 := Lib.hid (HT7.out.later HO8.out)
      have HE8 := Lib.hid (later HBr.out HB8.out)
      clear HT7 HO8 HB7 HB6 HPS HBr HB8 HOF HLI HG0 HII x2
      generalize hCL : ([.int .i64 tk, .int .i64 ts, .int .i64 tq, .int .i64 ti, .slice tA tl tc] : List Value) = CL at HR8
      have hLl : CL.length = 5 := by rw [← hCL]; rfl
      have HT8' : Hid (TyAt w8 (tL (tD j)) (.agg CL.toArray)) := Lib.hid (by rw [← hCL]; exact HT8.out)
      clear HT8
      have HLL := Lib.hid hLl
      clear hCL hLl
      generalize w7.heap.size = gL at HR8 ⊢
      have HIV : Hid ((Tryd.prog.info? 53).map (·.size) = some ([.int .i64 xk, .int .i64 xn, .slice xA xl xc] : List Value).length) := Lib.hid info_val
      have HVw8 := Lib.hid HPSw8.out.hv.range
      go_upto_region 14 with (first
        | (with_reducible refine wpList_load_mid rfl _ (.tmp 11) rfl gv 0 rfl [.int .i64 xk, .int .i64 xn, .slice xA xl xc] _ HVw8.out Tryd.underlying53 rfl HIV.out ?_)
        | (refine wpList_store_arr rfl _ (.tmp 15) (.tmp 71) rfl (w8.heap.size + 1) 0 3 53 _ [.int .i64 4, .int .i64 0, .slice (some ⟨w8.heap.size, 0, none⟩) 2 2] [.int .i64 0, .int .i64 0, .slice none 0 0] rfl rfl rfl (by have h := Arr.new' (w8.alloc (.cells #[.int .i64 xk, .int .i64 xn, .slice xA xl xc, .int .i64 xk, .int .i64 xn, .slice xA xl xc] 53)) 53 #[.int .i64 0, .int .i64 0, .slice none 0 0] 3 [.int .i64 0, .int .i64 0, .slice none 0 0] rfl rfl (by decide); rw [World.size_alloc] at h; exact h) (show 0 + 3 ≤ 3 by omega) info_val (List.all_eq_true.mp (by rfl)) ?_; intro w9 f o; rw [setAll_all [.int .i64 0, .int .i64 0, .slice none 0 0] [.int .i64 4, .int .i64 0, .slice (some ⟨w8.heap.size, 0, none⟩) 2 2] rfl] at f; have HF := Lib.hid f; have HO := Lib.hid o; clear f o))
      have a1 : Arr w9 w8.heap.size 6 53 [.int .i64 xk, .int .i64 xn, .slice xA xl xc, .int .i64 xk, .int .i64 xn, .slice xA xl xc] := ((Arr.new' w8 53 #[.int .i64 xk, .int .i64 xn, .slice xA xl xc, .int .i64 xk, .int .i64 xn, .slice xA xl xc] 6 [.int .i64 xk, .int .i64 xn, .slice xA xl xc, .int .i64 xk, .int .i64 xn, .slice xA xl xc] rfl rfl (by decide)).later (new_later (w8.alloc (.cells #[.int .i64 xk, .int .i64 xn, .slice xA xl xc, .int .i64 xk, .int .i64 xn, .slice xA xl xc] 53)) (.cells #[.int .i64 0, .int .i64 0, .slice none 0 0] 53))).only HO.out (by omega)
      have HBB : Hid (Below w8.heap.size w8 w9) := Lib.hid ((later (new_later w8 (.cells #[.int .i64 xk, .int .i64 xn, .slice xA xl xc, .int .i64 xk, .int .i64 xn, .slice xA xl xc] 53)) (new_later (w8.alloc (.cells #[.int .i64 xk, .int .i64 xn, .slice xA xl xc, .int .i64 xk, .int .i64 xn, .slice xA xl xc] 53)) (.cells #[.int .i64 0, .int .i64 0, .slice none 0 0] 53))).trans (HO.out.bel.mono (by omega)))
      have HPSw9 := Lib.hid (HPSw8.out.later HBB.out)
      have H15 : Hid (VarAt w9 (w8.heap.size + 1) (.node 4 0 [x, x]) [.int .i64 4, .int .i64 0, .slice (some ⟨w8.heap.size, 0, none⟩) 2 2]) := Lib.hid ⟨HF.out.range, rfl, trv_twox a1 HPSw9.out.ht (by unfold i64r; omega) (by unfold i64r; omega)⟩
      clear HF HO a1 HVw8
      generalize hC15 : ([.int .i64 4, .int .i64 0, .slice (some ⟨w8.heap.size, 0, none⟩) 2 2] : List Value) = C15 at H15
      clear hC15
      generalize w8.heap.size + 1 = g15 at H15 ⊢
      have HE9 := Lib.hid (later HE8.out HBB.out)
      have HR9 := Lib.hid (range_below HR8.out HBB.out)
      have HT9 := Lib.hid (HT8'.out.later HBB.out)
      clear HE8 HR8 HT8' HPSw8 HBB
      have HVw9 := Lib.hid HPSw9.out.hv.range
      go_upto_region 15 with (first
        | (with_reducible refine wpList_load_mid rfl _ (.tmp 11) rfl gv 0 rfl [.int .i64 xk, .int .i64 xn, .slice xA xl xc] _ HVw9.out Tryd.underlying53 rfl HIV.out ?_)
        | (refine wpList_store_arr rfl _ (.tmp 16) (.tmp 74) rfl (w9.heap.size + 1) 0 3 53 _ [.int .i64 4, .int .i64 0, .slice (some ⟨w9.heap.size, 0, none⟩) 1 1] [.int .i64 0, .int .i64 0, .slice none 0 0] rfl rfl rfl (by have h := Arr.new' (w9.alloc (.cells #[.int .i64 xk, .int .i64 xn, .slice xA xl xc] 53)) 53 #[.int .i64 0, .int .i64 0, .slice none 0 0] 3 [.int .i64 0, .int .i64 0, .slice none 0 0] rfl rfl (by decide); rw [World.size_alloc] at h; exact h) (show 0 + 3 ≤ 3 by omega) info_val (List.all_eq_true.mp (by rfl)) ?_; intro w10 f o; rw [setAll_all [.int .i64 0, .int .i64 0, .slice none 0 0] [.int .i64 4, .int .i64 0, .slice (some ⟨w9.heap.size, 0, none⟩) 1 1] rfl] at f; have HF := Lib.hid f; have HO := Lib.hid o; clear f o))
      have a1 : Arr w10 w9.heap.size 3 53 [.int .i64 xk, .int .i64 xn, .slice xA xl xc] := ((Arr.new' w9 53 #[.int .i64 xk, .int .i64 xn, .slice xA xl xc] 3 [.int .i64 xk, .int .i64 xn, .slice xA xl xc] rfl rfl (by decide)).later (new_later (w9.alloc (.cells #[.int .i64 xk, .int .i64 xn, .slice xA xl xc] 53)) (.cells #[.int .i64 0, .int .i64 0, .slice none 0 0] 53))).only HO.out (by omega)
      have HBB : Hid (Below w9.heap.size w9 w10) := Lib.hid ((later (new_later w9 (.cells #[.int .i64 xk, .int .i64 xn, .slice xA xl xc] 53)) (new_later (w9.alloc (.cells #[.int .i64 xk, .int .i64 xn, .slice xA xl xc] 53)) (.cells #[.int .i64 0, .int .i64 0, .slice none 0 0] 53))).trans (HO.out.bel.mono (by omega)))
      have HPSw10 := Lib.hid (HPSw9.out.later HBB.out)
      have H16 : Hid (VarAt w10 (w9.heap.size + 1) (.node 4 0 [x]) [.int .i64 4, .int .i64 0, .slice (some ⟨w9.heap.size, 0, none⟩) 1 1]) := Lib.hid ⟨HF.out.range, rfl, trv_wrap a1 HPSw10.out.ht (by unfold i64r; omega) (by unfold i64r; omega)⟩
      clear HF HO a1 HVw9
      generalize hC16 : ([.int .i64 4, .int .i64 0, .slice (some ⟨w9.heap.size, 0, none⟩) 1 1] : List Value) = C16 at H16
      clear hC16
      generalize w9.heap.size + 1 = g16 at H16 ⊢
      have HE10 := Lib.hid (later HE9.out HBB.out)
      have HR10 := Lib.hid (range_below HR9.out HBB.out)
      have HT10 := Lib.hid (HT9.out.later HBB.out)
      have H15' := Lib.hid (H15.out.later HBB.out)
      have H11 : Hid (VarAt w10 gv x [.int .i64 xk, .int .i64 xn, .slice xA xl xc]) := Lib.hid ⟨HPSw10.out.hv.range, rfl, HPSw10.out.ht⟩
      clear HE9 HR9 HT9 H15 HPSw9 HBB HIV
      obtain ⟨b, hb⟩ : ∃ b, decide (2 * (nn : Int) + 1 ≤ 256) = b := ⟨_, rfl⟩
      have HP2 : Hid ((pv P (.node 4 0 [x, x]) (tL (tD j)) 24 0).1 = b) := Lib.hid (by rw [pv_two HS.out hjn HF.out, HNX.out]; exact hb)
      have hnn : nn ≤ 256 := by have := HNX.out; have := HF.out; omega
      refine vpreg15 (by kernel_rfl) _ _ gP gL g15 gv nn mv (.slice (some ⟨gd0, o, none⟩) n cap) CL C15 [.int .i64 xk, .int .i64 xn, .slice xA xl xc] P (tL (tD j)) x (.node 4 0 [x, x]) b rfl rfl rfl rfl rfl HPSw10.out.hp HPSw10.out.hpr HPSw10.out.hk HR10.out HLL.out HT10.out H15'.out H11.out HP2.out (by rw [Tr.sz_eq' x (by have := HF.out; omega), HNX.out]) hnn (by have := HF.out; omega) hb ?_
      intro vs15 w11 h17 hb11 a11 ha11
      simp only [vpD15, List.cons_append, List.nil_append, List.foldl_cons, List.foldl_nil, Act.put, List.setIfInBounds_toArray, List.set_cons_succ, List.set_cons_zero, h17] at ha11
      subst ha11
      have HB11 := Lib.hid hb11
      have HBD := Lib.hid hb
      clear h17 hb11 hb hnn H11
      have HAR : Hid (∀ W, Calls Tryd.prog 12 #[.int .i64 ov, .int .i64 4] W fun e w' => e = .returned (.int .i64 ((ar ov 4 : Nat) : Int)) ∧ w' = W) := Lib.hid fun W => Around_any ov 4 (by decide) (by decide) HOV.out W
      have hq4 := ar_lt ov 4 (by decide)
      generalize ar ov 4 = q at HAR hq4
      have hq0 : (0 : Int) ≤ (q : Int) := by omega
      have hq5 : (q : Int) < 4 := by omega
      go_upto_region 17 with (go_at_call 12; (with_reducible refine (HAR.out _).mono ?_); rintro e w' ⟨rfl, hww⟩; rw [hww]; clear hww)
      go_upto_region 17 with fail
      obtain ⟨b2, hb2⟩ : ∃ b2, decide (1099511627775 + (q : Int) ≤ 1099511627776) = b2 := ⟨_, rfl⟩
      have HPS11 := Lib.hid (HPSw10.out.later HB11.out)
      refine vpreg17 (by kernel_rfl) _ _ gP mv (.slice (some ⟨gd0, o, none⟩) n cap) P (1099511627775 + (q : Int)) b2 rfl rfl rfl HPS11.out.hp HPS11.out.hpr HPS11.out.hk (by omega) (by omega) hb2 (by rw [pv_pos P _ (by omega)]; exact hb2) (by rw [pv_neg P _ (by omega)]; exact hb2) ?_
      intro vs17 w12 h19 hb12 a12 ha12
      simp only [vpD17, List.cons_append, List.nil_append, List.foldl_cons, List.foldl_nil, Act.put, List.setIfInBounds_toArray, List.set_cons_succ, List.set_cons_zero, h19] at ha12
      subst ha12
      have HB12 := Lib.hid (later HB11.out hb12)
      have HPSa := Lib.hid (HPSw10.out.later HB12.out)
      have HRa := Lib.hid (range_below HR10.out HB12.out)
      have HTa := Lib.hid (HT10.out.later HB12.out)
      have H15a := Lib.hid (H15'.out.later HB12.out)
      have H16a := Lib.hid (H16.out.later HB12.out)
      have HEa := Lib.hid (later HE10.out HB12.out)
      clear h19 hb12 hb2 HB12 HB11 HPS11 HPSw10 HR10 HT10 H15' H16 HE10 HAR
      have HP1 : Hid (b = true → (pv P (.node 4 0 [x]) (tL (tD j)) 24 0).1 = true) := Lib.hid fun e => pv_one HS.out hjn HF.out (by have := HBD.out; rw [e] at this; rw [HNX.out]; simpa using this)
      cases b
      · go_upto_region 18 with fail
        refine vpfreg18 (by kernel_rfl) _ _ gP gL g15 g16 mv (.slice (some ⟨gd0, o, none⟩) n cap) CL C15 C16 P (tL (tD j)) (.node 4 0 [x]) (.node 4 0 [x, x]) rfl rfl rfl rfl rfl rfl rfl HPSa.out.hp HPSa.out.hpr HPSa.out.hk HRa.out HLL.out HTa.out H15a.out H16a.out HP2.out ?_
        intro vs18 w13 h8 hb13 a13 ha13
        simp only [vpfD18, List.cons_append, List.nil_append, List.foldl_cons, List.foldl_nil, Act.put, List.setIfInBounds_toArray, List.set_cons_succ, List.set_cons_zero, h8] at ha13
        subst ha13
        have HEND := Lib.hid (later HEa.out hb13)
        clear h8 hb13
        go_wp2_with fail
        go_ret
        exact ⟨rfl, HEND.out⟩
      · go_upto_region 18 with fail
        refine vptreg18 (by kernel_rfl) _ _ gP gL g15 g16 mv (.slice (some ⟨gd0, o, none⟩) n cap) CL C15 C16 P (tL (tD j)) (.node 4 0 [x]) (.node 4 0 [x, x]) rfl rfl rfl rfl rfl rfl rfl HPSa.out.hp HPSa.out.hpr HPSa.out.hk HRa.out HLL.out HTa.out H15a.out H16a.out HP2.out (HP1.out rfl) ?_
        intro vs18 w13 h8 hb13 a13 ha13
        simp only [vptD18, List.cons_append, List.nil_append, List.foldl_cons, List.foldl_nil, Act.put, List.setIfInBounds_toArray, List.set_cons_succ, List.set_cons_zero, h8] at ha13
        subst ha13
        have HEND := Lib.hid (later HEa.out hb13)
        clear h8 hb13
        go_wp2_with fail
        go_ret
        exact ⟨rfl, HEND.out⟩
end Go.Proofs.YtjbleefpafnhhaaDoor
set_option linter.unusedVariables false
namespace Go.Proofs.YtjbleefpafnhhaaDoor
open Go.ChangeShapes Go.WideShapes Go.ChangeAt Go.RowKit Go.Deep

theorem Tryd.own : ownKnob Tryd.prog.godebug = none := by kernel_rfl
theorem Tryd.laidOut : laidOutB Tryd.prog = true := by kernel_rfl
theorem Tryd.cellsB : Tryd.prog.cellsOf 5 = 1 := by kernel_rfl

theorem rd_of_cells {w : World} {a : Addr} {xs : List Value} (h : ∀ j u, xs[j]? = some u → w.cell? (a.add j) = some u) : Rd w w.heap.size (some a) xs := by
  cases xs with
  | nil => exact Rd.nil _ _ _
  | cons x xs =>
    have h0 : w.cell? a = some x := by have := h 0 x rfl; simpa [Addr.add] using this
    have hlt := World.block_lt_of_cell? w _ h0
    obtain ⟨b, o, s⟩ := a
    have hs := World.cell?_spot h0
    simp at hs
    subst hs
    exact .inr ⟨b, o, rfl, hlt, fun j u hu => by
      have h2 := h j u hu
      have ha : (⟨b, o, none⟩ : Addr).add j = ⟨b, o + j, none⟩ := by unfold Addr.add; split <;> simp_all
      rwa [ha] at h2⟩

section
variable {H : Type} {enc : TypeId × Value → H} {w : World} {sp : Nat → Bool} {d : DataW H} {p : List MemPlace} {A : Option Addr} {len cap : Nat}
theorem open_bytes (hd : DataW.Trod enc Tryd.prog w 0 sp true 69 (.slice A len cap) d p) :
    ∃ zs : List Nat, len = zs.length ∧ Rd w w.heap.size A (bs zs) ∧ (∀ x ∈ zs, x < 256) ∧ len ≤ cap ∧ cap ≤ maxLen := by
  obtain ⟨fuel, hf⟩ := hd
  rcases open_ints Tryd.underlying69 Tryd.underlying5 Tryd.cellsB hf with ⟨hcs, _⟩ | ⟨a, l, c, zs, hcs, _, hl, hm, hz, _, hcell, hwz⟩
  · simp [Value.cells] at hcs
    obtain ⟨rfl, rfl, rfl⟩ := hcs
    exact ⟨[], rfl, Rd.nil _ _ _, by simp, Nat.le_refl _, by simp [maxLen]⟩
  · simp [Value.cells] at hcs
    obtain ⟨rfl, rfl, rfl⟩ := hcs
    have hzl : len ≤ zs.length := by rw [hz]; split <;> omega
    have hb : ∀ z ∈ zs, 0 ≤ z ∧ z ≤ 255 := fun z hz => bounds_u8 (hwz z hz)
    refine ⟨(zs.take len).map Int.toNat, by simp; omega, rd_of_cells ?_, ?_, hl, hm⟩
    · intro j u hu
      have hj : j < len := by have := (List.getElem?_eq_some_iff.1 hu).1; simp [bs] at this; omega
      rw [hcell j (by omega)]
      simp only [bs, U8, List.getElem?_map, List.getElem?_take, hj, if_true, List.getElem?_eq_getElem (show j < zs.length by omega), Option.map_some, Option.some.injEq] at hu
      rw [← hu]
      have := hb zs[j] (List.getElem_mem _)
      simp [List.getD, List.getElem?_eq_getElem (show j < zs.length by omega)]
      omega
    · intro x hx
      simp only [List.mem_map] at hx
      obtain ⟨z, hz, rfl⟩ := hx
      have := hb z (List.mem_of_mem_take hz)
      omega
end
end Go.Proofs.YtjbleefpafnhhaaDoor
/-
  Rows of the value statements: rows of ints, raw values, types and programs; the two tables of kinds.
-/
set_option linter.unusedVariables false
namespace Go.Proofs.YtjbleefpafnhhaaDoor
open Go.ChangeShapes Go.WideShapes Go.ChangeAt Go.RowKit Go.Deep

theorem Tryd.cellsI : Tryd.prog.cellsOf 3 = 1 := by kernel_rfl
theorem Tryd.bytesI : Tryd.prog.bytesOf 3 = 8 := by kernel_rfl
theorem ir_row {n : Int} (h : (Lit.int .i64 n).wf = true) : i64r n := by have := bounds_i64 h; unfold i64r; omega
theorem reach_num : reachBytes = 140737488351232 := by decide

section
variable {H : Type} {enc : TypeId × Value → H} {w : World} {sp : Nat → Bool} {d : DataW H} {p : List MemPlace} {A : Option Addr} {len cap : Nat}
/-- A '[]int' is opened: its cells, and its datum, as much as its size wants. -/
theorem open_iv (hd : DataW.Trod enc Tryd.prog w 0 sp true 22 (.slice A len cap) d p) :
    ∃ zs : List Int, len = zs.length ∧ Rd w w.heap.size A (iv zs) ∧ (∀ x ∈ zs, InR x) ∧ len ≤ cap ∧ cap ≤ maxLen ∧ ((len = 0 ∧ d = .nil) ∨ ∃ es rs, d = .slice es rs ∧ es.length = len) := by
  obtain ⟨fuel, hf⟩ := hd
  rcases open_ints Tryd.underlying22 Tryd.underlying3 Tryd.cellsI hf with ⟨hcs, hx⟩ | ⟨a, l, c, zs, hcs, _, hl, hm, hz, hx, hcell, hwz⟩
  · simp [Value.cells] at hcs
    obtain ⟨rfl, rfl, rfl⟩ := hcs
    exact ⟨[], rfl, Rd.nil _ _ _, by simp, Nat.le_refl _, by simp [maxLen], .inl ⟨rfl, by cases hx; rfl⟩⟩
  · simp [Value.cells] at hcs
    obtain ⟨rfl, rfl, rfl⟩ := hcs
    have hzl : len ≤ zs.length := by rw [hz]; split <;> omega
    refine ⟨zs.take len, by simp; omega, rd_of_cells ?_, ?_, hl, hm, .inr ⟨lits .i64 (zs.take len), lits .i64 (zs.drop len), by cases hx; rfl, by simp [lits]; omega⟩⟩
    · intro j u hu
      have hj : j < len := by have := (List.getElem?_eq_some_iff.1 hu).1; simp [iv] at this; omega
      rw [hcell j (by omega)]
      simp only [iv, List.getElem?_map, List.getElem?_take, hj, if_true, List.getElem?_eq_getElem (show j < zs.length by omega), Option.map_some, Option.some.injEq] at hu
      rw [← hu]
      simp [List.getD, List.getElem?_eq_getElem (show j < zs.length by omega)]
    · intro x hx
      have := bounds_i64 (hwz x (List.mem_of_mem_take hx))
      exact ⟨by omega, by omega⟩
end
theorem int_of_trod {H : Type} {enc : TypeId × Value → H} {P : Program} {w : World} {base : Nat} {sp : Nat → Bool} {held : Bool} {fuel : Nat} {t : TypeId} {k : IntKind} {c : Value} {y : DataW H × List MemPlace}
    (ht : P.underlying t = some (.int k)) (h : DataW.trod enc P w base sp held fuel t [c] = some y) : ∃ n, c = .int k n ∧ y = (.lit (.int k n), []) := by
  cases fuel with
  | zero => simp [DataW.trod] at h
  | succ fuel =>
    cases c <;> simp [DataW.trod, ht] at h
    rename_i k' n
    obtain ⟨⟨rfl, _⟩, rfl⟩ := h
    exact ⟨n, rfl, rfl⟩
theorem mapM_get {α β : Type} (f : α → Option β) : ∀ (l : List α) (ys : List β), l.mapM f = some ys → ∀ (j : Nat) (x : α), l[j]? = some x → ∃ y, ys[j]? = some y ∧ f x = some y
  | [], ys, h, j, x, hx => by simp at hx
  | a :: r, ys, h, j, x, hx => by
    simp only [List.mapM_cons, Option.bind_eq_bind, Option.bind_eq_some_iff, Option.pure_def, Option.some.injEq] at h
    obtain ⟨y, hy, zs, hz, rfl⟩ := h
    cases j with
    | zero => simp at hx; subst hx; exact ⟨y, rfl, hy⟩
    | succ j => exact mapM_get f r zs hz j x (by simpa using hx)
/-- A table of integers that reads as listed: its cells. -/
theorem ints_of_trod {H : Type} {enc : TypeId × Value → H} {P : Program} {w : World} {base : Nat} {sp : Nat → Bool} {held : Bool} {fuel n : Nat} {t e : TypeId} {k : IntKind} {l : List Value} {ks : List Nat} {p : List MemPlace}
    (ht : P.underlying t = some (.array n e)) (he : P.underlying e = some (.int k)) (hc : P.cellsOf t = n) (hc1 : P.cellsOf e = 1) (hn : ks.length = n)
    (h : DataW.trod enc P w base sp held fuel t l = some (.agg (ks.map fun (x : Nat) => .lit (.int k (x : Int))), p)) : ∀ (j x : Nat), ks[j]? = some x → l[j]? = some (.int k (x : Int)) := by
  cases fuel with
  | zero => simp [DataW.trod] at h
  | succ fuel =>
    simp only [DataW.trod, ht, hc, hc1] at h
    split at h
    · rename_i hl
      obtain ⟨ys, hys, hag⟩ := Option.map_eq_some_iff.1 h
      have h1 : ys.map (fun x => x.fst) = ks.map fun (x : Nat) => (.lit (.int k (x : Int)) : DataW H) := by
        have := congrArg Prod.fst hag
        simpa using this
      intro j x hx
      have hj : j < n := by rw [← hn]; exact (List.getElem?_eq_some_iff.1 hx).1
      obtain ⟨y, hy, hf⟩ := mapM_get _ _ _ hys j j (by rw [List.getElem?_range hj])
      have hjl : j < l.length := by omega
      rw [Nat.mul_one, List.drop_eq_getElem_cons hjl, List.take_succ_cons, List.take_zero] at hf
      obtain ⟨m, hm, rfl⟩ := int_of_trod he hf
      have h2 := congrArg (fun q => q[j]?) h1
      simp only [List.getElem?_map, hy, hx, Option.map_some, Option.some.injEq, DataW.lit.injEq, Lit.int.injEq] at h2
      rw [List.getElem?_eq_getElem hjl, hm]
      simp at h2
      rw [h2]
    · cases h
theorem glob_pk : Tryd.prog.globalNamed "splicery/value.plainKinds" = some 0 := by kernel_rfl
theorem type_pk : (Tryd.prog.globals[(0 : Nat)]?).map (·.type) = some 110 := by kernel_rfl
theorem glob_dk : Tryd.prog.globalNamed "splicery/value.dataKinds" = some 1 := by kernel_rfl
theorem type_dk : (Tryd.prog.globals[(1 : Nat)]?).map (·.type) = some 130 := by kernel_rfl
theorem cells_a3 : Tryd.prog.cellsOf 110 = 3 := by kernel_rfl
theorem cells_a2 : Tryd.prog.cellsOf 130 = 2 := by kernel_rfl
theorem laid_pk_eq {H : Type} : (Rows.laid_splicery_value_plainKinds : DataW H) = .agg (([0, 1, 4] : List Nat).map fun (x : Nat) => .lit (.int .i64 (x : Int))) := rfl
theorem laid_dk_eq {H : Type} : (Rows.laid_splicery_value_dataKinds : DataW H) = .agg (([2, 3] : List Nat).map fun (x : Nat) => .lit (.int .i64 (x : Int))) := rfl
abbrev LAIDV : List (String × DataW Unit) := [("splicery/value.plainKinds", Rows.laid_splicery_value_plainKinds), ("splicery/value.dataKinds", Rows.laid_splicery_value_dataKinds)]
set_option maxRecDepth 100000 in
theorem Kv_of_laid {W : World} (h : laidMet Tryd.prog LAIDV W) : Kv W := by
  obtain ⟨ps, ⟨g, t, cs, fuel, p, q, hg, ht, hvar, hd, ⟨g2, t2, cs2, fuel2, p2, q2, hg2, ht2, hvar2, hd2, _, _⟩, _⟩, _⟩ := h
  obtain rfl := Option.some.inj (glob_pk.symm.trans hg)
  obtain rfl := Option.some.inj (type_pk.symm.trans ht)
  obtain rfl := Option.some.inj (glob_dk.symm.trans hg2)
  obtain rfl := Option.some.inj (type_dk.symm.trans ht2)
  rw [laid_pk_eq] at hd
  rw [laid_dk_eq] at hd2
  have hall := ints_of_trod Tryd.underlying110 Tryd.underlying3 cells_a3 Tryd.cellsI rfl hd
  have hall2 := ints_of_trod Tryd.underlying130 Tryd.underlying3 cells_a2 Tryd.cellsI rfl hd2
  have hcell : ∀ (j x : Nat), ([0, 1, 4] : List Nat)[j]? = some x → W.cell? ⟨0, j, none⟩ = some (.int .i64 (x : Int)) := fun j x hx => by
    have h1 := World.var?_cell glob_pk hvar j
    rw [h1]
    have h2 := hall j x hx
    simpa using h2
  have hcell2 : ∀ (j x : Nat), ([2, 3] : List Nat)[j]? = some x → W.cell? ⟨1, j, none⟩ = some (.int .i64 (x : Int)) := fun j x hx => by
    have h1 := World.var?_cell glob_dk hvar2 j
    rw [h1]
    have h2 := hall2 j x hx
    simpa using h2
  have h1 := World.block_lt_of_cell? W _ (hcell 0 0 rfl)
  have h2 := World.block_lt_of_cell? W _ (hcell2 0 2 rfl)
  simp at h1 h2
  exact ⟨by omega, hcell 0 0 rfl, hcell 1 1 rfl, hcell 2 4 rfl, hcell2 0 2 rfl, hcell2 1 3 rfl⟩
end Go.Proofs.YtjbleefpafnhhaaDoor
