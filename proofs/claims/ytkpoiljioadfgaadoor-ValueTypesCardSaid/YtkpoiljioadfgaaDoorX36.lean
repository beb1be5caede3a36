import Derived.Test.YtkpoiljioadfgaaDoorX01
import Derived.Test.YtkpoiljioadfgaaDoorX04
import Derived.Test.YtkpoiljioadfgaaDoorX16
import Derived.Test.YtkpoiljioadfgaaDoorX34
import Derived.Test.YtkpoiljioadfgaaDoorX35
import Derived.ProofKit
import Derived.OpenShut
import Derived.ShutString
import Derived.ChangeOld
import Derived.SizedLaws
import Derived.Deep.Slices
import Derived.SliceStrings
import Derived.ChangeArms
import Derived.DataReads
import Derived.DataElems
set_option linter.unusedVariables false
set_option linter.unusedSimpArgs false
namespace Go.Proofs.YtkpoiljioadfgaaDoor
open Go.RowKit
def DAt (f : Bool) (xa xb xc : Int) (nm : ByteArray) (m : Nat) (w : World) (e : Ending) (w' : World) : Prop := ∃ D : List Value, e = .returned (.tuple #[.agg D.toArray, .bool f]) ∧ D.length = 31 ∧ (∀ u ∈ D, u.oneCell' = true) ∧ Hid (∃ (x3 x4 x5 x6 : Value) (A : Option Addr) (cap : Nat) (Y : List Value), D = ([.int .i64 xa, .int .i64 xb, .int .i64 xc, x3, x4, x5, x6, .string nm, .slice A m cap] : List Value) ++ Y) ∧ Below w.heap.size w w'
theorem dout_at {P : List Df} {a b c : Int} {f : Bool} {xa xb xc : Int} {nm : ByteArray} {m : Nat} {w w' : World} {e : Ending} (hd : dinfo P a b c = (f, xa, xb, xc, nm, m)) (h : DOut P a b c w e w') : DAt f xa xb xc nm m w e w' := by
  unfold DOut at h
  rw [hd] at h
  exact h
theorem point_def (P : List Df) (hS : Snd P) (hn : ∀ d : Df, P[0]? = some d → d.name = ⟨#[80, 111, 105, 110, 116]⟩) : ∃ xa xb xc m, dinfo P 0 1 1 = (true, xa, xb, xc, ⟨#[80, 111, 105, 110, 116]⟩, m) := by
  have h0 : 0 < P.length := hS.len.1
  have h1 : fnd P 0 1 1 = 0 := by simpa using hS.fnd_ (i := 0) h0
  have h2 : P[0]? = some P[0] := List.getElem?_eq_getElem h0
  refine ⟨P[0].a, P[0].b, P[0].c, P[0].slots.length, ?_⟩
  unfold dinfo
  rw [h1, h2, Option.elim_some, hn _ h2]
theorem named_at {P : List Df} {w w' : World} {e : Ending} (hp : ∃ xa xb xc m, dinfo P 0 1 1 = (true, xa, xb, xc, ⟨#[80, 111, 105, 110, 116]⟩, m)) (h : DOut P 0 1 1 w e w') : ∃ D : List Value, e = .returned (.tuple #[.agg D.toArray, .bool true]) ∧ NamD D ∧ Below w.heap.size w w' := by
  obtain ⟨xa, xb, xc, m, hd⟩ := hp
  obtain ⟨D, h1, h2, h3, h4, h5⟩ := dout_at hd h
  obtain ⟨x3, x4, x5, x6, A, cap, Y, h6⟩ := h4.out
  exact ⟨D, h1, ⟨h2, h3, Lib.hid ⟨_, _, _, x3, x4, x5, x6, A, m, cap, Y, h6⟩⟩, h5⟩
theorem t5z_new (w : World) (k s q i : Int) (A : Option Addr) (len cap : Nat) : Arr (w.alloc (.cells #[.int .i64 k, .int .i64 s, .int .i64 q, .int .i64 i, .slice A len cap] 31)) w.heap.size 5 31 [.int .i64 k, .int .i64 s, .int .i64 q, .int .i64 i, .slice A len cap] := Arr.new' w _ _ 5 _ rfl rfl (by decide)
theorem build_type0 (W : World) : (Instr.build 31 #[]).run Tryd.prog W = .ok (.agg #[.int .i64 0, .int .i64 0, .int .i64 0, .int .i64 0, .slice none 0 0]) W := by kernel_rfl
theorem ty6 {w : World} {h : Nat} {xs : List Ty} (hk : KtAt w (some ⟨h, 0, none⟩) 0 xs) (hl : xs.length = 6) (i : Nat) (hi : i < 6) : ∃ x C, xs[i]? = some x ∧ w.rangeAt h (i * 5) C ∧ C.length = 5 ∧ TyAt w x (.agg C.toArray) := by
  have hx := List.getElem?_eq_getElem (l := xs) (i := i) (by omega)
  obtain ⟨g, o, C, hA, hr, ht⟩ := KtAt.get hk hx
  cases hA
  exact ⟨_, C, hx, by simpa using hr, (ty_cells ht).1, ht⟩
set_option maxHeartbeats 16000000 in
set_option maxRecDepth 100000 in
theorem ValueTypes_any (l0 c0 : Nat) (A0 : Option Addr) (z0 : List Int) (Q : List Df) (pv : Value) (ia ib ic : Int) (tt tu : Ty) (tv uv : Value) (dp : Int) (w : World) (hN0 : Nums w z0 A0 l0) (hQ : PrAt w Q pv) (hQs : ∀ d ∈ Q, dsm d) (hia : i64r ia) (hib : i64r ib) (hic : i64r ic) (hT : TyAt w tt tv) (hU : TyAt w tu uv) (hdp : i64r dp) (hK : Kv w) :
    Calls Tryd.prog 3 #[.slice A0 l0 c0, pv, .agg #[.int .i64 ia, .int .i64 ib, .int .i64 ic], tv, uv, .int .i64 dp] w (BRes true w) := by
  have hQ0 := hQ
  have hT0 := hT
  have hU0 := hU
  obtain ⟨pm, pA, pc, rfl, hpm, _⟩ := hQ0
  obtain ⟨tk, ts, tq, ti, tA, tl, tc, rfl⟩ := hT0.shape
  obtain ⟨uk, us, uq, ui, uA, ul, uc, rfl⟩ := hU0.shape
  clear hT0 hU0
  simp only [t5] at hT hU ⊢
  obtain ⟨pl, hpl⟩ : ∃ n, Q.length = n := ⟨_, rfl⟩
  rw [hpl] at hQ hpm ⊢
  have P7 := p2_new w pm (.slice pA pl pc)
  have V7 := new_later w (.cells #[pm, .slice pA pl pc] 26)
  generalize hW1 : w.alloc (.cells #[pm, .slice pA pl pc] 26) = w1 at P7 V7
  have hz1 : w1.heap.size = w.heap.size + 1 := by rw [← hW1]; simp
  have P8 := i3_new w1 ia ib ic
  have b8 := new_later w1 (.cells #[.int .i64 ia, .int .i64 ib, .int .i64 ic] 28)
  rw [hz1] at P8
  generalize hW2 : w1.alloc (.cells #[.int .i64 ia, .int .i64 ib, .int .i64 ic] 28) = w2 at P8 b8
  have hz2 : w2.heap.size = w.heap.size + 1 + 1 := by rw [← hW2]; simp [hz1]
  have P9 := t5z_new w2 tk ts tq ti tA tl tc
  have b9 := new_later w2 (.cells #[.int .i64 tk, .int .i64 ts, .int .i64 tq, .int .i64 ti, .slice tA tl tc] 31)
  rw [hz2] at P9
  generalize hW3 : w2.alloc (.cells #[.int .i64 tk, .int .i64 ts, .int .i64 tq, .int .i64 ti, .slice tA tl tc] 31) = w3 at P9 b9
  have hz3 : w3.heap.size = w.heap.size + 1 + 1 + 1 := by rw [← hW3]; simp [hz2]
  have P10 := t5z_new w3 uk us uq ui uA ul uc
  have b10 := new_later w3 (.cells #[.int .i64 uk, .int .i64 us, .int .i64 uq, .int .i64 ui, .slice uA ul uc] 31)
  rw [hz3] at P10
  generalize hW4 : w3.alloc (.cells #[.int .i64 uk, .int .i64 us, .int .i64 uq, .int .i64 ui, .slice uA ul uc] 31) = wa at P10 b10
  have P7 := ((P7.later b8).later b9).later b10
  have P8 := (P8.later b9).later b10
  have P9 := P9.later b10
  have V0 := later (later (later V7 b8) b9) b10
  have HTY := Lib.hid (Types_prM z0 A0 l0 c0 wa (hN0.later V0))
  have HR7 := Lib.hid P7.range
  have HR8 := Lib.hid P8.range
  have HR9 := Lib.hid P9.range
  have HR10 := Lib.hid P10.range
  have HQ := Lib.hid (hQ.later V0)
  have HQS := Lib.hid hQs
  have HTT := Lib.hid (TyAt.later V0 hT)
  have HTU := Lib.hid (TyAt.later V0 hU)
  have HKV := Lib.hid (hK.later V0)
  have HV0 := Lib.hid V0
  have HI := Lib.hid (And.intro hia (And.intro hib (And.intro hic hdp)))
  have hbt := build_type0
  have HI7 : Hid ((Tryd.prog.info? 26).map (·.size) = some ([pm, .slice pA pl pc] : List Value).length) := Lib.hid info_prog
  clear hN0 hQ hQs hT hU hK hia hib hic hdp P7 P8 P9 P10 V0 V7 b8 b9 b10 hpm hpl
  go_enter Tryd.func3, Tryd.ntmps3
  go_upto_region 1 with fail
  clear hW1 hW2 hW3 hW4 hz1 hz2 hz3
  go_upto_region 2 with (first
    | (go_at_call 10; (with_reducible refine HTY.out.mono ?_); rintro e w1 ⟨P, mv, gd0, o, n, cap, hn, rfl, hP, hmv, hS, hnm, hsm, hb⟩; have HNN := Lib.hid hn; have HP1 := Lib.hid hP; have HMV := Lib.hid hmv; have HS := Lib.hid hS; have HNM := Lib.hid hnm; have HSM := Lib.hid hsm; have HB1 := Lib.hid hb; clear hn hP hmv hS hnm hsm hb HTY)
    | (refine wpList_store_arr rfl _ (.tmp 13) (.tmp 27) rfl w1.heap.size 0 2 26 _ [mv, .slice (some ⟨gd0, o, none⟩) n cap] [.slice none 0 0, .slice none 0 0] rfl rfl rfl (p2_new w1 _ _) (show 0 + 2 ≤ 2 by omega) info_prog (by intro v hv; simp at hv; rcases hv with rfl | rfl; exact HMV.out; rfl) ?_; intro w2 f2 o2; rw [setAll_all [.slice none 0 0, .slice none 0 0] [mv, .slice (some ⟨gd0, o, none⟩) n cap] rfl] at f2; have HX2 := Lib.hid f2; have HB2 := Lib.hid (later HB1.out ((new_later w1 _).trans (o2.bel.mono (Nat.le_refl _)))); have HP2 := Lib.hid (HP1.out.later ((new_later w1 (.cells #[.slice none 0 0, .slice none 0 0] 26)).trans (o2.bel.mono (Nat.le_refl _)))); clear f2 o2))
  generalize w1.heap.size = g13 at HX2 ⊢
  clear HP1 HB1
  have HR72 := Lib.hid (range_below HR7.out HB2.out)
  have HFW : Hid (Calls Tryd.prog 11 #[.agg #[pm, .slice pA pl pc]] w2 (FewQ dsm w2)) := Lib.hid (few_q dsm (fun d h => dsm_take h 4) Q w2 _ (HQ.out.later HB2.out) HQS.out)
  go_upto_region 3 with (first
    | (with_reducible refine wpList_load_mid rfl _ (.tmp 7) rfl w.heap.size 0 rfl [pm, .slice pA pl pc] _ HR72.out Tryd.underlying26 rfl HI7.out ?_)
    | (go_at_call 11; (with_reducible refine HFW.out.mono ?_); rintro e w3 ⟨Y, yv, rfl, hY, hYs, hb⟩; have hY0 := hY; obtain ⟨ym, yA, yc, rfl, hym, _⟩ := hY0; have HY3 := Lib.hid hY; have HYS := Lib.hid hYs; have HYM := Lib.hid hym.1; have HB3 := Lib.hid (later HB2.out hb); have HX3 := Lib.hid (HX2.out.later hb); have HP3 := Lib.hid (HP2.out.later hb); clear hY hYs hym hb)
    | (refine wpList_store_arr rfl _ (.tmp 14) (.tmp 29) rfl w3.heap.size 0 2 26 _ [ym, .slice yA Y.length yc] [.slice none 0 0, .slice none 0 0] rfl rfl rfl (p2_new w3 _ _) (show 0 + 2 ≤ 2 by omega) info_prog (by intro v hv; simp at hv; rcases hv with rfl | rfl; exact HYM.out; rfl) ?_; intro w4 f2 o2; rw [setAll_all [.slice none 0 0, .slice none 0 0] [ym, .slice yA Y.length yc] rfl] at f2; have HY4 := Lib.hid f2; have HB34 := Lib.hid ((new_later w3 (.cells #[.slice none 0 0, .slice none 0 0] 26)).trans (o2.bel.mono (Nat.le_refl _))); clear f2 o2))
  generalize hg14 : w3.heap.size = g14 at HY4 HB34 ⊢
  rw [← hg14] at HB34
  have HB4 := Lib.hid (later HB3.out HB34.out)
  have HX4 := Lib.hid (HX3.out.later HB34.out)
  have HP4 := Lib.hid (HP3.out.later HB34.out)
  have HYP4 := Lib.hid (HY3.out.later HB34.out)
  obtain ⟨yl, hyl⟩ : ∃ n, Y.length = n := ⟨_, rfl⟩
  rw [hyl] at HY4 HYP4 ⊢
  clear HX2 HX3 HP2 HP3 HB2 HB3 HB34 HY3 HFW HR72 hg14 hyl
  go_upto_region 4 with (refine wpList_store_arr rfl _ (.tmp 15) (.tmp 30) rfl w4.heap.size 0 5 31 _ [.int .i64 0, .int .i64 0, .int .i64 0, .int .i64 0, .slice none 0 0] [.int .i64 0, .int .i64 0, .int .i64 0, .int .i64 0, .slice none 0 0] rfl rfl rfl (t5z_new w4 0 0 0 0 none 0 0) (show 0 + 5 ≤ 5 by omega) info_typesz (List.all_eq_true.mp (by rfl)) ?_; intro w5 f5 o5; rw [setAll_all [.int .i64 0, .int .i64 0, .int .i64 0, .int .i64 0, .slice none 0 0] [.int .i64 0, .int .i64 0, .int .i64 0, .int .i64 0, .slice none 0 0] rfl] at f5; have HN5 := Lib.hid f5; have HB5 := Lib.hid ((new_later w4 (.cells #[.int .i64 0, .int .i64 0, .int .i64 0, .int .i64 0, .slice none 0 0] 31)).trans (o5.bel.mono (Nat.le_refl _))); clear f5 o5)
  obtain ⟨gx, hgx⟩ : ∃ g, w4.heap.size = g := ⟨_, rfl⟩
  rw [hgx] at HN5 HB5 ⊢
  have HAR : Hid (∀ W, Calls Tryd.prog 12 #[.int .i64 dp, .int .i64 4] W fun e w' => e = .returned (.int .i64 ((ar dp 4 : Nat) : Int)) ∧ w' = W) := Lib.hid fun W => Around_any dp 4 (by omega) (by omega) HI.out.2.2.2 W
  have hr4 : ar dp 4 < 4 := ar_lt dp 4 (by omega)
  generalize ar dp 4 = r at HAR hr4
  have hri0 : (0 : Int) ≤ (r : Int) := by omega
  have hri4 : (r : Int) ≤ 3 := by omega
  have HGX := Lib.hid hgx
  clear hgx
  go_wp2_with fail
  clear hbt
  go_loopw [16] (fun iv W' => ∃ (i : Nat) (x : Ty) (nk ns nq ni : Int) (nA : Option Addr) (nl nc : Nat), i ≤ 22 + r ∧ iv = .int .i64 (i : Int) ∧ Arr W' gx 5 31 [.int .i64 nk, .int .i64 ns, .int .i64 nq, .int .i64 ni, .slice nA nl nc] ∧ Foot (· ≠ gx) (fun W => TyAt W x (.agg #[.int .i64 nk, .int .i64 ns, .int .i64 nq, .int .i64 ni, .slice nA nl nc])) W' ∧ Below gx w4 W') (fun iv _ => 30 - (intOf iv).toNat)
  case atStart => exact ⟨0, .node 0 0 0 0 [], 0, 0, 0, 0, none, 0, 0, by omega, by go_num, HN5.out, fun W _ _ => ty_now 0 0 0 0 (by unfold i64r; omega) (by unfold i64r; omega) (by unfold i64r; omega) (by unfold i64r; omega) W, HB5.out⟩
  case round =>
    clear HN5 HB5
    obtain ⟨i, x, nk, ns, nq, ni, nA, nl, nc, hi, rfl, hA, hF, hB⟩ := hrel
    have HA := Lib.hid hA
    have HF := Lib.hid hF
    have HB := Lib.hid hB
    have HRA := Lib.hid hA.range
    have HIA : Hid ((Tryd.prog.info? 31).map (·.size) = some ([.int .i64 nk, .int .i64 ns, .int .i64 nq, .int .i64 ni, .slice nA nl nc] : List Value).length) := Lib.hid info_typesz
    clear hA hF hB
    have hi0 : (0 : Int) ≤ (i : Int) := by omega
    have hi30 : (i : Int) ≤ 30 := by omega
    by_cases hli : i < 22 + r
    · have hii : (i : Int) < 22 + (r : Int) := by omega
      have HLN : Hid (∀ W, Calls Tryd.prog 13 #[.agg #[.int .i64 nk, .int .i64 ns, .int .i64 nq, .int .i64 ni, .slice nA nl nc]] W (LNew nk ns nq ni nA nl nc W)) := Lib.hid fun W => List_blk nk ns nq ni nA nl nc W
      go_upto_region 7 with (go_at_call 12; (with_reducible refine (HAR.out _).mono ?_); rintro e w6 ⟨rfl, hw6⟩; rw [hw6]; clear hw6)
      go_wp2_with (first
        | (with_reducible refine wpList_load_mid rfl _ (.tmp 15) rfl gx 0 rfl [.int .i64 nk, .int .i64 ns, .int .i64 nq, .int .i64 ni, .slice nA nl nc] _ HRA.out Tryd.underlying31 rfl HIA.out ?_)
        | (go_at_call 13; (with_reducible refine (HLN.out _).mono ?_); rintro e w7 ⟨gn, rfl, hgn, hAn, hbn⟩; have HGN := Lib.hid hgn; have HAN := Lib.hid hAn; have HBN := Lib.hid hbn; have HA7 := Lib.hid (HA.out.later hbn); clear hgn hAn hbn)
        | (refine wpList_store_arr rfl _ (.tmp 15) (.tmp 39) rfl gx 0 5 31 _ [.int .i64 2, .int .i64 0, .int .i64 0, .int .i64 0, .slice (some ⟨gn, 0, none⟩) 1 1] [.int .i64 nk, .int .i64 ns, .int .i64 nq, .int .i64 ni, .slice nA nl nc] rfl rfl rfl HA7.out (show 0 + 5 ≤ 5 by omega) info_typesz (List.all_eq_true.mp (by rfl)) ?_; intro w8 f8 o8; rw [setAll_all [.int .i64 nk, .int .i64 ns, .int .i64 nq, .int .i64 ni, .slice nA nl nc] [.int .i64 2, .int .i64 0, .int .i64 0, .int .i64 0, .slice (some ⟨gn, 0, none⟩) 1 1] rfl] at f8; have HA8 := Lib.hid f8; have HO8 := Lib.hid o8; clear f8 o8))
      go_roundw
      case rel =>
        have hne : gn ≠ gx := by have := HGN.out; have := HA.out.lt; omega
        have hF7 : Foot (· ≠ gx) (fun W => TyAt W x (.agg #[.int .i64 nk, .int .i64 ns, .int .i64 nq, .int .i64 ni, .slice nA nl nc])) w7 := HF.out.keep (fun _ h _ => h) (HBN.out.mono (Nat.zero_le _)) (fun g _ hl => HBN.out.block g hl)
        have hF8 := foot_list hne HAN.out hF7
        have hxl : gx ≤ wr.heap.size := by have := HA.out.lt; omega
        exact ⟨i + 1, .node 2 0 0 0 [x], 2, 0, 0, 0, _, 1, 1, by omega, by go_num, HA8.out, hF8.keep (fun _ h _ => h) (HO8.out.bel.mono (Nat.zero_le _)) (fun g h _ => HO8.out.2 g h), (HB.out.trans (HBN.out.mono hxl)).trans (HO8.out.bel.mono (Nat.le_refl _))⟩
      case measure => simp [intOf]; omega
    · have hii : ¬ (i : Int) < 22 + (r : Int) := by omega
      obtain rfl : i = 22 + r := by omega
      go_upto_region 8 with (go_at_call 12; (with_reducible refine (HAR.out _).mono ?_); rintro e w6 ⟨rfl, hw6⟩; rw [hw6]; clear hw6)
      have HBx : Hid (Below w4.heap.size w4 wr) := Lib.hid (by rw [HGX.out]; exact HB.out)
      have HBa := Lib.hid (later HB4.out HBx.out)
      clear hii hi0 hi30 hri0 hri4 hr4 HAR hi
      refine vtreg8 (by kernel_rfl) _ _ (w.heap.size + 1) (w.heap.size + 1 + 1) (w.heap.size + 1 + 1 + 1) gx ia ib ic tk ts tq ti tA tl tc uk us uq ui uA ul uc nk ns nq ni nA nl nc tt tu x wr rfl rfl rfl rfl rfl rfl (range_below HR8.out HBa.out) (range_below HR9.out HBa.out) (range_below HR10.out HBa.out) HRA.out (TyAt.later HBa.out HTT.out) (TyAt.later HBa.out HTU.out) HF.out.now HI.out.1 HI.out.2.1 HI.out.2.2.1 ?_
      intro vs8 w8 h h17 hk8 hb8 a8 ha8
      simp only [vtD8, List.cons_append, List.nil_append, List.foldl_cons, List.foldl_nil, Act.put, List.setIfInBounds_toArray, List.set_cons_succ, List.set_cons_zero, h17] at ha8
      subst ha8
      obtain ⟨xs, hxs⟩ : ∃ xs, [tt, tu, .node 3 ia ib ic [], Ty.node 2 0 0 0 [tt], .node 3 0 1 1 [], x] = xs := ⟨_, rfl⟩
      have HL : Hid (xs.length = 6) := Lib.hid (by rw [← hxs]; rfl)
      rw [hxs] at hk8
      have HK8 := Lib.hid hk8
      have hb48 := later HBx.out hb8
      have HE8 := Lib.hid (later HV0.out (later HB4.out hb48))
      have HX8 := Lib.hid (HX4.out.later hb48)
      have HY8 := Lib.hid (HY4.out.later hb48)
      have HP8 := Lib.hid (HP4.out.later hb48)
      have HYP8 := Lib.hid (HYP4.out.later hb48)
      have HR88 := Lib.hid (range_below HR8.out (later HBa.out hb8))
      have HKV8 := Lib.hid (HKV.out.later (later HBa.out hb8))
      clear h17 hk8 hb8 hxs hb48 HBx HBa HX4 HY4 HP4 HYP4 HR7 HR8 HR9 HR10 HQ HQS HTT HTU HKV HV0 HB4 HGX HA HF HB HRA HIA HI7
      go_wp2_with fail
      go_loopw [18] (fun iv W' => ∃ i : Nat, i ≤ 6 ∧ iv = .int .i64 (i : Int) ∧ Below w8.heap.size w8 W') (fun iv _ => 6 - (intOf iv).toNat)
      case atStart => exact ⟨0, by omega, by go_num, Below.refl _ _⟩
      case round =>
        obtain ⟨i, hi, rfl, he⟩ := hrel
        have HEa := Lib.hid he
        clear he
        have hi0 : (0 : Int) ≤ (i : Int) := by omega
        by_cases hli : i < 6
        · have hii : (i : Int) < 6 := by omega
          obtain ⟨X, Ci, hX, rX, lX, tX⟩ := ty6 HK8.out HL.out i hli
          have HTX := Lib.hid (And.intro rX (And.intro lX tX))
          clear hX rX lX tX
          obtain ⟨b1, hb1⟩ : ∃ b, vty P 24 X = b := ⟨_, rfl⟩
          obtain ⟨b2, hb2⟩ : ∃ b, vty Y 24 X = b := ⟨_, rfl⟩
          have HBB := Lib.hid (And.intro hb1 hb2)
          clear hb1 hb2
          go_upto_region 12 with fail
          refine vtreg12 (by kernel_rfl) _ _ g13 g14 h i mv (.slice (some ⟨gd0, o, none⟩) n cap) ym (.slice yA yl yc) Ci b1 b2 rfl rfl rfl rfl rfl (HX8.out.later HEa.out).range (HY8.out.later HEa.out).range (range_below HTX.out.1 HEa.out) HTX.out.2.1 hii hi0
            (fun W hw => by have := validtype_any P X W _ _ (HP8.out.later (later HEa.out hw)) (TyAt.later (later HEa.out hw) HTX.out.2.2); rwa [HBB.out.1] at this)
            (fun W hw => by have := rvalidtype_any P X W _ _ (HP8.out.later (later HEa.out hw)) (TyAt.later (later HEa.out hw) HTX.out.2.2); rwa [HBB.out.1] at this)
            (fun W hw => by have := validtype_any Y X W _ _ (HYP8.out.later (later HEa.out hw)) (TyAt.later (later HEa.out hw) HTX.out.2.2); rwa [HBB.out.2] at this)
            (fun W hw => by have := rvalidtype_any Y X W _ _ (HYP8.out.later (later HEa.out hw)) (TyAt.later (later HEa.out hw) HTX.out.2.2); rwa [HBB.out.2] at this) ?_
          intro vs12 w12 hs hb a12 ha12
          simp only [vtD12, List.cons_append, List.nil_append, List.foldl_cons, List.foldl_nil, Act.put, List.setIfInBounds_toArray, List.set_cons_succ, List.set_cons_zero, hs] at ha12
          subst ha12
          have HE12 := Lib.hid (later HEa.out hb)
          clear hs hb HEa HBB
          go_wp2_with fail
          go_loopw [19] (fun kv W' => ∃ k : Nat, k ≤ 6 ∧ kv = .int .i64 (k : Int) ∧ Below w8.heap.size w8 W') (fun kv _ => 6 - (intOf kv).toNat)
          case atStart => exact ⟨0, by omega, by go_num, HE12.out⟩
          case round =>
            clear HE12
            obtain ⟨k, hk, rfl, he⟩ := hrel
            have HEb := Lib.hid he
            clear he
            have hk0 : (0 : Int) ≤ (k : Int) := by omega
            by_cases hlk : k < 6
            · have hki : (k : Int) < 6 := by omega
              obtain ⟨Z, Ck, hZ, rZ, lZ, tZ⟩ := ty6 HK8.out HL.out k hlk
              have HTZ := Lib.hid (And.intro rZ (And.intro lZ tZ))
              clear hZ rZ lZ tZ
              obtain ⟨b, hb⟩ : ∃ b, X.same Z = b := ⟨_, rfl⟩
              have HBS := Lib.hid hb
              clear hb
              go_upto_region 17 with fail
              refine vtreg17 (by kernel_rfl) _ _ h i k Ci Ck b rfl rfl rfl rfl (range_below HTX.out.1 HEb.out) HTX.out.2.1 hii hi0 (range_below HTZ.out.1 HEb.out) HTZ.out.2.1 hki hk0
                (fun W hw => by have := sametype_any X.nodes X (Nat.le_refl _) Z W _ _ (TyAt.later (later HEb.out hw) HTX.out.2.2) (TyAt.later (later HEb.out hw) HTZ.out.2.2); rwa [HBS.out] at this)
                (fun W hw => by have := rsame_any X.nodes X (Nat.le_refl _) Z W _ _ (TyAt.later (later HEb.out hw) HTX.out.2.2) (TyAt.later (later HEb.out hw) HTZ.out.2.2); rwa [HBS.out] at this) ?_
              intro vs17 w17 hs hb a17 ha17
              simp only [vtD17, List.cons_append, List.nil_append, List.foldl_cons, List.foldl_nil, Act.put, List.setIfInBounds_toArray, List.set_cons_succ, List.set_cons_zero, hs] at ha17
              subst ha17
              have HE17 := Lib.hid (later HEb.out hb)
              clear hs hb HEb HBS
              go_wp2_with fail
              go_roundw
              case rel => exact ⟨k + 1, by omega, by go_num, HE17.out⟩
              case measure => simp [intOf]; omega
            · have hki : ¬ (k : Int) < 6 := by omega
              go_wp2_with fail
              go_roundw
              case rel => exact ⟨i + 1, by omega, by go_num, HEb.out⟩
              case measure => simp [intOf]; omega
        · have hii : ¬ (i : Int) < 6 := by omega
          obtain ⟨f, xa, xb, xc, nm, m, hdi⟩ : ∃ f a b c nm m, dinfo Y ia ib ic = (f, a, b, c, nm, m) := ⟨_, _, _, _, _, _, rfl⟩
          have HDV : Hid (∀ W, Below w8.heap.size w8 W → Calls Tryd.prog 20 #[.agg #[ym, .slice yA yl yc], .agg #[.int .i64 ia, .int .i64 ib, .int .i64 ic]] W (DAt f xa xb xc nm m W)) := Lib.hid fun W h => (Def_any Y HYS.out ia ib ic W _ (HYP8.out.later h)).mono (fun _ _ => dout_at hdi)
          have HDR : Hid (∀ W, Below w8.heap.size w8 W → Calls Tryd.prog 21 #[.agg #[ym, .slice yA yl yc], .agg #[.int .i64 ia, .int .i64 ib, .int .i64 ic]] W (DAt f xa xb xc nm m W)) := Lib.hid fun W h => (rdef_out Y ia ib ic W _ (HYP8.out.later h)).mono (fun _ _ => dout_at hdi)
          have HPT := Lib.hid (point_def P HS.out HNM.out)
          have HR14 : Hid (∀ W, Below w8.heap.size w8 W → W.rangeAt g14 0 [ym, .slice yA yl yc]) := Lib.hid fun W h => (HY8.out.later h).range
          have HR80 : Hid (∀ W, Below w8.heap.size w8 W → W.rangeAt (w.heap.size + 1) 0 [.int .i64 ia, .int .i64 ib, .int .i64 ic]) := Lib.hid fun W h => range_below HR88.out h
          have HI14 : Hid ((Tryd.prog.info? 26).map (·.size) = some ([ym, .slice yA yl yc] : List Value).length) := Lib.hid info_prog
          have HI80 : Hid ((Tryd.prog.info? 28).map (·.size) = some ([.int .i64 ia, .int .i64 ib, .int .i64 ic] : List Value).length) := Lib.hid info_id
          have hzd := zero_def
          rw [show z31.toArray = #[.int .i64 0, .int .i64 0, .int .i64 0, .int .i64 0, .int .i64 0, .int .i64 0, .int .i64 0, .string ⟨#[]⟩, .slice none 0 0, .int .i64 0, .int .i64 0, .int .i64 0, .int .i64 0, .slice none 0 0, .int .i64 0, .int .i64 0, .int .i64 0, .int .i64 0, .int .i64 0, .int .i64 0, .int .i64 0, .int .i64 0, .int .i64 0, .int .i64 0, .int .i64 0, .int .i64 0, .slice none 0 0, .slice none 0 0, .slice none 0 0, .int .i64 0, .slice none 0 0] from rfl] at hzd
          clear hdi
          go_upto_region 20 with (first
            | (with_reducible refine wpList_load_mid rfl _ (.tmp 14) rfl g14 0 rfl [ym, .slice yA yl yc] _ (HR14.out _ HEa.out) Tryd.underlying26 rfl HI14.out ?_)
            | (with_reducible refine wpList_load_mid rfl _ (.tmp 8) rfl (w.heap.size + 1) 0 rfl [.int .i64 ia, .int .i64 ib, .int .i64 ic] _ (HR80.out _ HEa.out) Tryd.underlying28 rfl HI80.out ?_)
            | (go_at_call 20; (with_reducible refine (HDV.out _ HEa.out).mono ?_); rintro e wd ⟨D, rfl, hDl, hDc, hDd, hb⟩; have HEd := Lib.hid (later HEa.out hb); have HDL := Lib.hid hDl; have HDC := Lib.hid hDc; have HDI : Hid ((Tryd.prog.info? 46).map (·.size) = some D.length) := Lib.hid (by rw [hDl]; exact info_def); clear hb hDl hDc)
            | (refine wpList_store_arr rfl _ (.tmp 20) (.tmp 113) rfl wd.heap.size 0 31 46 _ D z31 rfl rfl rfl (z31_new wd) (by rw [HDL.out]; omega) HDI.out HDC.out ?_; intro we fe oe; rw [setAll_all z31 D (by rw [HDL.out]; rfl)] at fe; have HAe := Lib.hid fe; have HEe := Lib.hid (later HEd.out ((new_later wd (.cells z31.toArray 46)).trans (oe.bel.mono (Nat.le_refl _)))); clear fe oe))
          generalize wd.heap.size = ga at HAe ⊢
          clear HEd HEa HDL HDC HDI HDV
          go_upto_region 21 with (first
            | (with_reducible refine wpList_load_mid rfl _ (.tmp 14) rfl g14 0 rfl [ym, .slice yA yl yc] _ (HR14.out _ HEe.out) Tryd.underlying26 rfl HI14.out ?_)
            | (with_reducible refine wpList_load_mid rfl _ (.tmp 8) rfl (w.heap.size + 1) 0 rfl [.int .i64 ia, .int .i64 ib, .int .i64 ic] _ (HR80.out _ HEe.out) Tryd.underlying28 rfl HI80.out ?_)
            | (go_at_call 21; (with_reducible refine (HDR.out _ HEe.out).mono ?_); rintro e wf ⟨E, rfl, hDl, hDc, hEd, hb⟩; have HEf := Lib.hid (later HEe.out hb); have HAf := Lib.hid (HAe.out.later hb); have HDL := Lib.hid hDl; have HDC := Lib.hid hDc; have HDI : Hid ((Tryd.prog.info? 46).map (·.size) = some E.length) := Lib.hid (by rw [hDl]; exact info_def); clear hb hDl hDc)
            | (refine wpList_store_arr rfl _ (.tmp 22) (.tmp 119) rfl wf.heap.size 0 31 46 _ E z31 rfl rfl rfl (z31_new wf) (by rw [HDL.out]; omega) HDI.out HDC.out ?_; intro wg fg og; rw [setAll_all z31 E (by rw [HDL.out]; rfl)] at fg; have HBg := Lib.hid fg; have HLg := Lib.hid ((new_later wf (.cells z31.toArray 46)).trans (og.bel.mono (Nat.le_refl _))); clear fg og))
          have HEg := Lib.hid (later HEf.out HLg.out)
          have HAg := Lib.hid (HAf.out.later HLg.out)
          generalize wf.heap.size = gb at HBg ⊢
          clear HLg HAf HEf HAe HEe HDL HDC HDI HDR HR14 HR80 HI14 HI80 hzd
          refine vtreg21 (by kernel_rfl) _ _ g13 mv (.slice (some ⟨gd0, o, none⟩) n cap) rfl rfl (HX8.out.later HEg.out) (fun W hw => (Def_any P HSM.out 0 1 1 W _ (HP8.out.later (later HEg.out hw))).mono (fun _ _ => named_at HPT.out)) ?_
          intro vs21 w21 gc Dc h24 h25 hgc hAc hNc hb21 a21 ha21
          simp only [vtD21, List.cons_append, List.nil_append, List.foldl_cons, List.foldl_nil, Act.put, List.setIfInBounds_toArray, List.set_cons_succ, List.set_cons_zero, h24, h25] at ha21
          subst ha21
          obtain ⟨a3, a4, a5, a6, aA, ac, aY, hDa⟩ := hDd.out
          obtain ⟨b3, b4, b5, b6, bA, bc, bY, hDb⟩ := hEd.out
          obtain ⟨c0', c1, c2, c3, c4, c5, c6, cA, cm, cc, cY, hDc⟩ := hNc.2.2.out
          have hA21 := HAg.out.later hb21
          have hB21 := HBg.out.later hb21
          rw [hDa] at hA21
          rw [hDb] at hB21
          rw [hDc] at hAc
          have HA21 := Lib.hid hA21
          have HB21 := Lib.hid hB21
          have HC21 := Lib.hid hAc
          have HE21 := Lib.hid (later HEg.out hb21)
          clear hA21 hB21 hAc hDa hDb hDc hNc hb21 HAg HBg HEg h24 h25 hDd hEd
          go_upto_region 22 with fail
          refine vtreg22 (by kernel_rfl) _ _ ga gb gc m cm ac bc cc f xa xb xc c0' c1 c2 a3 a4 a5 a6 b3 b4 b5 b6 c3 c4 c5 c6 nm aA bA cA aY bY cY rfl rfl rfl rfl rfl rfl rfl HA21.out HB21.out HC21.out
            (range_left (xs := [.int .i64 xa, .int .i64 xb, .int .i64 xc]) (ys := [a3, a4, a5, a6, .string nm, .slice aA m ac] ++ aY) HA21.out.range)
            (range_left (xs := [.int .i64 xa, .int .i64 xb, .int .i64 xc]) (ys := [b3, b4, b5, b6, .string nm, .slice bA m bc] ++ bY) HB21.out.range) (HKV8.out.later HE21.out) ?_
          intro vs22 w22 h12 hb22 a22 ha22
          simp only [vtD22, List.cons_append, List.nil_append, List.foldl_cons, List.foldl_nil, Act.put, List.setIfInBounds_toArray, List.set_cons_succ, List.set_cons_zero, h12] at ha22
          subst ha22
          have HEND := Lib.hid (later HE8.out (later HE21.out hb22))
          clear h12 hb22
          go_wp2_with fail
          go_ret
          exact ⟨rfl, HEND.out⟩
end Go.Proofs.YtkpoiljioadfgaaDoor

namespace Go.Proofs.YtkpoiljioadfgaaDoor
open Go.ChangeShapes Go.WideShapes Go.ChangeAt Go.RowKit Go.Deep
theorem Tryd.own : ownKnob Tryd.prog.godebug = none := by kernel_rfl
theorem Tryd.laidOut : laidOutB Tryd.prog = true := by kernel_rfl
theorem rd_of_cells {w : World} {a : Addr} {xs : List Value} (h : ∀ j u, xs[j]? = some u → w.cell? (a.add j) = some u) : Rd w w.heap.size (some a) xs := by
  cases xs with
  | nil => exact Rd.nil _ _ _
  | cons x xs =>
    have h0 : w.cell? a = some x := by have := h 0 x rfl; simpa [Addr.add] using this
    have hlt := World.block_lt_of_cell? w _ h0
    obtain ⟨b, o, s⟩ := a
    have hs := World.cell?_spot h0
    simp at hs
    subst hs
    exact .inr ⟨b, o, rfl, hlt, fun j u hu => by
      have h2 := h j u hu
      have ha : (⟨b, o, none⟩ : Addr).add j = ⟨b, o + j, none⟩ := by unfold Addr.add; split <;> simp_all
      rwa [ha] at h2⟩
section
variable {H : Type} {enc : TypeId × Value → H} {w : World} {sp : Nat → Bool} {d : DataW H} {p : List MemPlace} {A : Option Addr} {len cap : Nat}
end
end Go.Proofs.YtkpoiljioadfgaaDoor

namespace Go.Proofs.YtkpoiljioadfgaaDoor
open Go.ChangeShapes Go.WideShapes Go.ChangeAt Go.RowKit Go.Deep
theorem elems_at {H : Type} {enc : TypeId × Value → H} {P : Program} {w : World} {base : Nat} {sp : Nat → Bool} {held : Bool} {fuel c : Nat} {t e : TypeId} {cs : List Value} {x : DataW H × List MemPlace}
    (ht : P.underlying t = some (.slice e)) (hc : P.cellsOf e = c) (h0 : 0 < c) (h : DataW.trod enc P w base sp held fuel t cs = some x) :
    ∃ A len cap, cs = [.slice A len cap] ∧ len ≤ cap ∧ cap ≤ maxLen ∧ ∀ i, i < len → ∃ g o cs' y n, A = some ⟨g, o, none⟩ ∧ w.rangeAt g (o + i * c) cs' ∧ cs'.length = c ∧ fuel = n + 1 ∧ DataW.trod enc P w base sp held n e cs' = some y := by
  rcases DataW.trod_slice ht h with ⟨rfl, _⟩ | ⟨a, len, cap, elems, rest, n, hf, rfl, _, _, hl, hm, hlen, hel, _, _⟩
  · exact ⟨none, 0, 0, rfl, Nat.le_refl _, by simp [maxLen], fun i hi => absurd hi (by omega)⟩
  · refine ⟨some a, len, cap, rfl, hl, hm, fun i hi => ?_⟩
    have h1 := hel i hi
    rw [List.getElem?_eq_getElem (by omega)] at h1
    obtain ⟨cs', h2, h3⟩ := Option.bind_eq_some_iff.1 h1
    rw [hc] at h2
    obtain ⟨_, h4, h5⟩ := World.cells?_some h2
    have hz := hel 0 (by omega)
    rw [List.getElem?_eq_getElem (by omega)] at hz
    obtain ⟨cz, z2, _⟩ := Option.bind_eq_some_iff.1 hz
    rw [hc] at z2
    obtain ⟨_, z4, z5⟩ := World.cells?_some z2
    have z50 := z5 0 h0
    rw [Addr.add_add, List.getElem?_eq_getElem (by omega)] at z50
    have hs := World.cell?_spot z50
    obtain ⟨b, o, s⟩ := a
    have hs : s = none := by simpa [Addr.add] using hs
    subst hs
    refine ⟨b, o, cs', elems[i], n, rfl, fun j u hu => ?_, h4, hf, h3⟩
    have h6 := h5 j (by have := (List.getElem?_eq_some_iff.1 hu).1; omega)
    rw [hu, Addr.add_add] at h6
    have ha : (⟨b, o, none⟩ : Addr).add (i * c + j) = ⟨b, o + i * c + j, none⟩ := by unfold Addr.add; split <;> simp_all [Nat.add_assoc]
    rwa [ha] at h6
instance : Inhabited Tr := ⟨.node 0 0 []⟩
instance : Inhabited Ty := ⟨.node 0 0 0 0 []⟩
instance : Inhabited Ex := ⟨.node 0 0 0 0 0 0 0 0 (.node 0 0 0 0 []) [] []⟩
instance : Inhabited Sl := ⟨⟨0, 0, 0, ⟨#[]⟩, .node 0 0 0 0 [], 0, 0⟩⟩
instance : Inhabited Df := ⟨⟨0, 0, 0, 0, 0, 0, 0, ⟨#[]⟩, [], .node 0 0 0 0 [], default, 0, []⟩⟩
theorem KsAt.mk {w : World} {A : Option Addr} : ∀ {xs : List Tr} {i : Nat}, (∀ j x, xs[j]? = some x → ∃ g o cs, A = some ⟨g, o, none⟩ ∧ w.rangeAt g (o + (i + j) * 3) cs ∧ TrAt w x (.agg cs.toArray)) → KsAt w A i xs
  | [], i, _ => by unfold KsAt; trivial
  | x :: xs, i, h => by
    unfold KsAt
    refine ⟨by simpa using h 0 x rfl, KsAt.mk fun j y hy => ?_⟩
    have := h (j + 1) y (by simpa using hy)
    rwa [show i + (j + 1) = i + 1 + j by omega] at this
theorem KtAt.mk {w : World} {A : Option Addr} : ∀ {xs : List Ty} {i : Nat}, (∀ j x, xs[j]? = some x → ∃ g o cs, A = some ⟨g, o, none⟩ ∧ w.rangeAt g (o + (i + j) * 5) cs ∧ TyAt w x (.agg cs.toArray)) → KtAt w A i xs
  | [], i, _ => by unfold KtAt; trivial
  | x :: xs, i, h => by
    unfold KtAt
    refine ⟨by simpa using h 0 x rfl, KtAt.mk fun j y hy => ?_⟩
    have := h (j + 1) y (by simpa using hy)
    rwa [show i + (j + 1) = i + 1 + j by omega] at this
theorem KxAt.mk {w : World} {A : Option Addr} : ∀ {xs : List Ex} {i : Nat}, (∀ j x, xs[j]? = some x → ∃ g o cs, A = some ⟨g, o, none⟩ ∧ w.rangeAt g (o + (i + j) * 15) cs ∧ ExAt w x cs) → KxAt w A i xs
  | [], i, _ => by unfold KxAt; trivial
  | x :: xs, i, h => by
    unfold KxAt
    refine ⟨by simpa using h 0 x rfl, KxAt.mk fun j y hy => ?_⟩
    have := h (j + 1) y (by simpa using hy)
    rwa [show i + (j + 1) = i + 1 + j by omega] at this
theorem map_get {α : Type} {n : Nat} {f : Nat → α} {j : Nat} {x : α} (h : ((List.range n).map f)[j]? = some x) : j < n ∧ x = f j := by
  have hj := (List.getElem?_eq_some_iff.1 h).1
  simp at hj
  simp [List.getElem?_range hj] at h
  exact ⟨hj, h.symm⟩
theorem ir_of {n : Int} (h : (Lit.int .i64 n).wf = true) : i64r n := by have := bounds_i64 h; unfold i64r; omega
theorem Tryd.cTy : Tryd.prog.cellsOf 31 = 5 := by kernel_rfl
theorem Tryd.cId : Tryd.prog.cellsOf 28 = 3 := by kernel_rfl
theorem Tryd.cSl : Tryd.prog.cellsOf 66 = 11 := by kernel_rfl
theorem Tryd.cEx : Tryd.prog.cellsOf 44 = 15 := by kernel_rfl
theorem Tryd.cDf : Tryd.prog.cellsOf 46 = 31 := by kernel_rfl
theorem Tryd.cPr : Tryd.prog.cellsOf 26 = 2 := by kernel_rfl
theorem Tryd.cI : Tryd.prog.cellsOf 3 = 1 := by kernel_rfl
theorem Tryd.cS : Tryd.prog.cellsOf 9 = 1 := by kernel_rfl
section
variable {H : Type} {enc : TypeId × Value → H} {w : World} {sp : Nat → Bool} {held : Bool} {base : Nat}
theorem fld {fs : Array Field} {xs : List (DataW H × List MemPlace)} {n : Nat} {cs : List Value} (hlen : xs.length = fs.size)
    (hf : ∀ (i : Nat) (f : Field), fs[i]? = some f → DataW.trod enc Tryd.prog w base sp held n f.type ((cs.drop f.offset).take (Tryd.prog.cellsOf f.type)) = xs[i]?)
    (i : Nat) (T : TypeId) (o c : Nat) (h : ∃ f, fs[i]? = some f ∧ f.type = T ∧ f.offset = o) (hc : Tryd.prog.cellsOf T = c) : ∃ y, DataW.trod enc Tryd.prog w base sp held n T ((cs.drop o).take c) = some y := by
  obtain ⟨f, h1, rfl, rfl⟩ := h
  rw [← hc, hf i f h1]
  have hi : i < fs.size := (Array.getElem?_eq_some_iff.1 h1).1
  exact ⟨_, List.getElem?_eq_getElem (by rw [hlen]; exact hi)⟩
theorem seg (cs : List Value) (o c p : Nat) (h : o + c = p) : cs.drop o = (cs.drop o).take c ++ cs.drop p := by
  rw [← h, ← List.drop_drop, List.take_append_drop]
theorem fld_int {n : Nat} {cs : List Value} {y : DataW H × List MemPlace} (h : DataW.trod enc Tryd.prog w base sp held n 3 cs = some y) : ∃ k, cs = [.int .i64 k] ∧ i64r k := by
  obtain ⟨k, h1, _, h2⟩ := DataW.trod_int Tryd.underlying3 h
  exact ⟨k, h1, ir_of h2⟩
end
end Go.Proofs.YtkpoiljioadfgaaDoor

namespace Go.Proofs.YtkpoiljioadfgaaDoor
open Go.ChangeShapes Go.WideShapes Go.ChangeAt Go.RowKit Go.Deep
theorem Tryd.cTs : Tryd.prog.cellsOf 29 = 1 := by kernel_rfl
theorem Tryd.cEs : Tryd.prog.cellsOf 41 = 1 := by kernel_rfl
theorem Tryd.cSs : Tryd.prog.cellsOf 40 = 1 := by kernel_rfl
theorem Tryd.cDs : Tryd.prog.cellsOf 24 = 1 := by kernel_rfl
theorem Tryd.cMs : Tryd.prog.cellsOf 23 = 1 := by kernel_rfl
theorem Tryd.cSt : Tryd.prog.cellsOf 42 = 1 := by kernel_rfl
section
variable {H : Type} {enc : TypeId × Value → H} {w : World} {sp : Nat → Bool} {held : Bool} {base : Nat}
theorem fld_str {n : Nat} {cs : List Value} {y : DataW H × List MemPlace} (h : DataW.trod enc Tryd.prog w base sp held n 9 cs = some y) : ∃ s : ByteArray, cs = [.string s] ∧ s.size ≤ maxLen := by
  obtain ⟨s, h1, _, h2⟩ := DataW.trod_string Tryd.underlying9 h
  exact ⟨s, h1, h2⟩
theorem open_id3 {m : Nat} {cs : List Value} {x : DataW H × List MemPlace} (h : DataW.trod enc Tryd.prog w base sp held m 28 cs = some x) : ∃ a b c : Int, cs = [.int .i64 a, .int .i64 b, .int .i64 c] ∧ i64r a ∧ i64r b ∧ i64r c := by
  obtain ⟨xs, n, hn, _, hl, hlen, hf⟩ := DataW.trod_struct Tryd.underlying28 h
  rw [Tryd.cId] at hl
  obtain ⟨y0, h0⟩ := fld hlen hf 0 3 0 1 ⟨_, rfl, rfl, rfl⟩ Tryd.cI
  obtain ⟨a, e0, r0⟩ := fld_int h0
  obtain ⟨y1, h1⟩ := fld hlen hf 1 3 1 1 ⟨_, rfl, rfl, rfl⟩ Tryd.cI
  obtain ⟨b, e1, r1⟩ := fld_int h1
  obtain ⟨y2, h2⟩ := fld hlen hf 2 3 2 1 ⟨_, rfl, rfl, rfl⟩ Tryd.cI
  obtain ⟨c, e2, r2⟩ := fld_int h2
  clear h0 h1 h2 hf hlen
  have s0 := seg cs 0 1 1 rfl
  have s1 := seg cs 1 1 2 rfl
  have s2 := seg cs 2 1 3 rfl
  rw [e2, List.drop_of_length_le (i := 3) (by omega)] at s2
  rw [e1, s2] at s1
  rw [e0, s1] at s0
  exact ⟨a, b, c, s0, r0, r1, r2⟩
theorem open_ty : ∀ (m : Nat) (cs : List Value) (x : DataW H × List MemPlace), DataW.trod enc Tryd.prog w base sp held m 31 cs = some x → cs.length = 5 ∧ ∃ y : Ty, TyAt w y (.agg cs.toArray) := by
  intro m
  induction m using Nat.strongRecOn with
  | _ m ih =>
    intro cs x h
    obtain ⟨xs, n, hn, _, hl, hlen, hf⟩ := DataW.trod_struct Tryd.underlying31 h
    rw [Tryd.cTy] at hl
    obtain ⟨y0, h0⟩ := fld hlen hf 0 3 0 1 ⟨_, rfl, rfl, rfl⟩ Tryd.cI
    obtain ⟨k, e0, r0⟩ := fld_int h0
    obtain ⟨y1, h1⟩ := fld hlen hf 1 28 1 3 ⟨_, rfl, rfl, rfl⟩ Tryd.cId
    obtain ⟨a0, a1, a2, e1, r10, r11, r12⟩ := open_id3 h1
    obtain ⟨y2, h2⟩ := fld hlen hf 2 29 4 1 ⟨_, rfl, rfl, rfl⟩ Tryd.cTs
    obtain ⟨A, len, cap, e2, hl1, hl2, hel⟩ := elems_at Tryd.underlying29 Tryd.cTy (by omega) h2
    clear h0 h1 h2 hf hlen
    have s0 := seg cs 0 1 1 rfl
    have s1 := seg cs 1 3 4 rfl
    have s2 := seg cs 4 1 5 rfl
    rw [e2, List.drop_of_length_le (i := 5) (by omega)] at s2
    rw [e1, s2] at s1
    rw [e0, s1] at s0
    have each : ∀ i, i < len → ∃ z : Ty, ∃ g o cs', A = some ⟨g, o, none⟩ ∧ w.rangeAt g (o + i * 5) cs' ∧ TyAt w z (.agg cs'.toArray) := by
      intro i hi
      obtain ⟨g, o, cs', y', n', hA, hr, _, hn', ht⟩ := hel i hi
      obtain ⟨_, z, hz⟩ := ih n' (by omega) cs' y' ht
      exact ⟨z, g, o, cs', hA, hr, hz⟩
    obtain ⟨f, hff⟩ := choose_lt each
    refine ⟨hl, .node k a0 a1 a2 ((List.range len).map f), ?_⟩
    have hcs : cs = t5 k a0 a1 a2 A len cap := s0
    unfold TyAt
    refine ⟨A, cap, by rw [hcs]; simp, ⟨by simpa using hl1, hl2, r0, r10, r11, r12⟩, KtAt.mk fun j x hx => ?_⟩
    obtain ⟨hj, rfl⟩ := map_get hx
    rw [Nat.zero_add]
    exact hff j hj
end
end Go.Proofs.YtkpoiljioadfgaaDoor

