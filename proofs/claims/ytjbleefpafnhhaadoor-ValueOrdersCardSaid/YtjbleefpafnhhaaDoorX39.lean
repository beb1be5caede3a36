import Derived.Test.YtjbleefpafnhhaaDoorX01
import Derived.Test.YtjbleefpafnhhaaDoorX04
import Derived.Test.YtjbleefpafnhhaaDoorX05
import Derived.Test.YtjbleefpafnhhaaDoorX15
import Derived.Test.YtjbleefpafnhhaaDoorX37
import Derived.Test.YtjbleefpafnhhaaDoorX38
import Derived.ProofKit
import Derived.OpenShut
import Derived.ShutString
import Derived.ChangeOld
import Derived.SizedLaws
import Derived.Deep.Slices
import Derived.SliceStrings
import Derived.ChangeArms
import Derived.DataReads
import Derived.DataElems
import Derived.Test.YtjbleefpafnhhaaDoorRows
import Derived.ChangeMaps5
import Derived.ChangeSame
import Derived.ChangeVars
import Derived.JoinedOf
import Derived.RowKit
set_option linter.unusedVariables false
set_option linter.unusedSimpArgs false
namespace Go.Proofs.YtjbleefpafnhhaaDoor
open Go.RowKit
theorem fiveof {α : Type} (xs : List α) (h : xs.length = 5) (i : Nat) (hi : i < 5) : ∃ x, xs[i]? = some x := ⟨_, List.getElem?_eq_getElem (by omega)⟩
theorem kid5 {w : World} {h : Nat} {xs : List Tr} (hk : KsAt w (some ⟨h, 0, none⟩) 0 xs) (hl : xs.length = 5) (i : Nat) (hi : i < 5) : ∃ x C, xs[i]? = some x ∧ w.rangeAt h (i * 3) C ∧ C.length = 3 ∧ TrAt w x (.agg C.toArray) := by
  obtain ⟨x, hx⟩ := fiveof xs hl i hi
  obtain ⟨g, o, C, hA, hr, ht⟩ := hk.get hx
  cases hA
  refine ⟨x, C, hx, by simpa using hr, ?_, ht⟩
  obtain ⟨k, n, A, l, c, e⟩ := ht.shape
  have : C = c3 k n A l c := by simpa using e
  rw [this]; rfl
set_option maxHeartbeats 8000000 in
set_option maxRecDepth 100000 in
theorem ValueOrders_any (l0 c0 l1 c1 l2 c2 : Nat) (A0 A1 A2 : Option Addr) (z0 z1 z2 : List Int) (tv tw : Tr) (vk vn wk wn : Int) (vA wA : Option Addr) (vl vc wl wc : Nat) (w : World) (hN0 : Nums w z0 A0 l0) (hN1 : Nums w z1 A1 l1) (hN2 : Nums w z2 A2 l2)
    (hTv : TrAt w tv (.agg #[.int .i64 vk, .int .i64 vn, .slice vA vl vc])) (hTw : TrAt w tw (.agg #[.int .i64 wk, .int .i64 wn, .slice wA wl wc])) (hK : Kv w) :
    Calls Tryd.prog 5 #[.slice A0 l0 c0, .slice A1 l1 c1, .slice A2 l2 c2, .agg #[.int .i64 vk, .int .i64 vn, .slice vA vl vc], .agg #[.int .i64 wk, .int .i64 wn, .slice wA wl wc]] w (BRes true w) := by
  have P8 : Arr ((w.alloc (.cells #[.int .i64 vk, .int .i64 vn, .slice vA vl vc] 53)).alloc (.cells #[.int .i64 wk, .int .i64 wn, .slice wA wl wc] 53)) w.heap.size 3 53 [.int .i64 vk, .int .i64 vn, .slice vA vl vc] := (Arr.new' w _ _ 3 _ rfl rfl (by decide)).later (new_later (w.alloc (.cells #[.int .i64 vk, .int .i64 vn, .slice vA vl vc] 53)) (.cells #[.int .i64 wk, .int .i64 wn, .slice wA wl wc] 53))
  have P9 : Arr ((w.alloc (.cells #[.int .i64 vk, .int .i64 vn, .slice vA vl vc] 53)).alloc (.cells #[.int .i64 wk, .int .i64 wn, .slice wA wl wc] 53)) (w.heap.size + 1) 3 53 [.int .i64 wk, .int .i64 wn, .slice wA wl wc] := by
    have h := Arr.new' (w.alloc (.cells #[.int .i64 vk, .int .i64 vn, .slice vA vl vc] 53)) 53 #[.int .i64 wk, .int .i64 wn, .slice wA wl wc] 3 [.int .i64 wk, .int .i64 wn, .slice wA wl wc] rfl rfl (by decide)
    rw [World.size_alloc] at h; exact h
  have V0 := later (new_later w (.cells #[.int .i64 vk, .int .i64 vn, .slice vA vl vc] 53)) (new_later (w.alloc (.cells #[.int .i64 vk, .int .i64 vn, .slice vA vl vc] 53)) (.cells #[.int .i64 wk, .int .i64 wn, .slice wA wl wc] 53))
  generalize hW : ((w.alloc (.cells #[.int .i64 vk, .int .i64 vn, .slice vA vl vc] 53)).alloc (.cells #[.int .i64 wk, .int .i64 wn, .slice wA wl wc] 53)) = wa at P8 P9 V0
  have HTY := Lib.hid (Types_pr z0 A0 l0 c0 wa (hN0.later V0))
  have HN1 := Lib.hid (hN1.later V0)
  have HN2 := Lib.hid (hN2.later V0)
  have HR8 := Lib.hid P8.range
  have HR9 := Lib.hid P9.range
  have HTV := Lib.hid (hTv.later V0)
  have HTW := Lib.hid (hTw.later V0)
  have HKV := Lib.hid (hK.later V0)
  have HV0 := Lib.hid V0
  clear hN0 hN1 hN2 hTv hTw hK P8 P9 V0
  go_enter Tryd.func5, Tryd.ntmps5
  go_upto_region 1 with fail
  clear hW
  go_upto_region 2 with (first
    | (go_at_call 10; (with_reducible refine HTY.out.mono ?_); rintro e w1 ⟨P, mv, gd0, o, n, cap, hn, rfl, hP, hmv, hS, _, hb⟩; have HNN := Lib.hid hn; have HP1 := Lib.hid hP; have HMV := Lib.hid hmv; have HS := Lib.hid hS; have HB1 := Lib.hid hb; clear hn hP hmv hS hb HTY)
    | (refine wpList_store_arr rfl _ (.tmp 11) (.tmp 19) rfl w1.heap.size 0 2 26 _ [mv, .slice (some ⟨gd0, o, none⟩) n cap] [.slice none 0 0, .slice none 0 0] rfl rfl rfl (p2_new w1 _ _) (show 0 + 2 ≤ 2 by omega) info_prog (by intro v hv; simp at hv; rcases hv with rfl | rfl; exact HMV.out; rfl) ?_; intro w2 f2 o2; rw [setAll_all [.slice none 0 0, .slice none 0 0] [mv, .slice (some ⟨gd0, o, none⟩) n cap] rfl] at f2; have HP2 := Lib.hid f2; have HO2 := Lib.hid ((new_later w1 _).trans (o2.bel.mono (Nat.le_refl _))); clear f2 o2))
  obtain ⟨j, hj⟩ : ∃ j, n = j + 1 := ⟨n - 1, by have := HNN.out; have := HS.out.len; omega⟩
  subst hj
  have hjn : j < P.length := by have := HNN.out; omega
  have hj3 : (j : Int) ≤ 3 := by have := HS.out.len; omega
  have hj0 : (0 : Int) ≤ (j : Int) := by omega
  have HB2 := Lib.hid (later HB1.out HO2.out)
  have HPr2 := Lib.hid (HP1.out.later HO2.out)
  generalize w1.heap.size = gP at HP2 ⊢
  have x1 := HP2.out.cell (j := 1) (v := (.slice (some ⟨gd0, o, none⟩) (j + 1) cap)) rfl
  obtain ⟨C, hCr, hCd⟩ := pr_get HPr2.out hjn
  obtain ⟨R, hR⟩ := df_id hCd
  have hid3 := HS.out.ids j _ (List.getElem?_eq_getElem hjn)
  rw [hid3.1, hid3.2.1, hid3.2.2] at hR
  have HG0 : Hid (w2.rangeAt gd0 (o + j * 31) [.int .i64 0, .int .i64 1, .int .i64 (1 + (j : Int))]) := Lib.hid (range_left (ys := R) (by rw [← hR]; exact hCr))
  have HII : Hid ((Tryd.prog.info? 28).map (·.size) = some ([.int .i64 0, .int .i64 1, .int .i64 (1 + (j : Int))] : List Value).length) := Lib.hid info_id
  have HOF : Hid (∀ W, Calls Tryd.prog 14 #[.agg #[.int .i64 0, .int .i64 1, .int .i64 (1 + (j : Int))]] W fun e w' => e = .returned (.agg #[.int .i64 3, .int .i64 0, .int .i64 1, .int .i64 (1 + (j : Int)), .slice none 0 0]) ∧ Below W.heap.size W w') := Lib.hid fun W => Of_any 0 1 (1 + (j : Int)) W
  clear hCr hCd hR hid3
  go_upto_region 3 with (first
    | (with_reducible refine wpList_load_mid rfl _ (.tmp 27) rfl gd0 (o + j * 31) rfl [.int .i64 0, .int .i64 1, .int .i64 (1 + (j : Int))] _ HG0.out Tryd.underlying28 rfl HII.out ?_)
    | (go_at_call 14; (with_reducible refine (HOF.out _).mono ?_); rintro e w3 ⟨rfl, hb⟩; have HB3 := Lib.hid hb; clear hb)
    | (refine wpList_store_arr rfl _ (.tmp 12) (.tmp 29) rfl w3.heap.size 0 5 31 _ [.int .i64 3, .int .i64 0, .int .i64 1, .int .i64 (1 + (j : Int)), .slice none 0 0] [.int .i64 0, .int .i64 0, .int .i64 0, .int .i64 0, .slice none 0 0] rfl rfl rfl (t5_new w3 0 0 0 0 none 0 0) (show 0 + 5 ≤ 5 by omega) info_typesz (List.all_eq_true.mp (by rfl)) ?_; intro w4 f o; rw [setAll_all [.int .i64 0, .int .i64 0, .int .i64 0, .int .i64 0, .slice none 0 0] [.int .i64 3, .int .i64 0, .int .i64 1, .int .i64 (1 + (j : Int)), .slice none 0 0] rfl] at f; have HR4 := Lib.hid f.range; have HO4 := Lib.hid (later HB3.out ((new_later w3 (.cells #[.int .i64 0, .int .i64 0, .int .i64 0, .int .i64 0, .slice none 0 0] 31)).trans (o.bel.mono (Nat.le_refl _)))); clear f o))
  have HE4 := Lib.hid (later HB2.out HO4.out)
  generalize w3.heap.size = gT at HR4 ⊢
  have HP4 := Lib.hid (range_below HP2.out.range HO4.out)
  have HPr4 := Lib.hid (HPr2.out.later HO4.out)
  clear x1 HG0 HII HOF HB3 HO4 HP2 HPr2 HB2 HB1 HO2 HP1
  have HVA : Hid (∀ (zs : List Int) (A : Option Addr) (l c : Nat), Nums wa zs A l → ∀ W, Below w4.heap.size w4 W → Calls Tryd.prog 23 #[.agg #[mv, (.slice (some ⟨gd0, o, none⟩) (j + 1) cap)], .agg #[.int .i64 3, .int .i64 0, .int .i64 1, .int .i64 (1 + (j : Int)), .slice none 0 0], .slice A l c] W (VVal P (tD j) W)) := Lib.hid fun zs A l c hN W h => Value_any P HS.out zs j hjn W _ _ A l c (HPr4.out.later h) (ty_now 3 0 1 (1 + (j : Int)) (by unfold i64r; omega) (by unfold i64r; omega) (by unfold i64r; omega) (by unfold i64r; omega) W) (hN.later (later HE4.out h))
  refine voreg3 (by kernel_rfl) _ _ w.heap.size (w.heap.size + 1) gP gT j mv (.slice (some ⟨gd0, o, none⟩) (j + 1) cap) (.slice A1 l1 c1) (.slice A2 l2 c2) [.int .i64 vk, .int .i64 vn, .slice vA vl vc] [.int .i64 wk, .int .i64 wn, .slice wA wl wc] tv tw rfl rfl rfl rfl rfl rfl rfl (range_below HR8.out HE4.out) (range_below HR9.out HE4.out) ⟨_, _, _, _, _, rfl⟩ ⟨_, _, _, _, _, rfl⟩ (HTV.out.later HE4.out) (HTW.out.later HE4.out) HP4.out HR4.out (HVA.out z1 A1 l1 c1 HN1.out) (HVA.out z2 A2 l2 c2 HN2.out) ?_
  intro vs3 w5 h x y z h13 hk hb a3 ha3
  simp only [voD3, List.cons_append, List.nil_append, List.foldl_cons, List.foldl_nil, Act.put, List.setIfInBounds_toArray, List.set_cons_succ, List.set_cons_zero, h13] at ha3
  subst ha3
  obtain ⟨xs, hxs⟩ : ∃ xs, [tv, tw, x, y, z] = xs := ⟨_, rfl⟩
  have HL : Hid (xs.length = 5) := Lib.hid (by rw [← hxs]; rfl)
  rw [hxs] at hk
  have HK5 := Lib.hid hk
  have HE5 := Lib.hid (later (later HV0.out HE4.out) hb)
  have HKV5 := Lib.hid (HKV.out.later (later HE4.out hb))
  clear h13 hk hb hxs HVA HP4 HPr4 HR4 HR8 HR9 HTV HTW HN1 HN2 HE4 HKV HV0 HS HNN HMV hjn hj3 hj0
  go_wp2_with fail
  go_loopw [14] (fun iv W' => ∃ i : Nat, i ≤ 5 ∧ iv = .int .i64 (i : Int) ∧ KsAt W' (some ⟨h, 0, none⟩) 0 xs ∧ Kv W' ∧ Below w.heap.size w W') (fun iv _ => 5 - (intOf iv).toNat)
  case atStart => exact ⟨0, by omega, by go_num, HK5.out, HKV5.out, HE5.out⟩
  case round =>
    clear HK5 HKV5 HE5
    obtain ⟨i, hi, rfl, hk, hv, he⟩ := hrel
    have HKa := Lib.hid hk
    have HVa := Lib.hid hv
    have HEa := Lib.hid he
    clear hk hv he
    have hi0 : (0 : Int) ≤ (i : Int) := by omega
    by_cases hli : i < 5
    · have hii : (i : Int) < 5 := by omega
      obtain ⟨X, Ci, hX, rX, lX, tX⟩ := kid5 HKa.out HL.out i hli
      go_upto_region 7 with fail
      refine voreg7 (by kernel_rfl) _ _ h i Ci X rfl rfl rfl rX lX tX hii hi0 (cp_self X) ?_
      intro vs7 w7 hs hb a7 ha7
      simp only [voD7, List.cons_append, List.nil_append, List.foldl_cons, List.foldl_nil, Act.put, List.setIfInBounds_toArray, List.set_cons_succ, List.set_cons_zero, hs] at ha7
      subst ha7
      have H7k := Lib.hid (HKa.out.later hb)
      have H7v := Lib.hid (HVa.out.later hb)
      have H7e := Lib.hid (later HEa.out hb)
      clear hs hb
      clear hX rX lX tX HKa HVa HEa
      go_wp2_with fail
      go_loopw [15] (fun kv W' => ∃ k : Nat, k ≤ 5 ∧ kv = .int .i64 (k : Int) ∧ KsAt W' (some ⟨h, 0, none⟩) 0 xs ∧ Kv W' ∧ Below w.heap.size w W') (fun kv _ => 5 - (intOf kv).toNat)
      case atStart => exact ⟨0, by omega, by go_num, H7k.out, H7v.out, H7e.out⟩
      case round =>
        clear H7k H7v H7e
        obtain ⟨k, hk, rfl, hkk, hv, he⟩ := hrel
        have HKb := Lib.hid hkk
        have HVb := Lib.hid hv
        have HEb := Lib.hid he
        clear hkk hv he
        have hk0 : (0 : Int) ≤ (k : Int) := by omega
        by_cases hlk : k < 5
        · have hki : (k : Int) < 5 := by omega
          obtain ⟨X, Ci, hX, rX, lX, tX⟩ := kid5 HKb.out HL.out i hli
          obtain ⟨Y, Ck, hY, rY, lY, tY⟩ := kid5 HKb.out HL.out k hlk
          obtain ⟨c, hc⟩ : ∃ c, X.cp Y = c := ⟨_, rfl⟩
          have HC : Hid (∀ X Y : Tr, xs[i]? = some X → xs[k]? = some Y → X.cp Y = c) := Lib.hid fun X' Y' h1 h2 => by rw [hX] at h1; rw [hY] at h2; cases h1; cases h2; exact hc
          have HFI := Lib.hid (And.intro (And.intro rX (And.intro lX tX)) (And.intro (And.intro rY (And.intro lY tY)) hc))
          clear hX rX lX tX hY rY lY tY hc
          go_upto_region 12 with fail
          refine voreg12 (by kernel_rfl) _ _ h i k Ci Ck X Y c rfl rfl rfl rfl HFI.out.1.1 HFI.out.1.2.1 HFI.out.1.2.2 hii hi0 HFI.out.2.1.1 HFI.out.2.1.2.1 HFI.out.2.1.2.2 hki hk0 HFI.out.2.2 ?_
          intro vs12 w12 hs hb a12 ha12
          simp only [voD12, List.cons_append, List.nil_append, List.foldl_cons, List.foldl_nil, Act.put, List.setIfInBounds_toArray, List.set_cons_succ, List.set_cons_zero, hs] at ha12
          subst ha12
          have H12k := Lib.hid (HKb.out.later hb)
          have H12v := Lib.hid (HVb.out.later hb)
          have H12e := Lib.hid (later HEb.out hb)
          have HB12 := Lib.hid hb
          clear hs hb
          have HFJ : Hid ((w12.rangeAt h (i * 3) Ci ∧ Ci.length = 3 ∧ TrAt w12 X (.agg Ci.toArray)) ∧ (w12.rangeAt h (k * 3) Ck ∧ Ck.length = 3 ∧ TrAt w12 Y (.agg Ck.toArray))) := Lib.hid ⟨⟨range_below HFI.out.1.1 HB12.out, HFI.out.1.2.1, HFI.out.1.2.2.later HB12.out⟩, ⟨range_below HFI.out.2.1.1 HB12.out, HFI.out.2.1.2.1, HFI.out.2.1.2.2.later HB12.out⟩⟩
          have hca := cp_anti Y X
          have hcr := cp_rng Y X
          go_upto_region 13 with fail
          refine voreg13 (by kernel_rfl) _ _ h i k Ci Ck X Y c (Y.cp X) rfl rfl rfl rfl rfl HFJ.out.1.1 HFJ.out.1.2.1 HFJ.out.1.2.2 hii hi0 HFJ.out.2.1 HFJ.out.2.2.1 HFJ.out.2.2.2 hki hk0 HFI.out.2.2 rfl (by have := HFI.out.2.2; omega) hcr ?_
          intro vs13 w13 hs hb a13 ha13
          simp only [voD13, List.cons_append, List.nil_append, List.foldl_cons, List.foldl_nil, Act.put, List.setIfInBounds_toArray, List.set_cons_succ, List.set_cons_zero, hs] at ha13
          subst ha13
          have H13k := Lib.hid (H12k.out.later hb)
          have H13v := Lib.hid (H12v.out.later hb)
          have H13e := Lib.hid (later H12e.out hb)
          clear hs hb
          clear hca hcr HFI HFJ HB12 H12k H12v H12e HKb HVb HEb
          go_wp2_with fail
          go_loopw [17] (fun qv W' => ∃ q : Nat, q ≤ 5 ∧ qv = .int .i64 (q : Int) ∧ KsAt W' (some ⟨h, 0, none⟩) 0 xs ∧ Kv W' ∧ Below w.heap.size w W') (fun qv _ => 5 - (intOf qv).toNat)
          case atStart => exact ⟨0, by omega, by go_num, H13k.out, H13v.out, H13e.out⟩
          case round =>
            clear H13k H13v H13e
            obtain ⟨q, hq, rfl, hk, hv, he⟩ := hrel
            have HKc := Lib.hid hk
            have HVc := Lib.hid hv
            have HEc := Lib.hid he
            clear hk hv he
            have hq0 : (0 : Int) ≤ (q : Int) := by omega
            by_cases hlq : q < 5
            · have hqi : (q : Int) < 5 := by omega
              obtain ⟨X, Ci, hX, rX, lX, tX⟩ := kid5 HKc.out HL.out i hli
              obtain ⟨Y, Ck, hY, rY, lY, tY⟩ := kid5 HKc.out HL.out k hlk
              obtain ⟨Z, Cj, hZ, rZ, lZ, tZ⟩ := kid5 HKc.out HL.out q hlq
              have hcc := HC.out X Y hX hY
              have HFI := Lib.hid (And.intro (And.intro rX (And.intro lX tX)) (And.intro (And.intro rY (And.intro lY tY)) (And.intro (And.intro rZ (And.intro lZ tZ)) hcc)))
              clear hX rX lX tX hY rY lY tY hZ rZ lZ tZ hcc
              obtain ⟨b1, hb1⟩ : ∃ b1, decide (c ≤ 0) = b1 := ⟨_, rfl⟩
              obtain ⟨d, hd⟩ : ∃ d, Y.cp Z = d := ⟨_, rfl⟩
              obtain ⟨b2, hb2⟩ : ∃ b2, decide (d ≤ 0) = b2 := ⟨_, rfl⟩
              have HBB := Lib.hid (And.intro hb1 (And.intro hd hb2))
              clear hb1 hd hb2
              cases b1
              · go_upto_region 18 with fail
                refine voareg18 (by kernel_rfl) _ _ c rfl rfl HBB.out.1 ?_
                intro vs18 w18 hs hb a18 ha18
                simp only [voaD18, List.cons_append, List.nil_append, List.foldl_cons, List.foldl_nil, Act.put, List.setIfInBounds_toArray, List.set_cons_succ, List.set_cons_zero, hs] at ha18
                subst ha18
                have H18k := Lib.hid (HKc.out.later hb)
                have H18v := Lib.hid (HVc.out.later hb)
                have H18e := Lib.hid (later HEc.out hb)
                clear hs hb
                go_wp2_with fail
                go_roundw
                case rel => exact ⟨q + 1, by omega, by go_num, H18k.out, H18v.out, H18e.out⟩
                case measure => simp [intOf]; omega
              · cases b2
                · go_upto_region 18 with fail
                  refine vobreg18 (by kernel_rfl) _ _ h k q Ck Cj Y Z c d rfl rfl rfl rfl rfl HBB.out.1 HFI.out.2.1.1 HFI.out.2.1.2.1 HFI.out.2.1.2.2 hki hk0 HFI.out.2.2.1.1 HFI.out.2.2.1.2.1 HFI.out.2.2.1.2.2 hqi hq0 HBB.out.2.1 HBB.out.2.2 ?_
                  intro vs18 w18 hs hb a18 ha18
                  simp only [vobD18, List.cons_append, List.nil_append, List.foldl_cons, List.foldl_nil, Act.put, List.setIfInBounds_toArray, List.set_cons_succ, List.set_cons_zero, hs] at ha18
                  subst ha18
                  have H18k := Lib.hid (HKc.out.later hb)
                  have H18v := Lib.hid (HVc.out.later hb)
                  have H18e := Lib.hid (later HEc.out hb)
                  clear hs hb
                  go_wp2_with fail
                  go_roundw
                  case rel => exact ⟨q + 1, by omega, by go_num, H18k.out, H18v.out, H18e.out⟩
                  case measure => simp [intOf]; omega
                · go_upto_region 18 with fail
                  refine vocreg18 (by kernel_rfl) _ _ h i k q Ci Ck Cj X Y Z c d (X.cp Z) rfl rfl rfl rfl rfl rfl HBB.out.1 HFI.out.2.1.1 HFI.out.2.1.2.1 HFI.out.2.1.2.2 hki hk0 HFI.out.2.2.1.1 HFI.out.2.2.1.2.1 HFI.out.2.2.1.2.2 hqi hq0 HBB.out.2.1 HBB.out.2.2 HFI.out.1.1 HFI.out.1.2.1 HFI.out.1.2.2 hii hi0 rfl (by have h1 := HBB.out.1; have h2 := HBB.out.2.2; have h3 := HBB.out.2.1; have h4 := HFI.out.2.2.2; simp at h1 h2; have := cp_le (x := X) (y := Y) (z := Z) (by omega) (by omega); simp; omega) ?_
                  intro vs18 w18 hs hb a18 ha18
                  simp only [vocD18, List.cons_append, List.nil_append, List.foldl_cons, List.foldl_nil, Act.put, List.setIfInBounds_toArray, List.set_cons_succ, List.set_cons_zero, hs] at ha18
                  subst ha18
                  have H18k := Lib.hid (HKc.out.later hb)
                  have H18v := Lib.hid (HVc.out.later hb)
                  have H18e := Lib.hid (later HEc.out hb)
                  clear hs hb
                  go_wp2_with fail
                  go_roundw
                  case rel => exact ⟨q + 1, by omega, by go_num, H18k.out, H18v.out, H18e.out⟩
                  case measure => simp [intOf]; omega
            · have hqi : ¬ (q : Int) < 5 := by omega
              go_wp2_with fail
              go_roundw
              case rel => exact ⟨k + 1, by omega, by go_num, HKc.out, HVc.out, HEc.out⟩
              case measure => simp [intOf]; omega
        · have hki : ¬ (k : Int) < 5 := by omega
          go_wp2_with fail
          go_roundw
          case rel => exact ⟨i + 1, by omega, by go_num, HKb.out, HVb.out, HEb.out⟩
          case measure => simp [intOf]; omega
    · have hii : ¬ (i : Int) < 5 := by omega
      go_wp2_with (go_at_call 22; (with_reducible refine (lives_any _ HVa.out).mono ?_); rintro e w20 ⟨rfl, hb⟩; have HEND := Lib.hid (later HEa.out hb); clear hb)
      go_ret
      exact ⟨rfl, HEND.out⟩
end Go.Proofs.YtjbleefpafnhhaaDoor

namespace Go.Proofs.YtjbleefpafnhhaaDoor
open Go.ChangeShapes Go.WideShapes Go.ChangeAt Go.RowKit Go.Deep
theorem Tryd.own : ownKnob Tryd.prog.godebug = none := by kernel_rfl
theorem Tryd.laidOut : laidOutB Tryd.prog = true := by kernel_rfl
theorem rd_of_cells {w : World} {a : Addr} {xs : List Value} (h : ∀ j u, xs[j]? = some u → w.cell? (a.add j) = some u) : Rd w w.heap.size (some a) xs := by
  cases xs with
  | nil => exact Rd.nil _ _ _
  | cons x xs =>
    have h0 : w.cell? a = some x := by have := h 0 x rfl; simpa [Addr.add] using this
    have hlt := World.block_lt_of_cell? w _ h0
    obtain ⟨b, o, s⟩ := a
    have hs := World.cell?_spot h0
    simp at hs
    subst hs
    exact .inr ⟨b, o, rfl, hlt, fun j u hu => by
      have h2 := h j u hu
      have ha : (⟨b, o, none⟩ : Addr).add j = ⟨b, o + j, none⟩ := by unfold Addr.add; split <;> simp_all
      rwa [ha] at h2⟩
section
variable {H : Type} {enc : TypeId × Value → H} {w : World} {sp : Nat → Bool} {d : DataW H} {p : List MemPlace} {A : Option Addr} {len cap : Nat}
end
end Go.Proofs.YtjbleefpafnhhaaDoor

namespace Go.Proofs.YtjbleefpafnhhaaDoor
open Go.ChangeShapes Go.WideShapes Go.ChangeAt Go.RowKit Go.Deep
theorem elems_at {H : Type} {enc : TypeId × Value → H} {P : Program} {w : World} {base : Nat} {sp : Nat → Bool} {held : Bool} {fuel c : Nat} {t e : TypeId} {cs : List Value} {x : DataW H × List MemPlace}
    (ht : P.underlying t = some (.slice e)) (hc : P.cellsOf e = c) (h0 : 0 < c) (h : DataW.trod enc P w base sp held fuel t cs = some x) :
    ∃ A len cap, cs = [.slice A len cap] ∧ len ≤ cap ∧ cap ≤ maxLen ∧ ∀ i, i < len → ∃ g o cs' y n, A = some ⟨g, o, none⟩ ∧ w.rangeAt g (o + i * c) cs' ∧ cs'.length = c ∧ fuel = n + 1 ∧ DataW.trod enc P w base sp held n e cs' = some y := by
  rcases DataW.trod_slice ht h with ⟨rfl, _⟩ | ⟨a, len, cap, elems, rest, n, hf, rfl, _, _, hl, hm, hlen, hel, _, _⟩
  · exact ⟨none, 0, 0, rfl, Nat.le_refl _, by simp [maxLen], fun i hi => absurd hi (by omega)⟩
  · refine ⟨some a, len, cap, rfl, hl, hm, fun i hi => ?_⟩
    have h1 := hel i hi
    rw [List.getElem?_eq_getElem (by omega)] at h1
    obtain ⟨cs', h2, h3⟩ := Option.bind_eq_some_iff.1 h1
    rw [hc] at h2
    obtain ⟨_, h4, h5⟩ := World.cells?_some h2
    have hz := hel 0 (by omega)
    rw [List.getElem?_eq_getElem (by omega)] at hz
    obtain ⟨cz, z2, _⟩ := Option.bind_eq_some_iff.1 hz
    rw [hc] at z2
    obtain ⟨_, z4, z5⟩ := World.cells?_some z2
    have z50 := z5 0 h0
    rw [Addr.add_add, List.getElem?_eq_getElem (by omega)] at z50
    have hs := World.cell?_spot z50
    obtain ⟨b, o, s⟩ := a
    have hs : s = none := by simpa [Addr.add] using hs
    subst hs
    refine ⟨b, o, cs', elems[i], n, rfl, fun j u hu => ?_, h4, hf, h3⟩
    have h6 := h5 j (by have := (List.getElem?_eq_some_iff.1 hu).1; omega)
    rw [hu, Addr.add_add] at h6
    have ha : (⟨b, o, none⟩ : Addr).add (i * c + j) = ⟨b, o + i * c + j, none⟩ := by unfold Addr.add; split <;> simp_all [Nat.add_assoc]
    rwa [ha] at h6
instance : Inhabited Tr := ⟨.node 0 0 []⟩
instance : Inhabited Ty := ⟨.node 0 0 0 0 []⟩
instance : Inhabited Ex := ⟨.node 0 0 0 0 0 0 0 0 (.node 0 0 0 0 []) [] []⟩
instance : Inhabited Sl := ⟨⟨0, 0, 0, ⟨#[]⟩, .node 0 0 0 0 [], 0, 0⟩⟩
instance : Inhabited Df := ⟨⟨0, 0, 0, 0, 0, 0, 0, ⟨#[]⟩, [], .node 0 0 0 0 [], default, 0, []⟩⟩
theorem KsAt.mk {w : World} {A : Option Addr} : ∀ {xs : List Tr} {i : Nat}, (∀ j x, xs[j]? = some x → ∃ g o cs, A = some ⟨g, o, none⟩ ∧ w.rangeAt g (o + (i + j) * 3) cs ∧ TrAt w x (.agg cs.toArray)) → KsAt w A i xs
  | [], i, _ => by unfold KsAt; trivial
  | x :: xs, i, h => by
    unfold KsAt
    refine ⟨by simpa using h 0 x rfl, KsAt.mk fun j y hy => ?_⟩
    have := h (j + 1) y (by simpa using hy)
    rwa [show i + (j + 1) = i + 1 + j by omega] at this
theorem KtAt.mk {w : World} {A : Option Addr} : ∀ {xs : List Ty} {i : Nat}, (∀ j x, xs[j]? = some x → ∃ g o cs, A = some ⟨g, o, none⟩ ∧ w.rangeAt g (o + (i + j) * 5) cs ∧ TyAt w x (.agg cs.toArray)) → KtAt w A i xs
  | [], i, _ => by unfold KtAt; trivial
  | x :: xs, i, h => by
    unfold KtAt
    refine ⟨by simpa using h 0 x rfl, KtAt.mk fun j y hy => ?_⟩
    have := h (j + 1) y (by simpa using hy)
    rwa [show i + (j + 1) = i + 1 + j by omega] at this
theorem KxAt.mk {w : World} {A : Option Addr} : ∀ {xs : List Ex} {i : Nat}, (∀ j x, xs[j]? = some x → ∃ g o cs, A = some ⟨g, o, none⟩ ∧ w.rangeAt g (o + (i + j) * 15) cs ∧ ExAt w x cs) → KxAt w A i xs
  | [], i, _ => by unfold KxAt; trivial
  | x :: xs, i, h => by
    unfold KxAt
    refine ⟨by simpa using h 0 x rfl, KxAt.mk fun j y hy => ?_⟩
    have := h (j + 1) y (by simpa using hy)
    rwa [show i + (j + 1) = i + 1 + j by omega] at this
theorem map_get {α : Type} {n : Nat} {f : Nat → α} {j : Nat} {x : α} (h : ((List.range n).map f)[j]? = some x) : j < n ∧ x = f j := by
  have hj := (List.getElem?_eq_some_iff.1 h).1
  simp at hj
  simp [List.getElem?_range hj] at h
  exact ⟨hj, h.symm⟩
theorem ir_of {n : Int} (h : (Lit.int .i64 n).wf = true) : i64r n := by have := bounds_i64 h; unfold i64r; omega
theorem Tryd.cVal : Tryd.prog.cellsOf 53 = 3 := by kernel_rfl
theorem Tryd.cVs : Tryd.prog.cellsOf 51 = 1 := by kernel_rfl
theorem Tryd.cI : Tryd.prog.cellsOf 3 = 1 := by kernel_rfl
section
variable {H : Type} {enc : TypeId × Value → H} {w : World} {sp : Nat → Bool} {held : Bool} {base : Nat}
theorem fld {fs : Array Field} {xs : List (DataW H × List MemPlace)} {n : Nat} {cs : List Value} (hlen : xs.length = fs.size)
    (hf : ∀ (i : Nat) (f : Field), fs[i]? = some f → DataW.trod enc Tryd.prog w base sp held n f.type ((cs.drop f.offset).take (Tryd.prog.cellsOf f.type)) = xs[i]?)
    (i : Nat) (T : TypeId) (o c : Nat) (h : ∃ f, fs[i]? = some f ∧ f.type = T ∧ f.offset = o) (hc : Tryd.prog.cellsOf T = c) : ∃ y, DataW.trod enc Tryd.prog w base sp held n T ((cs.drop o).take c) = some y := by
  obtain ⟨f, h1, rfl, rfl⟩ := h
  rw [← hc, hf i f h1]
  have hi : i < fs.size := (Array.getElem?_eq_some_iff.1 h1).1
  exact ⟨_, List.getElem?_eq_getElem (by rw [hlen]; exact hi)⟩
theorem seg (cs : List Value) (o c p : Nat) (h : o + c = p) : cs.drop o = (cs.drop o).take c ++ cs.drop p := by
  rw [← h, ← List.drop_drop, List.take_append_drop]
theorem fld_int {n : Nat} {cs : List Value} {y : DataW H × List MemPlace} (h : DataW.trod enc Tryd.prog w base sp held n 3 cs = some y) : ∃ k, cs = [.int .i64 k] ∧ i64r k := by
  obtain ⟨k, h1, _, h2⟩ := DataW.trod_int Tryd.underlying3 h
  exact ⟨k, h1, ir_of h2⟩
theorem open_tr : ∀ (m : Nat) (cs : List Value) (x : DataW H × List MemPlace), DataW.trod enc Tryd.prog w base sp held m 53 cs = some x → ∃ y : Tr, TrAt w y (.agg cs.toArray) := by
  intro m
  induction m using Nat.strongRecOn with
  | _ m ih =>
    intro cs x h
    obtain ⟨xs, n, hn, _, hl, hlen, hf⟩ := DataW.trod_struct Tryd.underlying53 h
    rw [Tryd.cVal] at hl
    obtain ⟨y0, h0⟩ := fld hlen hf 0 3 0 1 ⟨_, rfl, rfl, rfl⟩ Tryd.cI
    obtain ⟨k, e0, hk⟩ := fld_int h0
    obtain ⟨y1, h1⟩ := fld hlen hf 1 3 1 1 ⟨_, rfl, rfl, rfl⟩ Tryd.cI
    obtain ⟨v, e1, hv⟩ := fld_int h1
    obtain ⟨y2, h2⟩ := fld hlen hf 2 51 2 1 ⟨_, rfl, rfl, rfl⟩ Tryd.cVs
    obtain ⟨A, len, cap, e2, hl1, hl2, hel⟩ := elems_at Tryd.underlying51 Tryd.cVal (by omega) h2
    clear h0 h1 h2 hf hlen
    have hcs : cs = c3 k v A len cap := by
      have s0 := seg cs 0 1 1 rfl
      have s1 := seg cs 1 1 2 rfl
      have s2 := seg cs 2 1 3 rfl
      rw [e2, List.drop_of_length_le (i := 3) (by omega)] at s2
      rw [e1, s2] at s1
      rw [e0, s1] at s0
      exact s0
    have each : ∀ i, i < len → ∃ z : Tr, ∃ g o cs', A = some ⟨g, o, none⟩ ∧ w.rangeAt g (o + i * 3) cs' ∧ TrAt w z (.agg cs'.toArray) := by
      intro i hi
      obtain ⟨g, o, cs', y', n', hA, hr, _, hn', ht⟩ := hel i hi
      obtain ⟨z, hz⟩ := ih n' (by omega) cs' y' ht
      exact ⟨z, g, o, cs', hA, hr, hz⟩
    obtain ⟨f, hf⟩ := choose_lt each
    refine ⟨.node k v ((List.range len).map f), ?_⟩
    unfold TrAt
    refine ⟨A, cap, by rw [hcs]; simp, ⟨by simpa using hl1, hl2, hk, hv⟩, KsAt.mk fun j x hx => ?_⟩
    obtain ⟨hj, rfl⟩ := map_get hx
    rw [Nat.zero_add]
    exact hf j hj
end
end Go.Proofs.YtjbleefpafnhhaaDoor

namespace Go.Proofs.YtjbleefpafnhhaaDoor
open Go.ChangeShapes Go.WideShapes Go.ChangeAt Go.RowKit Go.Deep
theorem Tryd.cellsI : Tryd.prog.cellsOf 3 = 1 := by kernel_rfl
theorem Tryd.bytesI : Tryd.prog.bytesOf 3 = 8 := by kernel_rfl
theorem reach_num : reachBytes = 140737488351232 := by decide
section
variable {H : Type} {enc : TypeId × Value → H} {w : World} {sp : Nat → Bool} {d : DataW H} {p : List MemPlace} {A : Option Addr} {len cap : Nat}
theorem open_iv (hd : DataW.Trod enc Tryd.prog w 0 sp true 22 (.slice A len cap) d p) :
    ∃ zs : List Int, len = zs.length ∧ Rd w w.heap.size A (iv zs) ∧ (∀ x ∈ zs, InR x) ∧ len ≤ cap ∧ cap ≤ maxLen ∧ ((len = 0 ∧ d = .nil) ∨ ∃ es rs, d = .slice es rs ∧ es.length = len) := by
  obtain ⟨fuel, hf⟩ := hd
  rcases open_ints Tryd.underlying22 Tryd.underlying3 Tryd.cellsI hf with ⟨hcs, hx⟩ | ⟨a, l, c, zs, hcs, _, hl, hm, hz, hx, hcell, hwz⟩
  · simp [Value.cells] at hcs
    obtain ⟨rfl, rfl, rfl⟩ := hcs
    exact ⟨[], rfl, Rd.nil _ _ _, by simp, Nat.le_refl _, by simp [maxLen], .inl ⟨rfl, by cases hx; rfl⟩⟩
  · simp [Value.cells] at hcs
    obtain ⟨rfl, rfl, rfl⟩ := hcs
    have hzl : len ≤ zs.length := by rw [hz]; split <;> omega
    refine ⟨zs.take len, by simp; omega, rd_of_cells ?_, ?_, hl, hm, .inr ⟨lits .i64 (zs.take len), lits .i64 (zs.drop len), by cases hx; rfl, by simp [lits]; omega⟩⟩
    · intro j u hu
      have hj : j < len := by have := (List.getElem?_eq_some_iff.1 hu).1; simp [iv] at this; omega
      rw [hcell j (by omega)]
      simp only [iv, List.getElem?_map, List.getElem?_take, hj, if_true, List.getElem?_eq_getElem (show j < zs.length by omega), Option.map_some, Option.some.injEq] at hu
      rw [← hu]
      simp [List.getD, List.getElem?_eq_getElem (show j < zs.length by omega)]
    · intro x hx
      have := bounds_i64 (hwz x (List.mem_of_mem_take hx))
      exact ⟨by omega, by omega⟩
end
theorem int_of_trod {H : Type} {enc : TypeId × Value → H} {P : Program} {w : World} {base : Nat} {sp : Nat → Bool} {held : Bool} {fuel : Nat} {t : TypeId} {k : IntKind} {c : Value} {y : DataW H × List MemPlace}
    (ht : P.underlying t = some (.int k)) (h : DataW.trod enc P w base sp held fuel t [c] = some y) : ∃ n, c = .int k n ∧ y = (.lit (.int k n), []) := by
  cases fuel with
  | zero => simp [DataW.trod] at h
  | succ fuel =>
    cases c <;> simp [DataW.trod, ht] at h
    rename_i k' n
    obtain ⟨⟨rfl, _⟩, rfl⟩ := h
    exact ⟨n, rfl, rfl⟩
theorem mapM_get {α β : Type} (f : α → Option β) : ∀ (l : List α) (ys : List β), l.mapM f = some ys → ∀ (j : Nat) (x : α), l[j]? = some x → ∃ y, ys[j]? = some y ∧ f x = some y
  | [], ys, h, j, x, hx => by simp at hx
  | a :: r, ys, h, j, x, hx => by
    simp only [List.mapM_cons, Option.bind_eq_bind, Option.bind_eq_some_iff, Option.pure_def, Option.some.injEq] at h
    obtain ⟨y, hy, zs, hz, rfl⟩ := h
    cases j with
    | zero => simp at hx; subst hx; exact ⟨y, rfl, hy⟩
    | succ j => exact mapM_get f r zs hz j x (by simpa using hx)
theorem ints_of_trod {H : Type} {enc : TypeId × Value → H} {P : Program} {w : World} {base : Nat} {sp : Nat → Bool} {held : Bool} {fuel n : Nat} {t e : TypeId} {k : IntKind} {l : List Value} {ks : List Nat} {p : List MemPlace}
    (ht : P.underlying t = some (.array n e)) (he : P.underlying e = some (.int k)) (hc : P.cellsOf t = n) (hc1 : P.cellsOf e = 1) (hn : ks.length = n)
    (h : DataW.trod enc P w base sp held fuel t l = some (.agg (ks.map fun (x : Nat) => .lit (.int k (x : Int))), p)) : ∀ (j x : Nat), ks[j]? = some x → l[j]? = some (.int k (x : Int)) := by
  cases fuel with
  | zero => simp [DataW.trod] at h
  | succ fuel =>
    simp only [DataW.trod, ht, hc, hc1] at h
    split at h
    · rename_i hl
      obtain ⟨ys, hys, hag⟩ := Option.map_eq_some_iff.1 h
      have h1 : ys.map (fun x => x.fst) = ks.map fun (x : Nat) => (.lit (.int k (x : Int)) : DataW H) := by
        have := congrArg Prod.fst hag
        simpa using this
      intro j x hx
      have hj : j < n := by rw [← hn]; exact (List.getElem?_eq_some_iff.1 hx).1
      obtain ⟨y, hy, hf⟩ := mapM_get _ _ _ hys j j (by rw [List.getElem?_range hj])
      have hjl : j < l.length := by omega
      rw [Nat.mul_one, List.drop_eq_getElem_cons hjl, List.take_succ_cons, List.take_zero] at hf
      obtain ⟨m, hm, rfl⟩ := int_of_trod he hf
      have h2 := congrArg (fun q => q[j]?) h1
      simp only [List.getElem?_map, hy, hx, Option.map_some, Option.some.injEq, DataW.lit.injEq, Lit.int.injEq] at h2
      rw [List.getElem?_eq_getElem hjl, hm]
      simp at h2
      rw [h2]
    · cases h
theorem glob_pk : Tryd.prog.globalNamed "splicery/value.plainKinds" = some 0 := by kernel_rfl
theorem type_pk : (Tryd.prog.globals[(0 : Nat)]?).map (·.type) = some 110 := by kernel_rfl
theorem glob_dk : Tryd.prog.globalNamed "splicery/value.dataKinds" = some 1 := by kernel_rfl
theorem type_dk : (Tryd.prog.globals[(1 : Nat)]?).map (·.type) = some 130 := by kernel_rfl
theorem cells_a3 : Tryd.prog.cellsOf 110 = 3 := by kernel_rfl
theorem cells_a2 : Tryd.prog.cellsOf 130 = 2 := by kernel_rfl
theorem laid_pk_eq {H : Type} : (Rows.laid_splicery_value_plainKinds : DataW H) = .agg (([0, 1, 4] : List Nat).map fun (x : Nat) => .lit (.int .i64 (x : Int))) := rfl
theorem laid_dk_eq {H : Type} : (Rows.laid_splicery_value_dataKinds : DataW H) = .agg (([2, 3] : List Nat).map fun (x : Nat) => .lit (.int .i64 (x : Int))) := rfl
abbrev LAIDV : List (String × DataW Unit) := [("splicery/value.plainKinds", Rows.laid_splicery_value_plainKinds), ("splicery/value.dataKinds", Rows.laid_splicery_value_dataKinds)]
set_option maxRecDepth 100000 in
theorem Kv_of_laid {W : World} (h : laidMet Tryd.prog LAIDV W) : Kv W := by
  obtain ⟨ps, ⟨g, t, cs, fuel, p, q, hg, ht, hvar, hd, ⟨g2, t2, cs2, fuel2, p2, q2, hg2, ht2, hvar2, hd2, _, _⟩, _⟩, _⟩ := h
  obtain rfl := Option.some.inj (glob_pk.symm.trans hg)
  obtain rfl := Option.some.inj (type_pk.symm.trans ht)
  obtain rfl := Option.some.inj (glob_dk.symm.trans hg2)
  obtain rfl := Option.some.inj (type_dk.symm.trans ht2)
  rw [laid_pk_eq] at hd
  rw [laid_dk_eq] at hd2
  have hall := ints_of_trod Tryd.underlying110 Tryd.underlying3 cells_a3 Tryd.cellsI rfl hd
  have hall2 := ints_of_trod Tryd.underlying130 Tryd.underlying3 cells_a2 Tryd.cellsI rfl hd2
  have hcell : ∀ (j x : Nat), ([0, 1, 4] : List Nat)[j]? = some x → W.cell? ⟨0, j, none⟩ = some (.int .i64 (x : Int)) := fun j x hx => by
    have h1 := World.var?_cell glob_pk hvar j
    rw [h1]
    have h2 := hall j x hx
    simpa using h2
  have hcell2 : ∀ (j x : Nat), ([2, 3] : List Nat)[j]? = some x → W.cell? ⟨1, j, none⟩ = some (.int .i64 (x : Int)) := fun j x hx => by
    have h1 := World.var?_cell glob_dk hvar2 j
    rw [h1]
    have h2 := hall2 j x hx
    simpa using h2
  have h1 := World.block_lt_of_cell? W _ (hcell 0 0 rfl)
  have h2 := World.block_lt_of_cell? W _ (hcell2 0 2 rfl)
  simp at h1 h2
  exact ⟨by omega, hcell 0 0 rfl, hcell 1 1 rfl, hcell 2 4 rfl, hcell2 0 2 rfl, hcell2 1 3 rfl⟩
end Go.Proofs.YtjbleefpafnhhaaDoor

