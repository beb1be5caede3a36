import Derived.Test.YtjbleefpafnhhaaDoorY01
import Derived.Test.YtjbleefpafnhhaaDoorY05
import Derived.Test.YtjbleefpafnhhaaDoorY33
import Derived.Test.YtjbleefpafnhhaaDoorY40
import Derived.Test.YtjbleefpafnhhaaDoorY41
import Derived.ProofKit
import Derived.OpenShut
import Derived.ShutString
import Derived.ChangeOld
import Derived.SizedLaws
import Derived.Deep.Slices
import Derived.Test.YtjbleefpafnhhaaDoorRows
import Derived.SliceStrings
import Derived.ChangeMaps5
import Derived.ChangeSame
import Derived.ChangeVars
import Derived.JoinedOf
import Derived.RowKit
set_option linter.unusedVariables false
set_option linter.unusedSimpArgs false
namespace Go.Proofs.YtjbleefpafnhhaaDoor
open Go.RowKit
theorem own_shape3 {w : World} {base : Nat} {v : Value} {xs : List Nat} (h : OwnB w base v xs) : ∃ A n c, v = .slice A n c ∧ Hid (n = xs.length ∧ n ≤ c ∧ c ≤ maxLen) := by
  obtain ⟨A, cap, hv, h1, h2⟩ := h.shape
  exact ⟨A, _, cap, hv, Lib.hid ⟨rfl, h1, h2⟩⟩
def RowRes2 (xs : List Nat) (w : World) (e : Ending) (w' : World) : Prop := ∃ A n c, e = .returned (.slice A n c) ∧ Hid (n = xs.length ∧ n ≤ c ∧ c ≤ maxLen) ∧ OwnB w' w.heap.size (.slice A n c) xs ∧ Below w.heap.size w w'
theorem encode_row (x : Tr) (hx : BV x) (w : World) (v : Value) (h : TrAt w x v) : Calls Tryd.prog 38 #[v] w (RowRes2 x.en w) := by
  refine (encode_any x w v h (by have := hx.len; omega)).mono ?_
  rintro e w' ⟨v', rfl, ho, hb⟩
  obtain ⟨A, n, c, rfl, hn⟩ := own_shape3 ho
  exact ⟨A, n, c, rfl, hn, ho, hb⟩
theorem few_row (A : Option Addr) (n cap B : Nat) (l : List Nat) (w : World) (hn : n = l.length) (hr : Rd w B A (bs l)) (hcap : n ≤ cap ∧ cap ≤ maxLen) : Calls Tryd.prog 39 #[.slice A n cap, .int .i64 30] w (RowRes2 (l.take 30) w) := by
  refine (BFew_any A n cap B l w hn hr hcap).mono ?_
  rintro e w' ⟨v', rfl, ho, hb⟩
  obtain ⟨A, n, c, rfl, hn⟩ := own_shape3 ho
  exact ⟨A, n, c, rfl, hn, ho, hb⟩
structure BS (W : World) (P : List Df) (mv dv : Value) (gP gT j : Nat) : Prop where
  hp : W.rangeAt gP 0 [mv, dv]
  hpr : PrAt W P (.agg #[mv, dv])
  ht : W.rangeAt gT 0 [.int .i64 3, .int .i64 0, .int .i64 1, .int .i64 (1 + (j : Int)), .slice none 0 0]
  hk : Kv W
  hc : Kc W
theorem BS.later {W W' : World} {P : List Df} {mv dv : Value} {gP gT j : Nat} (h : BS W P mv dv gP gT j) (hb : Below W.heap.size W W') : BS W' P mv dv gP gT j := ⟨range_below h.hp hb, h.hpr.later hb, range_below h.ht hb, h.hk.later hb, h.hc.later hb⟩
theorem bv_of {W : World} {P : List Df} {t : Ty} {x : Tr} {v : Value} (h : TrAt W x v) (hF : ft P x t = true ∧ x.nodes ≤ 256 ∧ x.dep ≤ 10) : BV x := ⟨h.ok, hF.2.1, by omega⟩
set_option maxHeartbeats 8000000 in
set_option maxRecDepth 100000 in
theorem ValueBytes_any (l0 c0 l1 c1 l2 c2 l3 c3 : Nat) (A0 A1 A2 A3 : Option Addr) (z0 z1 z2 : List Int) (z3 : List Nat) (w : World) (hN0 : Nums w z0 A0 l0) (hN1 : Nums w z1 A1 l1) (hN2 : Nums w z2 A2 l2)
    (hR3 : Rd w w.heap.size A3 (bs z3)) (hm3 : l3 = z3.length) (hcap3 : l3 ≤ c3 ∧ c3 ≤ maxLen) (hz3 : ∀ x ∈ z3, x < 256) (hK : Kv w) (hKc : Kc w) :
    Calls Tryd.prog 8 #[.slice A0 l0 c0, .slice A1 l1 c1, .slice A2 l2 c2, .slice A3 l3 c3] w (BRes true w) := by
  have HTY := Lib.hid (Types_pr z0 A0 l0 c0 w hN0)
  have HN1 := Lib.hid hN1
  have HN2 := Lib.hid hN2
  have HR3 := Lib.hid hR3
  have HM3 := Lib.hid (And.intro hm3 (And.intro hcap3 hz3))
  have HKV := Lib.hid hK
  have HKC := Lib.hid hKc
  clear hN0 hN1 hN2 hR3 hm3 hcap3 hz3 hK hKc
  go_enter Tryd.func8, Tryd.ntmps8
  go_upto_region 1 with fail
  go_upto_region 2 with (first
    | (go_at_call 10; (with_reducible refine HTY.out.mono ?_); rintro e w1 ⟨P, mv, gd0, o, n, cap, hn, rfl, hP, hmv, hS, _, hb⟩; have HNN := Lib.hid hn; have HP1 := Lib.hid hP; have HMV := Lib.hid hmv; have HS := Lib.hid hS; have HB1 := Lib.hid hb; clear hn hP hmv hS hb HTY)
    | (refine wpList_store_arr rfl _ (.tmp 9) (.tmp 23) rfl w1.heap.size 0 2 26 _ [mv, .slice (some ⟨gd0, o, none⟩) n cap] [.slice none 0 0, .slice none 0 0] rfl rfl rfl (p2_new w1 _ _) (show 0 + 2 ≤ 2 by omega) info_prog (by intro v hv; simp at hv; rcases hv with rfl | rfl; exact HMV.out; rfl) ?_; intro w2 f2 o2; rw [setAll_all [.slice none 0 0, .slice none 0 0] [mv, .slice (some ⟨gd0, o, none⟩) n cap] rfl] at f2; have HP2 := Lib.hid f2; have HO2 := Lib.hid ((new_later w1 _).trans (o2.bel.mono (Nat.le_refl _))); clear f2 o2))
  obtain ⟨j, hj⟩ : ∃ j, n = j + 1 := ⟨n - 1, by have := HNN.out; have := HS.out.len; omega⟩
  subst hj
  have hjn : j < P.length := by have := HNN.out; omega
  have hj3 : (j : Int) ≤ 3 := by have := HS.out.len; omega
  have hj0 : (0 : Int) ≤ (j : Int) := by omega
  have HB2 := Lib.hid (later HB1.out HO2.out)
  have HPr2 := Lib.hid (HP1.out.later HO2.out)
  generalize w1.heap.size = gP at HP2 ⊢
  have x1 := HP2.out.cell (j := 1) (v := (.slice (some ⟨gd0, o, none⟩) (j + 1) cap)) rfl
  obtain ⟨C, hCr, hCd⟩ := pr_get HPr2.out hjn
  obtain ⟨R, hR⟩ := df_id hCd
  have hid3 := HS.out.ids j _ (List.getElem?_eq_getElem hjn)
  rw [hid3.1, hid3.2.1, hid3.2.2] at hR
  have HG0 : Hid (w2.rangeAt gd0 (o + j * 31) [.int .i64 0, .int .i64 1, .int .i64 (1 + (j : Int))]) := Lib.hid (range_left (ys := R) (by rw [← hR]; exact hCr))
  have HII : Hid ((Tryd.prog.info? 28).map (·.size) = some ([.int .i64 0, .int .i64 1, .int .i64 (1 + (j : Int))] : List Value).length) := Lib.hid info_id
  have HOF : Hid (∀ W, Calls Tryd.prog 14 #[.agg #[.int .i64 0, .int .i64 1, .int .i64 (1 + (j : Int))]] W fun e w' => e = .returned (.agg #[.int .i64 3, .int .i64 0, .int .i64 1, .int .i64 (1 + (j : Int)), .slice none 0 0]) ∧ Below W.heap.size W w') := Lib.hid fun W => Of_any 0 1 (1 + (j : Int)) W
  clear hCr hCd hR hid3
  go_upto_region 3 with (first
    | (with_reducible refine wpList_load_mid rfl _ (.tmp 31) rfl gd0 (o + j * 31) rfl [.int .i64 0, .int .i64 1, .int .i64 (1 + (j : Int))] _ HG0.out Tryd.underlying28 rfl HII.out ?_)
    | (go_at_call 14; (with_reducible refine (HOF.out _).mono ?_); rintro e w3 ⟨rfl, hb⟩; have HB3 := Lib.hid hb; clear hb)
    | (refine wpList_store_arr rfl _ (.tmp 10) (.tmp 33) rfl w3.heap.size 0 5 31 _ [.int .i64 3, .int .i64 0, .int .i64 1, .int .i64 (1 + (j : Int)), .slice none 0 0] [.int .i64 0, .int .i64 0, .int .i64 0, .int .i64 0, .slice none 0 0] rfl rfl rfl (t5_new w3 0 0 0 0 none 0 0) (show 0 + 5 ≤ 5 by omega) info_typesz (List.all_eq_true.mp (by rfl)) ?_; intro w4 f o; rw [setAll_all [.int .i64 0, .int .i64 0, .int .i64 0, .int .i64 0, .slice none 0 0] [.int .i64 3, .int .i64 0, .int .i64 1, .int .i64 (1 + (j : Int)), .slice none 0 0] rfl] at f; have HR4 := Lib.hid f.range; have HO4 := Lib.hid (later HB3.out ((new_later w3 (.cells #[.int .i64 0, .int .i64 0, .int .i64 0, .int .i64 0, .slice none 0 0] 31)).trans (o.bel.mono (Nat.le_refl _)))); clear f o))
  have HE4 := Lib.hid (later HB2.out HO4.out)
  generalize w3.heap.size = gT at HR4 ⊢
  have HS4 : Hid (BS w4 P mv (.slice (some ⟨gd0, o, none⟩) (j + 1) cap) gP gT j) := Lib.hid ⟨range_below HP2.out.range HO4.out, HPr2.out.later HO4.out, HR4.out, HKV.out.later HE4.out, HKC.out.later HE4.out⟩
  clear x1 HG0 HII HOF HB3 HO4 HR4 HP2 HPr2 HB2 HB1 HO2 HP1 HKV HKC
  have HIP : Hid ((Tryd.prog.info? 26).map (·.size) = some ([mv, (.slice (some ⟨gd0, o, none⟩) (j + 1) cap)] : List Value).length) := Lib.hid info_prog
  have HIT : Hid ((Tryd.prog.info? 31).map (·.size) = some ([.int .i64 3, .int .i64 0, .int .i64 1, .int .i64 (1 + (j : Int)), .slice none 0 0] : List Value).length) := Lib.hid info_typesz
  have HVw4 : Hid (Calls Tryd.prog 23 #[.agg #[mv, (.slice (some ⟨gd0, o, none⟩) (j + 1) cap)], .agg #[.int .i64 3, .int .i64 0, .int .i64 1, .int .i64 (1 + (j : Int)), .slice none 0 0], .slice A1 l1 c1] w4 (VVal P (tD j) w4)) := Lib.hid (Value_any P HS.out z1 j hjn w4 _ _ A1 l1 c1 HS4.out.hpr (ty_now 3 0 1 (1 + (j : Int)) (by unfold i64r; omega) (by unfold i64r; omega) (by unfold i64r; omega) (by unfold i64r; omega) w4) (HN1.out.later HE4.out))
  have HPP := Lib.hid HS4.out.hp
  have HTT := Lib.hid HS4.out.ht
  go_upto_region 4 with (first
    | (with_reducible refine wpList_load_mid rfl _ (.tmp 9) rfl gP 0 rfl [mv, (.slice (some ⟨gd0, o, none⟩) (j + 1) cap)] _ HPP.out Tryd.underlying26 rfl HIP.out ?_)
    | (with_reducible refine wpList_load_mid rfl _ (.tmp 10) rfl gT 0 rfl [.int .i64 3, .int .i64 0, .int .i64 1, .int .i64 (1 + (j : Int)), .slice none 0 0] _ HTT.out Tryd.underlying31 rfl HIT.out ?_)
    | (go_at_call 23; (with_reducible refine HVw4.out.mono ?_); rintro e w4v ⟨x, xxk, xxn, xxA, xxl, xxc, rfl, hT, hF, hb⟩; have HT := Lib.hid hT.at_; have HFx := Lib.hid hF; have HB := Lib.hid hb; clear hT hF hb HVw4)
    | (refine wpList_store_arr rfl _ (.tmp 11) (.tmp 37) rfl w4v.heap.size 0 3 53 _ [.int .i64 xxk, .int .i64 xxn, .slice xxA xxl xxc] [.int .i64 0, .int .i64 0, .slice none 0 0] rfl rfl rfl (Arr.new' w4v _ _ 3 _ rfl rfl (by decide)) (show 0 + 3 ≤ 3 by omega) info_val (List.all_eq_true.mp (by rfl)) ?_; intro w5 f o; rw [setAll_all [.int .i64 0, .int .i64 0, .slice none 0 0] [.int .i64 xxk, .int .i64 xxn, .slice xxA xxl xxc] rfl] at f; have HO := Lib.hid ((new_later w4v (.cells #[.int .i64 0, .int .i64 0, .slice none 0 0] 53)).trans (o.bel.mono (Nat.le_refl _))); have HFR := Lib.hid f.range; clear f o))
  have HBX := Lib.hid (later HB.out HO.out)
  have HV_x : Hid (VarAt w5 w4v.heap.size x [.int .i64 xxk, .int .i64 xxn, .slice xxA xxl xxc]) := Lib.hid ⟨HFR.out, rfl, HT.out.later HO.out⟩
  have HBVx := Lib.hid (bv_of HT.out HFx.out)
  generalize w4v.heap.size = gx at HV_x ⊢
  generalize hC : ([.int .i64 xxk, .int .i64 xxn, .slice xxA xxl xxc] : List Value) = Cx at HV_x
  clear hC HT HFx HFR HO HB HPP HTT
  have HS5 := Lib.hid (HS4.out.later HBX.out)
  have HE5 := Lib.hid (later HE4.out HBX.out)
  clear HS4 HE4 HBX HN1
  have HVw5 : Hid (Calls Tryd.prog 23 #[.agg #[mv, (.slice (some ⟨gd0, o, none⟩) (j + 1) cap)], .agg #[.int .i64 3, .int .i64 0, .int .i64 1, .int .i64 (1 + (j : Int)), .slice none 0 0], .slice A2 l2 c2] w5 (VVal P (tD j) w5)) := Lib.hid (Value_any P HS.out z2 j hjn w5 _ _ A2 l2 c2 HS5.out.hpr (ty_now 3 0 1 (1 + (j : Int)) (by unfold i64r; omega) (by unfold i64r; omega) (by unfold i64r; omega) (by unfold i64r; omega) w5) (HN2.out.later HE5.out))
  have HPP := Lib.hid HS5.out.hp
  have HTT := Lib.hid HS5.out.ht
  go_upto_region 5 with (first
    | (with_reducible refine wpList_load_mid rfl _ (.tmp 9) rfl gP 0 rfl [mv, (.slice (some ⟨gd0, o, none⟩) (j + 1) cap)] _ HPP.out Tryd.underlying26 rfl HIP.out ?_)
    | (with_reducible refine wpList_load_mid rfl _ (.tmp 10) rfl gT 0 rfl [.int .i64 3, .int .i64 0, .int .i64 1, .int .i64 (1 + (j : Int)), .slice none 0 0] _ HTT.out Tryd.underlying31 rfl HIT.out ?_)
    | (go_at_call 23; (with_reducible refine HVw5.out.mono ?_); rintro e w5v ⟨y, yyk, yyn, yyA, yyl, yyc, rfl, hT, hF, hb⟩; have HT := Lib.hid hT.at_; have HFy := Lib.hid hF; have HB := Lib.hid hb; clear hT hF hb HVw5)
    | (refine wpList_store_arr rfl _ (.tmp 12) (.tmp 41) rfl w5v.heap.size 0 3 53 _ [.int .i64 yyk, .int .i64 yyn, .slice yyA yyl yyc] [.int .i64 0, .int .i64 0, .slice none 0 0] rfl rfl rfl (Arr.new' w5v _ _ 3 _ rfl rfl (by decide)) (show 0 + 3 ≤ 3 by omega) info_val (List.all_eq_true.mp (by rfl)) ?_; intro w6 f o; rw [setAll_all [.int .i64 0, .int .i64 0, .slice none 0 0] [.int .i64 yyk, .int .i64 yyn, .slice yyA yyl yyc] rfl] at f; have HO := Lib.hid ((new_later w5v (.cells #[.int .i64 0, .int .i64 0, .slice none 0 0] 53)).trans (o.bel.mono (Nat.le_refl _))); have HFR := Lib.hid f.range; clear f o))
  have HBX := Lib.hid (later HB.out HO.out)
  have HV_y : Hid (VarAt w6 w5v.heap.size y [.int .i64 yyk, .int .i64 yyn, .slice yyA yyl yyc]) := Lib.hid ⟨HFR.out, rfl, HT.out.later HO.out⟩
  have HBVy := Lib.hid (bv_of HT.out HFy.out)
  generalize w5v.heap.size = gy at HV_y ⊢
  generalize hC : ([.int .i64 yyk, .int .i64 yyn, .slice yyA yyl yyc] : List Value) = Cy at HV_y
  clear hC HT HFy HFR HO HB HPP HTT
  have HS6 := Lib.hid (HS5.out.later HBX.out)
  have HE6 := Lib.hid (later HE5.out HBX.out)
  have HX6 := Lib.hid (HV_x.out.later HBX.out)
  clear HS5 HE5 HBX HN2 HV_x HIP HIT
  have HIX : Hid ((Tryd.prog.info? 53).map (·.size) = some Cx.length) := Lib.hid (by rw [HX6.out.ln]; exact info_val)
  have HRX := Lib.hid HX6.out.rg
  have HEN := Lib.hid (encode_row x HBVx.out w6 _ HX6.out.tr)
  go_upto_region 6 with (first
    | (with_reducible refine wpList_load_mid rfl _ (.tmp 11) rfl gx 0 rfl Cx _ HRX.out Tryd.underlying53 rfl HIX.out ?_)
    | (go_at_call 38; (with_reducible refine HEN.out.mono ?_); rintro e w7 ⟨Aa, la, ca, rfl, hn, ho, hb⟩; have HLa := hn; have HOa := Lib.hid ho; have HBX := Lib.hid hb; clear hn ho hb))
  clear HIX HRX HEN
  have HS7 := Lib.hid (HS6.out.later HBX.out)
  have HE7 := Lib.hid (later HE6.out HBX.out)
  have HX7 := Lib.hid (HX6.out.later HBX.out)
  have HY7 := Lib.hid (HV_y.out.later HBX.out)
  clear HS6 HE6 HX6 HV_y HBX
  have HIX : Hid ((Tryd.prog.info? 53).map (·.size) = some Cy.length) := Lib.hid (by rw [HY7.out.ln]; exact info_val)
  have HRX := Lib.hid HY7.out.rg
  have HEN := Lib.hid (encode_row y HBVy.out w7 _ HY7.out.tr)
  go_upto_region 7 with (first
    | (with_reducible refine wpList_load_mid rfl _ (.tmp 12) rfl gy 0 rfl Cy _ HRX.out Tryd.underlying53 rfl HIX.out ?_)
    | (go_at_call 38; (with_reducible refine HEN.out.mono ?_); rintro e w8 ⟨Ab, lb, cb, rfl, hn, ho, hb⟩; have HLb := hn; have HOb := Lib.hid ho; have HBX := Lib.hid hb; clear hn ho hb))
  clear HIX HRX HEN
  have HS8 := Lib.hid (HS7.out.later HBX.out)
  have HE8 := Lib.hid (later HE7.out HBX.out)
  have HX8 := Lib.hid (HX7.out.later HBX.out)
  have HY8 := Lib.hid (HY7.out.later HBX.out)
  have HA8 := Lib.hid (HOa.out.below HBX.out)
  clear HS7 HE7 HX7 HY7 HBX HOa
  have HMD : Hid ((w8.alloc (.cells #[] 5)).ownsRow w8.heap.size 5 1 (.slice (some ⟨w8.heap.size, 0, none⟩) 0 0) 0 []) := Lib.hid (World.ownsRow_made w8 #[] 0 (Nat.le_refl _) (by simp [maxLen]) rfl)
  have HAN := Lib.hid (HA8.out.rd.later (new_later w8 (.cells #[] 5)))
  have HLE := Lib.hid (And.intro HBVx.out.len HBVy.out.len)
  obtain ⟨r, hr⟩ : ∃ r, z3.take 30 = r := ⟨_, rfl⟩
  have HRL : Hid (r.length ≤ 30 ∧ ∀ d ∈ r, d < 256) := Lib.hid ⟨by rw [← hr]; simp; omega, fun d hd => HM3.out.2.2 d (List.mem_of_mem_take (by rw [hr]; exact hd))⟩
  have HFW : Hid (∀ W, Below w.heap.size w W → Calls Tryd.prog 39 #[.slice A3 l3 c3, .int .i64 30] W (RowRes2 r W)) := Lib.hid fun W h => hr ▸ few_row A3 l3 c3 _ z3 W HM3.out.1 (HR3.out.later h) HM3.out.2.1
  clear hr HR3 HM3
  go_upto_region 8 with (first
    | (go_at_call 39; (with_reducible refine (HFW.out _ (later HE8.out HB9.out)).mono ?_); rintro e w10 ⟨Af, lf, cf, rfl, hn, ho, hb⟩; have HLf := hn; have HOf := Lib.hid ho; have HB10 := Lib.hid (later HB9.out hb); have HO10 := Lib.hid (HO9.out.below hb); clear hn ho hb HFW HO9 HB9)
    | (at_builtin; refine wpList_putL (base := w8.heap.size) (xs := []) HMD.out HAN.out HLa.out.1 (by simp) (by have := HLE.out; have := HLa.out; simp; omega) rfl _ _ rfl rfl rfl ?_; intro v1 w9 ho hb; have HO9 := Lib.hid (show OwnB w9 w8.heap.size v1 x.en by simpa using ho); have HB9 := Lib.hid ((new_later w8 (.cells #[] 5)).trans (hb.mono (Nat.le_refl _))); clear ho hb HMD HAN)
    | (at_builtin; refine wpList_putL (base := w8.heap.size) HO10.out HOf.out.rd HLf.out.1 HB10.out.size (by have := HLE.out; have := HRL.out; omega) rfl _ _ rfl rfl rfl ?_; intro v2 w11 ho hb; have HB11 := Lib.hid (HB10.out.trans hb); obtain ⟨Ad, ld, cd, hvd, hld⟩ := own_shape3 ho; subst hvd; have HLd := hld; have HO11 := Lib.hid ho; clear ho hb hld HO10 HB10)
    | (go_at_call 40; (with_reducible refine (decode_round x r HBVx.out HRL.out.2 _ _ _ _ HLd.out.1.symm HLd.out.2 HO11.out.rd).mono ?_); rintro e w12 ⟨dk, dn, dA, dl, dc, rfl, ht, hb⟩; have HT12 := Lib.hid ht; have HB12 := Lib.hid (later HB11.out hb); clear ht hb HO11 HB11 HLd)
    | (refine wpList_store_arr rfl _ (.tmp 15) (.tmp 54) rfl w12.heap.size 0 3 53 _ [.int .i64 dk, .int .i64 dn, .slice dA dl dc] [.int .i64 0, .int .i64 0, .slice none 0 0] rfl rfl rfl (Arr.new' w12 _ _ 3 _ rfl rfl (by decide)) (show 0 + 3 ≤ 3 by omega) info_val (List.all_eq_true.mp (by rfl)) ?_; intro w13 f o; rw [setAll_all [.int .i64 0, .int .i64 0, .slice none 0 0] [.int .i64 dk, .int .i64 dn, .slice dA dl dc] rfl] at f; have HO := Lib.hid ((new_later w12 (.cells #[.int .i64 0, .int .i64 0, .slice none 0 0] 53)).trans (o.bel.mono (Nat.le_refl _))); have HFR := Lib.hid f.range; clear f o))
  have HV15 : Hid (VarAt w13 w12.heap.size x [.int .i64 dk, .int .i64 dn, .slice dA dl dc]) := Lib.hid ⟨HFR.out, rfl, HT12.out.later HO.out⟩
  have HBX := Lib.hid (later HB12.out HO.out)
  have HLX := Lib.hid HLa.out.1
  generalize w12.heap.size = g15 at HV15 ⊢
  generalize hC : ([.int .i64 dk, .int .i64 dn, .slice dA dl dc] : List Value) = C15 at HV15
  clear hC HFR HO HT12 HB12 HOf HLf HRL
  have HS13 := Lib.hid (HS8.out.later HBX.out)
  have HE13 := Lib.hid (later HE8.out HBX.out)
  have HX13 := Lib.hid (HX8.out.later HBX.out)
  have HY13 := Lib.hid (HY8.out.later HBX.out)
  have HA13 := Lib.hid (HA8.out.below HBX.out)
  have HB13 := Lib.hid (HOb.out.below HBX.out)
  clear HS8 HE8 HX8 HY8 HA8 HOb HBX
  rw [← HLX.out]
  clear HLX
  obtain ⟨c, hc⟩ : ∃ c, x.cp y = c := ⟨_, rfl⟩
  obtain ⟨q, hq⟩ : ∃ q, decide (c = 0) = q := ⟨_, rfl⟩
  have hq2 : (c == 0) = q := by rw [← hq]; rfl
  refine vbreg8 (by kernel_rfl) _ _ gx gy Cx Cy x y c q rfl rfl rfl HX13.out HY13.out hc hq hq2 ?_
  intro vs8 w14 h18 hb a8 ha8
  simp only [vbD8, List.cons_append, List.nil_append, List.foldl_cons, List.foldl_nil, Act.put, List.setIfInBounds_toArray, List.set_cons_succ, List.set_cons_zero, h18] at ha8
  subst ha8
  have HBX := Lib.hid hb
  have HQ : Hid (decide (x.cp y = 0) = q) := Lib.hid (by rw [hc]; exact hq)
  clear h18 hb hc hq hq2
  have HS14 := Lib.hid (HS13.out.later HBX.out)
  have HE14 := Lib.hid (later HE13.out HBX.out)
  have HX14 := Lib.hid (HX13.out.later HBX.out)
  have H1514 := Lib.hid (HV15.out.later HBX.out)
  have HA14 := Lib.hid (HA13.out.below HBX.out)
  have HB14 := Lib.hid (HB13.out.below HBX.out)
  clear HS13 HE13 HX13 HY13 HV15 HA13 HB13 HBX
  obtain ⟨SA, hSA⟩ : ∃ SA, mkS x.en = SA := ⟨_, rfl⟩
  obtain ⟨SB, hSB⟩ : ∃ SB, mkS y.en = SB := ⟨_, rfl⟩
  have HSA := Lib.hid hSA
  have HSB := Lib.hid hSB
  clear hSA hSB
  have HCA : Hid (∀ W, Below w14.heap.size w14 W → (convert 69 9 (.slice Aa la ca)).run Tryd.prog W = .ok (.string SA) W) := Lib.hid fun W h => HSA.out ▸ run_conv W.heap.size la ca Aa x.en W HLa.out.1 (HA14.out.below h).rd
  have HCB : Hid (∀ W, Below w14.heap.size w14 W → (convert 69 9 (.slice Ab lb cb)).run Tryd.prog W = .ok (.string SB) W) := Lib.hid fun W h => HSB.out ▸ run_conv W.heap.size lb cb Ab y.en W HLb.out.1 (HB14.out.below h).rd
  go_upto_region 9 with fail
  refine vbreg9 (by kernel_rfl) _ _ gx g15 Cx C15 x q la lb ca cb Aa Ab SA SB rfl rfl rfl rfl rfl rfl rfl rfl HX14.out H1514.out (cp_self x) HCA.out HCB.out (str_eq SA SB q (by rw [← HSA.out, ← HSB.out]; exact HBVx.out.str HBVy.out q HQ.out)) ?_
  intro vs9 w15 h83 hb a9 ha9
  simp only [vbD9, List.cons_append, List.nil_append, List.foldl_cons, List.foldl_nil, Act.put, List.setIfInBounds_toArray, List.set_cons_succ, List.set_cons_zero, h83] at ha9
  subst ha9
  have HBX := Lib.hid hb
  clear h83 hb
  have HS15 := Lib.hid (HS14.out.later HBX.out)
  have HE15 := Lib.hid (later HE14.out HBX.out)
  have HCA2 : Hid (∀ W, Below w15.heap.size w15 W → (convert 69 9 (.slice Aa la ca)).run Tryd.prog W = .ok (.string SA) W) := Lib.hid fun W h => HCA.out W (later HBX.out h)
  have HCB2 : Hid (∀ W, Below w15.heap.size w15 W → (convert 69 9 (.slice Ab lb cb)).run Tryd.prog W = .ok (.string SB) W) := Lib.hid fun W h => HCB.out W (later HBX.out h)
  have HPB : Hid (∀ W, Below w15.heap.size w15 W → Rd W W.heap.size Ab (bs y.en)) := Lib.hid fun W h => (HB14.out.below (later HBX.out h)).rd
  clear HS14 HE14 HX14 H1514 HA14 HB14 HCA HCB HBX
  by_cases hs : la < lb
  · have hsi : (la : Int) < (lb : Int) := by omega
    obtain ⟨SP, hSP⟩ : ∃ SP, mkS (y.en.take la) = SP := ⟨_, rfl⟩
    have HNE : Hid (decide (SP = SA) = false) := Lib.hid (by rw [← hSP, ← HSA.out, HLa.out.1]; exact HBVx.out.pre HBVy.out (by have := HLa.out; have := HLb.out; omega))
    have HPR : Hid (∀ W, Below w15.heap.size w15 W → (convert 69 9 (.slice Ab la cb)).run Tryd.prog W = .ok (.string SP) W) := Lib.hid fun W h => hSP ▸ run_conv W.heap.size la cb Ab (y.en.take la) W (by rw [List.length_take]; have := HLb.out; omega) (by
      rcases HPB.out W h with h1 | ⟨b, o, rfl, h1, h2⟩
      · exact .inl (by have : y.en = [] := by simpa [bs] using h1
                       rw [this]; simp [bs])
      · refine .inr ⟨b, o, rfl, h1, fun j u hu => h2 j u ?_⟩
        have hj := (List.getElem?_eq_some_iff.1 hu).1
        rw [bs_len, List.length_take] at hj
        rw [← hu]
        simp only [bs, List.getElem?_map, List.getElem?_take]
        rw [if_pos (by omega)])
    clear hSP hs
    go_upto_region 13 with fail
    refine vbreg13 (by kernel_rfl) _ _ la lb ca cb Aa Ab SA SB SP rfl rfl rfl HCA2.out HPR.out (str_eq SP SA false HNE.out) (map_add0 Ab) (by have := HLb.out; omega) (by omega) (by have := HLb.out; omega) ?_
    intro vs13 w16 hs hb a13 ha13
    simp only [vbD13, List.cons_append, List.nil_append, List.foldl_cons, List.foldl_nil, Act.put, List.setIfInBounds_toArray, List.set_cons_succ, List.set_cons_zero, hs] at ha13
    subst ha13
    have HBX := Lib.hid hb
    clear hs hb
    have HS16 := Lib.hid (HS15.out.later HBX.out)
    have HE16 := Lib.hid (later HE15.out HBX.out)
    have HCA3 : Hid (∀ W, Below w16.heap.size w16 W → (convert 69 9 (.slice Aa la ca)).run Tryd.prog W = .ok (.string SA) W) := Lib.hid fun W h => HCA2.out W (later HBX.out h)
    have HCB3 : Hid (∀ W, Below w16.heap.size w16 W → (convert 69 9 (.slice Ab lb cb)).run Tryd.prog W = .ok (.string SB) W) := Lib.hid fun W h => HCB2.out W (later HBX.out h)
    clear HBX HCA2 HCB2 HPR HNE HPB hsi HS15 HE15
    go_upto_region 14 with fail
    refine vbreg14 (by kernel_rfl) _ _ la lb ca cb Aa Ab SA SB (bst x.en) (bst y.en) q rfl rfl rfl HCA3.out HCB3.out (Lib.hid (by rw [← HSA.out, mkS_size, sb_mkS _ HBVx.out.lt]; rfl)) (Lib.hid (by rw [← HSB.out, mkS_size, sb_mkS _ HBVy.out.lt]; rfl)) (by rw [← HSA.out, mkS_size]; have := HBVx.out.len; omega) (by rw [← HSB.out, mkS_size]; have := HBVy.out.len; omega) (str_eq _ _ q (HBVx.out.byt HBVy.out q HQ.out)) ?_
    intro vs14 w17 hs hb a14 ha14
    simp only [vbD14, List.cons_append, List.nil_append, List.foldl_cons, List.foldl_nil, Act.put, List.setIfInBounds_toArray, List.set_cons_succ, List.set_cons_zero, hs] at ha14
    subst ha14
    have HBX := Lib.hid hb
    clear hs hb
    have HS17 := Lib.hid (HS16.out.later HBX.out)
    have HE17 := Lib.hid (later HE16.out HBX.out)
    have HCA4 : Hid (∀ W, Below w17.heap.size w17 W → (convert 69 9 (.slice Aa la ca)).run Tryd.prog W = .ok (.string SA) W) := Lib.hid fun W h => HCA3.out W (later HBX.out h)
    have HCB4 : Hid (∀ W, Below w17.heap.size w17 W → (convert 69 9 (.slice Ab lb cb)).run Tryd.prog W = .ok (.string SB) W) := Lib.hid fun W h => HCB3.out W (later HBX.out h)
    clear HBX HCA3 HCB3
    have HQT : Hid (q = true → SA = SB) := Lib.hid fun e => by
      have h1 := HQ.out
      rw [e] at h1
      rw [← HSA.out, ← HSB.out, cp_eq x y (of_decide_eq_true h1)]
    have HSZ : Hid (SA.size ≤ 100000 ∧ SB.size ≤ 100000) := Lib.hid ⟨by rw [← HSA.out, mkS_size]; have := HBVx.out.len; omega, by rw [← HSB.out, mkS_size]; have := HBVy.out.len; omega⟩
    cases q
    · go_upto_region 15 with fail
      refine vbfreg15 (by kernel_rfl) _ _ la lb ca cb Aa Ab SA SB rfl rfl rfl rfl ?_
      intro vs15 w18 hs hb a15 ha15
      simp only [vbfD15, List.cons_append, List.nil_append, List.foldl_cons, List.foldl_nil, Act.put, List.setIfInBounds_toArray, List.set_cons_succ, List.set_cons_zero, hs] at ha15
      subst ha15
      have HBX := Lib.hid hb
      clear hs hb
      have HS18 := Lib.hid (HS17.out.later HBX.out)
      have HE18 := Lib.hid (later HE17.out HBX.out)
      clear HBX
      go_upto_region 16 with fail
      refine vbreg16 (by kernel_rfl) _ _ false rfl rfl rfl rfl rfl HS18.out.hk ?_
      intro vs16 w19 hs hb a16 ha16
      simp only [vbD16, List.cons_append, List.nil_append, List.foldl_cons, List.foldl_nil, Act.put, List.setIfInBounds_toArray, List.set_cons_succ, List.set_cons_zero, hs] at ha16
      subst ha16
      have HEND := Lib.hid (later HE18.out hb)
      clear hs hb
      go_wp2_with fail
      go_ret
      exact ⟨rfl, HEND.out⟩
    · have hab := HQT.out rfl
      go_upto_region 15 with fail
      refine vbtreg15 (by kernel_rfl) _ _ la lb ca cb Aa Ab SA SB ((sha (ofIn 9 [SA])).take 16) rfl rfl rfl rfl HCA4.out HCB4.out HS17.out.hc (by rw [List.length_take, sha_len]; rfl) rfl (by rw [← hab]) HSZ.out.1 HSZ.out.2 ?_
      intro vs15 w18 hs hb a15 ha15
      simp only [vbtD15, List.cons_append, List.nil_append, List.foldl_cons, List.foldl_nil, Act.put, List.setIfInBounds_toArray, List.set_cons_succ, List.set_cons_zero, hs] at ha15
      subst ha15
      clear hab
      have HBX := Lib.hid hb
      clear hs hb
      have HS18 := Lib.hid (HS17.out.later HBX.out)
      have HE18 := Lib.hid (later HE17.out HBX.out)
      clear HBX
      go_upto_region 16 with fail
      refine vbreg16 (by kernel_rfl) _ _ true rfl rfl rfl rfl rfl HS18.out.hk ?_
      intro vs16 w19 hs hb a16 ha16
      simp only [vbD16, List.cons_append, List.nil_append, List.foldl_cons, List.foldl_nil, Act.put, List.setIfInBounds_toArray, List.set_cons_succ, List.set_cons_zero, hs] at ha16
      subst ha16
      have HEND := Lib.hid (later HE18.out hb)
      clear hs hb
      go_wp2_with fail
      go_ret
      exact ⟨rfl, HEND.out⟩
  · have hsi : ¬ (la : Int) < (lb : Int) := by omega
    have HCA3 := HCA2
    have HCB3 := HCB2
    clear HCA2 HCB2 HPB hs
    go_upto_region 14 with fail
    refine vbreg14 (by kernel_rfl) _ _ la lb ca cb Aa Ab SA SB (bst x.en) (bst y.en) q rfl rfl rfl HCA3.out HCB3.out (Lib.hid (by rw [← HSA.out, mkS_size, sb_mkS _ HBVx.out.lt]; rfl)) (Lib.hid (by rw [← HSB.out, mkS_size, sb_mkS _ HBVy.out.lt]; rfl)) (by rw [← HSA.out, mkS_size]; have := HBVx.out.len; omega) (by rw [← HSB.out, mkS_size]; have := HBVy.out.len; omega) (str_eq _ _ q (HBVx.out.byt HBVy.out q HQ.out)) ?_
    intro vs14 w17 hs hb a14 ha14
    simp only [vbD14, List.cons_append, List.nil_append, List.foldl_cons, List.foldl_nil, Act.put, List.setIfInBounds_toArray, List.set_cons_succ, List.set_cons_zero, hs] at ha14
    subst ha14
    have HBX := Lib.hid hb
    clear hs hb
    have HS17 := Lib.hid (HS15.out.later HBX.out)
    have HE17 := Lib.hid (later HE15.out HBX.out)
    have HCA4 : Hid (∀ W, Below w17.heap.size w17 W → (convert 69 9 (.slice Aa la ca)).run Tryd.prog W = .ok (.string SA) W) := Lib.hid fun W h => HCA3.out W (later HBX.out h)
    have HCB4 : Hid (∀ W, Below w17.heap.size w17 W → (convert 69 9 (.slice Ab lb cb)).run Tryd.prog W = .ok (.string SB) W) := Lib.hid fun W h => HCB3.out W (later HBX.out h)
    clear HBX HCA3 HCB3
    have HQT : Hid (q = true → SA = SB) := Lib.hid fun e => by
      have h1 := HQ.out
      rw [e] at h1
      rw [← HSA.out, ← HSB.out, cp_eq x y (of_decide_eq_true h1)]
    have HSZ : Hid (SA.size ≤ 100000 ∧ SB.size ≤ 100000) := Lib.hid ⟨by rw [← HSA.out, mkS_size]; have := HBVx.out.len; omega, by rw [← HSB.out, mkS_size]; have := HBVy.out.len; omega⟩
    cases q
    · go_upto_region 15 with fail
      refine vbfreg15 (by kernel_rfl) _ _ la lb ca cb Aa Ab SA SB rfl rfl rfl rfl ?_
      intro vs15 w18 hs hb a15 ha15
      simp only [vbfD15, List.cons_append, List.nil_append, List.foldl_cons, List.foldl_nil, Act.put, List.setIfInBounds_toArray, List.set_cons_succ, List.set_cons_zero, hs] at ha15
      subst ha15
      have HBX := Lib.hid hb
      clear hs hb
      have HS18 := Lib.hid (HS17.out.later HBX.out)
      have HE18 := Lib.hid (later HE17.out HBX.out)
      clear HBX
      go_upto_region 16 with fail
      refine vbreg16 (by kernel_rfl) _ _ false rfl rfl rfl rfl rfl HS18.out.hk ?_
      intro vs16 w19 hs hb a16 ha16
      simp only [vbD16, List.cons_append, List.nil_append, List.foldl_cons, List.foldl_nil, Act.put, List.setIfInBounds_toArray, List.set_cons_succ, List.set_cons_zero, hs] at ha16
      subst ha16
      have HEND := Lib.hid (later HE18.out hb)
      clear hs hb
      go_wp2_with fail
      go_ret
      exact ⟨rfl, HEND.out⟩
    · have hab := HQT.out rfl
      go_upto_region 15 with fail
      refine vbtreg15 (by kernel_rfl) _ _ la lb ca cb Aa Ab SA SB ((sha (ofIn 9 [SA])).take 16) rfl rfl rfl rfl HCA4.out HCB4.out HS17.out.hc (by rw [List.length_take, sha_len]; rfl) rfl (by rw [← hab]) HSZ.out.1 HSZ.out.2 ?_
      intro vs15 w18 hs hb a15 ha15
      simp only [vbtD15, List.cons_append, List.nil_append, List.foldl_cons, List.foldl_nil, Act.put, List.setIfInBounds_toArray, List.set_cons_succ, List.set_cons_zero, hs] at ha15
      subst ha15
      clear hab
      have HBX := Lib.hid hb
      clear hs hb
      have HS18 := Lib.hid (HS17.out.later HBX.out)
      have HE18 := Lib.hid (later HE17.out HBX.out)
      clear HBX
      go_upto_region 16 with fail
      refine vbreg16 (by kernel_rfl) _ _ true rfl rfl rfl rfl rfl HS18.out.hk ?_
      intro vs16 w19 hs hb a16 ha16
      simp only [vbD16, List.cons_append, List.nil_append, List.foldl_cons, List.foldl_nil, Act.put, List.setIfInBounds_toArray, List.set_cons_succ, List.set_cons_zero, hs] at ha16
      subst ha16
      have HEND := Lib.hid (later HE18.out hb)
      clear hs hb
      go_wp2_with fail
      go_ret
      exact ⟨rfl, HEND.out⟩
end Go.Proofs.YtjbleefpafnhhaaDoor

namespace Go.Proofs.YtjbleefpafnhhaaDoor
open Go.ChangeShapes Go.WideShapes Go.ChangeAt Go.RowKit Go.Deep
theorem Tryd.own : ownKnob Tryd.prog.godebug = none := by kernel_rfl
theorem Tryd.laidOut : laidOutB Tryd.prog = true := by kernel_rfl
theorem Tryd.cellsB : Tryd.prog.cellsOf 5 = 1 := by kernel_rfl
theorem rd_of_cells {w : World} {a : Addr} {xs : List Value} (h : ∀ j u, xs[j]? = some u → w.cell? (a.add j) = some u) : Rd w w.heap.size (some a) xs := by
  cases xs with
  | nil => exact Rd.nil _ _ _
  | cons x xs =>
    have h0 : w.cell? a = some x := by have := h 0 x rfl; simpa [Addr.add] using this
    have hlt := World.block_lt_of_cell? w _ h0
    obtain ⟨b, o, s⟩ := a
    have hs := World.cell?_spot h0
    simp at hs
    subst hs
    exact .inr ⟨b, o, rfl, hlt, fun j u hu => by
      have h2 := h j u hu
      have ha : (⟨b, o, none⟩ : Addr).add j = ⟨b, o + j, none⟩ := by unfold Addr.add; split <;> simp_all
      rwa [ha] at h2⟩
section
variable {H : Type} {enc : TypeId × Value → H} {w : World} {sp : Nat → Bool} {d : DataW H} {p : List MemPlace} {A : Option Addr} {len cap : Nat}
theorem open_bytes (hd : DataW.Trod enc Tryd.prog w 0 sp true 69 (.slice A len cap) d p) :
    ∃ zs : List Nat, len = zs.length ∧ Rd w w.heap.size A (bs zs) ∧ (∀ x ∈ zs, x < 256) ∧ len ≤ cap ∧ cap ≤ maxLen := by
  obtain ⟨fuel, hf⟩ := hd
  rcases open_ints Tryd.underlying69 Tryd.underlying5 Tryd.cellsB hf with ⟨hcs, _⟩ | ⟨a, l, c, zs, hcs, _, hl, hm, hz, _, hcell, hwz⟩
  · simp [Value.cells] at hcs
    obtain ⟨rfl, rfl, rfl⟩ := hcs
    exact ⟨[], rfl, Rd.nil _ _ _, by simp, Nat.le_refl _, by simp [maxLen]⟩
  · simp [Value.cells] at hcs
    obtain ⟨rfl, rfl, rfl⟩ := hcs
    have hzl : len ≤ zs.length := by rw [hz]; split <;> omega
    have hb : ∀ z ∈ zs, 0 ≤ z ∧ z ≤ 255 := fun z hz => bounds_u8 (hwz z hz)
    refine ⟨(zs.take len).map Int.toNat, by simp; omega, rd_of_cells ?_, ?_, hl, hm⟩
    · intro j u hu
      have hj : j < len := by have := (List.getElem?_eq_some_iff.1 hu).1; simp [bs] at this; omega
      rw [hcell j (by omega)]
      simp only [bs, U8, List.getElem?_map, List.getElem?_take, hj, if_true, List.getElem?_eq_getElem (show j < zs.length by omega), Option.map_some, Option.some.injEq] at hu
      rw [← hu]
      have := hb zs[j] (List.getElem_mem _)
      simp [List.getD, List.getElem?_eq_getElem (show j < zs.length by omega)]
      omega
    · intro x hx
      simp only [List.mem_map] at hx
      obtain ⟨z, hz, rfl⟩ := hx
      have := hb z (List.mem_of_mem_take hz)
      omega
end
end Go.Proofs.YtjbleefpafnhhaaDoor

namespace Go.Proofs.YtjbleefpafnhhaaDoor
open Go.ChangeShapes Go.WideShapes Go.ChangeAt Go.RowKit Go.Deep
theorem Tryd.cellsI : Tryd.prog.cellsOf 3 = 1 := by kernel_rfl
theorem Tryd.bytesI : Tryd.prog.bytesOf 3 = 8 := by kernel_rfl
theorem reach_num : reachBytes = 140737488351232 := by decide
section
variable {H : Type} {enc : TypeId × Value → H} {w : World} {sp : Nat → Bool} {d : DataW H} {p : List MemPlace} {A : Option Addr} {len cap : Nat}
theorem open_iv (hd : DataW.Trod enc Tryd.prog w 0 sp true 22 (.slice A len cap) d p) :
    ∃ zs : List Int, len = zs.length ∧ Rd w w.heap.size A (iv zs) ∧ (∀ x ∈ zs, InR x) ∧ len ≤ cap ∧ cap ≤ maxLen ∧ ((len = 0 ∧ d = .nil) ∨ ∃ es rs, d = .slice es rs ∧ es.length = len) := by
  obtain ⟨fuel, hf⟩ := hd
  rcases open_ints Tryd.underlying22 Tryd.underlying3 Tryd.cellsI hf with ⟨hcs, hx⟩ | ⟨a, l, c, zs, hcs, _, hl, hm, hz, hx, hcell, hwz⟩
  · simp [Value.cells] at hcs
    obtain ⟨rfl, rfl, rfl⟩ := hcs
    exact ⟨[], rfl, Rd.nil _ _ _, by simp, Nat.le_refl _, by simp [maxLen], .inl ⟨rfl, by cases hx; rfl⟩⟩
  · simp [Value.cells] at hcs
    obtain ⟨rfl, rfl, rfl⟩ := hcs
    have hzl : len ≤ zs.length := by rw [hz]; split <;> omega
    refine ⟨zs.take len, by simp; omega, rd_of_cells ?_, ?_, hl, hm, .inr ⟨lits .i64 (zs.take len), lits .i64 (zs.drop len), by cases hx; rfl, by simp [lits]; omega⟩⟩
    · intro j u hu
      have hj : j < len := by have := (List.getElem?_eq_some_iff.1 hu).1; simp [iv] at this; omega
      rw [hcell j (by omega)]
      simp only [iv, List.getElem?_map, List.getElem?_take, hj, if_true, List.getElem?_eq_getElem (show j < zs.length by omega), Option.map_some, Option.some.injEq] at hu
      rw [← hu]
      simp [List.getD, List.getElem?_eq_getElem (show j < zs.length by omega)]
    · intro x hx
      have := bounds_i64 (hwz x (List.mem_of_mem_take hx))
      exact ⟨by omega, by omega⟩
end
theorem int_of_trod {H : Type} {enc : TypeId × Value → H} {P : Program} {w : World} {base : Nat} {sp : Nat → Bool} {held : Bool} {fuel : Nat} {t : TypeId} {k : IntKind} {c : Value} {y : DataW H × List MemPlace}
    (ht : P.underlying t = some (.int k)) (h : DataW.trod enc P w base sp held fuel t [c] = some y) : ∃ n, c = .int k n ∧ y = (.lit (.int k n), []) := by
  cases fuel with
  | zero => simp [DataW.trod] at h
  | succ fuel =>
    cases c <;> simp [DataW.trod, ht] at h
    rename_i k' n
    obtain ⟨⟨rfl, _⟩, rfl⟩ := h
    exact ⟨n, rfl, rfl⟩
theorem mapM_get {α β : Type} (f : α → Option β) : ∀ (l : List α) (ys : List β), l.mapM f = some ys → ∀ (j : Nat) (x : α), l[j]? = some x → ∃ y, ys[j]? = some y ∧ f x = some y
  | [], ys, h, j, x, hx => by simp at hx
  | a :: r, ys, h, j, x, hx => by
    simp only [List.mapM_cons, Option.bind_eq_bind, Option.bind_eq_some_iff, Option.pure_def, Option.some.injEq] at h
    obtain ⟨y, hy, zs, hz, rfl⟩ := h
    cases j with
    | zero => simp at hx; subst hx; exact ⟨y, rfl, hy⟩
    | succ j => exact mapM_get f r zs hz j x (by simpa using hx)
theorem ints_of_trod {H : Type} {enc : TypeId × Value → H} {P : Program} {w : World} {base : Nat} {sp : Nat → Bool} {held : Bool} {fuel n : Nat} {t e : TypeId} {k : IntKind} {l : List Value} {ks : List Nat} {p : List MemPlace}
    (ht : P.underlying t = some (.array n e)) (he : P.underlying e = some (.int k)) (hc : P.cellsOf t = n) (hc1 : P.cellsOf e = 1) (hn : ks.length = n)
    (h : DataW.trod enc P w base sp held fuel t l = some (.agg (ks.map fun (x : Nat) => .lit (.int k (x : Int))), p)) : ∀ (j x : Nat), ks[j]? = some x → l[j]? = some (.int k (x : Int)) := by
  cases fuel with
  | zero => simp [DataW.trod] at h
  | succ fuel =>
    simp only [DataW.trod, ht, hc, hc1] at h
    split at h
    · rename_i hl
      obtain ⟨ys, hys, hag⟩ := Option.map_eq_some_iff.1 h
      have h1 : ys.map (fun x => x.fst) = ks.map fun (x : Nat) => (.lit (.int k (x : Int)) : DataW H) := by
        have := congrArg Prod.fst hag
        simpa using this
      intro j x hx
      have hj : j < n := by rw [← hn]; exact (List.getElem?_eq_some_iff.1 hx).1
      obtain ⟨y, hy, hf⟩ := mapM_get _ _ _ hys j j (by rw [List.getElem?_range hj])
      have hjl : j < l.length := by omega
      rw [Nat.mul_one, List.drop_eq_getElem_cons hjl, List.take_succ_cons, List.take_zero] at hf
      obtain ⟨m, hm, rfl⟩ := int_of_trod he hf
      have h2 := congrArg (fun q => q[j]?) h1
      simp only [List.getElem?_map, hy, hx, Option.map_some, Option.some.injEq, DataW.lit.injEq, Lit.int.injEq] at h2
      rw [List.getElem?_eq_getElem hjl, hm]
      simp at h2
      rw [h2]
    · cases h
theorem glob_pk : Tryd.prog.globalNamed "splicery/value.plainKinds" = some 0 := by kernel_rfl
theorem type_pk : (Tryd.prog.globals[(0 : Nat)]?).map (·.type) = some 110 := by kernel_rfl
theorem glob_dk : Tryd.prog.globalNamed "splicery/value.dataKinds" = some 1 := by kernel_rfl
theorem type_dk : (Tryd.prog.globals[(1 : Nat)]?).map (·.type) = some 130 := by kernel_rfl
theorem cells_a3 : Tryd.prog.cellsOf 110 = 3 := by kernel_rfl
theorem cells_a2 : Tryd.prog.cellsOf 130 = 2 := by kernel_rfl
theorem laid_pk_eq {H : Type} : (Rows.laid_splicery_value_plainKinds : DataW H) = .agg (([0, 1, 4] : List Nat).map fun (x : Nat) => .lit (.int .i64 (x : Int))) := rfl
theorem laid_dk_eq {H : Type} : (Rows.laid_splicery_value_dataKinds : DataW H) = .agg (([2, 3] : List Nat).map fun (x : Nat) => .lit (.int .i64 (x : Int))) := rfl
end Go.Proofs.YtjbleefpafnhhaaDoor

