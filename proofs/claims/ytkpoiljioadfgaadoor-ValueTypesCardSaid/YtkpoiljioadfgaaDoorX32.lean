import Derived.Test.YtkpoiljioadfgaaDoorX03
import Derived.Test.YtkpoiljioadfgaaDoorX07
import Derived.Test.YtkpoiljioadfgaaDoorX31

set_option linter.unusedVariables false
set_option linter.unusedSimpArgs false
namespace Go.Proofs.YtkpoiljioadfgaaDoor
open Go.RowKit
def CDRes (a b c kd m0 m1 m2 : Int) (nm : ByteArray) (n : Nat) (w : World) (e : Ending) (w' : World) : Prop := ∃ (A : Option Addr) (cap : Nat) (Y : List Value), e = .returned (.agg (([.int .i64 a, .int .i64 b, .int .i64 c, .int .i64 kd, .int .i64 m0, .int .i64 m1, .int .i64 m2, .string nm, .slice A n cap] : List Value) ++ Y).toArray) ∧ Y.length = 22 ∧ (∀ u ∈ Y, u.oneCell' = true) ∧ Below w.heap.size w w'
set_option maxHeartbeats 4000000 in
set_option maxRecDepth 100000 in
theorem copyDef_step (a b c0 kd m0 m1 m2 k s q i ea eb ec ek en fa fb fc tk ts tq ti pl : Int) (nm : ByteArray) (SA A XA KA NA LA : Option Addr) (m8 sc m c xm xc km kc nm2 nc m30 lc : Nat) (w : World)
    (HS : Hid (∀ W, Below w.heap.size w W → Calls Tryd.prog 75 #[.slice SA m8 sc, .func (.func 76) #[] #[]] W (CLRes m8 W)))
    (HT : Hid (∀ W, Below w.heap.size w W → Calls Tryd.prog 77 #[.agg #[.int .i64 k, .int .i64 s, .int .i64 q, .int .i64 i, .slice A m c]] W (CpRes 5 W)))
    (HE : Hid (∀ W, Below w.heap.size w W → Calls Tryd.prog 78 #[.agg #[.int .i64 ea, .int .i64 eb, .int .i64 ec, .int .i64 ek, .int .i64 en, .int .i64 fa, .int .i64 fb, .int .i64 fc, .int .i64 tk, .int .i64 ts, .int .i64 tq, .int .i64 ti, .slice XA xm xc, .slice KA km kc, .slice NA nm2 nc]] W (CpRes 15 W)))
    (HN : Hid (∀ W, Below w.heap.size w W → Calls Tryd.prog 79 #[.slice LA m30 lc] W (CLRes m30 W))) :
    Calls Tryd.prog 50 #[.agg #[.int .i64 a, .int .i64 b, .int .i64 c0, .int .i64 kd, .int .i64 m0, .int .i64 m1, .int .i64 m2, .string nm, .slice SA m8 sc, .int .i64 k, .int .i64 s, .int .i64 q, .int .i64 i, .slice A m c, .int .i64 ea, .int .i64 eb, .int .i64 ec, .int .i64 ek, .int .i64 en, .int .i64 fa, .int .i64 fb, .int .i64 fc, .int .i64 tk, .int .i64 ts, .int .i64 tq, .int .i64 ti, .slice XA xm xc, .slice KA km kc, .slice NA nm2 nc, .int .i64 pl, .slice LA m30 lc]] w (CDRes a b c0 kd m0 m1 m2 nm m8 w) := by
  have P0 : Arr (w.alloc (.cells #[.int .i64 a, .int .i64 b, .int .i64 c0, .int .i64 kd, .int .i64 m0, .int .i64 m1, .int .i64 m2, .string nm, .slice SA m8 sc, .int .i64 k, .int .i64 s, .int .i64 q, .int .i64 i, .slice A m c, .int .i64 ea, .int .i64 eb, .int .i64 ec, .int .i64 ek, .int .i64 en, .int .i64 fa, .int .i64 fb, .int .i64 fc, .int .i64 tk, .int .i64 ts, .int .i64 tq, .int .i64 ti, .slice XA xm xc, .slice KA km kc, .slice NA nm2 nc, .int .i64 pl, .slice LA m30 lc] 46)) w.heap.size 31 46 [.int .i64 a, .int .i64 b, .int .i64 c0, .int .i64 kd, .int .i64 m0, .int .i64 m1, .int .i64 m2, .string nm, .slice SA m8 sc, .int .i64 k, .int .i64 s, .int .i64 q, .int .i64 i, .slice A m c, .int .i64 ea, .int .i64 eb, .int .i64 ec, .int .i64 ek, .int .i64 en, .int .i64 fa, .int .i64 fb, .int .i64 fc, .int .i64 tk, .int .i64 ts, .int .i64 tq, .int .i64 ti, .slice XA xm xc, .slice KA km kc, .slice NA nm2 nc, .int .i64 pl, .slice LA m30 lc] := Arr.new' w _ _ 31 _ rfl rfl (by decide)
  have V0 := new_later w (.cells #[.int .i64 a, .int .i64 b, .int .i64 c0, .int .i64 kd, .int .i64 m0, .int .i64 m1, .int .i64 m2, .string nm, .slice SA m8 sc, .int .i64 k, .int .i64 s, .int .i64 q, .int .i64 i, .slice A m c, .int .i64 ea, .int .i64 eb, .int .i64 ec, .int .i64 ek, .int .i64 en, .int .i64 fa, .int .i64 fb, .int .i64 fc, .int .i64 tk, .int .i64 ts, .int .i64 tq, .int .i64 ti, .slice XA xm xc, .slice KA km kc, .slice NA nm2 nc, .int .i64 pl, .slice LA m30 lc] 46)
  have b2 := new_later (w.alloc (.cells #[.int .i64 a, .int .i64 b, .int .i64 c0, .int .i64 kd, .int .i64 m0, .int .i64 m1, .int .i64 m2, .string nm, .slice SA m8 sc, .int .i64 k, .int .i64 s, .int .i64 q, .int .i64 i, .slice A m c, .int .i64 ea, .int .i64 eb, .int .i64 ec, .int .i64 ek, .int .i64 en, .int .i64 fa, .int .i64 fb, .int .i64 fc, .int .i64 tk, .int .i64 ts, .int .i64 tq, .int .i64 ti, .slice XA xm xc, .slice KA km kc, .slice NA nm2 nc, .int .i64 pl, .slice LA m30 lc] 46)) (.cells #[.int .i64 0, .int .i64 0, .int .i64 0, .int .i64 0, .int .i64 0, .int .i64 0, .int .i64 0, .string ⟨#[]⟩, .slice none 0 0, .int .i64 0, .int .i64 0, .int .i64 0, .int .i64 0, .slice none 0 0, .int .i64 0, .int .i64 0, .int .i64 0, .int .i64 0, .int .i64 0, .int .i64 0, .int .i64 0, .int .i64 0, .int .i64 0, .int .i64 0, .int .i64 0, .int .i64 0, .slice none 0 0, .slice none 0 0, .slice none 0 0, .int .i64 0, .slice none 0 0] 46)
  have R0 := Arr.new' (w.alloc (.cells #[.int .i64 a, .int .i64 b, .int .i64 c0, .int .i64 kd, .int .i64 m0, .int .i64 m1, .int .i64 m2, .string nm, .slice SA m8 sc, .int .i64 k, .int .i64 s, .int .i64 q, .int .i64 i, .slice A m c, .int .i64 ea, .int .i64 eb, .int .i64 ec, .int .i64 ek, .int .i64 en, .int .i64 fa, .int .i64 fb, .int .i64 fc, .int .i64 tk, .int .i64 ts, .int .i64 tq, .int .i64 ti, .slice XA xm xc, .slice KA km kc, .slice NA nm2 nc, .int .i64 pl, .slice LA m30 lc] 46)) 46 #[.int .i64 0, .int .i64 0, .int .i64 0, .int .i64 0, .int .i64 0, .int .i64 0, .int .i64 0, .string ⟨#[]⟩, .slice none 0 0, .int .i64 0, .int .i64 0, .int .i64 0, .int .i64 0, .slice none 0 0, .int .i64 0, .int .i64 0, .int .i64 0, .int .i64 0, .int .i64 0, .int .i64 0, .int .i64 0, .int .i64 0, .int .i64 0, .int .i64 0, .int .i64 0, .int .i64 0, .slice none 0 0, .slice none 0 0, .slice none 0 0, .int .i64 0, .slice none 0 0] 31 z31 rfl rfl (by decide)
  rw [World.size_alloc] at R0
  have P1 := P0.later b2
  have V1 := later V0 b2
  generalize hW : (w.alloc (.cells #[.int .i64 a, .int .i64 b, .int .i64 c0, .int .i64 kd, .int .i64 m0, .int .i64 m1, .int .i64 m2, .string nm, .slice SA m8 sc, .int .i64 k, .int .i64 s, .int .i64 q, .int .i64 i, .slice A m c, .int .i64 ea, .int .i64 eb, .int .i64 ec, .int .i64 ek, .int .i64 en, .int .i64 fa, .int .i64 fb, .int .i64 fc, .int .i64 tk, .int .i64 ts, .int .i64 tq, .int .i64 ti, .slice XA xm xc, .slice KA km kc, .slice NA nm2 nc, .int .i64 pl, .slice LA m30 lc] 46)).alloc (.cells #[.int .i64 0, .int .i64 0, .int .i64 0, .int .i64 0, .int .i64 0, .int .i64 0, .int .i64 0, .string ⟨#[]⟩, .slice none 0 0, .int .i64 0, .int .i64 0, .int .i64 0, .int .i64 0, .slice none 0 0, .int .i64 0, .int .i64 0, .int .i64 0, .int .i64 0, .int .i64 0, .int .i64 0, .int .i64 0, .int .i64 0, .int .i64 0, .int .i64 0, .int .i64 0, .int .i64 0, .slice none 0 0, .slice none 0 0, .slice none 0 0, .int .i64 0, .slice none 0 0] 46) = wa at P1 V1 R0
  have HR1 := Lib.hid R0
  have HP1 := Lib.hid P1
  have HV1 := Lib.hid V1
  clear P0 V0 b2 R0 P1 V1
  go_enter Tryd.func50, Tryd.ntmps50
  have hzd := zero_def
  rw [show z31.toArray = #[.int .i64 0, .int .i64 0, .int .i64 0, .int .i64 0, .int .i64 0, .int .i64 0, .int .i64 0, .string ⟨#[]⟩, .slice none 0 0, .int .i64 0, .int .i64 0, .int .i64 0, .int .i64 0, .slice none 0 0, .int .i64 0, .int .i64 0, .int .i64 0, .int .i64 0, .int .i64 0, .int .i64 0, .int .i64 0, .int .i64 0, .int .i64 0, .int .i64 0, .int .i64 0, .int .i64 0, .slice none 0 0, .slice none 0 0, .slice none 0 0, .int .i64 0, .slice none 0 0] from rfl] at hzd
  go_upto_region 1 with fail
  clear hW hzd
  have c8 := HP1.out.cell (j := 8) (v := (.slice SA m8 sc)) rfl
  go_upto_region 2 with (go_at_call 75; (with_reducible refine (HS.out _ HV1.out).mono ?_); rintro e w2 ⟨A2, c2, rfl, hb2⟩; have P2 := HP1.out.later hb2; have d8 := P2.cell (j := 8) (v := (.slice SA m8 sc)) rfl; have f8 := P2.free 8; have HPx := Lib.hid P2; have HRx := Lib.hid (HR1.out.later hb2); have HVx := Lib.hid (later HV1.out hb2); clear P2 hb2)
  have P3 : Arr (w2.setCell ⟨w.heap.size, 8, none⟩ (.slice A2 m8 c2)) w.heap.size 31 46 [.int .i64 a, .int .i64 b, .int .i64 c0, .int .i64 kd, .int .i64 m0, .int .i64 m1, .int .i64 m2, .string nm, .slice A2 m8 c2, .int .i64 k, .int .i64 s, .int .i64 q, .int .i64 i, .slice A m c, .int .i64 ea, .int .i64 eb, .int .i64 ec, .int .i64 ek, .int .i64 en, .int .i64 fa, .int .i64 fb, .int .i64 fc, .int .i64 tk, .int .i64 ts, .int .i64 tq, .int .i64 ti, .slice XA xm xc, .slice KA km kc, .slice NA nm2 nc, .int .i64 pl, .slice LA m30 lc] := HPx.out.set_ 8 (.slice A2 m8 c2)
  have o3 : Only w.heap.size w2 (w2.setCell ⟨w.heap.size, 8, none⟩ (.slice A2 m8 c2)) := Only.setCells w.heap.size 8 [(.slice A2 m8 c2)] w2
  have R3 := HRx.out.only o3 (by omega)
  have V3 : Below w.heap.size w (w2.setCell ⟨w.heap.size, 8, none⟩ (.slice A2 m8 c2)) := HVx.out.trans (o3.bel.mono (Nat.le_refl _))
  generalize w2.setCell ⟨w.heap.size, 8, none⟩ (.slice A2 m8 c2) = w3 at P3 R3 V3 ⊢
  have HP2 := Lib.hid P3
  have HR2 := Lib.hid R3
  have HV2 := Lib.hid V3
  clear P3 o3 R3 V3 d8 f8 HPx HRx HVx HP1 HR1 HV1 c8 HS
  have HG2 : Hid (World.rangeAt w3 w.heap.size 9 [.int .i64 k, .int .i64 s, .int .i64 q, .int .i64 i, .slice A m c]) := Lib.hid (Arr.mid (a := [.int .i64 a, .int .i64 b, .int .i64 c0, .int .i64 kd, .int .i64 m0, .int .i64 m1, .int .i64 m2, .string nm, .slice A2 m8 c2]) (x := [.int .i64 k, .int .i64 s, .int .i64 q, .int .i64 i, .slice A m c]) (b := [.int .i64 ea, .int .i64 eb, .int .i64 ec, .int .i64 ek, .int .i64 en, .int .i64 fa, .int .i64 fb, .int .i64 fc, .int .i64 tk, .int .i64 ts, .int .i64 tq, .int .i64 ti, .slice XA xm xc, .slice KA km kc, .slice NA nm2 nc, .int .i64 pl, .slice LA m30 lc]) HP2.out rfl)
  have HI2 : Hid ((Tryd.prog.info? 31).map (·.size) = some ([.int .i64 k, .int .i64 s, .int .i64 q, .int .i64 i, .slice A m c] : List Value).length) := Lib.hid info_typesz
  go_upto_region 3 with (first
    | (with_reducible refine wpList_load_mid rfl _ (.tmp 7) rfl w.heap.size 9 rfl [.int .i64 k, .int .i64 s, .int .i64 q, .int .i64 i, .slice A m c] _ HG2.out Tryd.underlying31 rfl HI2.out ?_)
    | (go_at_call 77; (with_reducible refine (HT.out _ HV2.out).mono ?_); rintro e wb ⟨D', rfl, ⟨hDl, hDc⟩, hb⟩; obtain ⟨y0, y1, y2, y3, y4, rfl⟩ := five_of D' hDl; have HCy := Lib.hid hDc; have HPy := Lib.hid (HP2.out.later hb); have HRy := Lib.hid (HR2.out.later hb); have HVy := Lib.hid (later HV2.out hb); clear hb hDl hDc)
    | (refine wpList_store_arr rfl _ (.tmp 10) (.tmp 9) rfl w.heap.size 9 31 46 _ [y0, y1, y2, y3, y4] [.int .i64 a, .int .i64 b, .int .i64 c0, .int .i64 kd, .int .i64 m0, .int .i64 m1, .int .i64 m2, .string nm, .slice A2 m8 c2, .int .i64 k, .int .i64 s, .int .i64 q, .int .i64 i, .slice A m c, .int .i64 ea, .int .i64 eb, .int .i64 ec, .int .i64 ek, .int .i64 en, .int .i64 fa, .int .i64 fb, .int .i64 fc, .int .i64 tk, .int .i64 ts, .int .i64 tq, .int .i64 ti, .slice XA xm xc, .slice KA km kc, .slice NA nm2 nc, .int .i64 pl, .slice LA m30 lc] rfl rfl rfl HPy.out (show 9 + 5 ≤ 31 by omega) info_typesz HCy.out ?_; intro w5 f5 o5; have HP3 : Hid (Arr w5 w.heap.size 31 46 [.int .i64 a, .int .i64 b, .int .i64 c0, .int .i64 kd, .int .i64 m0, .int .i64 m1, .int .i64 m2, .string nm, .slice A2 m8 c2, y0, y1, y2, y3, y4, .int .i64 ea, .int .i64 eb, .int .i64 ec, .int .i64 ek, .int .i64 en, .int .i64 fa, .int .i64 fb, .int .i64 fc, .int .i64 tk, .int .i64 ts, .int .i64 tq, .int .i64 ti, .slice XA xm xc, .slice KA km kc, .slice NA nm2 nc, .int .i64 pl, .slice LA m30 lc]) := Lib.hid f5; have HR3 := Lib.hid (HRy.out.only o5 (by omega)); have HV3 := Lib.hid (HVy.out.trans (o5.bel.mono (Nat.le_refl _))); clear f5 o5))
  clear HPy HRy HVy HG2 HI2 HP2 HR2 HV2 HT
  have HG3 : Hid (World.rangeAt w5 w.heap.size 14 [.int .i64 ea, .int .i64 eb, .int .i64 ec, .int .i64 ek, .int .i64 en, .int .i64 fa, .int .i64 fb, .int .i64 fc, .int .i64 tk, .int .i64 ts, .int .i64 tq, .int .i64 ti, .slice XA xm xc, .slice KA km kc, .slice NA nm2 nc]) := Lib.hid (Arr.mid (a := [.int .i64 a, .int .i64 b, .int .i64 c0, .int .i64 kd, .int .i64 m0, .int .i64 m1, .int .i64 m2, .string nm, .slice A2 m8 c2, y0, y1, y2, y3, y4]) (x := [.int .i64 ea, .int .i64 eb, .int .i64 ec, .int .i64 ek, .int .i64 en, .int .i64 fa, .int .i64 fb, .int .i64 fc, .int .i64 tk, .int .i64 ts, .int .i64 tq, .int .i64 ti, .slice XA xm xc, .slice KA km kc, .slice NA nm2 nc]) (b := [.int .i64 pl, .slice LA m30 lc]) HP3.out rfl)
  have HI3 : Hid ((Tryd.prog.info? 44).map (·.size) = some ([.int .i64 ea, .int .i64 eb, .int .i64 ec, .int .i64 ek, .int .i64 en, .int .i64 fa, .int .i64 fb, .int .i64 fc, .int .i64 tk, .int .i64 ts, .int .i64 tq, .int .i64 ti, .slice XA xm xc, .slice KA km kc, .slice NA nm2 nc] : List Value).length) := Lib.hid info_exprsz
  go_upto_region 4 with (first
    | (with_reducible refine wpList_load_mid rfl _ (.tmp 11) rfl w.heap.size 14 rfl [.int .i64 ea, .int .i64 eb, .int .i64 ec, .int .i64 ek, .int .i64 en, .int .i64 fa, .int .i64 fb, .int .i64 fc, .int .i64 tk, .int .i64 ts, .int .i64 tq, .int .i64 ti, .slice XA xm xc, .slice KA km kc, .slice NA nm2 nc] _ HG3.out Tryd.underlying44 rfl HI3.out ?_)
    | (go_at_call 78; (with_reducible refine (HE.out _ HV3.out).mono ?_); rintro e wb ⟨D', rfl, ⟨hDl, hDc⟩, hb⟩; obtain ⟨z0, z1, z2, z3, z4, z5, z6, z7, z8, z9, z10, z11, z12, z13, z14, rfl⟩ := fifteen_of D' hDl; have HCz := Lib.hid hDc; have HPy := Lib.hid (HP3.out.later hb); have HRy := Lib.hid (HR3.out.later hb); have HVy := Lib.hid (later HV3.out hb); clear hb hDl hDc)
    | (refine wpList_store_arr rfl _ (.tmp 14) (.tmp 13) rfl w.heap.size 14 31 46 _ [z0, z1, z2, z3, z4, z5, z6, z7, z8, z9, z10, z11, z12, z13, z14] [.int .i64 a, .int .i64 b, .int .i64 c0, .int .i64 kd, .int .i64 m0, .int .i64 m1, .int .i64 m2, .string nm, .slice A2 m8 c2, y0, y1, y2, y3, y4, .int .i64 ea, .int .i64 eb, .int .i64 ec, .int .i64 ek, .int .i64 en, .int .i64 fa, .int .i64 fb, .int .i64 fc, .int .i64 tk, .int .i64 ts, .int .i64 tq, .int .i64 ti, .slice XA xm xc, .slice KA km kc, .slice NA nm2 nc, .int .i64 pl, .slice LA m30 lc] rfl rfl rfl HPy.out (show 14 + 15 ≤ 31 by omega) info_exprsz HCz.out ?_; intro w5 f5 o5; have HP4 : Hid (Arr w5 w.heap.size 31 46 [.int .i64 a, .int .i64 b, .int .i64 c0, .int .i64 kd, .int .i64 m0, .int .i64 m1, .int .i64 m2, .string nm, .slice A2 m8 c2, y0, y1, y2, y3, y4, z0, z1, z2, z3, z4, z5, z6, z7, z8, z9, z10, z11, z12, z13, z14, .int .i64 pl, .slice LA m30 lc]) := Lib.hid f5; have HR4 := Lib.hid (HRy.out.only o5 (by omega)); have HV4 := Lib.hid (HVy.out.trans (o5.bel.mono (Nat.le_refl _))); clear f5 o5))
  clear HPy HRy HVy HG3 HI3 HP3 HR3 HV3 HE
  have c30 := HP4.out.cell (j := 30) (v := (.slice LA m30 lc)) rfl
  go_upto_region 5 with (go_at_call 79; (with_reducible refine (HN.out _ HV4.out).mono ?_); rintro e w2 ⟨A5, c5, rfl, hb2⟩; have P2 := HP4.out.later hb2; have d8 := P2.cell (j := 30) (v := (.slice LA m30 lc)) rfl; have f8 := P2.free 30; have HPx := Lib.hid P2; have HRx := Lib.hid (HR4.out.later hb2); have HVx := Lib.hid (later HV4.out hb2); clear P2 hb2)
  have P3 : Arr (w2.setCell ⟨w.heap.size, 30, none⟩ (.slice A5 m30 c5)) w.heap.size 31 46 [.int .i64 a, .int .i64 b, .int .i64 c0, .int .i64 kd, .int .i64 m0, .int .i64 m1, .int .i64 m2, .string nm, .slice A2 m8 c2, y0, y1, y2, y3, y4, z0, z1, z2, z3, z4, z5, z6, z7, z8, z9, z10, z11, z12, z13, z14, .int .i64 pl, .slice A5 m30 c5] := HPx.out.set_ 30 (.slice A5 m30 c5)
  have o3 : Only w.heap.size w2 (w2.setCell ⟨w.heap.size, 30, none⟩ (.slice A5 m30 c5)) := Only.setCells w.heap.size 30 [(.slice A5 m30 c5)] w2
  have R3 := HRx.out.only o3 (by omega)
  have V3 : Below w.heap.size w (w2.setCell ⟨w.heap.size, 30, none⟩ (.slice A5 m30 c5)) := HVx.out.trans (o3.bel.mono (Nat.le_refl _))
  generalize w2.setCell ⟨w.heap.size, 30, none⟩ (.slice A5 m30 c5) = w3 at P3 R3 V3 ⊢
  have HP5 := Lib.hid P3
  have HR5 := Lib.hid R3
  have HV5 := Lib.hid V3
  clear P3 o3 R3 V3 d8 f8 HPx HRx HVx HP4 HR4 HV4 c30 HN
  have HGL : Hid (World.rangeAt w3 w.heap.size 0 [.int .i64 a, .int .i64 b, .int .i64 c0, .int .i64 kd, .int .i64 m0, .int .i64 m1, .int .i64 m2, .string nm, .slice A2 m8 c2, y0, y1, y2, y3, y4, z0, z1, z2, z3, z4, z5, z6, z7, z8, z9, z10, z11, z12, z13, z14, .int .i64 pl, .slice A5 m30 c5]) := Lib.hid HP5.out.range
  have HIL : Hid ((Tryd.prog.info? 46).map (·.size) = some ([.int .i64 a, .int .i64 b, .int .i64 c0, .int .i64 kd, .int .i64 m0, .int .i64 m1, .int .i64 m2, .string nm, .slice A2 m8 c2, y0, y1, y2, y3, y4, z0, z1, z2, z3, z4, z5, z6, z7, z8, z9, z10, z11, z12, z13, z14, .int .i64 pl, .slice A5 m30 c5] : List Value).length) := Lib.hid info_def
  have HCL : Hid (∀ u ∈ ([.int .i64 a, .int .i64 b, .int .i64 c0, .int .i64 kd, .int .i64 m0, .int .i64 m1, .int .i64 m2, .string nm, .slice A2 m8 c2, y0, y1, y2, y3, y4, z0, z1, z2, z3, z4, z5, z6, z7, z8, z9, z10, z11, z12, z13, z14, .int .i64 pl, .slice A5 m30 c5] : List Value), u.oneCell' = true) := Lib.hid (by
    intro u hu
    simp only [List.mem_cons, List.not_mem_nil, or_false] at hu
    rcases hu with rfl | rfl | rfl | rfl | rfl | rfl | rfl | rfl | rfl | rfl | rfl | rfl | rfl | rfl | rfl | rfl | rfl | rfl | rfl | rfl | rfl | rfl | rfl | rfl | rfl | rfl | rfl | rfl | rfl | rfl | rfl
    · rfl
    · rfl
    · rfl
    · rfl
    · rfl
    · rfl
    · rfl
    · rfl
    · rfl
    · exact (HCy.out _ (by simp))
    · exact (HCy.out _ (by simp))
    · exact (HCy.out _ (by simp))
    · exact (HCy.out _ (by simp))
    · exact (HCy.out _ (by simp))
    · exact (HCz.out _ (by simp))
    · exact (HCz.out _ (by simp))
    · exact (HCz.out _ (by simp))
    · exact (HCz.out _ (by simp))
    · exact (HCz.out _ (by simp))
    · exact (HCz.out _ (by simp))
    · exact (HCz.out _ (by simp))
    · exact (HCz.out _ (by simp))
    · exact (HCz.out _ (by simp))
    · exact (HCz.out _ (by simp))
    · exact (HCz.out _ (by simp))
    · exact (HCz.out _ (by simp))
    · exact (HCz.out _ (by simp))
    · exact (HCz.out _ (by simp))
    · exact (HCz.out _ (by simp))
    · rfl
    · rfl)
  go_wp2_with (first
    | (with_reducible refine wpList_load_mid rfl _ (.tmp 1) rfl w.heap.size 0 rfl [.int .i64 a, .int .i64 b, .int .i64 c0, .int .i64 kd, .int .i64 m0, .int .i64 m1, .int .i64 m2, .string nm, .slice A2 m8 c2, y0, y1, y2, y3, y4, z0, z1, z2, z3, z4, z5, z6, z7, z8, z9, z10, z11, z12, z13, z14, .int .i64 pl, .slice A5 m30 c5] _ HGL.out Tryd.underlying46 rfl HIL.out ?_)
    | (refine wpList_store_arr rfl _ (.tmp 2) (.tmp 19) rfl (w.heap.size + 1) 0 31 46 _ [.int .i64 a, .int .i64 b, .int .i64 c0, .int .i64 kd, .int .i64 m0, .int .i64 m1, .int .i64 m2, .string nm, .slice A2 m8 c2, y0, y1, y2, y3, y4, z0, z1, z2, z3, z4, z5, z6, z7, z8, z9, z10, z11, z12, z13, z14, .int .i64 pl, .slice A5 m30 c5] z31 rfl rfl rfl HR5.out (show 0 + 31 ≤ 31 by omega) info_def HCL.out ?_; intro w10 f10 o10))
  rw [setAll_all z31 [.int .i64 a, .int .i64 b, .int .i64 c0, .int .i64 kd, .int .i64 m0, .int .i64 m1, .int .i64 m2, .string nm, .slice A2 m8 c2, y0, y1, y2, y3, y4, z0, z1, z2, z3, z4, z5, z6, z7, z8, z9, z10, z11, z12, z13, z14, .int .i64 pl, .slice A5 m30 c5] rfl] at f10
  exact bodyPost_ret (results_one rfl _ _ (w.heap.size + 1) [.int .i64 a, .int .i64 b, .int .i64 c0, .int .i64 kd, .int .i64 m0, .int .i64 m1, .int .i64 m2, .string nm, .slice A2 m8 c2, y0, y1, y2, y3, y4, z0, z1, z2, z3, z4, z5, z6, z7, z8, z9, z10, z11, z12, z13, z14, .int .i64 pl, .slice A5 m30 c5] _ rfl f10.range Tryd.underlying46 rfl info_def) rfl ⟨_, _, [y0, y1, y2, y3, y4, z0, z1, z2, z3, z4, z5, z6, z7, z8, z9, z10, z11, z12, z13, z14, .int .i64 pl, .slice A5 m30 c5], rfl, rfl, fun u hu => HCL.out u (show u ∈ ([.int .i64 a, .int .i64 b, .int .i64 c0, .int .i64 kd, .int .i64 m0, .int .i64 m1, .int .i64 m2, .string nm, .slice A2 m8 c2] : List Value) ++ [y0, y1, y2, y3, y4, z0, z1, z2, z3, z4, z5, z6, z7, z8, z9, z10, z11, z12, z13, z14, .int .i64 pl, .slice A5 m30 c5] from List.mem_append_right _ hu), HV5.out.trans (o10.bel.mono (by omega))⟩
end Go.Proofs.YtkpoiljioadfgaaDoor

namespace Go.Proofs.YtkpoiljioadfgaaDoor
open Go.RowKit
theorem ty_cells {w : World} {x : Ty} {D : List Value} (h : TyAt w x (.agg D.toArray)) : D.length = 5 ∧ ∀ u ∈ D, u.oneCell' = true := by
  obtain ⟨k, s, q, i, A, l, c, e⟩ := h.shape
  have : D = t5 k s q i A l c := by simpa using e
  rw [this]
  exact ⟨rfl, by intro u hu; simp [t5] at hu; rcases hu with rfl | rfl | rfl | rfl | rfl <;> rfl⟩
theorem copyType_any : ∀ (N : Nat) (x : Ty), x.nodes ≤ N → ∀ (w : World) (v : Value), TyAt w x v → tsm x → Calls Tryd.prog 77 #[v] w (CpRes 5 w)
  | 0, x, hN, _, _, _, _ => absurd hN (by have := x.nodes_pos; omega)
  | N + 1, .node k s q i ks, hN, w, v, h, hs => by
    unfold TyAt at h
    obtain ⟨A, cap, rfl, ⟨h1, h2, _⟩, hk⟩ := h
    unfold tsm at hs
    refine copyType_step k s q i A ks.length cap w (Lib.hid fun W hb => copyL_types W A ks.length cap ?_)
    by_cases h0 : 0 < ks.length
    · obtain ⟨g, o, cs0, rfl, _, _⟩ := KtAt.get hk (List.getElem?_eq_getElem h0)
      obtain ⟨C, c1, c2, c3, c4⟩ := rowOf (w := W) (g := g) (sz := 5) (Φ := fun x D => TyAt W x (.agg D.toArray)) (fun x D h => ty_cells h) ks o (fun j x hx => by
        obtain ⟨g', o', cs, hA, hr, ht⟩ := KtAt.get (KtAt.later hb hk) hx
        cases hA
        exact ⟨cs, by simpa using hr, ht⟩)
      refine .inr ⟨g, o, C, rfl, c1, c2, c3, h0, ⟨h1, h2⟩, hs.1, fun j D W' hj hD hd hb' => ?_⟩
      have hx := List.getElem?_eq_getElem hj
      exact copyType_any N ks[j] (by have := Ty.kid_less (k := k) (s := s) (q := q) (i := i) hx; omega) W' _ (TyAt.later hb' (c4 j _ D hx hD hd)) (tsmL_get hs.2 hx)
    · exact .inl (by omega)
theorem sl_cells {w : World} {x : Sl} {D : List Value} (h : SlAt w x D) : D.length = 11 ∧ ∀ u ∈ D, u.oneCell' = true := by
  refine ⟨h.len, ?_⟩
  obtain ⟨T, rfl, _, hT⟩ := h
  have hc := (ty_cells hT).2
  intro u hu
  simp only [List.mem_append, List.mem_cons, List.not_mem_nil, or_false] at hu
  rcases hu with ((rfl | rfl | rfl | rfl) | hu) | (rfl | rfl)
  · rfl
  · rfl
  · rfl
  · rfl
  · exact hc u hu
  · rfl
  · rfl
theorem copySlot_any (x : Sl) (w : World) (D : List Value) (h : SlAt w x D) (hs : tsm x.ty) : Calls Tryd.prog 76 #[.agg D.toArray] w (CpRes 11 w) := by
  obtain ⟨T, rfl, _, hT⟩ := h
  obtain ⟨k, s, q, i, A, l, c, e⟩ := hT.shape
  have : T = t5 k s q i A l c := by simpa using e
  subst this
  exact copySlot_step x.a x.b x.c k s q i x.most x.place x.name A l c w (Lib.hid fun W hb => copyType_any _ x.ty (Nat.le_refl _) W _ (TyAt.later hb hT) hs)
theorem KxAt.get {w : World} {A : Option Addr} : ∀ {xs : List Ex} {i j : Nat} {x : Ex}, KxAt w A i xs → xs[j]? = some x → ∃ g o cs, A = some ⟨g, o, none⟩ ∧ w.rangeAt g (o + (i + j) * 15) cs ∧ ExAt w x cs
  | [], i, j, x, _, h => by simp at h
  | y :: ys, i, 0, x, hk, h => by
    simp at h; subst h
    unfold KxAt at hk
    exact hk.1
  | y :: ys, i, j + 1, x, hk, h => by
    unfold KxAt at hk
    have := KxAt.get hk.2 (j := j) (x := x) (by simpa using h)
    rwa [show i + 1 + j = i + (j + 1) by omega] at this
theorem enodesL_get : ∀ {xs : List Ex} {j : Nat} {x : Ex}, xs[j]? = some x → x.nodes ≤ enodesL xs
  | [], j, x, h => by simp at h
  | y :: ys, 0, x, h => by simp at h; subst h; unfold enodesL; omega
  | y :: ys, j + 1, x, h => by
    have := enodesL_get (xs := ys) (j := j) (x := x) (by simpa using h)
    unfold enodesL; omega
theorem copyExpr_any : ∀ (N : Nat) (x : Ex), x.nodes ≤ N → ∀ (w : World) (D : List Value), ExAt w x D → esm x → Calls Tryd.prog 78 #[.agg D.toArray] w (CpRes 15 w)
  | 0, x, hN, _, _, _, _ => absurd hN (by cases x; unfold Ex.nodes; omega)
  | N + 1, .node a b c kk n ra rb rc ty ks names, hN, w, D, h, hs => by
    unfold ExAt at h
    obtain ⟨T, A, cap, nv, rfl, ⟨hT5, h1, h2⟩, hT, ⟨NA, ncap, rfl, hn1, hn2⟩, hk⟩ := h
    unfold esm at hs
    obtain ⟨s1, s2, s3, s4⟩ := hs
    obtain ⟨k, s, q, i, TA, l, tc, e⟩ := hT.shape
    have : T = t5 k s q i TA l tc := by simpa using e
    subst this
    refine copyExpr_step a b c kk n ra rb rc k s q i TA A NA l tc ks.length cap names.length ncap w (Lib.hid fun W hb => copyType_any _ ty (Nat.le_refl _) W _ (TyAt.later hb hT) s1) (Lib.hid fun W hb => copyL_exprs W A ks.length cap ?_) (Lib.hid fun W hb => cloneL_strs W NA names ncap ((StrsAt.later ⟨NA, ncap, rfl, hn1, hn2⟩ hb).elim fun A' h => h.elim fun c' h => by
      obtain ⟨he, _, hr⟩ := h
      cases he; exact hr) hn1 s3)
    by_cases h0 : 0 < ks.length
    · obtain ⟨g, o, cs0, rfl, _, _⟩ := KxAt.get hk (List.getElem?_eq_getElem h0)
      obtain ⟨C, c1, c2, c3, c4⟩ := rowOf (w := W) (g := g) (sz := 15) (Φ := fun x D => ExAt W x D) (fun x D h => ⟨h.len, h.cells⟩) ks o (fun j x hx => by
        obtain ⟨g', o', cs, hA, hr, ht⟩ := KxAt.get (KxAt.later hb hk) hx
        cases hA
        exact ⟨cs, by simpa using hr, ht⟩)
      refine .inr ⟨g, o, C, rfl, c1, c2, c3, h0, ⟨h1, h2⟩, s2, fun j D W' hj hD hd hb' => ?_⟩
      have hx := List.getElem?_eq_getElem hj
      exact copyExpr_any N ks[j] (by have := enodesL_get hx; unfold Ex.nodes at hN; omega) W' _ (ExAt.later hb' (c4 j _ D hx hD hd)) (esmL_get s4 hx)
    · exact .inl (by omega)
def CDR (d : Df) (w : World) (e : Ending) (w' : World) : Prop := ∃ D : List Value, e = .returned (.agg D.toArray) ∧ D.length = 31 ∧ (∀ u ∈ D, u.oneCell' = true) ∧ Hid (∃ (A : Option Addr) (cap : Nat) (Y : List Value), D = ([.int .i64 d.a, .int .i64 d.b, .int .i64 d.c, .int .i64 d.kind, .int .i64 d.ma, .int .i64 d.mb, .int .i64 d.mc, .string d.name, .slice A d.slots.length cap] : List Value) ++ Y) ∧ Below w.heap.size w w'
theorem copyDef_any (d : Df) (w : World) (D : List Value) (h : DfAt w d D) (hs : dsm d) : Calls Tryd.prog 50 #[.agg D.toArray] w (CDR d w) := by
  obtain ⟨sv, T, E, lv, rfl, hT5, ⟨A, cap, rfl, hm, hsl⟩, hT, hE, ⟨LA, lcap, rfl, hl1, hl2⟩⟩ := h
  obtain ⟨s1, s2, s3, s4, s5⟩ := hs
  obtain ⟨k, s, q, i, TA, l, tc, e⟩ := hT.shape
  have : T = t5 k s q i TA l tc := by simpa using e
  subst this
  have hEx := hE
  obtain ⟨⟨ea, eb, ec, ek, en, fa, fb, fc, ety, eks, enames⟩, hbd⟩ : ∃ x, d.body = x := ⟨_, rfl⟩
  rw [hbd] at hE
  unfold ExAt at hE
  obtain ⟨ET, KA, kcap, nv, rfl, ⟨hE5, h1, h2⟩, hET, ⟨NA, ncap, rfl, hn1, hn2⟩, hk⟩ := hE
  obtain ⟨tk, ts, tq, ti, XA, xl, xc, e2⟩ := hET.shape
  have : ET = t5 tk ts tq ti XA xl xc := by simpa using e2
  subst this
  refine (copyDef_step d.a d.b d.c d.kind d.ma d.mb d.mc k s q i ea eb ec ek en fa fb fc tk ts tq ti d.place d.name A TA XA KA NA LA d.slots.length cap l tc xl xc eks.length kcap enames.length ncap d.lay.length lcap w
    (Lib.hid fun W hb => copyL_slots W A d.slots.length cap ?_) (Lib.hid fun W hb => copyType_any _ d.res (Nat.le_refl _) W _ (TyAt.later hb hT) s3) (Lib.hid fun W hb => copyExpr_any _ d.body (Nat.le_refl _) W _ (ExAt.later hb hEx) s4)
    (Lib.hid fun W hb => cloneL_strs W LA d.lay lcap ((StrsAt.later ⟨LA, lcap, rfl, hl1, hl2⟩ hb).elim fun A' h => h.elim fun c' h => by
      obtain ⟨he, _, hr⟩ := h
      cases he; exact hr) hl1 s5)).mono ?_
  · by_cases h0 : 0 < d.slots.length
    · obtain ⟨g, o, cs0, rfl, _, _⟩ := hsl 0 _ (List.getElem?_eq_getElem h0)
      obtain ⟨C, c1, c2, c3, c4⟩ := rowOf (w := W) (g := g) (sz := 11) (Φ := fun x D => SlAt W x D) (fun x D h => sl_cells h) d.slots o (fun j x hx => by
        obtain ⟨g', o', cs, hA, hr, ht⟩ := hsl j x hx
        cases hA
        exact ⟨cs, range_below hr hb, ht.later hb⟩)
      refine .inr ⟨g, o, C, rfl, c1, c2, c3, h0, hm, s1, fun j D W' hj hD hd hb' => ?_⟩
      have hx := List.getElem?_eq_getElem hj
      exact copySlot_any d.slots[j] W' D ((c4 j _ D hx hD hd).later hb') (s2 _ (List.getElem_mem _))
    · exact .inl (by omega)
  · rintro e w' ⟨A', cap', Y, rfl, hY, hc, hb⟩
    refine ⟨_, rfl, by rw [List.length_append, hY]; rfl, fun u hu => ?_, Lib.hid ⟨A', cap', Y, rfl⟩, hb⟩
    rcases List.mem_append.1 hu with h | h
    · simp only [List.mem_cons, List.not_mem_nil, or_false] at h
      rcases h with rfl | rfl | rfl | rfl | rfl | rfl | rfl | rfl | rfl <;> rfl
    · exact hc u h
def dinfo (P : List Df) (a b c : Int) : Bool × Int × Int × Int × ByteArray × Nat := (P[fnd P a b c]?).elim (false, 0, 0, 0, ⟨#[]⟩, 0) (fun d => (true, d.a, d.b, d.c, d.name, d.slots.length))
def DOut (P : List Df) (a b c : Int) (w : World) (e : Ending) (w' : World) : Prop := ∃ D : List Value, e = .returned (.tuple #[.agg D.toArray, .bool (dinfo P a b c).1]) ∧ D.length = 31 ∧ (∀ u ∈ D, u.oneCell' = true) ∧ Hid (∃ (x3 x4 x5 x6 : Value) (A : Option Addr) (cap : Nat) (Y : List Value), D = ([.int .i64 (dinfo P a b c).2.1, .int .i64 (dinfo P a b c).2.2.1, .int .i64 (dinfo P a b c).2.2.2.1, x3, x4, x5, x6, .string (dinfo P a b c).2.2.2.2.1, .slice A (dinfo P a b c).2.2.2.2.2 cap] : List Value) ++ Y) ∧ Below w.heap.size w w'
theorem z31_out (P : List Df) (a b c : Int) (w w' : World) (hn : P[fnd P a b c]? = none) (hb : Below w.heap.size w w') : DOut P a b c w (.returned (.tuple #[.agg z31.toArray, .bool false])) w' := by
  have hi : dinfo P a b c = (false, 0, 0, 0, ⟨#[]⟩, 0) := by unfold dinfo; rw [hn]; rfl
  refine ⟨z31, by rw [hi], rfl, by decide, Lib.hid ?_, hb⟩
  rw [hi]
  exact ⟨_, _, _, _, _, _, _, rfl⟩
theorem rdef_out (P : List Df) (a b c : Int) (w : World) (v : Value) (h : PrAt w P v) : Calls Tryd.prog 21 #[v, .agg #[.int .i64 a, .int .i64 b, .int .i64 c]] w (DOut P a b c w) := by
  refine (rdef_any P a b c w v h).mono ?_
  rintro e w' ⟨hb, ⟨d, C, hd, rfl, hC⟩ | ⟨hn, rfl⟩⟩
  · have hi : dinfo P a b c = (true, d.a, d.b, d.c, d.name, d.slots.length) := by unfold dinfo; rw [hd]; rfl
    refine ⟨C, by rw [hi], hC.len, hC.cells, Lib.hid ?_, hb⟩
    rw [hi]
    obtain ⟨sv, T, E, lv, rfl, _, ⟨A, cap, rfl, _⟩, _⟩ := hC
    exact ⟨.int .i64 d.kind, .int .i64 d.ma, .int .i64 d.mb, .int .i64 d.mc, A, cap, T ++ E ++ [.int .i64 d.place, lv], by simp⟩
  · exact z31_out P a b c w w' hn hb
end Go.Proofs.YtkpoiljioadfgaaDoor

namespace Go.Proofs.YtkpoiljioadfgaaDoor
open Go.RowKit
theorem build_def0 (W : World) : (Instr.build 46 #[]).run Tryd.prog W = .ok (.agg z31.toArray) W := by kernel_rfl
set_option maxHeartbeats 4000000 in
set_option maxRecDepth 100000 in
theorem Def_any (P : List Df) (hS : ∀ d ∈ P, dsm d) (a b c : Int) (w : World) (v : Value) (hP0 : PrAt w P v) :
    Calls Tryd.prog 20 #[v, .agg #[.int .i64 a, .int .i64 b, .int .i64 c]] w (DOut P a b c w) := by
  have hPR := hP0
  obtain ⟨mv, A, cap, rfl, hm, hP⟩ := hP0
  obtain ⟨n, hn⟩ : ∃ n, P.length = n := ⟨_, rfl⟩
  rw [hn] at hm hPR ⊢
  have P0 := p2_new w mv (.slice A n cap)
  have V0 := new_later w (.cells #[mv, .slice A n cap] 26)
  have Q0 := i3_new (w.alloc (.cells #[mv, .slice A n cap] 26)) a b c
  have b1 := new_later (w.alloc (.cells #[mv, .slice A n cap] 26)) (.cells #[.int .i64 a, .int .i64 b, .int .i64 c] 28)
  have R0 := z31_new ((w.alloc (.cells #[mv, .slice A n cap] 26)).alloc (.cells #[.int .i64 a, .int .i64 b, .int .i64 c] 28))
  have b2 := new_later ((w.alloc (.cells #[mv, .slice A n cap] 26)).alloc (.cells #[.int .i64 a, .int .i64 b, .int .i64 c] 28)) (.cells z31.toArray 46)
  have hzd := zero_def
  have hbd := build_def0
  have hz31 : z31.toArray = #[.int .i64 0, .int .i64 0, .int .i64 0, .int .i64 0, .int .i64 0, .int .i64 0, .int .i64 0, .string ⟨#[]⟩, .slice none 0 0, .int .i64 0, .int .i64 0, .int .i64 0, .int .i64 0, .slice none 0 0, .int .i64 0, .int .i64 0, .int .i64 0, .int .i64 0, .int .i64 0, .int .i64 0, .int .i64 0, .int .i64 0, .int .i64 0, .int .i64 0, .int .i64 0, .int .i64 0, .slice none 0 0, .slice none 0 0, .slice none 0 0, .int .i64 0, .slice none 0 0] := rfl
  rw [hz31] at R0 b2 hzd
  replace P0 := (P0.later b1).later b2
  replace Q0 := Q0.later b2
  have V1 := later (later V0 b1) b2
  rw [World.size_alloc] at Q0
  rw [World.size_alloc, World.size_alloc] at R0
  clear V0 b1 b2
  generalize hW : ((w.alloc (.cells #[mv, .slice A n cap] 26)).alloc (.cells #[.int .i64 a, .int .i64 b, .int .i64 c] 28)).alloc (.cells #[.int .i64 0, .int .i64 0, .int .i64 0, .int .i64 0, .int .i64 0, .int .i64 0, .int .i64 0, .string ⟨#[]⟩, .slice none 0 0, .int .i64 0, .int .i64 0, .int .i64 0, .int .i64 0, .slice none 0 0, .int .i64 0, .int .i64 0, .int .i64 0, .int .i64 0, .int .i64 0, .int .i64 0, .int .i64 0, .int .i64 0, .int .i64 0, .int .i64 0, .int .i64 0, .int .i64 0, .slice none 0 0, .slice none 0 0, .slice none 0 0, .int .i64 0, .slice none 0 0] 46) = wa at P0 Q0 R0 V1
  have y0 := Q0.cell (j := 0) (v := .int .i64 a) rfl
  have y1 := Q0.cell (j := 1) (v := .int .i64 b) rfl
  have y2 := Q0.cell (j := 2) (v := .int .i64 c) rfl
  have p0 := P0.cell (j := 0) (v := mv) rfl
  have p1 := P0.cell (j := 1) (v := .slice A n cap) rfl
  have HP := Lib.hid P0
  have HR := Lib.hid R0
  have HV := Lib.hid V1
  have HFI : Hid (Calls Tryd.prog 49 #[.agg #[mv, .slice A n cap], .agg #[.int .i64 a, .int .i64 b, .int .i64 c]] wa fun e w' => e = .returned (.int .i64 (fndI P a b c)) ∧ Below wa.heap.size wa w') := Lib.hid (find_any P a b c wa _ (hPR.later V1))
  obtain ⟨r, hr⟩ : ∃ r, fndI P a b c = r := ⟨_, rfl⟩
  rw [hr] at HFI
  have HPP := Lib.hid hP
  have HPR := Lib.hid hPR
  have HN := Lib.hid hn
  have HSS := Lib.hid hS
  have hnc : (n : Int) ≤ (cap : Int) := by have := hm.2.1; omega
  by_cases hf : fnd P a b c < P.length
  · have hrj : r = (fnd P a b c : Int) := by rw [← hr]; unfold fndI; rw [if_pos hf]
    obtain ⟨k, hk⟩ : ∃ k, fnd P a b c = k := ⟨_, rfl⟩
    rw [hk] at hrj hf
    subst hrj
    obtain ⟨g, o, C, rfl, hrg, hdf⟩ := hP k _ (List.getElem?_eq_getElem hf)
    have HD : Hid (P[fnd P a b c]? = some (P[k]'hf)) := Lib.hid (by rw [hk]; exact List.getElem?_eq_getElem hf)
    have HSD : Hid (dsm (P[k]'hf)) := Lib.hid (hS _ (List.getElem_mem hf))
    generalize P[k]'hf = d at HD HSD hdf
    have HRG0 := Lib.hid hrg
    have HDF := Lib.hid hdf
    have hki : (k : Int) < (n : Int) := by omega
    have hk0 : (0 : Int) ≤ (k : Int) := by omega
    have HIC : Hid ((Tryd.prog.info? 46).map (·.size) = some C.length) := Lib.hid (by rw [hdf.len]; exact info_def)
    clear P0 Q0 R0 V1 hz31 hPR hP hS hm hr hf hk hrg hdf hn hbd
    go_enter Tryd.func20, Tryd.ntmps20
    go_upto_region 1 with fail
    clear hW hzd
    go_upto_region 4 with (go_at_call 49; (with_reducible refine HFI.out.mono ?_); rintro e w2 ⟨rfl, hb2⟩; have HR2 := Lib.hid (HR.out.later hb2); have HV2 := Lib.hid (later HV.out hb2); have p1' := (HP.out.later hb2).cell (j := 1) (v := .slice (some ⟨g, o, none⟩) n cap) rfl; clear hb2)
    have HRG : Hid (w2.rangeAt g (o + k * 31) C) := Lib.hid (range_below HRG0.out HV2.out)
    have HCD : Hid (∀ W, Below w2.heap.size w2 W → Calls Tryd.prog 50 #[.agg C.toArray] W (CDR d W)) := Lib.hid fun W hb => copyDef_any d W C (HDF.out.later (later HV2.out hb)) HSD.out
    clear HR HV HP HFI HRG0 y0 y1 y2 p0 p1
    go_wp2_with (first
      | (with_reducible refine wpList_load_mid rfl _ (.tmp 16) rfl g (o + k * 31) rfl C _ HRG.out Tryd.underlying46 rfl HIC.out ?_)
      | (go_at_call 50; (with_reducible refine (HCD.out _ (Below.refl _ _)).mono ?_); rintro e w3 ⟨D, rfl, hDl, hDc, hDd, hb3⟩; have HR3 := Lib.hid (HR2.out.later hb3); have HV3 := Lib.hid (later HV2.out hb3); have HDL := Lib.hid hDl; have HDC := Lib.hid hDc; have HID : Hid ((Tryd.prog.info? 46).map (·.size) = some D.length) := Lib.hid (by rw [hDl]; exact info_def); clear hb3 hDl hDc)
      | (refine wpList_store_arr rfl _ (.tmp 4) (.tmp 18) rfl (w.heap.size + 1 + 1) 0 31 46 _ D z31 rfl rfl rfl HR3.out (by rw [HDL.out]; omega) HID.out HDC.out ?_; intro w4 f4 o4))
    rw [setAll_all z31 D (by rw [HDL.out]; rfl)] at f4
    refine bodyPost_ret (results_cellB rfl _ _ (w.heap.size + 1 + 1) D _ rfl f4.range Tryd.underlying46 rfl HID.out) rfl ?_
    have hi : dinfo P a b c = (true, d.a, d.b, d.c, d.name, d.slots.length) := by unfold dinfo; rw [HD.out]; rfl
    refine ⟨D, by rw [hi]; rfl, HDL.out, HDC.out, Lib.hid ?_, HV3.out.trans (o4.bel.mono (by omega))⟩
    rw [hi]
    obtain ⟨A', cap', Y, h⟩ := hDd.out
    exact ⟨.int .i64 d.kind, .int .i64 d.ma, .int .i64 d.mb, .int .i64 d.mc, A', cap', Y, h⟩
  · have hrj : r = -1 := by rw [← hr]; unfold fndI; rw [if_neg hf]
    subst hrj
    have HD : Hid (P[fnd P a b c]? = none) := Lib.hid (List.getElem?_eq_none (by omega))
    have HBD := Lib.hid hbd
    have HOZ : Hid (∀ v ∈ z31, v.oneCell' = true) := Lib.hid (by decide)
    clear P0 Q0 R0 V1 hz31 hPR hP hS hm hr hf hn
    go_enter Tryd.func20, Tryd.ntmps20
    go_upto_region 1 with fail
    clear hW hzd
    go_upto_region 3 with (go_at_call 49; (with_reducible refine HFI.out.mono ?_); rintro e w2 ⟨rfl, hb2⟩; have HR2 := Lib.hid (HR.out.later hb2); have HV2 := Lib.hid (later HV.out hb2); clear hb2)
    clear HR HV HP HFI y0 y1 y2 p0 p1
    go_wp2_with (refine wpList_store_arr rfl _ (.tmp 4) (.tmp 12) rfl (w.heap.size + 1 + 1) 0 31 46 _ z31 z31 rfl rfl rfl HR2.out (by decide) (by exact info_def) HOZ.out ?_; intro w7 f7 o7)
    rw [setAll_all _ _ rfl] at f7
    refine bodyPost_ret (results_cellB rfl _ _ (w.heap.size + 1 + 1) z31 _ rfl f7.range Tryd.underlying46 rfl info_def) rfl ?_
    exact z31_out P a b c w _ HD.out (HV2.out.trans (o7.bel.mono (by omega)))
end Go.Proofs.YtkpoiljioadfgaaDoor

