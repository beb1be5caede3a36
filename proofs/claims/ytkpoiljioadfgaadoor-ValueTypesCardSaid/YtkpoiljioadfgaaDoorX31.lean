import Derived.Test.YtkpoiljioadfgaaDoorX30

set_option linter.unusedVariables false
set_option linter.unusedSimpArgs false
namespace Go.Proofs.YtkpoiljioadfgaaDoor
open Go.RowKit
theorem five_of (D : List Value) (h : D.length = 5) : ∃ y0 y1 y2 y3 y4 : Value, D = [y0, y1, y2, y3, y4] := by
  match D, h with
  | [y0, y1, y2, y3, y4], _ => exact ⟨y0, y1, y2, y3, y4, rfl⟩
theorem fifteen_of (D : List Value) (h : D.length = 15) : ∃ y0 y1 y2 y3 y4 y5 y6 y7 y8 y9 y10 y11 y12 y13 y14 : Value, D = [y0, y1, y2, y3, y4, y5, y6, y7, y8, y9, y10, y11, y12, y13, y14] := by
  match D, h with
  | [y0, y1, y2, y3, y4, y5, y6, y7, y8, y9, y10, y11, y12, y13, y14], _ => exact ⟨y0, y1, y2, y3, y4, y5, y6, y7, y8, y9, y10, y11, y12, y13, y14, rfl⟩
set_option maxHeartbeats 4000000 in
set_option maxRecDepth 100000 in
theorem copyType_step (k s q i : Int) (A : Option Addr) (m4 c : Nat) (w : World)
    (HCL : Hid (∀ W, Below w.heap.size w W → Calls Tryd.prog 88 #[.slice A m4 c, .func (.func 77) #[] #[]] W (CLRes m4 W))) :
    Calls Tryd.prog 77 #[.agg #[.int .i64 k, .int .i64 s, .int .i64 q, .int .i64 i, .slice A m4 c]] w (CpRes 5 w) := by
  have P0 : Arr (w.alloc (.cells #[.int .i64 k, .int .i64 s, .int .i64 q, .int .i64 i, .slice A m4 c] 31)) w.heap.size 5 31 [.int .i64 k, .int .i64 s, .int .i64 q, .int .i64 i, .slice A m4 c] := Arr.new' w _ _ 5 _ rfl rfl (by decide)
  have V0 := new_later w (.cells #[.int .i64 k, .int .i64 s, .int .i64 q, .int .i64 i, .slice A m4 c] 31)
  have b2 := new_later (w.alloc (.cells #[.int .i64 k, .int .i64 s, .int .i64 q, .int .i64 i, .slice A m4 c] 31)) (.cells #[.int .i64 0, .int .i64 0, .int .i64 0, .int .i64 0, .slice none 0 0] 31)
  have R0 := Arr.new' (w.alloc (.cells #[.int .i64 k, .int .i64 s, .int .i64 q, .int .i64 i, .slice A m4 c] 31)) 31 #[.int .i64 0, .int .i64 0, .int .i64 0, .int .i64 0, .slice none 0 0] 5 zz5 rfl rfl (by decide)
  rw [World.size_alloc] at R0
  have P1 := P0.later b2
  have V1 := later V0 b2
  generalize hW : (w.alloc (.cells #[.int .i64 k, .int .i64 s, .int .i64 q, .int .i64 i, .slice A m4 c] 31)).alloc (.cells #[.int .i64 0, .int .i64 0, .int .i64 0, .int .i64 0, .slice none 0 0] 31) = wa at P1 V1 R0
  have HR1 := Lib.hid R0
  have HP1 := Lib.hid P1
  have HV1 := Lib.hid V1
  clear P0 V0 b2 R0 P1 V1
  go_enter Tryd.func77, Tryd.ntmps77
  go_upto_region 1 with fail
  clear hW
  have c4 := HP1.out.cell (j := 4) (v := (.slice A m4 c)) rfl
  go_upto_region 2 with (go_at_call 88; (with_reducible refine (HCL.out _ HV1.out).mono ?_); rintro e w2 ⟨A2, c2, rfl, hb2⟩; have P2 := HP1.out.later hb2; have d8 := P2.cell (j := 4) (v := (.slice A m4 c)) rfl; have f8 := P2.free 4; have HPx := Lib.hid P2; have HRx := Lib.hid (HR1.out.later hb2); have HVx := Lib.hid (later HV1.out hb2); clear P2 hb2)
  have P3 : Arr (w2.setCell ⟨w.heap.size, 4, none⟩ (.slice A2 m4 c2)) w.heap.size 5 31 [.int .i64 k, .int .i64 s, .int .i64 q, .int .i64 i, .slice A2 m4 c2] := HPx.out.set_ 4 (.slice A2 m4 c2)
  have o3 : Only w.heap.size w2 (w2.setCell ⟨w.heap.size, 4, none⟩ (.slice A2 m4 c2)) := Only.setCells w.heap.size 4 [(.slice A2 m4 c2)] w2
  have R3 := HRx.out.only o3 (by omega)
  have V3 : Below w.heap.size w (w2.setCell ⟨w.heap.size, 4, none⟩ (.slice A2 m4 c2)) := HVx.out.trans (o3.bel.mono (Nat.le_refl _))
  generalize w2.setCell ⟨w.heap.size, 4, none⟩ (.slice A2 m4 c2) = w3 at P3 R3 V3 ⊢
  have HP2 := Lib.hid P3
  have HR2 := Lib.hid R3
  have HV2 := Lib.hid V3
  clear P3 o3 R3 V3 d8 f8 HPx HRx HVx HP1 HR1 HV1 c4 HCL
  have HGL : Hid (World.rangeAt w3 w.heap.size 0 [.int .i64 k, .int .i64 s, .int .i64 q, .int .i64 i, .slice A2 m4 c2]) := Lib.hid HP2.out.range
  have HIL : Hid ((Tryd.prog.info? 31).map (·.size) = some ([.int .i64 k, .int .i64 s, .int .i64 q, .int .i64 i, .slice A2 m4 c2] : List Value).length) := Lib.hid info_typesz
  have HCL : Hid (∀ u ∈ ([.int .i64 k, .int .i64 s, .int .i64 q, .int .i64 i, .slice A2 m4 c2] : List Value), u.oneCell' = true) := Lib.hid (by
    intro u hu
    simp only [List.mem_cons, List.not_mem_nil, or_false] at hu
    rcases hu with rfl | rfl | rfl | rfl | rfl
    · rfl
    · rfl
    · rfl
    · rfl
    · rfl)
  go_wp2_with (first
    | (with_reducible refine wpList_load_mid rfl _ (.tmp 1) rfl w.heap.size 0 rfl [.int .i64 k, .int .i64 s, .int .i64 q, .int .i64 i, .slice A2 m4 c2] _ HGL.out Tryd.underlying31 rfl HIL.out ?_)
    | (refine wpList_store_arr rfl _ (.tmp 2) (.tmp 7) rfl (w.heap.size + 1) 0 5 31 _ [.int .i64 k, .int .i64 s, .int .i64 q, .int .i64 i, .slice A2 m4 c2] zz5 rfl rfl rfl HR2.out (show 0 + 5 ≤ 5 by omega) info_typesz HCL.out ?_; intro w10 f10 o10))
  rw [setAll_all zz5 [.int .i64 k, .int .i64 s, .int .i64 q, .int .i64 i, .slice A2 m4 c2] rfl] at f10
  exact bodyPost_ret (results_one rfl _ _ (w.heap.size + 1) [.int .i64 k, .int .i64 s, .int .i64 q, .int .i64 i, .slice A2 m4 c2] _ rfl f10.range Tryd.underlying31 rfl info_typesz) rfl ⟨[.int .i64 k, .int .i64 s, .int .i64 q, .int .i64 i, .slice A2 m4 c2], rfl, ⟨rfl, HCL.out⟩, HV2.out.trans (o10.bel.mono (by omega))⟩
set_option maxHeartbeats 4000000 in
set_option maxRecDepth 100000 in
theorem copySlot_step (a b c0 k s q i x y : Int) (nm : ByteArray) (A : Option Addr) (m c : Nat) (w : World)
    (HT : Hid (∀ W, Below w.heap.size w W → Calls Tryd.prog 77 #[.agg #[.int .i64 k, .int .i64 s, .int .i64 q, .int .i64 i, .slice A m c]] W (CpRes 5 W))) :
    Calls Tryd.prog 76 #[.agg #[.int .i64 a, .int .i64 b, .int .i64 c0, .string nm, .int .i64 k, .int .i64 s, .int .i64 q, .int .i64 i, .slice A m c, .int .i64 x, .int .i64 y]] w (CpRes 11 w) := by
  have P0 : Arr (w.alloc (.cells #[.int .i64 a, .int .i64 b, .int .i64 c0, .string nm, .int .i64 k, .int .i64 s, .int .i64 q, .int .i64 i, .slice A m c, .int .i64 x, .int .i64 y] 66)) w.heap.size 11 66 [.int .i64 a, .int .i64 b, .int .i64 c0, .string nm, .int .i64 k, .int .i64 s, .int .i64 q, .int .i64 i, .slice A m c, .int .i64 x, .int .i64 y] := Arr.new' w _ _ 11 _ rfl rfl (by decide)
  have V0 := new_later w (.cells #[.int .i64 a, .int .i64 b, .int .i64 c0, .string nm, .int .i64 k, .int .i64 s, .int .i64 q, .int .i64 i, .slice A m c, .int .i64 x, .int .i64 y] 66)
  have b2 := new_later (w.alloc (.cells #[.int .i64 a, .int .i64 b, .int .i64 c0, .string nm, .int .i64 k, .int .i64 s, .int .i64 q, .int .i64 i, .slice A m c, .int .i64 x, .int .i64 y] 66)) (.cells #[.int .i64 0, .int .i64 0, .int .i64 0, .string ⟨#[]⟩, .int .i64 0, .int .i64 0, .int .i64 0, .int .i64 0, .slice none 0 0, .int .i64 0, .int .i64 0] 66)
  have R0 := Arr.new' (w.alloc (.cells #[.int .i64 a, .int .i64 b, .int .i64 c0, .string nm, .int .i64 k, .int .i64 s, .int .i64 q, .int .i64 i, .slice A m c, .int .i64 x, .int .i64 y] 66)) 66 #[.int .i64 0, .int .i64 0, .int .i64 0, .string ⟨#[]⟩, .int .i64 0, .int .i64 0, .int .i64 0, .int .i64 0, .slice none 0 0, .int .i64 0, .int .i64 0] 11 zz11 rfl rfl (by decide)
  rw [World.size_alloc] at R0
  have P1 := P0.later b2
  have V1 := later V0 b2
  generalize hW : (w.alloc (.cells #[.int .i64 a, .int .i64 b, .int .i64 c0, .string nm, .int .i64 k, .int .i64 s, .int .i64 q, .int .i64 i, .slice A m c, .int .i64 x, .int .i64 y] 66)).alloc (.cells #[.int .i64 0, .int .i64 0, .int .i64 0, .string ⟨#[]⟩, .int .i64 0, .int .i64 0, .int .i64 0, .int .i64 0, .slice none 0 0, .int .i64 0, .int .i64 0] 66) = wa at P1 V1 R0
  have HR1 := Lib.hid R0
  have HP1 := Lib.hid P1
  have HV1 := Lib.hid V1
  clear P0 V0 b2 R0 P1 V1
  go_enter Tryd.func76, Tryd.ntmps76
  go_upto_region 1 with fail
  clear hW
  have HG1 : Hid (World.rangeAt wa w.heap.size 4 [.int .i64 k, .int .i64 s, .int .i64 q, .int .i64 i, .slice A m c]) := Lib.hid (Arr.mid (a := [.int .i64 a, .int .i64 b, .int .i64 c0, .string nm]) (x := [.int .i64 k, .int .i64 s, .int .i64 q, .int .i64 i, .slice A m c]) (b := [.int .i64 x, .int .i64 y]) HP1.out rfl)
  have HI1 : Hid ((Tryd.prog.info? 31).map (·.size) = some ([.int .i64 k, .int .i64 s, .int .i64 q, .int .i64 i, .slice A m c] : List Value).length) := Lib.hid info_typesz
  go_upto_region 2 with (first
    | (with_reducible refine wpList_load_mid rfl _ (.tmp 3) rfl w.heap.size 4 rfl [.int .i64 k, .int .i64 s, .int .i64 q, .int .i64 i, .slice A m c] _ HG1.out Tryd.underlying31 rfl HI1.out ?_)
    | (go_at_call 77; (with_reducible refine (HT.out _ HV1.out).mono ?_); rintro e wb ⟨D', rfl, ⟨hDl, hDc⟩, hb⟩; obtain ⟨y0, y1, y2, y3, y4, rfl⟩ := five_of D' hDl; have HCy := Lib.hid hDc; have HPy := Lib.hid (HP1.out.later hb); have HRy := Lib.hid (HR1.out.later hb); have HVy := Lib.hid (later HV1.out hb); clear hb hDl hDc)
    | (refine wpList_store_arr rfl _ (.tmp 6) (.tmp 5) rfl w.heap.size 4 11 66 _ [y0, y1, y2, y3, y4] [.int .i64 a, .int .i64 b, .int .i64 c0, .string nm, .int .i64 k, .int .i64 s, .int .i64 q, .int .i64 i, .slice A m c, .int .i64 x, .int .i64 y] rfl rfl rfl HPy.out (show 4 + 5 ≤ 11 by omega) info_typesz HCy.out ?_; intro w5 f5 o5; have HP2 : Hid (Arr w5 w.heap.size 11 66 [.int .i64 a, .int .i64 b, .int .i64 c0, .string nm, y0, y1, y2, y3, y4, .int .i64 x, .int .i64 y]) := Lib.hid f5; have HR2 := Lib.hid (HRy.out.only o5 (by omega)); have HV2 := Lib.hid (HVy.out.trans (o5.bel.mono (Nat.le_refl _))); clear f5 o5))
  clear HPy HRy HVy HG1 HI1 HP1 HR1 HV1 HT
  have HGL : Hid (World.rangeAt w5 w.heap.size 0 [.int .i64 a, .int .i64 b, .int .i64 c0, .string nm, y0, y1, y2, y3, y4, .int .i64 x, .int .i64 y]) := Lib.hid HP2.out.range
  have HIL : Hid ((Tryd.prog.info? 66).map (·.size) = some ([.int .i64 a, .int .i64 b, .int .i64 c0, .string nm, y0, y1, y2, y3, y4, .int .i64 x, .int .i64 y] : List Value).length) := Lib.hid info_slotsz
  have HCL : Hid (∀ u ∈ ([.int .i64 a, .int .i64 b, .int .i64 c0, .string nm, y0, y1, y2, y3, y4, .int .i64 x, .int .i64 y] : List Value), u.oneCell' = true) := Lib.hid (by
    intro u hu
    simp only [List.mem_cons, List.not_mem_nil, or_false] at hu
    rcases hu with rfl | rfl | rfl | rfl | rfl | rfl | rfl | rfl | rfl | rfl | rfl
    · rfl
    · rfl
    · rfl
    · rfl
    · exact (HCy.out _ (by simp))
    · exact (HCy.out _ (by simp))
    · exact (HCy.out _ (by simp))
    · exact (HCy.out _ (by simp))
    · exact (HCy.out _ (by simp))
    · rfl
    · rfl)
  go_wp2_with (first
    | (with_reducible refine wpList_load_mid rfl _ (.tmp 1) rfl w.heap.size 0 rfl [.int .i64 a, .int .i64 b, .int .i64 c0, .string nm, y0, y1, y2, y3, y4, .int .i64 x, .int .i64 y] _ HGL.out Tryd.underlying66 rfl HIL.out ?_)
    | (refine wpList_store_arr rfl _ (.tmp 2) (.tmp 7) rfl (w.heap.size + 1) 0 11 66 _ [.int .i64 a, .int .i64 b, .int .i64 c0, .string nm, y0, y1, y2, y3, y4, .int .i64 x, .int .i64 y] zz11 rfl rfl rfl HR2.out (show 0 + 11 ≤ 11 by omega) info_slotsz HCL.out ?_; intro w10 f10 o10))
  rw [setAll_all zz11 [.int .i64 a, .int .i64 b, .int .i64 c0, .string nm, y0, y1, y2, y3, y4, .int .i64 x, .int .i64 y] rfl] at f10
  exact bodyPost_ret (results_one rfl _ _ (w.heap.size + 1) [.int .i64 a, .int .i64 b, .int .i64 c0, .string nm, y0, y1, y2, y3, y4, .int .i64 x, .int .i64 y] _ rfl f10.range Tryd.underlying66 rfl info_slotsz) rfl ⟨[.int .i64 a, .int .i64 b, .int .i64 c0, .string nm, y0, y1, y2, y3, y4, .int .i64 x, .int .i64 y], rfl, ⟨rfl, HCL.out⟩, HV2.out.trans (o10.bel.mono (by omega))⟩
set_option maxHeartbeats 4000000 in
set_option maxRecDepth 100000 in
theorem copyExpr_step (a b c0 kk n ra rb rc k s q i : Int) (A KA NA : Option Addr) (m c m13 kc m14 nc : Nat) (w : World)
    (HT : Hid (∀ W, Below w.heap.size w W → Calls Tryd.prog 77 #[.agg #[.int .i64 k, .int .i64 s, .int .i64 q, .int .i64 i, .slice A m c]] W (CpRes 5 W)))
    (HK : Hid (∀ W, Below w.heap.size w W → Calls Tryd.prog 89 #[.slice KA m13 kc, .func (.func 78) #[] #[]] W (CLRes m13 W)))
    (HN : Hid (∀ W, Below w.heap.size w W → Calls Tryd.prog 79 #[.slice NA m14 nc] W (CLRes m14 W))) :
    Calls Tryd.prog 78 #[.agg #[.int .i64 a, .int .i64 b, .int .i64 c0, .int .i64 kk, .int .i64 n, .int .i64 ra, .int .i64 rb, .int .i64 rc, .int .i64 k, .int .i64 s, .int .i64 q, .int .i64 i, .slice A m c, .slice KA m13 kc, .slice NA m14 nc]] w (CpRes 15 w) := by
  have P0 : Arr (w.alloc (.cells #[.int .i64 a, .int .i64 b, .int .i64 c0, .int .i64 kk, .int .i64 n, .int .i64 ra, .int .i64 rb, .int .i64 rc, .int .i64 k, .int .i64 s, .int .i64 q, .int .i64 i, .slice A m c, .slice KA m13 kc, .slice NA m14 nc] 44)) w.heap.size 15 44 [.int .i64 a, .int .i64 b, .int .i64 c0, .int .i64 kk, .int .i64 n, .int .i64 ra, .int .i64 rb, .int .i64 rc, .int .i64 k, .int .i64 s, .int .i64 q, .int .i64 i, .slice A m c, .slice KA m13 kc, .slice NA m14 nc] := Arr.new' w _ _ 15 _ rfl rfl (by decide)
  have V0 := new_later w (.cells #[.int .i64 a, .int .i64 b, .int .i64 c0, .int .i64 kk, .int .i64 n, .int .i64 ra, .int .i64 rb, .int .i64 rc, .int .i64 k, .int .i64 s, .int .i64 q, .int .i64 i, .slice A m c, .slice KA m13 kc, .slice NA m14 nc] 44)
  have b2 := new_later (w.alloc (.cells #[.int .i64 a, .int .i64 b, .int .i64 c0, .int .i64 kk, .int .i64 n, .int .i64 ra, .int .i64 rb, .int .i64 rc, .int .i64 k, .int .i64 s, .int .i64 q, .int .i64 i, .slice A m c, .slice KA m13 kc, .slice NA m14 nc] 44)) (.cells #[.int .i64 0, .int .i64 0, .int .i64 0, .int .i64 0, .int .i64 0, .int .i64 0, .int .i64 0, .int .i64 0, .int .i64 0, .int .i64 0, .int .i64 0, .int .i64 0, .slice none 0 0, .slice none 0 0, .slice none 0 0] 44)
  have R0 := Arr.new' (w.alloc (.cells #[.int .i64 a, .int .i64 b, .int .i64 c0, .int .i64 kk, .int .i64 n, .int .i64 ra, .int .i64 rb, .int .i64 rc, .int .i64 k, .int .i64 s, .int .i64 q, .int .i64 i, .slice A m c, .slice KA m13 kc, .slice NA m14 nc] 44)) 44 #[.int .i64 0, .int .i64 0, .int .i64 0, .int .i64 0, .int .i64 0, .int .i64 0, .int .i64 0, .int .i64 0, .int .i64 0, .int .i64 0, .int .i64 0, .int .i64 0, .slice none 0 0, .slice none 0 0, .slice none 0 0] 15 zz15 rfl rfl (by decide)
  rw [World.size_alloc] at R0
  have P1 := P0.later b2
  have V1 := later V0 b2
  generalize hW : (w.alloc (.cells #[.int .i64 a, .int .i64 b, .int .i64 c0, .int .i64 kk, .int .i64 n, .int .i64 ra, .int .i64 rb, .int .i64 rc, .int .i64 k, .int .i64 s, .int .i64 q, .int .i64 i, .slice A m c, .slice KA m13 kc, .slice NA m14 nc] 44)).alloc (.cells #[.int .i64 0, .int .i64 0, .int .i64 0, .int .i64 0, .int .i64 0, .int .i64 0, .int .i64 0, .int .i64 0, .int .i64 0, .int .i64 0, .int .i64 0, .int .i64 0, .slice none 0 0, .slice none 0 0, .slice none 0 0] 44) = wa at P1 V1 R0
  have HR1 := Lib.hid R0
  have HP1 := Lib.hid P1
  have HV1 := Lib.hid V1
  clear P0 V0 b2 R0 P1 V1
  go_enter Tryd.func78, Tryd.ntmps78
  go_upto_region 1 with fail
  clear hW
  have HG1 : Hid (World.rangeAt wa w.heap.size 8 [.int .i64 k, .int .i64 s, .int .i64 q, .int .i64 i, .slice A m c]) := Lib.hid (Arr.mid (a := [.int .i64 a, .int .i64 b, .int .i64 c0, .int .i64 kk, .int .i64 n, .int .i64 ra, .int .i64 rb, .int .i64 rc]) (x := [.int .i64 k, .int .i64 s, .int .i64 q, .int .i64 i, .slice A m c]) (b := [.slice KA m13 kc, .slice NA m14 nc]) HP1.out rfl)
  have HI1 : Hid ((Tryd.prog.info? 31).map (·.size) = some ([.int .i64 k, .int .i64 s, .int .i64 q, .int .i64 i, .slice A m c] : List Value).length) := Lib.hid info_typesz
  go_upto_region 2 with (first
    | (with_reducible refine wpList_load_mid rfl _ (.tmp 3) rfl w.heap.size 8 rfl [.int .i64 k, .int .i64 s, .int .i64 q, .int .i64 i, .slice A m c] _ HG1.out Tryd.underlying31 rfl HI1.out ?_)
    | (go_at_call 77; (with_reducible refine (HT.out _ HV1.out).mono ?_); rintro e wb ⟨D', rfl, ⟨hDl, hDc⟩, hb⟩; obtain ⟨y0, y1, y2, y3, y4, rfl⟩ := five_of D' hDl; have HCy := Lib.hid hDc; have HPy := Lib.hid (HP1.out.later hb); have HRy := Lib.hid (HR1.out.later hb); have HVy := Lib.hid (later HV1.out hb); clear hb hDl hDc)
    | (refine wpList_store_arr rfl _ (.tmp 6) (.tmp 5) rfl w.heap.size 8 15 44 _ [y0, y1, y2, y3, y4] [.int .i64 a, .int .i64 b, .int .i64 c0, .int .i64 kk, .int .i64 n, .int .i64 ra, .int .i64 rb, .int .i64 rc, .int .i64 k, .int .i64 s, .int .i64 q, .int .i64 i, .slice A m c, .slice KA m13 kc, .slice NA m14 nc] rfl rfl rfl HPy.out (show 8 + 5 ≤ 15 by omega) info_typesz HCy.out ?_; intro w5 f5 o5; have HP2 : Hid (Arr w5 w.heap.size 15 44 [.int .i64 a, .int .i64 b, .int .i64 c0, .int .i64 kk, .int .i64 n, .int .i64 ra, .int .i64 rb, .int .i64 rc, y0, y1, y2, y3, y4, .slice KA m13 kc, .slice NA m14 nc]) := Lib.hid f5; have HR2 := Lib.hid (HRy.out.only o5 (by omega)); have HV2 := Lib.hid (HVy.out.trans (o5.bel.mono (Nat.le_refl _))); clear f5 o5))
  clear HPy HRy HVy HG1 HI1 HP1 HR1 HV1 HT
  have c13 := HP2.out.cell (j := 13) (v := (.slice KA m13 kc)) rfl
  go_upto_region 3 with (go_at_call 89; (with_reducible refine (HK.out _ HV2.out).mono ?_); rintro e w2 ⟨A3, c3, rfl, hb2⟩; have P2 := HP2.out.later hb2; have d8 := P2.cell (j := 13) (v := (.slice KA m13 kc)) rfl; have f8 := P2.free 13; have HPx := Lib.hid P2; have HRx := Lib.hid (HR2.out.later hb2); have HVx := Lib.hid (later HV2.out hb2); clear P2 hb2)
  have P3 : Arr (w2.setCell ⟨w.heap.size, 13, none⟩ (.slice A3 m13 c3)) w.heap.size 15 44 [.int .i64 a, .int .i64 b, .int .i64 c0, .int .i64 kk, .int .i64 n, .int .i64 ra, .int .i64 rb, .int .i64 rc, y0, y1, y2, y3, y4, .slice A3 m13 c3, .slice NA m14 nc] := HPx.out.set_ 13 (.slice A3 m13 c3)
  have o3 : Only w.heap.size w2 (w2.setCell ⟨w.heap.size, 13, none⟩ (.slice A3 m13 c3)) := Only.setCells w.heap.size 13 [(.slice A3 m13 c3)] w2
  have R3 := HRx.out.only o3 (by omega)
  have V3 : Below w.heap.size w (w2.setCell ⟨w.heap.size, 13, none⟩ (.slice A3 m13 c3)) := HVx.out.trans (o3.bel.mono (Nat.le_refl _))
  generalize w2.setCell ⟨w.heap.size, 13, none⟩ (.slice A3 m13 c3) = w3 at P3 R3 V3 ⊢
  have HP3 := Lib.hid P3
  have HR3 := Lib.hid R3
  have HV3 := Lib.hid V3
  clear P3 o3 R3 V3 d8 f8 HPx HRx HVx HP2 HR2 HV2 c13 HK
  have c14 := HP3.out.cell (j := 14) (v := (.slice NA m14 nc)) rfl
  go_upto_region 4 with (go_at_call 79; (with_reducible refine (HN.out _ HV3.out).mono ?_); rintro e w2 ⟨A4, c4, rfl, hb2⟩; have P2 := HP3.out.later hb2; have d8 := P2.cell (j := 14) (v := (.slice NA m14 nc)) rfl; have f8 := P2.free 14; have HPx := Lib.hid P2; have HRx := Lib.hid (HR3.out.later hb2); have HVx := Lib.hid (later HV3.out hb2); clear P2 hb2)
  have P3 : Arr (w2.setCell ⟨w.heap.size, 14, none⟩ (.slice A4 m14 c4)) w.heap.size 15 44 [.int .i64 a, .int .i64 b, .int .i64 c0, .int .i64 kk, .int .i64 n, .int .i64 ra, .int .i64 rb, .int .i64 rc, y0, y1, y2, y3, y4, .slice A3 m13 c3, .slice A4 m14 c4] := HPx.out.set_ 14 (.slice A4 m14 c4)
  have o3 : Only w.heap.size w2 (w2.setCell ⟨w.heap.size, 14, none⟩ (.slice A4 m14 c4)) := Only.setCells w.heap.size 14 [(.slice A4 m14 c4)] w2
  have R3 := HRx.out.only o3 (by omega)
  have V3 : Below w.heap.size w (w2.setCell ⟨w.heap.size, 14, none⟩ (.slice A4 m14 c4)) := HVx.out.trans (o3.bel.mono (Nat.le_refl _))
  generalize w2.setCell ⟨w.heap.size, 14, none⟩ (.slice A4 m14 c4) = w3 at P3 R3 V3 ⊢
  have HP4 := Lib.hid P3
  have HR4 := Lib.hid R3
  have HV4 := Lib.hid V3
  clear P3 o3 R3 V3 d8 f8 HPx HRx HVx HP3 HR3 HV3 c14 HN
  have HGL : Hid (World.rangeAt w3 w.heap.size 0 [.int .i64 a, .int .i64 b, .int .i64 c0, .int .i64 kk, .int .i64 n, .int .i64 ra, .int .i64 rb, .int .i64 rc, y0, y1, y2, y3, y4, .slice A3 m13 c3, .slice A4 m14 c4]) := Lib.hid HP4.out.range
  have HIL : Hid ((Tryd.prog.info? 44).map (·.size) = some ([.int .i64 a, .int .i64 b, .int .i64 c0, .int .i64 kk, .int .i64 n, .int .i64 ra, .int .i64 rb, .int .i64 rc, y0, y1, y2, y3, y4, .slice A3 m13 c3, .slice A4 m14 c4] : List Value).length) := Lib.hid info_exprsz
  have HCL : Hid (∀ u ∈ ([.int .i64 a, .int .i64 b, .int .i64 c0, .int .i64 kk, .int .i64 n, .int .i64 ra, .int .i64 rb, .int .i64 rc, y0, y1, y2, y3, y4, .slice A3 m13 c3, .slice A4 m14 c4] : List Value), u.oneCell' = true) := Lib.hid (by
    intro u hu
    simp only [List.mem_cons, List.not_mem_nil, or_false] at hu
    rcases hu with rfl | rfl | rfl | rfl | rfl | rfl | rfl | rfl | rfl | rfl | rfl | rfl | rfl | rfl | rfl
    · rfl
    · rfl
    · rfl
    · rfl
    · rfl
    · rfl
    · rfl
    · rfl
    · exact (HCy.out _ (by simp))
    · exact (HCy.out _ (by simp))
    · exact (HCy.out _ (by simp))
    · exact (HCy.out _ (by simp))
    · exact (HCy.out _ (by simp))
    · rfl
    · rfl)
  go_wp2_with (first
    | (with_reducible refine wpList_load_mid rfl _ (.tmp 1) rfl w.heap.size 0 rfl [.int .i64 a, .int .i64 b, .int .i64 c0, .int .i64 kk, .int .i64 n, .int .i64 ra, .int .i64 rb, .int .i64 rc, y0, y1, y2, y3, y4, .slice A3 m13 c3, .slice A4 m14 c4] _ HGL.out Tryd.underlying44 rfl HIL.out ?_)
    | (refine wpList_store_arr rfl _ (.tmp 2) (.tmp 15) rfl (w.heap.size + 1) 0 15 44 _ [.int .i64 a, .int .i64 b, .int .i64 c0, .int .i64 kk, .int .i64 n, .int .i64 ra, .int .i64 rb, .int .i64 rc, y0, y1, y2, y3, y4, .slice A3 m13 c3, .slice A4 m14 c4] zz15 rfl rfl rfl HR4.out (show 0 + 15 ≤ 15 by omega) info_exprsz HCL.out ?_; intro w10 f10 o10))
  rw [setAll_all zz15 [.int .i64 a, .int .i64 b, .int .i64 c0, .int .i64 kk, .int .i64 n, .int .i64 ra, .int .i64 rb, .int .i64 rc, y0, y1, y2, y3, y4, .slice A3 m13 c3, .slice A4 m14 c4] rfl] at f10
  exact bodyPost_ret (results_one rfl _ _ (w.heap.size + 1) [.int .i64 a, .int .i64 b, .int .i64 c0, .int .i64 kk, .int .i64 n, .int .i64 ra, .int .i64 rb, .int .i64 rc, y0, y1, y2, y3, y4, .slice A3 m13 c3, .slice A4 m14 c4] _ rfl f10.range Tryd.underlying44 rfl info_exprsz) rfl ⟨[.int .i64 a, .int .i64 b, .int .i64 c0, .int .i64 kk, .int .i64 n, .int .i64 ra, .int .i64 rb, .int .i64 rc, y0, y1, y2, y3, y4, .slice A3 m13 c3, .slice A4 m14 c4], rfl, ⟨rfl, HCL.out⟩, HV4.out.trans (o10.bel.mono (by omega))⟩
end Go.Proofs.YtkpoiljioadfgaaDoor

