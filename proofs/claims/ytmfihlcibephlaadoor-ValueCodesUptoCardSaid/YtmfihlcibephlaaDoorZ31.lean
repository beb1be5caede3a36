import Derived.Test.YtmfihlcibephlaaDoorZ30
set_option linter.unusedVariables false
set_option linter.unusedSimpArgs false
namespace Go.Proofs.YtmfihlcibephlaaDoor
open Go.RowKit
set_option maxHeartbeats 1000000 in
set_option maxRecDepth 100000 in
theorem copyType_leaf (k s q i:Int) (w:World):Calls Tryd.prog 77 #[.agg (t5 k s q i none 0 0).toArray] w (fun e w' => e = .returned (.agg #[.int .i64 k,.int .i64 s,.int .i64 q,.int .i64 i,.slice none 0 0]) ∧ Below w.heap.size w w'):=by
 have P0:=t5_new w k s q i none 0 0
 have V0:=new_later w (.cells (t5 k s q i none 0 0).toArray 31)
 have b2:=new_later (w.alloc (.cells (t5 k s q i none 0 0).toArray 31)) (.cells #[.int .i64 0,.int .i64 0,.int .i64 0,.int .i64 0,.slice none 0 0] 31)
 have R0:=Arr.new' (w.alloc (.cells (t5 k s q i none 0 0).toArray 31)) 31 #[.int .i64 0,.int .i64 0,.int .i64 0,.int .i64 0,.slice none 0 0] 5 z5 rfl rfl (by decide)
 rw [World.size_alloc] at R0
 have P1:=P0.later b2
 have V1:=later V0 b2
 generalize hW:(w.alloc (.cells (t5 k s q i none 0 0).toArray 31)).alloc (.cells #[.int .i64 0,.int .i64 0,.int .i64 0,.int .i64 0,.slice none 0 0] 31) = wa at P1 V1 R0
 have A1:=P1.set_ 4 (.slice none 0 0)
 have R1:=R0.other (b:=w.heap.size) (j:=4) (by omega) (.slice none 0 0)
 have HR:=Lib.hid R1
 have HV:=Lib.hid (V1.setCell (p:=⟨w.heap.size,4,none⟩) (Nat.le_refl _) (.slice none 0 0))
 have y4:=P1.cell (j:=4) (v:=.slice none 0 0) rfl
 have f4:=P1.free 4
 have c0:=A1.cell (j:=0) (v:=.int .i64 k) rfl
 have c1:=A1.cell (j:=1) (v:=.int .i64 s) rfl
 have c2:=A1.cell (j:=2) (v:=.int .i64 q) rfl
 have c3:=A1.cell (j:=3) (v:=.int .i64 i) rfl
 have c4:=A1.cell (j:=4) (v:=.slice none 0 0) rfl
 have HC:=Lib.hid (fun (f:Value) (W:World) => copynil_types f W)
 clear P0 V0 b2 R0 P1 V1 A1 R1
 go_enter Tryd.func77,Tryd.ntmps77
 go_upto_region 1 with fail
 clear hW
 go_wp2_with (first
  | (go_at_call 88;(with_reducible refine (HC.out _ _).mono ?_);rintro e w2 ⟨rfl,hw2⟩;rw [hw2];clear hw2)
  | (refine wpList_store_arr rfl _ (.tmp 2) (.tmp 7) rfl (w.heap.size + 1) 0 5 31 _ [.int .i64 k,.int .i64 s,.int .i64 q,.int .i64 i,.slice none 0 0] z5 rfl rfl rfl HR.out (show 0 + 5 ≤ 5 by omega) info_type (List.all_eq_true.mp (by rfl)) ?_;intro w7 f7 o7))
 rw [setAll_all z5 [.int .i64 k,.int .i64 s,.int .i64 q,.int .i64 i,.slice none 0 0] rfl] at f7
 exact bodyPost_ret (results_one rfl _ _ (w.heap.size + 1) [.int .i64 k,.int .i64 s,.int .i64 q,.int .i64 i,.slice none 0 0] _ rfl f7.range Tryd.underlying31 rfl info_type) rfl ⟨rfl,HV.out.trans (o7.bel.mono (by omega))⟩
end Go.Proofs.YtmfihlcibephlaaDoor
namespace Go.Proofs.YtmfihlcibephlaaDoor
open Go.RowKit
def z11:List Value:=[.int .i64 0,.int .i64 0,.int .i64 0,.string ⟨#[]⟩,.int .i64 0,.int .i64 0,.int .i64 0,.int .i64 0,.slice none 0 0,.int .i64 0,.int .i64 0]
theorem info_sl11:(Tryd.prog.info? 66).map (·.size) = some 11:=by kernel_rfl
set_option maxHeartbeats 1000000 in
set_option maxRecDepth 100000 in
theorem copySlot_leaf (a b c k s q i x y:Int) (nm:ByteArray) (w:World):Calls Tryd.prog 76 #[.agg #[.int .i64 a,.int .i64 b,.int .i64 c,.string nm,.int .i64 k,.int .i64 s,.int .i64 q,.int .i64 i,.slice none 0 0,.int .i64 x,.int .i64 y]] w
  (fun e w' => e = .returned (.agg #[.int .i64 a,.int .i64 b,.int .i64 c,.string nm,.int .i64 k,.int .i64 s,.int .i64 q,.int .i64 i,.slice none 0 0,.int .i64 x,.int .i64 y]) ∧ Below w.heap.size w w'):=by
 have P0:Arr (w.alloc (.cells #[.int .i64 a,.int .i64 b,.int .i64 c,.string nm,.int .i64 k,.int .i64 s,.int .i64 q,.int .i64 i,.slice none 0 0,.int .i64 x,.int .i64 y] 66)) w.heap.size 11 66 [.int .i64 a,.int .i64 b,.int .i64 c,.string nm,.int .i64 k,.int .i64 s,.int .i64 q,.int .i64 i,.slice none 0 0,.int .i64 x,.int .i64 y]:=Arr.new' w _ _ 11 _ rfl rfl (by decide)
 have V0:=new_later w (.cells #[.int .i64 a,.int .i64 b,.int .i64 c,.string nm,.int .i64 k,.int .i64 s,.int .i64 q,.int .i64 i,.slice none 0 0,.int .i64 x,.int .i64 y] 66)
 have b2:=new_later (w.alloc (.cells #[.int .i64 a,.int .i64 b,.int .i64 c,.string nm,.int .i64 k,.int .i64 s,.int .i64 q,.int .i64 i,.slice none 0 0,.int .i64 x,.int .i64 y] 66)) (.cells #[.int .i64 0,.int .i64 0,.int .i64 0,.string ⟨#[]⟩,.int .i64 0,.int .i64 0,.int .i64 0,.int .i64 0,.slice none 0 0,.int .i64 0,.int .i64 0] 66)
 have R0:=Arr.new' (w.alloc (.cells #[.int .i64 a,.int .i64 b,.int .i64 c,.string nm,.int .i64 k,.int .i64 s,.int .i64 q,.int .i64 i,.slice none 0 0,.int .i64 x,.int .i64 y] 66)) 66 #[.int .i64 0,.int .i64 0,.int .i64 0,.string ⟨#[]⟩,.int .i64 0,.int .i64 0,.int .i64 0,.int .i64 0,.slice none 0 0,.int .i64 0,.int .i64 0] 11 z11 rfl rfl (by decide)
 rw [World.size_alloc] at R0
 have P1:=P0.later b2
 have V1:=later V0 b2
 generalize hW:(w.alloc (.cells #[.int .i64 a,.int .i64 b,.int .i64 c,.string nm,.int .i64 k,.int .i64 s,.int .i64 q,.int .i64 i,.slice none 0 0,.int .i64 x,.int .i64 y] 66)).alloc (.cells #[.int .i64 0,.int .i64 0,.int .i64 0,.string ⟨#[]⟩,.int .i64 0,.int .i64 0,.int .i64 0,.int .i64 0,.slice none 0 0,.int .i64 0,.int .i64 0] 66) = wa at P1 V1 R0
 have HR:=Lib.hid R0
 have HP:=Lib.hid P1
 have HV:=Lib.hid V1
 have y4:=P1.cell (j:=4) (v:=.int .i64 k) rfl
 have y5:=P1.cell (j:=5) (v:=.int .i64 s) rfl
 have y6:=P1.cell (j:=6) (v:=.int .i64 q) rfl
 have y7:=P1.cell (j:=7) (v:=.int .i64 i) rfl
 have y8:=P1.cell (j:=8) (v:=.slice none 0 0) rfl
 have HC:Hid (∀ W,Calls Tryd.prog 77 #[.agg #[.int .i64 k,.int .i64 s,.int .i64 q,.int .i64 i,.slice none 0 0]] W (fun e w' => e = .returned (.agg #[.int .i64 k,.int .i64 s,.int .i64 q,.int .i64 i,.slice none 0 0]) ∧ Below W.heap.size W w')):=Lib.hid fun W => copyType_leaf k s q i W
 clear P0 V0 b2 R0 P1 V1
 go_enter Tryd.func76,Tryd.ntmps76
 go_upto_region 1 with fail
 clear hW
 go_wp2_with (first
  | (go_at_call 77;(with_reducible refine (HC.out _).mono ?_);rintro e w2 ⟨rfl,hb2⟩;have HB2:=Lib.hid hb2;clear hb2)
  | (refine wpList_store_arr rfl _ (.tmp 6) (.tmp 5) rfl w.heap.size 4 11 66 _ [.int .i64 k,.int .i64 s,.int .i64 q,.int .i64 i,.slice none 0 0] [.int .i64 a,.int .i64 b,.int .i64 c,.string nm,.int .i64 k,.int .i64 s,.int .i64 q,.int .i64 i,.slice none 0 0,.int .i64 x,.int .i64 y] rfl rfl rfl (HP.out.later HB2.out) (show 4 + 5 ≤ 11 by omega) info_type (List.all_eq_true.mp (by rfl)) ?_;intro w6 f6 o6;have c0:=f6.cell (j:=0) (v:=.int .i64 a) rfl;have c1:=f6.cell (j:=1) (v:=.int .i64 b) rfl;have c2:=f6.cell (j:=2) (v:=.int .i64 c) rfl;have c3:=f6.cell (j:=3) (v:=.string nm) rfl;have c4:=f6.cell (j:=4) (v:=.int .i64 k) rfl;have c5:=f6.cell (j:=5) (v:=.int .i64 s) rfl;have c6:=f6.cell (j:=6) (v:=.int .i64 q) rfl;have c7:=f6.cell (j:=7) (v:=.int .i64 i) rfl;have c8:=f6.cell (j:=8) (v:=.slice none 0 0) rfl;have c9:=f6.cell (j:=9) (v:=.int .i64 x) rfl;have c10:=f6.cell (j:=10) (v:=.int .i64 y) rfl;have HR6:=Lib.hid ((HR.out.later HB2.out).only o6 (by omega));have HO6:=Lib.hid o6;clear f6 o6)
  | (refine wpList_store_arr rfl _ (.tmp 2) (.tmp 7) rfl (w.heap.size + 1) 0 11 66 _ [.int .i64 a,.int .i64 b,.int .i64 c,.string nm,.int .i64 k,.int .i64 s,.int .i64 q,.int .i64 i,.slice none 0 0,.int .i64 x,.int .i64 y] z11 rfl rfl rfl HR6.out (show 0 + 11 ≤ 11 by omega) info_sl11 (List.all_eq_true.mp (by rfl)) ?_;intro w7 f7 o7))
 rw [setAll_all z11 [.int .i64 a,.int .i64 b,.int .i64 c,.string nm,.int .i64 k,.int .i64 s,.int .i64 q,.int .i64 i,.slice none 0 0,.int .i64 x,.int .i64 y] rfl] at f7
 exact bodyPost_ret (results_one rfl _ _ (w.heap.size + 1) [.int .i64 a,.int .i64 b,.int .i64 c,.string nm,.int .i64 k,.int .i64 s,.int .i64 q,.int .i64 i,.slice none 0 0,.int .i64 x,.int .i64 y] _ rfl f7.range Tryd.underlying66 rfl info_sl11) rfl ⟨rfl,((later HV.out HB2.out).trans (HO6.out.bel.mono (by omega))).trans (o7.bel.mono (by omega))⟩
end Go.Proofs.YtmfihlcibephlaaDoor
namespace Go.Proofs.YtmfihlcibephlaaDoor
open Go.RowKit
def z15:List Value:=[.int .i64 0,.int .i64 0,.int .i64 0,.int .i64 0,.int .i64 0,.int .i64 0,.int .i64 0,.int .i64 0,.int .i64 0,.int .i64 0,.int .i64 0,.int .i64 0,.slice none 0 0,.slice none 0 0,.slice none 0 0]
theorem info_ex15:(Tryd.prog.info? 44).map (·.size) = some 15:=by kernel_rfl
set_option maxHeartbeats 1000000 in
set_option maxRecDepth 100000 in
theorem copyExpr_zero (w:World):Calls Tryd.prog 78 #[.agg #[.int .i64 0,.int .i64 0,.int .i64 0,.int .i64 0,.int .i64 0,.int .i64 0,.int .i64 0,.int .i64 0,.int .i64 0,.int .i64 0,.int .i64 0,.int .i64 0,.slice none 0 0,.slice none 0 0,.slice none 0 0]] w (fun e w' => e = .returned (.agg #[.int .i64 0,.int .i64 0,.int .i64 0,.int .i64 0,.int .i64 0,.int .i64 0,.int .i64 0,.int .i64 0,.int .i64 0,.int .i64 0,.int .i64 0,.int .i64 0,.slice none 0 0,.slice none 0 0,.slice none 0 0]) ∧ Below w.heap.size w w'):=by
 have P0:Arr (w.alloc (.cells #[.int .i64 0,.int .i64 0,.int .i64 0,.int .i64 0,.int .i64 0,.int .i64 0,.int .i64 0,.int .i64 0,.int .i64 0,.int .i64 0,.int .i64 0,.int .i64 0,.slice none 0 0,.slice none 0 0,.slice none 0 0] 44)) w.heap.size 15 44 [.int .i64 0,.int .i64 0,.int .i64 0,.int .i64 0,.int .i64 0,.int .i64 0,.int .i64 0,.int .i64 0,.int .i64 0,.int .i64 0,.int .i64 0,.int .i64 0,.slice none 0 0,.slice none 0 0,.slice none 0 0]:=Arr.new' w _ _ 15 _ rfl rfl (by decide)
 have V0:=new_later w (.cells #[.int .i64 0,.int .i64 0,.int .i64 0,.int .i64 0,.int .i64 0,.int .i64 0,.int .i64 0,.int .i64 0,.int .i64 0,.int .i64 0,.int .i64 0,.int .i64 0,.slice none 0 0,.slice none 0 0,.slice none 0 0] 44)
 have b2:=new_later (w.alloc (.cells #[.int .i64 0,.int .i64 0,.int .i64 0,.int .i64 0,.int .i64 0,.int .i64 0,.int .i64 0,.int .i64 0,.int .i64 0,.int .i64 0,.int .i64 0,.int .i64 0,.slice none 0 0,.slice none 0 0,.slice none 0 0] 44)) (.cells #[.int .i64 0,.int .i64 0,.int .i64 0,.int .i64 0,.int .i64 0,.int .i64 0,.int .i64 0,.int .i64 0,.int .i64 0,.int .i64 0,.int .i64 0,.int .i64 0,.slice none 0 0,.slice none 0 0,.slice none 0 0] 44)
 have R0:=Arr.new' (w.alloc (.cells #[.int .i64 0,.int .i64 0,.int .i64 0,.int .i64 0,.int .i64 0,.int .i64 0,.int .i64 0,.int .i64 0,.int .i64 0,.int .i64 0,.int .i64 0,.int .i64 0,.slice none 0 0,.slice none 0 0,.slice none 0 0] 44)) 44 #[.int .i64 0,.int .i64 0,.int .i64 0,.int .i64 0,.int .i64 0,.int .i64 0,.int .i64 0,.int .i64 0,.int .i64 0,.int .i64 0,.int .i64 0,.int .i64 0,.slice none 0 0,.slice none 0 0,.slice none 0 0] 15 z15 rfl rfl (by decide)
 rw [World.size_alloc] at R0
 have P1:=P0.later b2
 have V1:=later V0 b2
 generalize hW:(w.alloc (.cells #[.int .i64 0,.int .i64 0,.int .i64 0,.int .i64 0,.int .i64 0,.int .i64 0,.int .i64 0,.int .i64 0,.int .i64 0,.int .i64 0,.int .i64 0,.int .i64 0,.slice none 0 0,.slice none 0 0,.slice none 0 0] 44)).alloc (.cells #[.int .i64 0,.int .i64 0,.int .i64 0,.int .i64 0,.int .i64 0,.int .i64 0,.int .i64 0,.int .i64 0,.int .i64 0,.int .i64 0,.int .i64 0,.int .i64 0,.slice none 0 0,.slice none 0 0,.slice none 0 0] 44) = wa at P1 V1 R0
 have HR:=Lib.hid R0
 have HP:=Lib.hid P1
 have HV:=Lib.hid V1
 have y8:=P1.cell (j:=8) (v:=.int .i64 0) rfl
 have y9:=P1.cell (j:=9) (v:=.int .i64 0) rfl
 have y10:=P1.cell (j:=10) (v:=.int .i64 0) rfl
 have y11:=P1.cell (j:=11) (v:=.int .i64 0) rfl
 have y12:=P1.cell (j:=12) (v:=.slice none 0 0) rfl
 have HC:Hid (∀ W,Calls Tryd.prog 77 #[.agg #[.int .i64 0,.int .i64 0,.int .i64 0,.int .i64 0,.slice none 0 0]] W (fun e w' => e = .returned (.agg #[.int .i64 0,.int .i64 0,.int .i64 0,.int .i64 0,.slice none 0 0]) ∧ Below W.heap.size W w')):=Lib.hid fun W => copyType_leaf 0 0 0 0 W
 have HCX:=Lib.hid (fun (f:Value) (W:World) => copynil_exprs f W)
 have HCS:=Lib.hid (fun (W:World) => clonenil_strs W)
 clear P0 V0 b2 R0 P1 V1
 go_enter Tryd.func78,Tryd.ntmps78
 go_upto_region 1 with fail
 clear hW
 go_wp2_with (first
  | (go_at_call 77;(with_reducible refine (HC.out _).mono ?_);rintro e w2 ⟨rfl,hb2⟩;have HB2:=Lib.hid hb2;clear hb2)
  | (go_at_call 89;(with_reducible refine (HCX.out _ _).mono ?_);rintro e w3 ⟨rfl,hw3⟩;rw [hw3];clear hw3)
  | (go_at_call 79;(with_reducible refine (HCS.out _).mono ?_);rintro e w4 ⟨rfl,hw4⟩;rw [hw4];clear hw4)
  | (refine wpList_store_arr rfl _ (.tmp 6) (.tmp 5) rfl w.heap.size 8 15 44 _ [.int .i64 0,.int .i64 0,.int .i64 0,.int .i64 0,.slice none 0 0] [.int .i64 0,.int .i64 0,.int .i64 0,.int .i64 0,.int .i64 0,.int .i64 0,.int .i64 0,.int .i64 0,.int .i64 0,.int .i64 0,.int .i64 0,.int .i64 0,.slice none 0 0,.slice none 0 0,.slice none 0 0] rfl rfl rfl (HP.out.later HB2.out) (show 8 + 5 ≤ 15 by omega) info_type (by decide) ?_;intro w6 f6 o6;have d8:=f6.cell (j:=13) (v:=.slice none 0 0) rfl;have d9:=f6.free 13;have A13:=f6.set_ 13 (.slice none 0 0);have e8:=A13.cell (j:=14) (v:=.slice none 0 0) rfl;have e9:=A13.free 14;have A14:=A13.set_ 14 (.slice none 0 0);have c0:=A14.cell (j:=0) (v:=.int .i64 0) rfl;have c1:=A14.cell (j:=1) (v:=.int .i64 0) rfl;have c2:=A14.cell (j:=2) (v:=.int .i64 0) rfl;have c3:=A14.cell (j:=3) (v:=.int .i64 0) rfl;have c4:=A14.cell (j:=4) (v:=.int .i64 0) rfl;have c5:=A14.cell (j:=5) (v:=.int .i64 0) rfl;have c6:=A14.cell (j:=6) (v:=.int .i64 0) rfl;have c7:=A14.cell (j:=7) (v:=.int .i64 0) rfl;have c8:=A14.cell (j:=8) (v:=.int .i64 0) rfl;have c9:=A14.cell (j:=9) (v:=.int .i64 0) rfl;have c10:=A14.cell (j:=10) (v:=.int .i64 0) rfl;have c11:=A14.cell (j:=11) (v:=.int .i64 0) rfl;have c12:=A14.cell (j:=12) (v:=.slice none 0 0) rfl;have c13:=A14.cell (j:=13) (v:=.slice none 0 0) rfl;have c14:=A14.cell (j:=14) (v:=.slice none 0 0) rfl;have HR6:=Lib.hid ((((HR.out.later HB2.out).only o6 (by omega)).other (b:=w.heap.size) (j:=13) (by omega) (.slice none 0 0)).other (b:=w.heap.size) (j:=14) (by omega) (.slice none 0 0));have HO6:=Lib.hid ((o6.bel.setCell (p:=⟨w.heap.size,13,none⟩) (Nat.le_refl _) (.slice none 0 0)).setCell (p:=⟨w.heap.size,14,none⟩) (Nat.le_refl _) (.slice none 0 0));have k13:=f6.cell (j:=13) (v:=.slice none 0 0) rfl;clear f6 o6 A13 A14 k13)
  | (refine wpList_store_arr rfl _ (.tmp 2) (.tmp 15) rfl (w.heap.size + 1) 0 15 44 _ [.int .i64 0,.int .i64 0,.int .i64 0,.int .i64 0,.int .i64 0,.int .i64 0,.int .i64 0,.int .i64 0,.int .i64 0,.int .i64 0,.int .i64 0,.int .i64 0,.slice none 0 0,.slice none 0 0,.slice none 0 0] z15 rfl rfl rfl HR6.out (show 0 + 15 ≤ 15 by omega) info_ex15 (by decide) ?_;intro w7 f7 o7))
 rw [setAll_all z15 [.int .i64 0,.int .i64 0,.int .i64 0,.int .i64 0,.int .i64 0,.int .i64 0,.int .i64 0,.int .i64 0,.int .i64 0,.int .i64 0,.int .i64 0,.int .i64 0,.slice none 0 0,.slice none 0 0,.slice none 0 0] rfl] at f7
 exact bodyPost_ret (results_one rfl _ _ (w.heap.size + 1) [.int .i64 0,.int .i64 0,.int .i64 0,.int .i64 0,.int .i64 0,.int .i64 0,.int .i64 0,.int .i64 0,.int .i64 0,.int .i64 0,.int .i64 0,.int .i64 0,.slice none 0 0,.slice none 0 0,.slice none 0 0] _ rfl f7.range Tryd.underlying44 rfl info_ex15) rfl ⟨rfl,((later HV.out HB2.out).trans (HO6.out.mono (by omega))).trans (o7.bel.mono (by omega))⟩
end Go.Proofs.YtmfihlcibephlaaDoor
namespace Go.Proofs.YtmfihlcibephlaaDoor
open Go.RowKit
theorem own_setCells4 {base g cap n size:Nat} {e:TypeId}:∀ (vs:List Value) {w:World} {o:Nat} {xs:List Value},w.ownsRow base e size (.slice (some ⟨g,0,none⟩) n cap) n xs → o + vs.length ≤ n * size → (w.setCells g o vs).ownsRow base e size (.slice (some ⟨g,0,none⟩) n cap) n (setAll xs o vs)
 | [],_,_,_,h,_ => h
 | v :: r,w,o,xs,h,hl => own_setCells4 r (h.stored o v).1 (by simp at hl;omega)
theorem own_there {w:World} {base g n cap size o k:Nat} {e:TypeId} {xs:List Value} (h:w.ownsRow base e size (.slice (some ⟨g,0,none⟩) n cap) n xs) (hk:o + k ≤ n * size):w.there g o k:=fun j hj => by
 refine ⟨?_,World.ownsRow.frozenAt h _⟩
 rw [World.ownsRow.cellAt h (o + j) (by omega),List.getElem?_eq_getElem (by have:=h.1;omega)]
 rfl
theorem own_rangeAt {w:World} {base g n cap size o:Nat} {e:TypeId} {xs D:List Value} (h:w.ownsRow base e size (.slice (some ⟨g,0,none⟩) n cap) n xs) (hD:∀ t v,D[t]? = some v → xs[o + t]? = some v):w.rangeAt g o D:=fun j v hv => by
 have h2:=hD j v hv
 have hl:=(List.getElem?_eq_some_iff.1 h2).1
 have:=h.1
 rw [World.ownsRow.cellAt h (o + j) (by omega)];exact h2
theorem own_below4 {w w':World} {base g n cap size:Nat} {e:TypeId} {xs:List Value} (h:w.ownsRow base e size (.slice (some ⟨g,0,none⟩) n cap) n xs) (hb:Below w.heap.size w w'):w'.ownsRow base e size (.slice (some ⟨g,0,none⟩) n cap) n xs:=by
 refine ⟨h.1,?_⟩
 have hlt:=h.lt
 rcases h.2 with h5 | ⟨g',cap',cur,hv,hg,hh,r⟩
 ·exact .inl h5
 ·refine .inr ⟨g',cap',cur,hv,hg,?_,r⟩
  rw [hb.block g' (hlt g' (by rw [hv];rfl)).2]
  exact hh
def Rest (sz j m:Nat) (C X:List Value):Prop:=∀ t,j * sz ≤ t → t < m * sz → X[t]? = C[t]?
theorem Rest.step {sz j m:Nat} {C X:List Value} (h:Rest sz j m C X) (D:List Value) (hD:D.length = sz) (hX:X.length = m * sz) (hj:j < m):Rest sz (j + 1) m C (setAll X (j * sz) D):=by
 intro t h1 h2
 have hjm:(j + 1) * sz ≤ m * sz:=Nat.mul_le_mul_right sz hj
 rw [Nat.succ_mul] at h1 hjm
 rw [setAll_eq _ _ _ (by omega),List.getElem?_append_right (by simp;omega)]
 simp only [List.length_append,List.length_take,List.getElem?_drop]
 rw [Nat.min_eq_left (by omega)]
 rw [show j * sz + D.length + (t - (j * sz + D.length)) = t by omega]
 exact h t (by omega) h2
def CpRes (sz:Nat) (w:World) (e:Ending) (w':World):Prop:=∃ D':List Value,e = .returned (.agg D'.toArray) ∧ (D'.length = sz ∧ ∀ u ∈ D',u.oneCell' = true) ∧ Below w.heap.size w w'
theorem info_slotsz:(Tryd.prog.info? 66).map (·.size) = some 11:=by kernel_rfl
def zz11:List Value:=[.int .i64 0,.int .i64 0,.int .i64 0,.string ⟨#[]⟩,.int .i64 0,.int .i64 0,.int .i64 0,.int .i64 0,.slice none 0 0,.int .i64 0,.int .i64 0]
set_option maxHeartbeats 2000000 in
set_option maxRecDepth 100000 in
theorem copylist_slots (w:World) (g o m cap:Nat) (C:List Value) (hC:C.length = m * 11) (hr:w.rangeAt g o C) (h1:∀ u ∈ C,u.oneCell' = true) (hm:0 < m) (hmc:m ≤ cap ∧ cap ≤ maxLen) (hb:m * 112 ≤ 140737488355328)
  (HF:Hid (∀ (j:Nat) (D:List Value) (W:World),j < m → D.length = 11 → (∀ t v,D[t]? = some v → C[j * 11 + t]? = some v) → Below w.heap.size w W → Calls Tryd.prog 76 #[.agg D.toArray] W (CpRes 11 W))) :
  Calls Tryd.prog 75 #[.slice (some ⟨g,o,none⟩) m cap,.func (.func 76) #[] #[]] w (fun e w' => ∃ h c',e = .returned (.slice (some ⟨h,0,none⟩) m c') ∧ (m ≤ c' ∧ c' ≤ maxLen) ∧ Below w.heap.size w w'):=by
 have HCL:=Lib.hid (clone_slots w g o m cap C hC hr h1 hm hmc hb)
 have hmi:(m:Int) ≤ 9223372036854775807:=by have:=hmc.1;have:=hmc.2;simp only [maxLen] at this;omega
 have HC:=Lib.hid (And.intro hC h1)
 have HM:=Lib.hid (And.intro hm (And.intro hmc hb))
 clear hC hr h1 hm hmc hb
 go_enter Tryd.func75,Tryd.ntmps75
 go_wp2_with (go_at_call 87;(with_reducible refine HCL.out.mono ?_);rintro e w1 ⟨h,c1,rfl,hown1,hb1⟩;have HO1:=Lib.hid hown1;have HB1:=Lib.hid hb1;clear hown1 hb1 HCL)
 have HCC:Hid (m ≤ c1 ∧ c1 ≤ maxLen):=Lib.hid (by
  obtain ⟨A,cap2,hv,h2,h3,_⟩:=own_shape HO1.out
  cases hv;exact ⟨h2,h3⟩)
 go_loopw [11] (fun iv W' => ∃ (j:Nat) (X:List Value),j ≤ m ∧ iv = .int .i64 (j:Int) ∧ Hid (Rest 11 j m C X) ∧ W'.ownsRow w.heap.size 66 11 (.slice (some ⟨h,0,none⟩) m c1) m X ∧ Below w.heap.size w W' ∧ w.heap.size ≤ W'.heap.size) (fun iv _ => m - (intOf iv).toNat)
 case atStart => exact ⟨0,C,Nat.zero_le _,by go_num,Lib.hid fun t _ _ => rfl,HO1.out,HB1.out,HB1.out.size⟩
 case round =>
  clear HO1 HB1
  obtain ⟨j,X,hj,rfl,HRS,hown,hbw,hsw⟩:=hrel
  have hj0:(0:Int) ≤ (j:Int):=by omega
  by_cases hlt:j < m
  ·have hjm:(j:Int) < (m:Int):=by omega
   have hj1:(j:Int) + 1 ≤ 9223372036854775807:=by omega
   have hjs:(j + 1) * 11 ≤ m * 11:=Nat.mul_le_mul_right 11 hlt
   have hXl:X.length = m * 11:=by have:=hown.1;omega
   obtain ⟨D,hDe⟩:∃ D,(X.drop (j * 11)).take 11 = D:=⟨_,rfl⟩
   have hDl:D.length = 11:=by rw [← hDe,List.length_take,List.length_drop];omega
   have hDX:∀ t v,D[t]? = some v → X[j * 11 + t]? = some v:=fun t v hv => by
    rw [← hDe,List.getElem?_take] at hv
    split at hv
    ·rw [List.getElem?_drop] at hv;exact hv
    ·cases hv
   have hDC:∀ t v,D[t]? = some v → C[j * 11 + t]? = some v:=fun t v hv => by
    have h2:=hDX t v hv
    have ht:t < 11:=by have:=(List.getElem?_eq_some_iff.1 hv).1;omega
    rw [← HRS.out (j * 11 + t) (by omega) (by omega)];exact h2
   have hD1:∀ u ∈ D,u.oneCell' = true:=fun u hu => by
    obtain ⟨t,ht,rfl⟩:=List.getElem_of_mem hu
    exact HC.out.2 _ (List.mem_of_getElem? (hDC t _ (List.getElem?_eq_getElem ht)))
   have HRG:Hid (wr.rangeAt h (j * 11) D):=Lib.hid (own_rangeAt hown hDX)
   have HID:Hid ((Tryd.prog.info? 66).map (·.size) = some D.length):=Lib.hid (by rw [hDl];exact info_slotsz)
   have HZ:Hid (Arr (wr.alloc (.cells #[.int .i64 0,.int .i64 0,.int .i64 0,.string ⟨#[]⟩,.int .i64 0,.int .i64 0,.int .i64 0,.int .i64 0,.slice none 0 0,.int .i64 0,.int .i64 0] 66)) wr.heap.size 11 66 zz11):=Lib.hid (Arr.new' wr _ _ 11 _ rfl rfl (by decide))
   have HBZ:Hid (Below wr.heap.size wr (wr.alloc (.cells #[.int .i64 0,.int .i64 0,.int .i64 0,.string ⟨#[]⟩,.int .i64 0,.int .i64 0,.int .i64 0,.int .i64 0,.slice none 0 0,.int .i64 0,.int .i64 0] 66))):=Lib.hid (new_later wr _)
   have HFJ:Hid (∀ W,Below wr.heap.size wr W → Calls Tryd.prog 76 #[.agg D.toArray] W (CpRes 11 W)):=Lib.hid fun W h => HF.out j D W hlt hDl hDC (later hbw h)
   have HOW:=Lib.hid hown
   have HBW:=Lib.hid hbw
   have HSW:=Lib.hid hsw
   have HLT:=Lib.hid hlt
   have HJS:=Lib.hid hjs
   have HXL:=Lib.hid hXl
   have HDL:=Lib.hid hDl
   have HD1:=Lib.hid hD1
   clear hown hbw hsw hlt hj hjs hXl hDe hDl hDX hDC hD1
   go_upto_region 5 with (first
    | (with_reducible refine wpList_load_mid rfl _ (.tmp 14) rfl h (j * 11) rfl D _ HRG.out Tryd.underlying66 rfl HID.out ?_)
    | (refine wpList_store_arr rfl _ (.tmp 6) (.tmp 15) rfl wr.heap.size 0 11 66 _ D zz11 rfl rfl rfl HZ.out (by rw [HDL.out];exact Nat.le_refl _) HID.out HD1.out ?_;intro w6 f6 o6;rw [setAll_all zz11 D HDL.out] at f6;have HF6:=Lib.hid f6;have HO6:=Lib.hid (HBZ.out.trans (o6.bel.mono (Nat.le_refl _)));clear f6 o6))
   have HR6:Hid (w6.rangeAt wr.heap.size 0 D):=Lib.hid HF6.out.range
   go_upto_region 6 with (first
    | (with_reducible refine wpList_load_mid rfl _ (.tmp 6) rfl wr.heap.size 0 rfl D _ HR6.out Tryd.underlying66 rfl HID.out ?_)
    | (go_at_call 76;(with_reducible refine (HFJ.out _ HO6.out).mono ?_);rintro e w7 ⟨D',rfl,hD',hb7⟩;have HD':=Lib.hid hD';have HB7:=Lib.hid (later HO6.out hb7);have HOW7:=Lib.hid (own_below4 HOW.out HB7.out);have HID':Hid ((Tryd.prog.info? 66).map (·.size) = some D'.toArray.size):=Lib.hid (by rw [List.size_toArray,hD'.1];exact info_slotsz);clear hb7 hD')
    | (with_reducible refine wpList_store_mid rfl _ (.tmp 21) (.tmp 20) rfl h (j * 11) D'.toArray rfl rfl (own_there HOW7.out (by rw [List.size_toArray,HD'.out.1];have:=HJS.out;rw [Nat.succ_mul] at this;exact this)) HID'.out (all_oneCell_toArray HD'.out.2) ?_))
   have HOW8:=Lib.hid (own_setCells4 D' HOW7.out (o:=j * 11) (by rw [HD'.out.1];have:=HJS.out;rw [Nat.succ_mul] at this;exact this))
   have hlh:=HOW.out.lt h rfl
   have HBW8:Hid (Below w.heap.size w (w7.setCells h (j * 11) D')):=Lib.hid (below_setCells D' (j * 11) w7 (later HBW.out HB7.out) hlh.1)
   have HSW8:Hid (w.heap.size ≤ (w7.setCells h (j * 11) D').heap.size):=Lib.hid HBW8.out.size
   have HRS8:=Lib.hid (HRS.out.step D' HD'.out.1 HXL.out HLT.out)
   clear hlh HRS HRG HZ HBZ HFJ HOW HBW HSW HXL HDL HD1 HF6 HO6 HR6 HB7 HOW7 HID HID'
   go_wp2_with fail
   go_roundw
   case rel => exact ⟨j + 1,_,HLT.out,by go_num,HRS8,HOW8.out,HBW8.out,HSW8.out⟩
   case measure => simp [intOf];have:=HLT.out;omega
  ·have hnl:¬ ((j:Int) < (m:Int)):=by omega
   have HBW:=Lib.hid hbw
   clear hown hbw hsw hlt hj
   go_wp2_with fail
   go_ret
   exact ⟨h,c1,rfl,HCC.out,HBW.out⟩
theorem info_typesz:(Tryd.prog.info? 31).map (·.size) = some 5:=by kernel_rfl
theorem info_exprsz:(Tryd.prog.info? 44).map (·.size) = some 15:=by kernel_rfl
end Go.Proofs.YtmfihlcibephlaaDoor
