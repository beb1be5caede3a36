import Derived.Test.YtmfihlcibephlaaDoorZ15
import Derived.Test.YtmfihlcibephlaaDoorZ30
import Derived.Test.YtmfihlcibephlaaDoorZ31
set_option linter.unusedVariables false
set_option linter.unusedSimpArgs false
namespace Go.Proofs.YtmfihlcibephlaaDoor
open Go.RowKit
def dc31 (k kd:Int) (nm:ByteArray) (sv:Value):List Value:=[.int .i64 0,.int .i64 1,.int .i64 k,.int .i64 kd,.int .i64 0,.int .i64 0,.int .i64 0,.string nm,sv,.int .i64 0,.int .i64 0,.int .i64 0,.int .i64 0,.slice none 0 0,.int .i64 0,.int .i64 0,.int .i64 0,.int .i64 0,.int .i64 0,.int .i64 0,.int .i64 0,.int .i64 0,.int .i64 0,.int .i64 0,.int .i64 0,.int .i64 0,.slice none 0 0,.slice none 0 0,.slice none 0 0,.int .i64 0,.slice none 0 0]
set_option maxHeartbeats 4000000 in
set_option maxRecDepth 100000 in
theorem copyDef_plain (k kd:Int) (nm:ByteArray) (gs m cap:Nat) (w:World)
  (HCL:Hid (∀ W,Below w.heap.size w W → Calls Tryd.prog 75 #[.slice (some ⟨gs,0,none⟩) m cap,.func (.func 76) #[] #[]] W (fun e w' => ∃ h c',e = .returned (.slice (some ⟨h,0,none⟩) m c') ∧ (m ≤ c' ∧ c' ≤ maxLen) ∧ Below W.heap.size W w'))) :
  Calls Tryd.prog 50 #[.agg #[.int .i64 0,.int .i64 1,.int .i64 k,.int .i64 kd,.int .i64 0,.int .i64 0,.int .i64 0,.string nm,(.slice (some ⟨gs,0,none⟩) m cap),.int .i64 0,.int .i64 0,.int .i64 0,.int .i64 0,.slice none 0 0,.int .i64 0,.int .i64 0,.int .i64 0,.int .i64 0,.int .i64 0,.int .i64 0,.int .i64 0,.int .i64 0,.int .i64 0,.int .i64 0,.int .i64 0,.int .i64 0,.slice none 0 0,.slice none 0 0,.slice none 0 0,.int .i64 0,.slice none 0 0]] w (fun e w' => ∃ h c',e = .returned (.agg (dc31 k kd nm (.slice (some ⟨h,0,none⟩) m c')).toArray) ∧ Below w.heap.size w w'):=by
 have P0:Arr (w.alloc (.cells #[.int .i64 0,.int .i64 1,.int .i64 k,.int .i64 kd,.int .i64 0,.int .i64 0,.int .i64 0,.string nm,(.slice (some ⟨gs,0,none⟩) m cap),.int .i64 0,.int .i64 0,.int .i64 0,.int .i64 0,.slice none 0 0,.int .i64 0,.int .i64 0,.int .i64 0,.int .i64 0,.int .i64 0,.int .i64 0,.int .i64 0,.int .i64 0,.int .i64 0,.int .i64 0,.int .i64 0,.int .i64 0,.slice none 0 0,.slice none 0 0,.slice none 0 0,.int .i64 0,.slice none 0 0] 46)) w.heap.size 31 46 (dc31 k kd nm (.slice (some ⟨gs,0,none⟩) m cap)):=Arr.new' w _ _ 31 _ rfl rfl (by decide)
 have V0:=new_later w (.cells #[.int .i64 0,.int .i64 1,.int .i64 k,.int .i64 kd,.int .i64 0,.int .i64 0,.int .i64 0,.string nm,(.slice (some ⟨gs,0,none⟩) m cap),.int .i64 0,.int .i64 0,.int .i64 0,.int .i64 0,.slice none 0 0,.int .i64 0,.int .i64 0,.int .i64 0,.int .i64 0,.int .i64 0,.int .i64 0,.int .i64 0,.int .i64 0,.int .i64 0,.int .i64 0,.int .i64 0,.int .i64 0,.slice none 0 0,.slice none 0 0,.slice none 0 0,.int .i64 0,.slice none 0 0] 46)
 have b2:=new_later (w.alloc (.cells #[.int .i64 0,.int .i64 1,.int .i64 k,.int .i64 kd,.int .i64 0,.int .i64 0,.int .i64 0,.string nm,(.slice (some ⟨gs,0,none⟩) m cap),.int .i64 0,.int .i64 0,.int .i64 0,.int .i64 0,.slice none 0 0,.int .i64 0,.int .i64 0,.int .i64 0,.int .i64 0,.int .i64 0,.int .i64 0,.int .i64 0,.int .i64 0,.int .i64 0,.int .i64 0,.int .i64 0,.int .i64 0,.slice none 0 0,.slice none 0 0,.slice none 0 0,.int .i64 0,.slice none 0 0] 46)) (.cells z31.toArray 46)
 have R0:=z31_new (w.alloc (.cells #[.int .i64 0,.int .i64 1,.int .i64 k,.int .i64 kd,.int .i64 0,.int .i64 0,.int .i64 0,.string nm,(.slice (some ⟨gs,0,none⟩) m cap),.int .i64 0,.int .i64 0,.int .i64 0,.int .i64 0,.slice none 0 0,.int .i64 0,.int .i64 0,.int .i64 0,.int .i64 0,.int .i64 0,.int .i64 0,.int .i64 0,.int .i64 0,.int .i64 0,.int .i64 0,.int .i64 0,.int .i64 0,.slice none 0 0,.slice none 0 0,.slice none 0 0,.int .i64 0,.slice none 0 0] 46))
 rw [World.size_alloc] at R0
 have P1:=P0.later b2
 have V1:=later V0 b2
 have hzd:=zero_def
 have hz31:z31.toArray = #[.int .i64 0,.int .i64 0,.int .i64 0,.int .i64 0,.int .i64 0,.int .i64 0,.int .i64 0,.string ⟨#[]⟩,.slice none 0 0,.int .i64 0,.int .i64 0,.int .i64 0,.int .i64 0,.slice none 0 0,.int .i64 0,.int .i64 0,.int .i64 0,.int .i64 0,.int .i64 0,.int .i64 0,.int .i64 0,.int .i64 0,.int .i64 0,.int .i64 0,.int .i64 0,.int .i64 0,.slice none 0 0,.slice none 0 0,.slice none 0 0,.int .i64 0,.slice none 0 0]:=rfl
 rw [hz31] at P1 V1 R0 b2 hzd
 generalize hW:(w.alloc (.cells #[.int .i64 0,.int .i64 1,.int .i64 k,.int .i64 kd,.int .i64 0,.int .i64 0,.int .i64 0,.string nm,(.slice (some ⟨gs,0,none⟩) m cap),.int .i64 0,.int .i64 0,.int .i64 0,.int .i64 0,.slice none 0 0,.int .i64 0,.int .i64 0,.int .i64 0,.int .i64 0,.int .i64 0,.int .i64 0,.int .i64 0,.int .i64 0,.int .i64 0,.int .i64 0,.int .i64 0,.int .i64 0,.slice none 0 0,.slice none 0 0,.slice none 0 0,.int .i64 0,.slice none 0 0] 46)).alloc (.cells #[.int .i64 0,.int .i64 0,.int .i64 0,.int .i64 0,.int .i64 0,.int .i64 0,.int .i64 0,.string ⟨#[]⟩,.slice none 0 0,.int .i64 0,.int .i64 0,.int .i64 0,.int .i64 0,.slice none 0 0,.int .i64 0,.int .i64 0,.int .i64 0,.int .i64 0,.int .i64 0,.int .i64 0,.int .i64 0,.int .i64 0,.int .i64 0,.int .i64 0,.int .i64 0,.int .i64 0,.slice none 0 0,.slice none 0 0,.slice none 0 0,.int .i64 0,.slice none 0 0] 46) = wa at P1 V1 R0
 have HR:=Lib.hid R0
 have HP:=Lib.hid P1
 have HV:=Lib.hid V1
 have c8:=P1.cell (j:=8) (v:=(.slice (some ⟨gs,0,none⟩) m cap)) rfl
 have HT:Hid (∀ W,Calls Tryd.prog 77 #[.agg #[.int .i64 0,.int .i64 0,.int .i64 0,.int .i64 0,.slice none 0 0]] W (fun e w' => e = .returned (.agg #[.int .i64 0,.int .i64 0,.int .i64 0,.int .i64 0,.slice none 0 0]) ∧ Below W.heap.size W w')):=Lib.hid fun W => copyType_leaf 0 0 0 0 W
 have HE:Hid (∀ W,Calls Tryd.prog 78 #[.agg #[.int .i64 0,.int .i64 0,.int .i64 0,.int .i64 0,.int .i64 0,.int .i64 0,.int .i64 0,.int .i64 0,.int .i64 0,.int .i64 0,.int .i64 0,.int .i64 0,.slice none 0 0,.slice none 0 0,.slice none 0 0]] W (fun e w' => e = .returned (.agg #[.int .i64 0,.int .i64 0,.int .i64 0,.int .i64 0,.int .i64 0,.int .i64 0,.int .i64 0,.int .i64 0,.int .i64 0,.int .i64 0,.int .i64 0,.int .i64 0,.slice none 0 0,.slice none 0 0,.slice none 0 0]) ∧ Below W.heap.size W w')):=Lib.hid fun W => copyExpr_zero W
 have HN:Hid (∀ W,Calls Tryd.prog 79 #[.slice none 0 0] W (fun e w' => e = .returned (.slice none 0 0) ∧ w' = W)):=Lib.hid fun W => clonenil_strs W
 clear P0 V0 b2 R0 P1 V1 hz31
 go_enter Tryd.func50,Tryd.ntmps50
 go_upto_region 1 with fail
 clear hW hzd
 go_upto_region 2 with (go_at_call 75;(with_reducible refine (HCL.out _ HV.out).mono ?_);rintro e w2 ⟨h,c2,rfl,hcc,hb2⟩;have P2:=HP.out.later hb2;have d8:=P2.cell (j:=8) (v:=(.slice (some ⟨gs,0,none⟩) m cap)) rfl;have f8:=P2.free 8;have HP2:=Lib.hid P2;have HR2:=Lib.hid (HR.out.later hb2);have HV2:=Lib.hid (later HV.out hb2);clear P2 hb2 hcc)
 have P3:Arr (w2.setCell ⟨w.heap.size,8,none⟩ (.slice (some ⟨h,0,none⟩) m c2)) w.heap.size 31 46 (dc31 k kd nm (.slice (some ⟨h,0,none⟩) m c2)):=HP2.out.set_ 8 (.slice (some ⟨h,0,none⟩) m c2)
 have o3:Only w.heap.size w2 (w2.setCell ⟨w.heap.size,8,none⟩ (.slice (some ⟨h,0,none⟩) m c2)):=Only.setCells w.heap.size 8 [(.slice (some ⟨h,0,none⟩) m c2)] w2
 have R3:=HR2.out.only o3 (by omega)
 have V3:Below w.heap.size w (w2.setCell ⟨w.heap.size,8,none⟩ (.slice (some ⟨h,0,none⟩) m c2)):=HV2.out.trans (o3.bel.mono (Nat.le_refl _))
 generalize w2.setCell ⟨w.heap.size,8,none⟩ (.slice (some ⟨h,0,none⟩) m c2) = w3 at P3 R3 V3 ⊢
 have HP3:=Lib.hid P3
 have HR3:=Lib.hid R3
 have HV3:=Lib.hid V3
 have HG3:Hid (w3.rangeAt w.heap.size 9 [.int .i64 0,.int .i64 0,.int .i64 0,.int .i64 0,.slice none 0 0]):=Lib.hid (Arr.mid (a:=[.int .i64 0,.int .i64 1,.int .i64 k,.int .i64 kd,.int .i64 0,.int .i64 0,.int .i64 0,.string nm,(.slice (some ⟨h,0,none⟩) m c2)]) (x:=[.int .i64 0,.int .i64 0,.int .i64 0,.int .i64 0,.slice none 0 0]) (b:=[.int .i64 0,.int .i64 0,.int .i64 0,.int .i64 0,.int .i64 0,.int .i64 0,.int .i64 0,.int .i64 0,.int .i64 0,.int .i64 0,.int .i64 0,.int .i64 0,.slice none 0 0,.slice none 0 0,.slice none 0 0,.int .i64 0,.slice none 0 0]) P3 rfl)
 have HI5:Hid ((Tryd.prog.info? 31).map (·.size) = some ([.int .i64 0,.int .i64 0,.int .i64 0,.int .i64 0,.slice none 0 0]:List Value).length):=Lib.hid info_typesz
 have HI15:Hid ((Tryd.prog.info? 44).map (·.size) = some ([.int .i64 0,.int .i64 0,.int .i64 0,.int .i64 0,.int .i64 0,.int .i64 0,.int .i64 0,.int .i64 0,.int .i64 0,.int .i64 0,.int .i64 0,.int .i64 0,.slice none 0 0,.slice none 0 0,.slice none 0 0]:List Value).length):=Lib.hid info_exprsz
 clear P3 o3 R3 V3 d8 f8 HP2 HR2 HV2 HP HR HV HCL c8
 go_upto_region 3 with (first
  | (with_reducible refine wpList_load_mid rfl _ (.tmp 7) rfl w.heap.size 9 rfl [.int .i64 0,.int .i64 0,.int .i64 0,.int .i64 0,.slice none 0 0] _ HG3.out Tryd.underlying31 rfl HI5.out ?_)
  | (go_at_call 77;(with_reducible refine (HT.out _).mono ?_);rintro e w4 ⟨rfl,hb4⟩;have HP4:=Lib.hid (HP3.out.later hb4);have HR4:=Lib.hid (HR3.out.later hb4);have HV4:=Lib.hid (later HV3.out hb4);clear hb4)
  | (refine wpList_store_arr rfl _ (.tmp 10) (.tmp 9) rfl w.heap.size 9 31 46 _ [.int .i64 0,.int .i64 0,.int .i64 0,.int .i64 0,.slice none 0 0] (dc31 k kd nm (.slice (some ⟨h,0,none⟩) m c2)) rfl rfl rfl HP4.out (show 9 + 5 ≤ 31 by omega) info_typesz (List.all_eq_true.mp (by rfl)) ?_;intro w5 f5 o5;have HP5:Hid (Arr w5 w.heap.size 31 46 (dc31 k kd nm (.slice (some ⟨h,0,none⟩) m c2))):=Lib.hid f5;have HR5:=Lib.hid (HR4.out.only o5 (by omega));have HV5:=Lib.hid (HV4.out.trans (o5.bel.mono (Nat.le_refl _)));clear f5 o5))
 have HG5:Hid (w5.rangeAt w.heap.size 14 [.int .i64 0,.int .i64 0,.int .i64 0,.int .i64 0,.int .i64 0,.int .i64 0,.int .i64 0,.int .i64 0,.int .i64 0,.int .i64 0,.int .i64 0,.int .i64 0,.slice none 0 0,.slice none 0 0,.slice none 0 0]):=Lib.hid (Arr.mid (a:=[.int .i64 0,.int .i64 1,.int .i64 k,.int .i64 kd,.int .i64 0,.int .i64 0,.int .i64 0,.string nm,(.slice (some ⟨h,0,none⟩) m c2),.int .i64 0,.int .i64 0,.int .i64 0,.int .i64 0,.slice none 0 0]) (x:=[.int .i64 0,.int .i64 0,.int .i64 0,.int .i64 0,.int .i64 0,.int .i64 0,.int .i64 0,.int .i64 0,.int .i64 0,.int .i64 0,.int .i64 0,.int .i64 0,.slice none 0 0,.slice none 0 0,.slice none 0 0]) (b:=[.int .i64 0,.slice none 0 0]) HP5.out rfl)
 clear HP3 HR3 HV3 HG3 HP4 HR4 HV4
 go_upto_region 4 with (first
  | (with_reducible refine wpList_load_mid rfl _ (.tmp 11) rfl w.heap.size 14 rfl [.int .i64 0,.int .i64 0,.int .i64 0,.int .i64 0,.int .i64 0,.int .i64 0,.int .i64 0,.int .i64 0,.int .i64 0,.int .i64 0,.int .i64 0,.int .i64 0,.slice none 0 0,.slice none 0 0,.slice none 0 0] _ HG5.out Tryd.underlying44 rfl HI15.out ?_)
  | (go_at_call 78;(with_reducible refine (HE.out _).mono ?_);rintro e w6 ⟨rfl,hb6⟩;have HP6:=Lib.hid (HP5.out.later hb6);have HR6:=Lib.hid (HR5.out.later hb6);have HV6:=Lib.hid (later HV5.out hb6);clear hb6)
  | (refine wpList_store_arr rfl _ (.tmp 14) (.tmp 13) rfl w.heap.size 14 31 46 _ [.int .i64 0,.int .i64 0,.int .i64 0,.int .i64 0,.int .i64 0,.int .i64 0,.int .i64 0,.int .i64 0,.int .i64 0,.int .i64 0,.int .i64 0,.int .i64 0,.slice none 0 0,.slice none 0 0,.slice none 0 0] (dc31 k kd nm (.slice (some ⟨h,0,none⟩) m c2)) rfl rfl rfl HP6.out (show 14 + 15 ≤ 31 by omega) info_exprsz (List.all_eq_true.mp (by rfl)) ?_;intro w7 f7 o7;have HP7:Hid (Arr w7 w.heap.size 31 46 (dc31 k kd nm (.slice (some ⟨h,0,none⟩) m c2))):=Lib.hid f7;have HR7:=Lib.hid (HR6.out.only o7 (by omega));have HV7:=Lib.hid (HV6.out.trans (o7.bel.mono (Nat.le_refl _)));clear f7 o7))
 have c30:=HP7.out.cell (j:=30) (v:=.slice none 0 0) rfl
 have f30:=HP7.out.free 30
 clear HP5 HR5 HV5 HG5 HP6 HR6 HV6
 go_upto_region 5 with (go_at_call 79;(with_reducible refine (HN.out _).mono ?_);rintro e w8 ⟨rfl,hw8⟩;rw [hw8];clear hw8)
 have P8:Arr (w7.setCell ⟨w.heap.size,30,none⟩ (.slice none 0 0)) w.heap.size 31 46 (dc31 k kd nm (.slice (some ⟨h,0,none⟩) m c2)):=HP7.out.set_ 30 (.slice none 0 0)
 have o8:Only w.heap.size w7 (w7.setCell ⟨w.heap.size,30,none⟩ (.slice none 0 0)):=Only.setCells w.heap.size 30 [.slice none 0 0] w7
 have R8:=HR7.out.only o8 (by omega)
 have V8:Below w.heap.size w (w7.setCell ⟨w.heap.size,30,none⟩ (.slice none 0 0)):=HV7.out.trans (o8.bel.mono (Nat.le_refl _))
 generalize w7.setCell ⟨w.heap.size,30,none⟩ (.slice none 0 0) = w9 at P8 R8 V8 ⊢
 have HG9:Hid (w9.rangeAt w.heap.size 0 (dc31 k kd nm (.slice (some ⟨h,0,none⟩) m c2))):=Lib.hid P8.range
 have HI31:Hid ((Tryd.prog.info? 46).map (·.size) = some (dc31 k kd nm (.slice (some ⟨h,0,none⟩) m c2)).length):=Lib.hid info_def
 have HR8:=Lib.hid R8
 have HV8:=Lib.hid V8
 clear P8 o8 R8 V8 c30 f30 HP7 HR7 HV7
 go_wp2_with (first
  | (with_reducible refine wpList_load_mid rfl _ (.tmp 1) rfl w.heap.size 0 rfl (dc31 k kd nm (.slice (some ⟨h,0,none⟩) m c2)) _ HG9.out Tryd.underlying46 rfl HI31.out ?_)
  | (refine wpList_store_arr rfl _ (.tmp 2) (.tmp 19) rfl (w.heap.size + 1) 0 31 46 _ (dc31 k kd nm (.slice (some ⟨h,0,none⟩) m c2)) z31 rfl rfl rfl HR8.out (show 0 + 31 ≤ 31 by omega) info_def (List.all_eq_true.mp (by rfl)) ?_;intro w10 f10 o10))
 rw [setAll_all z31 (dc31 k kd nm (.slice (some ⟨h,0,none⟩) m c2)) rfl] at f10
 exact bodyPost_ret (results_one rfl _ _ (w.heap.size + 1) (dc31 k kd nm (.slice (some ⟨h,0,none⟩) m c2)) _ rfl f10.range Tryd.underlying46 rfl info_def) rfl ⟨h,c2,rfl,HV8.out.trans (o10.bel.mono (by omega))⟩
end Go.Proofs.YtmfihlcibephlaaDoor
namespace Go.Proofs.YtmfihlcibephlaaDoor
open Go.RowKit
theorem ex_fnd:fndI pEx 0 1 2 = 1:=by decide
theorem two_elems {D C A B:List Value} {j:Nat} (hj:j < 2) (hl:D.length = 11) (hA:A.length = 11) (hB:B.length = 11) (hC:C = A ++ B) (h:∀ t v,D[t]? = some v → C[j * 11 + t]? = some v):D = if j = 0 then A else B:=by
 subst hC
 apply List.ext_getElem?
 intro t
 by_cases ht:t < 11
 ·have h1:=h t _ (List.getElem?_eq_getElem (by omega))
  rw [List.getElem?_eq_getElem (by omega),← h1]
  match j,hj with
  | 0,_ => rw [if_pos rfl,List.getElem?_append_left (by omega)];congr 1;omega
  | 1,_ => rw [if_neg (by decide),List.getElem?_append_right (by omega)];congr 1;omega
 ·rw [List.getElem?_eq_none (by omega)]
  symm
  apply List.getElem?_eq_none
  split <;> omega
theorem ex_slots {w:World} {g g1 g2:Nat} (h:ExR w g g1 g2):Hid (∀ W,Below w.heap.size w W → Calls Tryd.prog 75 #[.slice (some ⟨g2,0,none⟩) 2 2,.func (.func 76) #[] #[]] W (fun e w' => ∃ h c',e = .returned (.slice (some ⟨h,0,none⟩) 2 c') ∧ (2 ≤ c' ∧ c' ≤ maxLen) ∧ Below W.heap.size W w')):=Lib.hid fun W hb => by
 refine copylist_slots W g2 0 2 2 ([.int .i64 0,.int .i64 1,.int .i64 5,.string ⟨#[68,111,116]⟩,.int .i64 0,.int .i64 0,.int .i64 0,.int .i64 0,.slice none 0 0,.int .i64 0,.int .i64 0] ++ [.int .i64 0,.int .i64 1,.int .i64 6,.string ⟨#[66,111,120]⟩,.int .i64 3,.int .i64 0,.int .i64 1,.int .i64 1,.slice none 0 0,.int .i64 0,.int .i64 0]) rfl (range_below h.2.2 hb) (List.all_eq_true.mp (by rfl)) (by decide) ⟨by decide,by simp [maxLen]⟩ (by decide) (Lib.hid fun j D W' hj hl hD hb' => ?_)
 have hD':=two_elems (A:=[.int .i64 0,.int .i64 1,.int .i64 5,.string ⟨#[68,111,116]⟩,.int .i64 0,.int .i64 0,.int .i64 0,.int .i64 0,.slice none 0 0,.int .i64 0,.int .i64 0]) (B:=[.int .i64 0,.int .i64 1,.int .i64 6,.string ⟨#[66,111,120]⟩,.int .i64 3,.int .i64 0,.int .i64 1,.int .i64 1,.slice none 0 0,.int .i64 0,.int .i64 0]) hj hl rfl rfl rfl hD
 match j,hj,hD' with
 | 0,_,hD' =>
  rw [if_pos rfl] at hD'
  subst hD'
  refine (copySlot_leaf 0 1 5 0 0 0 0 0 0 ⟨#[68,111,116]⟩ W').mono ?_
  rintro e w' ⟨rfl,hb⟩
  exact ⟨_,rfl,⟨rfl,List.all_eq_true.mp (by rfl)⟩,hb⟩
 | 1,_,hD' =>
  rw [if_neg (by decide)] at hD'
  subst hD'
  refine (copySlot_leaf 0 1 6 3 0 1 1 0 0 ⟨#[66,111,120]⟩ W').mono ?_
  rintro e w' ⟨rfl,hb⟩
  exact ⟨_,rfl,⟨rfl,List.all_eq_true.mp (by rfl)⟩,hb⟩
set_option maxHeartbeats 2000000 in
set_option maxRecDepth 100000 in
theorem Def_ex (w:World) (g g1 g2:Nat) (h:ExR w g g1 g2) :
  Calls Tryd.prog 20 #[.agg #[.slice none 0 0,.slice (some ⟨g,0,none⟩) 2 2],.agg #[.int .i64 0,.int .i64 1,.int .i64 2]] w (fun e w' => ∃ hh c2,e = .returned (.tuple #[.agg (dc31 2 1 ⟨#[83,104,97,112,101]⟩ (.slice (some ⟨hh,0,none⟩) 2 c2)).toArray,.bool true]) ∧ Below w.heap.size w w'):=by
 have P0:=p2_new w (.slice none 0 0) (.slice (some ⟨g,0,none⟩) 2 2)
 have V0:=new_later w (.cells #[.slice none 0 0,.slice (some ⟨g,0,none⟩) 2 2] 26)
 have Q0:=i3_new (w.alloc (.cells #[.slice none 0 0,.slice (some ⟨g,0,none⟩) 2 2] 26)) 0 1 2
 have b1:=new_later (w.alloc (.cells #[.slice none 0 0,.slice (some ⟨g,0,none⟩) 2 2] 26)) (.cells #[.int .i64 0,.int .i64 1,.int .i64 2] 28)
 have R0:=z31_new ((w.alloc (.cells #[.slice none 0 0,.slice (some ⟨g,0,none⟩) 2 2] 26)).alloc (.cells #[.int .i64 0,.int .i64 1,.int .i64 2] 28))
 have b2:=new_later ((w.alloc (.cells #[.slice none 0 0,.slice (some ⟨g,0,none⟩) 2 2] 26)).alloc (.cells #[.int .i64 0,.int .i64 1,.int .i64 2] 28)) (.cells z31.toArray 46)
 have hzd:=zero_def
 have hz31:z31.toArray = #[.int .i64 0,.int .i64 0,.int .i64 0,.int .i64 0,.int .i64 0,.int .i64 0,.int .i64 0,.string ⟨#[]⟩,.slice none 0 0,.int .i64 0,.int .i64 0,.int .i64 0,.int .i64 0,.slice none 0 0,.int .i64 0,.int .i64 0,.int .i64 0,.int .i64 0,.int .i64 0,.int .i64 0,.int .i64 0,.int .i64 0,.int .i64 0,.int .i64 0,.int .i64 0,.int .i64 0,.slice none 0 0,.slice none 0 0,.slice none 0 0,.int .i64 0,.slice none 0 0]:=rfl
 rw [hz31] at R0 b2 hzd
 replace P0:=(P0.later b1).later b2
 replace Q0:=Q0.later b2
 have V1:=later (later V0 b1) b2
 rw [World.size_alloc] at Q0
 rw [World.size_alloc,World.size_alloc] at R0
 clear V0 b1 b2
 generalize hW:((w.alloc (.cells #[.slice none 0 0,.slice (some ⟨g,0,none⟩) 2 2] 26)).alloc (.cells #[.int .i64 0,.int .i64 1,.int .i64 2] 28)).alloc (.cells #[.int .i64 0,.int .i64 0,.int .i64 0,.int .i64 0,.int .i64 0,.int .i64 0,.int .i64 0,.string ⟨#[]⟩,.slice none 0 0,.int .i64 0,.int .i64 0,.int .i64 0,.int .i64 0,.slice none 0 0,.int .i64 0,.int .i64 0,.int .i64 0,.int .i64 0,.int .i64 0,.int .i64 0,.int .i64 0,.int .i64 0,.int .i64 0,.int .i64 0,.int .i64 0,.int .i64 0,.slice none 0 0,.slice none 0 0,.slice none 0 0,.int .i64 0,.slice none 0 0] 46) = wa at P0 Q0 R0 V1
 have y0:=Q0.cell (j:=0) (v:=.int .i64 0) rfl
 have y1:=Q0.cell (j:=1) (v:=.int .i64 1) rfl
 have y2:=Q0.cell (j:=2) (v:=.int .i64 2) rfl
 have p0:=P0.cell (j:=0) (v:=.slice none 0 0) rfl
 have p1:=P0.cell (j:=1) (v:=.slice (some ⟨g,0,none⟩) 2 2) rfl
 have HX:=Lib.hid (h.later V1)
 have HP:=Lib.hid P0
 have HR:=Lib.hid R0
 have HV:=Lib.hid V1
 have HFI:Hid (Calls Tryd.prog 49 #[.agg #[.slice none 0 0,.slice (some ⟨g,0,none⟩) 2 2],.agg #[.int .i64 0,.int .i64 1,.int .i64 2]] wa fun e w' => e = .returned (.int .i64 1) ∧ Below wa.heap.size wa w'):=Lib.hid (by
  have:=find_any pEx 0 1 2 wa _ HX.out.pr
  rwa [ex_fnd] at this)
 clear P0 Q0 R0 V1 hz31 h
 go_enter Tryd.func20,Tryd.ntmps20
 go_upto_region 1 with fail
 clear hW hzd
 go_upto_region 4 with (go_at_call 49;(with_reducible refine HFI.out.mono ?_);rintro e w2 ⟨rfl,hb2⟩;have HX2:=Lib.hid (HX.out.later hb2);have HR2:=Lib.hid (HR.out.later hb2);have HV2:=Lib.hid (later HV.out hb2);have p1':=(HP.out.later hb2).cell (j:=1) (v:=.slice (some ⟨g,0,none⟩) 2 2) rfl;clear hb2)
 have HRG:Hid (w2.rangeAt g 31 ([.int .i64 0,.int .i64 1,.int .i64 2,.int .i64 1,.int .i64 0,.int .i64 0,.int .i64 0,.string ⟨#[83,104,97,112,101]⟩,(.slice (some ⟨g2,0,none⟩) 2 2),.int .i64 0,.int .i64 0,.int .i64 0,.int .i64 0,.slice none 0 0,.int .i64 0,.int .i64 0,.int .i64 0,.int .i64 0,.int .i64 0,.int .i64 0,.int .i64 0,.int .i64 0,.int .i64 0,.int .i64 0,.int .i64 0,.int .i64 0,.slice none 0 0,.slice none 0 0,.slice none 0 0,.int .i64 0,.slice none 0 0])):=Lib.hid (by
  have h:=range_right (xs:=[.int .i64 0,.int .i64 1,.int .i64 1,.int .i64 0,.int .i64 0,.int .i64 0,.int .i64 0,.string ⟨#[80,111,105,110,116]⟩,(.slice (some ⟨g1,0,none⟩) 2 2),.int .i64 0,.int .i64 0,.int .i64 0,.int .i64 0,.slice none 0 0,.int .i64 0,.int .i64 0,.int .i64 0,.int .i64 0,.int .i64 0,.int .i64 0,.int .i64 0,.int .i64 0,.int .i64 0,.int .i64 0,.int .i64 0,.int .i64 0,.slice none 0 0,.slice none 0 0,.slice none 0 0,.int .i64 0,.slice none 0 0]) (ys:=[.int .i64 0,.int .i64 1,.int .i64 2,.int .i64 1,.int .i64 0,.int .i64 0,.int .i64 0,.string ⟨#[83,104,97,112,101]⟩,(.slice (some ⟨g2,0,none⟩) 2 2),.int .i64 0,.int .i64 0,.int .i64 0,.int .i64 0,.slice none 0 0,.int .i64 0,.int .i64 0,.int .i64 0,.int .i64 0,.int .i64 0,.int .i64 0,.int .i64 0,.int .i64 0,.int .i64 0,.int .i64 0,.int .i64 0,.int .i64 0,.slice none 0 0,.slice none 0 0,.slice none 0 0,.int .i64 0,.slice none 0 0]) HX2.out.1
  simpa using h)
 have HI31:Hid ((Tryd.prog.info? 46).map (·.size) = some ([.int .i64 0,.int .i64 1,.int .i64 2,.int .i64 1,.int .i64 0,.int .i64 0,.int .i64 0,.string ⟨#[83,104,97,112,101]⟩,(.slice (some ⟨g2,0,none⟩) 2 2),.int .i64 0,.int .i64 0,.int .i64 0,.int .i64 0,.slice none 0 0,.int .i64 0,.int .i64 0,.int .i64 0,.int .i64 0,.int .i64 0,.int .i64 0,.int .i64 0,.int .i64 0,.int .i64 0,.int .i64 0,.int .i64 0,.int .i64 0,.slice none 0 0,.slice none 0 0,.slice none 0 0,.int .i64 0,.slice none 0 0]:List Value).length):=Lib.hid info_def
 have HCD:Hid (∀ W,Below w2.heap.size w2 W → Calls Tryd.prog 50 #[.agg #[.int .i64 0,.int .i64 1,.int .i64 2,.int .i64 1,.int .i64 0,.int .i64 0,.int .i64 0,.string ⟨#[83,104,97,112,101]⟩,(.slice (some ⟨g2,0,none⟩) 2 2),.int .i64 0,.int .i64 0,.int .i64 0,.int .i64 0,.slice none 0 0,.int .i64 0,.int .i64 0,.int .i64 0,.int .i64 0,.int .i64 0,.int .i64 0,.int .i64 0,.int .i64 0,.int .i64 0,.int .i64 0,.int .i64 0,.int .i64 0,.slice none 0 0,.slice none 0 0,.slice none 0 0,.int .i64 0,.slice none 0 0]] W (fun e w' => ∃ h c',e = .returned (.agg (dc31 2 1 ⟨#[83,104,97,112,101]⟩ (.slice (some ⟨h,0,none⟩) 2 c')).toArray) ∧ Below W.heap.size W w')):=Lib.hid fun W hb => copyDef_plain 2 1 ⟨#[83,104,97,112,101]⟩ g2 2 2 W (ex_slots (HX2.out.later hb))
 go_wp2_with (first
  | (with_reducible refine wpList_load_mid rfl _ (.tmp 16) rfl g 31 rfl ([.int .i64 0,.int .i64 1,.int .i64 2,.int .i64 1,.int .i64 0,.int .i64 0,.int .i64 0,.string ⟨#[83,104,97,112,101]⟩,(.slice (some ⟨g2,0,none⟩) 2 2),.int .i64 0,.int .i64 0,.int .i64 0,.int .i64 0,.slice none 0 0,.int .i64 0,.int .i64 0,.int .i64 0,.int .i64 0,.int .i64 0,.int .i64 0,.int .i64 0,.int .i64 0,.int .i64 0,.int .i64 0,.int .i64 0,.int .i64 0,.slice none 0 0,.slice none 0 0,.slice none 0 0,.int .i64 0,.slice none 0 0]) _ HRG.out Tryd.underlying46 rfl HI31.out ?_)
  | (go_at_call 50;(with_reducible refine (HCD.out _ (Below.refl _ _)).mono ?_);rintro e w3 ⟨hh,c2,rfl,hb3⟩;have HR3:=Lib.hid (HR2.out.later hb3);have HV3:=Lib.hid (later HV2.out hb3);clear hb3)
  | (refine wpList_store_arr rfl _ (.tmp 4) (.tmp 18) rfl (w.heap.size + 1 + 1) 0 31 46 _ (dc31 2 1 ⟨#[83,104,97,112,101]⟩ (.slice (some ⟨hh,0,none⟩) 2 c2)) z31 rfl rfl rfl HR3.out (show 0 + 31 ≤ 31 by omega) info_def (List.all_eq_true.mp (by rfl)) ?_;intro w4 f4 o4))
 rw [setAll_all z31 (dc31 2 1 ⟨#[83,104,97,112,101]⟩ (.slice (some ⟨hh,0,none⟩) 2 c2)) rfl] at f4
 exact bodyPost_ret (results_cellB rfl _ _ (w.heap.size + 1 + 1) (dc31 2 1 ⟨#[83,104,97,112,101]⟩ (.slice (some ⟨hh,0,none⟩) 2 c2)) _ rfl f4.range Tryd.underlying46 rfl info_def) rfl ⟨hh,c2,rfl,HV3.out.trans (o4.bel.mono (by omega))⟩
end Go.Proofs.YtmfihlcibephlaaDoor
namespace Go.Proofs.YtmfihlcibephlaaDoor
open Go.RowKit
theorem wp_region_seq {P:Program} {ops:Array Oper} {Q:Exit → Act → World → Prop} {id:Nat} {a0:Act} {w0:World} (last p:Nat) (D:List Nat) (ds:Nat → Nat) (F:Nat → Value → World → Prop) (G:Bool → World → Prop) (B S:Nat)
  (hsz:ops.size = last + 1) (hac:acyB ops = true)
  (hD:∀ k,k < last → ds k ∈ D) (hlt:∀ k,k < last → ds k < a0.tmps.size) (hinj:∀ i k,i < last → k < last → ds i = ds k → i = k)
  (hF:∀ k v w w' E,k < last → (E = B ∨ (E = S ∧ k ≠ p)) → Ext E w w' → F k v w → F k v w') (h0:G false w0)
  (hs:∀ i a w c,i < last → (i = p → c = false) → Off D a0 a → G c w → (∀ k,k < last → depB ops i k = true → F k (ag a (ds k)) w) →
   wpOp P ops Q i (fun a' w' => ∃ v,a' = a.put (some (ds i)) v ∧ Ext (if i = p then S else B) w w' ∧ F i v w' ∧ G (if i = p then true else c) w') a w)
  (hl:∀ a w c,Off D a0 a → (p < last → c = true) → G c w → (∀ k,k < last → F k (ag a (ds k)) w) → wpOp P ops Q last (fun a' w' => Q .normal a' w') a w) :
  (Code.region id ops false).wp P Q a0 w0:=by
 refine wp_region ?_
 have key:∀ n i a w,i + n = last → Off D a0 a → G (decide (p < i)) w → (∀ k,k < i → F k (ag a (ds k)) w) → wpOps P ops Q (List.range' i (n + 1)) a w:=by
  intro n
  induction n with
  | zero =>
   intro i a w hi ho hg hf
   have hi:i = last:=by omega
   subst hi
   rw [show List.range' i (0 + 1) = [i] from rfl,wpOps_cons]
   refine wpOp_mono (fun a' w' h => ?_) (hl a w _ ho (fun h => decide_eq_true h) hg hf)
   simpa [wpOps] using h
  | succ n ih =>
   intro i a w hi ho hg hf
   rw [List.range'_succ,wpOps_cons]
   have hdk:∀ k,depB ops i k = true → k < i:=by
    intro k hk
    have h1:=List.all_eq_true.1 hac i (List.mem_range.2 (by omega))
    unfold depB at hk
    rw [Array.getElem?_eq_getElem (by omega)] at h1 hk
    simp only [Option.map_some,Option.getD_some] at h1 hk
    obtain ⟨e,he,hb⟩:=Array.any_eq_true'.1 hk
    have:=Array.all_eq_true'.1 h1 e he
    rw [Bool.and_eq_true] at hb
    have e2:e.on = k:=by simpa using hb.2
    rw [← e2];simpa using this
   refine wpOp_mono ?_ (hs i a w _ (by omega) (fun e => by rw [e];simp) ho hg (fun k hk hd => hf k (hdk k hd)))
   rintro a' w' ⟨v,rfl,he,hv,hg'⟩
   refine ih (i + 1) _ w' (by omega) (ho.put (hD i (by omega))) ?_ ?_
   ·by_cases hip:i = p
    ·rw [if_pos hip] at hg'
     rw [decide_eq_true (by omega)];exact hg'
    ·rw [if_neg hip] at hg'
     rw [show decide (p < i + 1) = decide (p < i) from decide_eq_decide.2 (by omega)];exact hg'
   ·intro k hk
    by_cases hki:k = i
    ·subst hki
     rw [ag_put (by rw [ho.size];exact hlt k (by omega))];exact hv
    ·rw [ag_ne (fun e => hki (hinj i k (by omega) (by omega) e).symm)]
     refine hF k _ w w' (if i = p then S else B) (by omega) ?_ he (hf k (by omega))
     by_cases hip:i = p
     ·exact .inr ⟨if_pos hip,fun e => hki (e.trans hip.symm)⟩
     ·exact .inl (if_neg hip)
 have h:=key last 0 a0 w0 (by omega) (Off.refl _ _) (by rw [show decide (p < 0) = false from decide_eq_false (by omega)];exact h0) (fun k hk => absurd hk (by omega))
 rw [List.range_eq_range',hsz]
 exact h
theorem info_def3:(Tryd.prog.info? 46).map (fun i => (i.zero,i.size,i.bytes)) = some (some (.agg z31.toArray),31,352):=by kernel_rfl
def PD (d:Df) (C:List Value) (W:World):Prop:=DfAt W d C
def fc15 (gp:Nat) (M:Nat → Prop) (dv:Value) (C:List Value) (B S:Nat) (P:List Df) (d:Df):Nat → Value → World → Prop
 | 0,v,_ => v = .pointer (some ⟨gp,1,none⟩)
 | 1,v,_ => v = dv
 | 2,v,_ => v = .agg C.toArray
 | 3,v,w => ∃ g,v = .slice (some ⟨g,0,none⟩) 1 1 ∧ S ≤ g ∧ Arr w g 31 46 C
 | 4,v,w => GrowF 46 31 PD w B M v (P ++ [d]) ∧ ∀ g,v.ownBlock = some g → dv.ownBlock = some g ∨ S ≤ g
 | 5,v,_ => v = .pointer (some ⟨gp,1,none⟩)
 | _,_,_ => True
theorem fc15_ext (gp:Nat) (M:Nat → Prop) (dv:Value) (C:List Value) (B S:Nat) (P:List Df) (d:Df) (hBS:B ≤ S) (hM:∀ g,M g → B ≤ g):∀ j v w w' E,j < 6 → (E = B ∨ (E = S ∧ j ≠ 4)) → Ext E w w' → fc15 gp M dv C B S P d j v w → fc15 gp M dv C B S P d j v w':=by
 intro j v w w' E hj hE he h
 have hES:E ≤ S:=by omega
 match j,hj,h with
 | 0,_,h => exact h
 | 1,_,h => exact h
 | 2,_,h => exact h
 | 3,_,⟨g,h1,h2,h3⟩ => exact ⟨g,h1,h2,h3.ext he (by omega)⟩
 | 4,_,⟨h1,h2⟩ =>
  have:E = B:=by omega
  subst this
  exact ⟨h1.keep he.1 (fun g hg hl => he.2 g (hg.elim (hM g) (fun e => (h1.lt g e).1)) hl),h2⟩
 | 5,_,h => exact h
def D15:List Nat:=[72,73,74,75,76,77]
def ds15 (k:Nat):Nat:=72 + k
theorem ds15_mem:∀ k,k < 6 → ds15 k < 92 ∧ ds15 k ∈ D15:=by decide
structure GC15 (gp gd:Nat) (M:Nat → Prop) (mv dv:Value) (C:List Value) (B S:Nat) (w0:World) (P:List Df) (d:Df) (c:Bool) (w:World):Prop where
 old:∀ g,g < S → dv.ownBlock ≠ some g → w.heap[g]? = w0.heap[g]?
 bel:Below 0 w0 w
 sz:S ≤ w.heap.size
 ap:Arr w gp 2 26 [mv,dv]
 ad:Arr w gd 31 46 C
 gr:c = false → GrowF 46 31 PD w B M dv P ∧ Foot (fun g => M g ∧ dv.ownBlock ≠ some g) (PD d C) w
theorem GC15.later {gp gd:Nat} {M:Nat → Prop} {mv dv:Value} {C:List Value} {B S:Nat} {w0:World} {P:List Df} {d:Df} {c:Bool} {w w':World} (h:GC15 gp gd M mv dv C B S w0 P d c w) (hb:Below w.heap.size w w'):GC15 gp gd M mv dv C B S w0 P d c w' :=
 ⟨fun g hg hn => (hb.block g (Nat.lt_of_lt_of_le hg h.sz)).trans (h.old g hg hn),h.bel.trans (hb.mono (Nat.zero_le _)),Nat.le_trans h.sz hb.size,h.ap.later hb,h.ad.later hb,fun hc => ⟨(h.gr hc).1.keep (hb.mono (Nat.zero_le _)) (fun g _ hg => hb.block g hg),(h.gr hc).2.keep (fun g hg _ => hg) (hb.mono (Nat.zero_le _)) (fun g _ hg => hb.block g hg)⟩⟩
set_option maxHeartbeats 1000000 in
set_option maxRecDepth 100000 in
theorem reg15 {Q:Exit → Act → World → Prop} {id:Nat} {ops:Array Oper} (hops:ops = ((Tryd.f10.body).bind (opsOf 15)).getD #[]) (a0:Act) (w0:World) (gp gd B:Nat) (M:Nat → Prop) (mv dv:Value) (C:List Value) (P:List Df) (d:Df) (hP:P.length ≤ 4) (hgd:dv.ownBlock ≠ some gd) (K kd:Int) (nmD:ByteArray) (sv:Value) (hCe:C = df31 K kd nmD sv) (hsz:92 ≤ a0.tmps.size)
  (h3:ag a0 3 = .pointer (some ⟨gp,0,none⟩)) (h8:ag a0 8 = .pointer (some ⟨gd,0,none⟩)) (hgp:gp < B) (hB:B ≤ w0.heap.size) (hM:∀ g,M g → B ≤ g) (hC:C.length = 31) (hC1:∀ u ∈ C,u.oneCell' = true)
  (hAp:Arr w0 gp 2 26 [mv,dv]) (hAd:Arr w0 gd 31 46 C) (hG:GrowF 46 31 PD w0 B M dv P) (hx:Foot (fun g => M g ∧ dv.ownBlock ≠ some g) (PD d C) w0)
  (hQ:∀ (vs:Nat → Value) (dv':Value) (w':World),GrowF 46 31 PD w' B M dv' (P ++ [d]) → (∀ g,dv'.ownBlock = some g → dv.ownBlock = some g ∨ w0.heap.size ≤ g) → Arr w' gp 2 26 [mv,dv'] → Below 0 w0 w' → (∀ g,g < w0.heap.size → g ≠ gp → dv.ownBlock ≠ some g → w'.heap[g]? = w0.heap[g]?) → ∀ a',a' = D15.foldl (fun b s => b.put (some s) (vs s)) a0 → Q .normal a' w') :
  (Code.region id ops false).wp Tryd.prog Q a0 w0:=by
 have hown:∀ g,dv.ownBlock = some g → B ≤ g ∧ g < w0.heap.size:=hG.lt
 have hg0:GC15 gp gd M mv dv C B w0.heap.size w0 P d false w0:=⟨fun _ _ _ => rfl,Below.refl _ _,Nat.le_refl _,hAp,hAd,fun _ => ⟨hG,hx⟩⟩
 have hin:∀ (a:Nat) (k:Nat),a < 6 → k < 6 → ds15 a = ds15 k → a = k:=fun a k _ _ h => by unfold ds15 at h;omega
 have hID:(Tryd.prog.info? 46).map (·.size) = some C.length:=by rw [hC];exact info_def
 refine wp_region_seq 6 4 D15 ds15 (fc15 gp M dv C B w0.heap.size P d) (GC15 gp gd M mv dv C B w0.heap.size w0 P d) B w0.heap.size (by subst hops;kernel_rfl) (by subst hops;kernel_rfl) (fun k hk => (ds15_mem k hk).2) (fun k hk => by have:=(ds15_mem k hk).1;omega) hin (fc15_ext gp M dv C B w0.heap.size P d hB hM) hg0 ?_ ?_
 ·intro j a w c hj hip ho hg hd
  have hgs:=hg.sz
  match j,hj,hd with
  | 0,hk,hd =>
   have s:(ops[0]?).map sig = some (some 72,.fieldAddr 26 (.tmp 3) 1,0,none):=by subst hops;kernel_rfl
   refine op_val s (w':=w) (v:=.pointer (some ⟨gp,1,none⟩)) ?_ ⟨_,rfl,?_,?_,?_⟩
   ·have e:ag a 3 = _:=(ho.off 3 (by decide)).trans h3
    simp only [execOp,eval_tmp,e]
    go_simp
   ·exact Ext.refl _ _
   ·rfl
   ·exact hg
  | 1,hk,hd =>
   have s:(ops[1]?).map sig = some (some 73,.load 24 (.tmp 72),24,none):=by subst hops;kernel_rfl
   have d0:=hd 0 (by decide) (by subst hops;kernel_rfl)
   refine op_val s (w':=w) (v:=dv) ?_ ⟨_,rfl,?_,?_,?_⟩
   ·have e:ag a 72 = _:=d0
    have hc:=hg.ap.cell (j:=1) (v:=dv) rfl
    simp only [execOp,eval_tmp,e]
    go_simp
   ·exact Ext.refl _ _
   ·rfl
   ·exact hg
  | 2,hk,hd =>
   have s:(ops[2]?).map sig = some (some 74,.load 46 (.tmp 8),46,none):=by subst hops;kernel_rfl
   have e:ag a 8 = _:=(ho.off 8 (by decide)).trans h8
   refine wpOp_of s fun o h1 h2 h3 h4 => ?_
   refine wp_load_mid _ _ h2 gd 0 e C _ hg.ad.range Tryd.underlying46 rfl hID ?_
   rw [h1]
   exact ⟨_,rfl,Ext.refl _ _,rfl,hg⟩
  | 3,hk,hd =>
   have s:(ops[3]?).map sig = some (some 75,.buildSlice 24 1 #[(0,.tmp 74)],24,none):=by subst hops;kernel_rfl
   have d2:=hd 2 (by decide) (by subst hops;kernel_rfl)
   refine op_val s (w':=w.alloc (.cells C.toArray 46)) (v:=.slice (some ⟨w.heap.size,0,none⟩) 1 1) ?_ ⟨_,rfl,?_,?_,?_⟩
   ·have e:ag a 74 = _:=d2
    simp only [execOp,List.map_toArray,List.map_cons,List.map_nil,eval_tmp,e,hCe]
    unfold df31
    go_simp
   ·exact Ext.of (new_later w _)
   ·exact ⟨_,rfl,hgs,Arr.new' w _ _ 31 _ (by simp) hC (by decide)⟩
   ·exact GC15.later hg (new_later w _)
  | 4,hk,hd =>
   have s:(ops[4]?).map sig = some (some 76,.call { callee:=.builtin .append,args:=#[.tmp 73,.tmp 75],argTypes:=#[24,24] },24,none):=by subst hops;kernel_rfl
   have d1:=hd 1 (by decide) (by subst hops;kernel_rfl)
   have d3:=hd 3 (by decide) (by subst hops;kernel_rfl)
   obtain ⟨gn,e3,hgn,hAn⟩:=d3
   have e3:ag a 75 = _:=e3
   have e1:ag a 73 = dv:=d1
   obtain ⟨hG1,hx1⟩:=hg.gr (hip rfl)
   refine wpOp_of s fun o h1 h2 h3 h4 => ?_
   refine wp_putF (x:=d) (C:=C) hG1 hC hx1 (Nat.le_trans hB hgs) ⟨by omega,by simp only [maxLen];omega⟩ Tryd.underlying24 info_def3 rfl (by decide) hC1 (.tmp 73) (.tmp 75) h2 e1 e3 hAn.range ?_
   intro g cap w' hG2 hb2 hk2 hn2
   rw [h1]
   refine ⟨_,rfl,⟨hb2.mono (Nat.zero_le _),fun g hg1 hg2 => hk2 g hg2 (fun e => ?_)⟩,⟨hG2,fun g' e => ?_⟩,?_⟩
   ·have:=(hown g e).2
    simp only [if_pos] at hg1
    omega
   ·have:g = g':=by simpa [Value.ownBlock] using e
    subst this
    exact hn2.imp (fun h => h) (fun h => by omega)
   ·exact ⟨fun k hk hn => (hk2 k (by omega) hn).trans (hg.old k hk hn),hg.bel.trans (hb2.mono (Nat.zero_le _)),Nat.le_trans hgs hb2.size,hg.ap.below hb2 hgp,arr_same hg.ad (hk2 gd hg.ad.lt hgd),fun h => (by cases h)⟩
  | 5,hk,hd =>
   have s:(ops[5]?).map sig = some (some 77,.fieldAddr 26 (.tmp 3) 1,0,none):=by subst hops;kernel_rfl
   refine op_val s (w':=w) (v:=.pointer (some ⟨gp,1,none⟩)) ?_ ⟨_,rfl,?_,?_,?_⟩
   ·have e:ag a 3 = _:=(ho.off 3 (by decide)).trans h3
    simp only [execOp,eval_tmp,e]
    go_simp
   ·exact Ext.refl _ _
   ·rfl
   ·exact hg
 ·intro a w c ho _ hg hf
  have e77:ag a 77 = _:=hf 5 (by decide)
  obtain ⟨hG',hnew⟩:=hf 4 (by decide)
  obtain ⟨A',cap',hsh,_⟩:=hG'.shape
  have e76:ag a 76 = _:=hsh
  have hc:=hg.ap.cell (j:=1) (v:=dv) rfl
  have hfz:=hg.ap.free 1
  have s:(ops[6]?).map sig = some (none,.store 24 (.tmp 77) (.tmp 76),0,none):=by subst hops;kernel_rfl
  refine op_skip s (w':=w.setCell ⟨gp,1,none⟩ (ag a 76)) ?_ ?_
  ·rw [e76]
   simp only [execOp,eval_tmp,e77,e76]
   go_simp
  ·have hO:=Only.setCells gp 1 [ag a 76] w
   have hA2:=hg.ap.set_ 1 (ag a 76)
   exact hQ (ag a) (ag a 76) (w.setCell ⟨gp,1,none⟩ (ag a 76)) (hG'.keep (hO.bel.mono (Nat.zero_le _)) (fun g hgB _ => hO.2 g (Nat.ne_of_gt (Nat.lt_of_lt_of_le hgp (hgB.elim (hM g) (fun e => (hG'.lt g e).1)))))) hnew hA2 (hg.bel.trans (hO.bel.mono (Nat.zero_le _))) (fun g hg1 hg2 hg3 => (hO.2 g hg2).trans (hg.old g hg1 hg3)) _ (ho.eq (fun s hs => Nat.lt_of_lt_of_le ((by decide:∀ s ∈ D15,s < 92) s hs) hsz))
end Go.Proofs.YtmfihlcibephlaaDoor
