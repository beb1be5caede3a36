import Derived.Test.YtkpoiljioadfgaaDoorW04
import Derived.Test.YtkpoiljioadfgaaDoorW06
set_option linter.unusedVariables false
set_option linter.unusedSimpArgs false
namespace Go.Proofs.YtkpoiljioadfgaaDoor
open Go.RowKit
def sEx (k:Int) (nm:ByteArray) (t:Ty):Sl:=⟨0,1,k,nm,t,0,0⟩
def exZ:Ex:=.node 0 0 0 0 0 0 0 0 tI [] []
def dEx (k kd:Int) (nm:ByteArray) (sl:List Sl):Df:=⟨0,1,k,kd,0,0,0,nm,sl,tI,exZ,0,[]⟩
def pEx:List Df:=[dEx 1 0 ⟨#[80,111,105,110,116]⟩ [sEx 3 ⟨#[120]⟩ tI,sEx 4 ⟨#[121]⟩ tI],dEx 2 1 ⟨#[83,104,97,112,101]⟩ [sEx 5 ⟨#[68,111,116]⟩ tI,sEx 6 ⟨#[66,111,120]⟩ (tD 0)]]
theorem ty_now (k s q i:Int) (h1:i64r k) (h2:i64r s) (h3:i64r q) (h4:i64r i) (w:World):TyAt w (.node k s q i []) (.agg #[.int .i64 k,.int .i64 s,.int .i64 q,.int .i64 i,.slice none 0 0]):=by
 unfold TyAt
 exact ⟨none,0,rfl,⟨Nat.le_refl _,by simp [maxLen],h1,h2,h3,h4⟩,by unfold KtAt;trivial⟩
theorem tI_now (w:World):TyAt w tI (.agg #[.int .i64 0,.int .i64 0,.int .i64 0,.int .i64 0,.slice none 0 0]):=ty_now 0 0 0 0 (by unfold i64r;omega) (by unfold i64r;omega) (by unfold i64r;omega) (by unfold i64r;omega) w
theorem strs_nil (w:World):StrsAt w (.slice none 0 0) []:=⟨none,0,rfl,⟨Nat.le_refl _,by simp [maxLen]⟩,Rd.nil _ _ _⟩
theorem sl_at (w:World) (k:Int) (nm:ByteArray) (t:Ty) (a b c d:Int) (ht:TyAt w t (.agg #[.int .i64 a,.int .i64 b,.int .i64 c,.int .i64 d,.slice none 0 0])):SlAt w (sEx k nm t) [.int .i64 0,.int .i64 1,.int .i64 k,.string nm,.int .i64 a,.int .i64 b,.int .i64 c,.int .i64 d,.slice none 0 0,.int .i64 0,.int .i64 0] :=
 ⟨[.int .i64 a,.int .i64 b,.int .i64 c,.int .i64 d,.slice none 0 0],rfl,rfl,ht⟩
theorem range_left {w:World} {g o:Nat} {xs ys:List Value} (h:w.rangeAt g o (xs ++ ys)):w.rangeAt g o xs:=fun j v hv => h j v (by rw [List.getElem?_append_left (List.getElem?_eq_some_iff.1 hv).1];exact hv)
theorem range_right {w:World} {g o:Nat} {xs ys:List Value} (h:w.rangeAt g o (xs ++ ys)):w.rangeAt g (o + xs.length) ys:=fun j v hv => by
 have:=h (xs.length + j) v (by rw [List.getElem?_append_right (by omega),Nat.add_sub_cancel_left];exact hv)
 rwa [← Nat.add_assoc] at this
theorem sls_two {w:World} {g:Nat} {x y:Sl} {C D:List Value} (hC:C.length = 11) (hr:w.rangeAt g 0 (C ++ D)) (hx:SlAt w x C) (hy:SlAt w y D):SlsAt w (.slice (some ⟨g,0,none⟩) 2 2) [x,y]:=by
 refine ⟨some ⟨g,0,none⟩,2,rfl,⟨Nat.le_refl _,by simp [maxLen]⟩,fun j z hz => ?_⟩
 match j,hz with
 | 0,hz => simp at hz;subst hz;exact ⟨g,0,C,rfl,by simpa using range_left hr,hx⟩
 | 1,hz => simp at hz;subst hz;exact ⟨g,0,D,rfl,by have h:=range_right hr;rw [hC] at h;simpa using h,hy⟩
 | j + 2,hz => simp at hz
theorem ex_at (w:World):ExAt w exZ [.int .i64 0,.int .i64 0,.int .i64 0,.int .i64 0,.int .i64 0,.int .i64 0,.int .i64 0,.int .i64 0,.int .i64 0,.int .i64 0,.int .i64 0,.int .i64 0,.slice none 0 0,.slice none 0 0,.slice none 0 0]:=by
 unfold exZ ExAt
 exact ⟨[.int .i64 0,.int .i64 0,.int .i64 0,.int .i64 0,.slice none 0 0],none,0,.slice none 0 0,rfl,⟨rfl,Nat.le_refl _,by simp [maxLen]⟩,tI_now w,strs_nil w,by unfold KxAt;trivial⟩
theorem df_at (w:World) (k kd:Int) (nm:ByteArray) (sl:List Sl) (sv:Value) (hs:SlsAt w sv sl):DfAt w (dEx k kd nm sl) [.int .i64 0,.int .i64 1,.int .i64 k,.int .i64 kd,.int .i64 0,.int .i64 0,.int .i64 0,.string nm,sv,.int .i64 0,.int .i64 0,.int .i64 0,.int .i64 0,.slice none 0 0,.int .i64 0,.int .i64 0,.int .i64 0,.int .i64 0,.int .i64 0,.int .i64 0,.int .i64 0,.int .i64 0,.int .i64 0,.int .i64 0,.int .i64 0,.int .i64 0,.slice none 0 0,.slice none 0 0,.slice none 0 0,.int .i64 0,.slice none 0 0] :=
 ⟨sv,[.int .i64 0,.int .i64 0,.int .i64 0,.int .i64 0,.slice none 0 0],[.int .i64 0,.int .i64 0,.int .i64 0,.int .i64 0,.int .i64 0,.int .i64 0,.int .i64 0,.int .i64 0,.int .i64 0,.int .i64 0,.int .i64 0,.int .i64 0,.slice none 0 0,.slice none 0 0,.slice none 0 0],.slice none 0 0,rfl,rfl,hs,tI_now w,ex_at w,strs_nil w⟩
theorem pr_ex {w:World} {g g1 g2:Nat} (h:w.rangeAt g 0 [.int .i64 0,.int .i64 1,.int .i64 1,.int .i64 0,.int .i64 0,.int .i64 0,.int .i64 0,.string ⟨#[80,111,105,110,116]⟩,(.slice (some ⟨g1,0,none⟩) 2 2),.int .i64 0,.int .i64 0,.int .i64 0,.int .i64 0,.slice none 0 0,.int .i64 0,.int .i64 0,.int .i64 0,.int .i64 0,.int .i64 0,.int .i64 0,.int .i64 0,.int .i64 0,.int .i64 0,.int .i64 0,.int .i64 0,.int .i64 0,.slice none 0 0,.slice none 0 0,.slice none 0 0,.int .i64 0,.slice none 0 0,.int .i64 0,.int .i64 1,.int .i64 2,.int .i64 1,.int .i64 0,.int .i64 0,.int .i64 0,.string ⟨#[83,104,97,112,101]⟩,(.slice (some ⟨g2,0,none⟩) 2 2),.int .i64 0,.int .i64 0,.int .i64 0,.int .i64 0,.slice none 0 0,.int .i64 0,.int .i64 0,.int .i64 0,.int .i64 0,.int .i64 0,.int .i64 0,.int .i64 0,.int .i64 0,.int .i64 0,.int .i64 0,.int .i64 0,.int .i64 0,.slice none 0 0,.slice none 0 0,.slice none 0 0,.int .i64 0,.slice none 0 0]) (h1:w.rangeAt g1 0 [.int .i64 0,.int .i64 1,.int .i64 3,.string ⟨#[120]⟩,.int .i64 0,.int .i64 0,.int .i64 0,.int .i64 0,.slice none 0 0,.int .i64 0,.int .i64 0,.int .i64 0,.int .i64 1,.int .i64 4,.string ⟨#[121]⟩,.int .i64 0,.int .i64 0,.int .i64 0,.int .i64 0,.slice none 0 0,.int .i64 0,.int .i64 0]) (h2:w.rangeAt g2 0 [.int .i64 0,.int .i64 1,.int .i64 5,.string ⟨#[68,111,116]⟩,.int .i64 0,.int .i64 0,.int .i64 0,.int .i64 0,.slice none 0 0,.int .i64 0,.int .i64 0,.int .i64 0,.int .i64 1,.int .i64 6,.string ⟨#[66,111,120]⟩,.int .i64 3,.int .i64 0,.int .i64 1,.int .i64 1,.slice none 0 0,.int .i64 0,.int .i64 0]):PrAt w pEx (.agg #[.slice none 0 0,.slice (some ⟨g,0,none⟩) 2 2]):=by
 have s1:SlsAt w (.slice (some ⟨g1,0,none⟩) 2 2) [sEx 3 ⟨#[120]⟩ tI,sEx 4 ⟨#[121]⟩ tI]:=sls_two rfl h1 (sl_at w 3 _ tI 0 0 0 0 (tI_now w)) (sl_at w 4 _ tI 0 0 0 0 (tI_now w))
 have s2:SlsAt w (.slice (some ⟨g2,0,none⟩) 2 2) [sEx 5 ⟨#[68,111,116]⟩ tI,sEx 6 ⟨#[66,111,120]⟩ (tD 0)]:=sls_two rfl h2 (sl_at w 5 _ tI 0 0 0 0 (tI_now w)) (sl_at w 6 _ (tD 0) 3 0 1 1 (ty_now 3 0 1 1 (by unfold i64r;omega) (by unfold i64r;omega) (by unfold i64r;omega) (by unfold i64r;omega) w))
 have d1:=df_at w 1 0 ⟨#[80,111,105,110,116]⟩ _ _ s1
 have d2:=df_at w 2 1 ⟨#[83,104,97,112,101]⟩ _ _ s2
 refine ⟨.slice none 0 0,some ⟨g,0,none⟩,2,rfl,⟨rfl,Nat.le_refl _,by simp [maxLen]⟩,fun j d hd => ?_⟩
 match j,hd with
 | 0,hd => simp [pEx] at hd;subst hd;exact ⟨g,0,_,rfl,range_left (xs:=[.int .i64 0,.int .i64 1,.int .i64 1,.int .i64 0,.int .i64 0,.int .i64 0,.int .i64 0,.string ⟨#[80,111,105,110,116]⟩,(.slice (some ⟨g1,0,none⟩) 2 2),.int .i64 0,.int .i64 0,.int .i64 0,.int .i64 0,.slice none 0 0,.int .i64 0,.int .i64 0,.int .i64 0,.int .i64 0,.int .i64 0,.int .i64 0,.int .i64 0,.int .i64 0,.int .i64 0,.int .i64 0,.int .i64 0,.int .i64 0,.slice none 0 0,.slice none 0 0,.slice none 0 0,.int .i64 0,.slice none 0 0]) (ys:=[.int .i64 0,.int .i64 1,.int .i64 2,.int .i64 1,.int .i64 0,.int .i64 0,.int .i64 0,.string ⟨#[83,104,97,112,101]⟩,(.slice (some ⟨g2,0,none⟩) 2 2),.int .i64 0,.int .i64 0,.int .i64 0,.int .i64 0,.slice none 0 0,.int .i64 0,.int .i64 0,.int .i64 0,.int .i64 0,.int .i64 0,.int .i64 0,.int .i64 0,.int .i64 0,.int .i64 0,.int .i64 0,.int .i64 0,.int .i64 0,.slice none 0 0,.slice none 0 0,.slice none 0 0,.int .i64 0,.slice none 0 0]) h,d1⟩
 | 1,hd => simp [pEx] at hd;subst hd;exact ⟨g,0,_,rfl,range_right (xs:=[.int .i64 0,.int .i64 1,.int .i64 1,.int .i64 0,.int .i64 0,.int .i64 0,.int .i64 0,.string ⟨#[80,111,105,110,116]⟩,(.slice (some ⟨g1,0,none⟩) 2 2),.int .i64 0,.int .i64 0,.int .i64 0,.int .i64 0,.slice none 0 0,.int .i64 0,.int .i64 0,.int .i64 0,.int .i64 0,.int .i64 0,.int .i64 0,.int .i64 0,.int .i64 0,.int .i64 0,.int .i64 0,.int .i64 0,.int .i64 0,.slice none 0 0,.slice none 0 0,.slice none 0 0,.int .i64 0,.slice none 0 0]) (ys:=[.int .i64 0,.int .i64 1,.int .i64 2,.int .i64 1,.int .i64 0,.int .i64 0,.int .i64 0,.string ⟨#[83,104,97,112,101]⟩,(.slice (some ⟨g2,0,none⟩) 2 2),.int .i64 0,.int .i64 0,.int .i64 0,.int .i64 0,.slice none 0 0,.int .i64 0,.int .i64 0,.int .i64 0,.int .i64 0,.int .i64 0,.int .i64 0,.int .i64 0,.int .i64 0,.int .i64 0,.int .i64 0,.int .i64 0,.int .i64 0,.slice none 0 0,.slice none 0 0,.slice none 0 0,.int .i64 0,.slice none 0 0]) h,d2⟩
 | j + 2,hd => simp [pEx] at hd
def ExR (w:World) (g g1 g2:Nat):Prop:=w.rangeAt g 0 [.int .i64 0,.int .i64 1,.int .i64 1,.int .i64 0,.int .i64 0,.int .i64 0,.int .i64 0,.string ⟨#[80,111,105,110,116]⟩,(.slice (some ⟨g1,0,none⟩) 2 2),.int .i64 0,.int .i64 0,.int .i64 0,.int .i64 0,.slice none 0 0,.int .i64 0,.int .i64 0,.int .i64 0,.int .i64 0,.int .i64 0,.int .i64 0,.int .i64 0,.int .i64 0,.int .i64 0,.int .i64 0,.int .i64 0,.int .i64 0,.slice none 0 0,.slice none 0 0,.slice none 0 0,.int .i64 0,.slice none 0 0,.int .i64 0,.int .i64 1,.int .i64 2,.int .i64 1,.int .i64 0,.int .i64 0,.int .i64 0,.string ⟨#[83,104,97,112,101]⟩,(.slice (some ⟨g2,0,none⟩) 2 2),.int .i64 0,.int .i64 0,.int .i64 0,.int .i64 0,.slice none 0 0,.int .i64 0,.int .i64 0,.int .i64 0,.int .i64 0,.int .i64 0,.int .i64 0,.int .i64 0,.int .i64 0,.int .i64 0,.int .i64 0,.int .i64 0,.int .i64 0,.slice none 0 0,.slice none 0 0,.slice none 0 0,.int .i64 0,.slice none 0 0] ∧ w.rangeAt g1 0 [.int .i64 0,.int .i64 1,.int .i64 3,.string ⟨#[120]⟩,.int .i64 0,.int .i64 0,.int .i64 0,.int .i64 0,.slice none 0 0,.int .i64 0,.int .i64 0,.int .i64 0,.int .i64 1,.int .i64 4,.string ⟨#[121]⟩,.int .i64 0,.int .i64 0,.int .i64 0,.int .i64 0,.slice none 0 0,.int .i64 0,.int .i64 0] ∧ w.rangeAt g2 0 [.int .i64 0,.int .i64 1,.int .i64 5,.string ⟨#[68,111,116]⟩,.int .i64 0,.int .i64 0,.int .i64 0,.int .i64 0,.slice none 0 0,.int .i64 0,.int .i64 0,.int .i64 0,.int .i64 1,.int .i64 6,.string ⟨#[66,111,120]⟩,.int .i64 3,.int .i64 0,.int .i64 1,.int .i64 1,.slice none 0 0,.int .i64 0,.int .i64 0]
theorem ExR.pr {w:World} {g g1 g2:Nat} (h:ExR w g g1 g2):PrAt w pEx (.agg #[.slice none 0 0,.slice (some ⟨g,0,none⟩) 2 2]):=pr_ex h.1 h.2.1 h.2.2
theorem ExR.later {w w':World} {g g1 g2:Nat} (h:ExR w g g1 g2) (hb:Below w.heap.size w w'):ExR w' g g1 g2:=⟨range_below h.1 hb,range_below h.2.1 hb,range_below h.2.2 hb⟩
set_option maxHeartbeats 1000000 in
set_option maxRecDepth 100000 in
theorem example_cells (w:World) :
  Calls Tryd.prog 51 #[] w fun e w' => ∃ g g1 g2,e = .returned (.agg #[.slice none 0 0,.slice (some ⟨g,0,none⟩) 2 2]) ∧ ExR w' g g1 g2 ∧ Below w.heap.size w w':=by
 have V0:=new_later w (.cells #[.slice none 0 0,.slice none 0 0] 26)
 have R0:Arr (w.alloc (.cells #[.slice none 0 0,.slice none 0 0] 26)) w.heap.size 2 26 [.slice none 0 0,.slice none 0 0]:=Arr.new' w _ _ 2 _ rfl rfl (by decide)
 generalize hW:w.alloc (.cells #[.slice none 0 0,.slice none 0 0] 26) = wa at V0 R0
 have HV:=Lib.hid V0
 have HR:=Lib.hid R0
 have H1:Hid (∀ W,Calls Tryd.prog 15 #[.int .i64 1] W fun e w' => e = .returned (.agg #[.int .i64 0,.int .i64 1,.int .i64 1]) ∧ Below W.heap.size W w'):=Lib.hid fun W => ID_any 1 (by omega) W
 have H2:Hid (∀ W,Calls Tryd.prog 15 #[.int .i64 2] W fun e w' => e = .returned (.agg #[.int .i64 0,.int .i64 1,.int .i64 2]) ∧ Below W.heap.size W w'):=Lib.hid fun W => ID_any 2 (by omega) W
 have H3:Hid (∀ W,Calls Tryd.prog 15 #[.int .i64 3] W fun e w' => e = .returned (.agg #[.int .i64 0,.int .i64 1,.int .i64 3]) ∧ Below W.heap.size W w'):=Lib.hid fun W => ID_any 3 (by omega) W
 have H4:Hid (∀ W,Calls Tryd.prog 15 #[.int .i64 4] W fun e w' => e = .returned (.agg #[.int .i64 0,.int .i64 1,.int .i64 4]) ∧ Below W.heap.size W w'):=Lib.hid fun W => ID_any 4 (by omega) W
 have H5:Hid (∀ W,Calls Tryd.prog 15 #[.int .i64 5] W fun e w' => e = .returned (.agg #[.int .i64 0,.int .i64 1,.int .i64 5]) ∧ Below W.heap.size W w'):=Lib.hid fun W => ID_any 5 (by omega) W
 have H6:Hid (∀ W,Calls Tryd.prog 15 #[.int .i64 6] W fun e w' => e = .returned (.agg #[.int .i64 0,.int .i64 1,.int .i64 6]) ∧ Below W.heap.size W w'):=Lib.hid fun W => ID_any 6 (by omega) W
 have HOF:Hid (∀ W,Calls Tryd.prog 14 #[.agg #[.int .i64 0,.int .i64 1,.int .i64 1]] W fun e w' => e = .returned (.agg #[.int .i64 3,.int .i64 0,.int .i64 1,.int .i64 1,.slice none 0 0]) ∧ Below W.heap.size W w'):=Lib.hid fun W => Of_any 0 1 1 W
 have hzd:=zero_def
 have hq1:=slot_build
 have hq3:=slot_build3
 have hwlt:=R0.lt
 have HWL:=Lib.hid hwlt
 clear V0 R0 hwlt
 go_enter Tryd.func51,Tryd.ntmps51
 go_upto_region 1 with fail
 clear hW
 go_upto_region 2 with (first
  | (go_at_call 15;(with_reducible refine (H1.out _).mono ?_);rintro e w1 ⟨rfl,hb⟩;have HBw1:=Lib.hid (hb);clear hb)
  | (go_at_call 15;(with_reducible refine (H3.out _).mono ?_);rintro e w2 ⟨rfl,hb⟩;have HBw2:=Lib.hid (later HBw1.out hb);clear hb)
  | (go_at_call 15;(with_reducible refine (H4.out _).mono ?_);rintro e w3 ⟨rfl,hb⟩;have HBw3:=Lib.hid (later HBw2.out hb);clear hb)
  | (refine wpList_store_arr rfl _ (.tmp 1) (.tmp 9) rfl (w3.heap.size + 1) 0 31 46 _ [.int .i64 0,.int .i64 1,.int .i64 1,.int .i64 0,.int .i64 0,.int .i64 0,.int .i64 0,.string ⟨#[80,111,105,110,116]⟩,(.slice (some ⟨w3.heap.size,0,none⟩) 2 2),.int .i64 0,.int .i64 0,.int .i64 0,.int .i64 0,.slice none 0 0,.int .i64 0,.int .i64 0,.int .i64 0,.int .i64 0,.int .i64 0,.int .i64 0,.int .i64 0,.int .i64 0,.int .i64 0,.int .i64 0,.int .i64 0,.int .i64 0,.slice none 0 0,.slice none 0 0,.slice none 0 0,.int .i64 0,.slice none 0 0] z31 rfl rfl rfl (by have h:=z31_new (w3.alloc (.cells #[.int .i64 0,.int .i64 1,.int .i64 3,.string ⟨#[120]⟩,.int .i64 0,.int .i64 0,.int .i64 0,.int .i64 0,.slice none 0 0,.int .i64 0,.int .i64 0,.int .i64 0,.int .i64 1,.int .i64 4,.string ⟨#[121]⟩,.int .i64 0,.int .i64 0,.int .i64 0,.int .i64 0,.slice none 0 0,.int .i64 0,.int .i64 0] 66));rw [World.size_alloc] at h;exact h) (show 0 + 31 ≤ 31 by omega) info_def (List.all_eq_true.mp (by rfl)) ?_;intro w4 f o;rw [setAll_all z31 [.int .i64 0,.int .i64 1,.int .i64 1,.int .i64 0,.int .i64 0,.int .i64 0,.int .i64 0,.string ⟨#[80,111,105,110,116]⟩,(.slice (some ⟨w3.heap.size,0,none⟩) 2 2),.int .i64 0,.int .i64 0,.int .i64 0,.int .i64 0,.slice none 0 0,.int .i64 0,.int .i64 0,.int .i64 0,.int .i64 0,.int .i64 0,.int .i64 0,.int .i64 0,.int .i64 0,.int .i64 0,.int .i64 0,.int .i64 0,.int .i64 0,.slice none 0 0,.slice none 0 0,.slice none 0 0,.int .i64 0,.slice none 0 0] rfl] at f;have HFw4:=Lib.hid f;have HOw4:=Lib.hid o;clear f o))
 have hAg1:Arr w4 w3.heap.size 22 66 [.int .i64 0,.int .i64 1,.int .i64 3,.string ⟨#[120]⟩,.int .i64 0,.int .i64 0,.int .i64 0,.int .i64 0,.slice none 0 0,.int .i64 0,.int .i64 0,.int .i64 0,.int .i64 1,.int .i64 4,.string ⟨#[121]⟩,.int .i64 0,.int .i64 0,.int .i64 0,.int .i64 0,.slice none 0 0,.int .i64 0,.int .i64 0]:=((Arr.new' w3 66 #[.int .i64 0,.int .i64 1,.int .i64 3,.string ⟨#[120]⟩,.int .i64 0,.int .i64 0,.int .i64 0,.int .i64 0,.slice none 0 0,.int .i64 0,.int .i64 0,.int .i64 0,.int .i64 1,.int .i64 4,.string ⟨#[121]⟩,.int .i64 0,.int .i64 0,.int .i64 0,.int .i64 0,.slice none 0 0,.int .i64 0,.int .i64 0] 22 [.int .i64 0,.int .i64 1,.int .i64 3,.string ⟨#[120]⟩,.int .i64 0,.int .i64 0,.int .i64 0,.int .i64 0,.slice none 0 0,.int .i64 0,.int .i64 0,.int .i64 0,.int .i64 1,.int .i64 4,.string ⟨#[121]⟩,.int .i64 0,.int .i64 0,.int .i64 0,.int .i64 0,.slice none 0 0,.int .i64 0,.int .i64 0] rfl rfl (by decide)).later (new_later _ _)).only HOw4.out (by omega)
 have hBg1:Below wa.heap.size wa w4:=later HBw3.out ((later (new_later w3 _) (new_later _ _)).trans (HOw4.out.bel.mono (by omega)))
 have hFg1:=HFw4.out
 have hLg1:w.heap.size < w3.heap.size:=by have h1:=HWL.out;have h2:=HBw3.out.size; omega
 clear HFw4 HOw4
 generalize w3.heap.size = g1 at hAg1 hFg1 hLg1 ⊢
 have HLg1:=Lib.hid hLg1
 clear hLg1
 have HAg1:=Lib.hid hAg1
 have HFg1:=Lib.hid hFg1
 have HBg1:=Lib.hid hBg1
 clear hAg1 hFg1 hBg1
 go_upto_region 3 with (first
  | (go_at_call 15;(with_reducible refine (H2.out _).mono ?_);rintro e w5 ⟨rfl,hb⟩;have HBw5:=Lib.hid (hb);clear hb)
  | (go_at_call 15;(with_reducible refine (H5.out _).mono ?_);rintro e w6 ⟨rfl,hb⟩;have HBw6:=Lib.hid (later HBw5.out hb);clear hb)
  | (go_at_call 15;(with_reducible refine (H6.out _).mono ?_);rintro e w7 ⟨rfl,hb⟩;have HBw7:=Lib.hid (later HBw6.out hb);clear hb)
  | (go_at_call 15;(with_reducible refine (H1.out _).mono ?_);rintro e w8 ⟨rfl,hb⟩;have HBw8:=Lib.hid (later HBw7.out hb);clear hb)
  | (go_at_call 14;(with_reducible refine (HOF.out _).mono ?_);rintro e w9 ⟨rfl,hb⟩;have HBw9:=Lib.hid (later HBw8.out hb);clear hb)
  | (refine wpList_store_arr rfl _ (.tmp 2) (.tmp 18) rfl (w9.heap.size + 1) 0 31 46 _ [.int .i64 0,.int .i64 1,.int .i64 2,.int .i64 1,.int .i64 0,.int .i64 0,.int .i64 0,.string ⟨#[83,104,97,112,101]⟩,(.slice (some ⟨w9.heap.size,0,none⟩) 2 2),.int .i64 0,.int .i64 0,.int .i64 0,.int .i64 0,.slice none 0 0,.int .i64 0,.int .i64 0,.int .i64 0,.int .i64 0,.int .i64 0,.int .i64 0,.int .i64 0,.int .i64 0,.int .i64 0,.int .i64 0,.int .i64 0,.int .i64 0,.slice none 0 0,.slice none 0 0,.slice none 0 0,.int .i64 0,.slice none 0 0] z31 rfl rfl rfl (by have h:=z31_new (w9.alloc (.cells #[.int .i64 0,.int .i64 1,.int .i64 5,.string ⟨#[68,111,116]⟩,.int .i64 0,.int .i64 0,.int .i64 0,.int .i64 0,.slice none 0 0,.int .i64 0,.int .i64 0,.int .i64 0,.int .i64 1,.int .i64 6,.string ⟨#[66,111,120]⟩,.int .i64 3,.int .i64 0,.int .i64 1,.int .i64 1,.slice none 0 0,.int .i64 0,.int .i64 0] 66));rw [World.size_alloc] at h;exact h) (show 0 + 31 ≤ 31 by omega) info_def (List.all_eq_true.mp (by rfl)) ?_;intro w10 f o;rw [setAll_all z31 [.int .i64 0,.int .i64 1,.int .i64 2,.int .i64 1,.int .i64 0,.int .i64 0,.int .i64 0,.string ⟨#[83,104,97,112,101]⟩,(.slice (some ⟨w9.heap.size,0,none⟩) 2 2),.int .i64 0,.int .i64 0,.int .i64 0,.int .i64 0,.slice none 0 0,.int .i64 0,.int .i64 0,.int .i64 0,.int .i64 0,.int .i64 0,.int .i64 0,.int .i64 0,.int .i64 0,.int .i64 0,.int .i64 0,.int .i64 0,.int .i64 0,.slice none 0 0,.slice none 0 0,.slice none 0 0,.int .i64 0,.slice none 0 0] rfl] at f;have HFw10:=Lib.hid f;have HOw10:=Lib.hid o;clear f o))
 have hAg2:Arr w10 w9.heap.size 22 66 [.int .i64 0,.int .i64 1,.int .i64 5,.string ⟨#[68,111,116]⟩,.int .i64 0,.int .i64 0,.int .i64 0,.int .i64 0,.slice none 0 0,.int .i64 0,.int .i64 0,.int .i64 0,.int .i64 1,.int .i64 6,.string ⟨#[66,111,120]⟩,.int .i64 3,.int .i64 0,.int .i64 1,.int .i64 1,.slice none 0 0,.int .i64 0,.int .i64 0]:=((Arr.new' w9 66 #[.int .i64 0,.int .i64 1,.int .i64 5,.string ⟨#[68,111,116]⟩,.int .i64 0,.int .i64 0,.int .i64 0,.int .i64 0,.slice none 0 0,.int .i64 0,.int .i64 0,.int .i64 0,.int .i64 1,.int .i64 6,.string ⟨#[66,111,120]⟩,.int .i64 3,.int .i64 0,.int .i64 1,.int .i64 1,.slice none 0 0,.int .i64 0,.int .i64 0] 22 [.int .i64 0,.int .i64 1,.int .i64 5,.string ⟨#[68,111,116]⟩,.int .i64 0,.int .i64 0,.int .i64 0,.int .i64 0,.slice none 0 0,.int .i64 0,.int .i64 0,.int .i64 0,.int .i64 1,.int .i64 6,.string ⟨#[66,111,120]⟩,.int .i64 3,.int .i64 0,.int .i64 1,.int .i64 1,.slice none 0 0,.int .i64 0,.int .i64 0] rfl rfl (by decide)).later (new_later _ _)).only HOw10.out (by omega)
 have hBg2:Below w4.heap.size w4 w10:=later HBw9.out ((later (new_later w9 _) (new_later _ _)).trans (HOw10.out.bel.mono (by omega)))
 have hFg2:=HFw10.out
 have hLg2:w.heap.size < w9.heap.size:=by have h1:=HWL.out;have h2:=HBw9.out.size;have h3:=HBg1.out.size;omega
 clear HFw10 HOw10
 generalize w9.heap.size = g2 at hAg2 hFg2 hLg2 ⊢
 have HLg2:=Lib.hid hLg2
 clear hLg2
 have HAg2:=Lib.hid hAg2
 have HFg2:=Lib.hid hFg2
 have HBg2:=Lib.hid hBg2
 clear hAg2 hFg2 hBg2
 have HF1:=Lib.hid (HFg1.out.later HBg2.out)
 have HA1:=Lib.hid (HAg1.out.later HBg2.out)
 have HRA:Hid (w10.rangeAt (g1 + 1) 0 [.int .i64 0,.int .i64 1,.int .i64 1,.int .i64 0,.int .i64 0,.int .i64 0,.int .i64 0,.string ⟨#[80,111,105,110,116]⟩,(.slice (some ⟨g1,0,none⟩) 2 2),.int .i64 0,.int .i64 0,.int .i64 0,.int .i64 0,.slice none 0 0,.int .i64 0,.int .i64 0,.int .i64 0,.int .i64 0,.int .i64 0,.int .i64 0,.int .i64 0,.int .i64 0,.int .i64 0,.int .i64 0,.int .i64 0,.int .i64 0,.slice none 0 0,.slice none 0 0,.slice none 0 0,.int .i64 0,.slice none 0 0]):=Lib.hid HF1.out.range
 have HRC:Hid (w10.rangeAt (g2 + 1) 0 [.int .i64 0,.int .i64 1,.int .i64 2,.int .i64 1,.int .i64 0,.int .i64 0,.int .i64 0,.string ⟨#[83,104,97,112,101]⟩,(.slice (some ⟨g2,0,none⟩) 2 2),.int .i64 0,.int .i64 0,.int .i64 0,.int .i64 0,.slice none 0 0,.int .i64 0,.int .i64 0,.int .i64 0,.int .i64 0,.int .i64 0,.int .i64 0,.int .i64 0,.int .i64 0,.int .i64 0,.int .i64 0,.int .i64 0,.int .i64 0,.slice none 0 0,.slice none 0 0,.slice none 0 0,.int .i64 0,.slice none 0 0]):=Lib.hid HFg2.out.range
 have HIA:Hid ((Tryd.prog.info? 46).map (·.size) = some ([.int .i64 0,.int .i64 1,.int .i64 1,.int .i64 0,.int .i64 0,.int .i64 0,.int .i64 0,.string ⟨#[80,111,105,110,116]⟩,(.slice (some ⟨g1,0,none⟩) 2 2),.int .i64 0,.int .i64 0,.int .i64 0,.int .i64 0,.slice none 0 0,.int .i64 0,.int .i64 0,.int .i64 0,.int .i64 0,.int .i64 0,.int .i64 0,.int .i64 0,.int .i64 0,.int .i64 0,.int .i64 0,.int .i64 0,.int .i64 0,.slice none 0 0,.slice none 0 0,.slice none 0 0,.int .i64 0,.slice none 0 0]:List Value).length):=Lib.hid info_def
 have HIC:Hid ((Tryd.prog.info? 46).map (·.size) = some ([.int .i64 0,.int .i64 1,.int .i64 2,.int .i64 1,.int .i64 0,.int .i64 0,.int .i64 0,.string ⟨#[83,104,97,112,101]⟩,(.slice (some ⟨g2,0,none⟩) 2 2),.int .i64 0,.int .i64 0,.int .i64 0,.int .i64 0,.slice none 0 0,.int .i64 0,.int .i64 0,.int .i64 0,.int .i64 0,.int .i64 0,.int .i64 0,.int .i64 0,.int .i64 0,.int .i64 0,.int .i64 0,.int .i64 0,.int .i64 0,.slice none 0 0,.slice none 0 0,.slice none 0 0,.int .i64 0,.slice none 0 0]:List Value).length):=Lib.hid info_def
 have HR1:=Lib.hid ((HR.out.later HBg1.out).later HBg2.out)
 have HR12:=Lib.hid (HR1.out.later (new_later w10 (.cells #[.int .i64 0,.int .i64 1,.int .i64 1,.int .i64 0,.int .i64 0,.int .i64 0,.int .i64 0,.string ⟨#[80,111,105,110,116]⟩,(.slice (some ⟨g1,0,none⟩) 2 2),.int .i64 0,.int .i64 0,.int .i64 0,.int .i64 0,.slice none 0 0,.int .i64 0,.int .i64 0,.int .i64 0,.int .i64 0,.int .i64 0,.int .i64 0,.int .i64 0,.int .i64 0,.int .i64 0,.int .i64 0,.int .i64 0,.int .i64 0,.slice none 0 0,.slice none 0 0,.slice none 0 0,.int .i64 0,.slice none 0 0,.int .i64 0,.int .i64 1,.int .i64 2,.int .i64 1,.int .i64 0,.int .i64 0,.int .i64 0,.string ⟨#[83,104,97,112,101]⟩,(.slice (some ⟨g2,0,none⟩) 2 2),.int .i64 0,.int .i64 0,.int .i64 0,.int .i64 0,.slice none 0 0,.int .i64 0,.int .i64 0,.int .i64 0,.int .i64 0,.int .i64 0,.int .i64 0,.int .i64 0,.int .i64 0,.int .i64 0,.int .i64 0,.int .i64 0,.int .i64 0,.slice none 0 0,.slice none 0 0,.slice none 0 0,.int .i64 0,.slice none 0 0] 46)))
 go_wp2_with (first
  | (with_reducible refine wpList_load_mid rfl _ (.tmp 1) rfl (g1 + 1) 0 rfl [.int .i64 0,.int .i64 1,.int .i64 1,.int .i64 0,.int .i64 0,.int .i64 0,.int .i64 0,.string ⟨#[80,111,105,110,116]⟩,(.slice (some ⟨g1,0,none⟩) 2 2),.int .i64 0,.int .i64 0,.int .i64 0,.int .i64 0,.slice none 0 0,.int .i64 0,.int .i64 0,.int .i64 0,.int .i64 0,.int .i64 0,.int .i64 0,.int .i64 0,.int .i64 0,.int .i64 0,.int .i64 0,.int .i64 0,.int .i64 0,.slice none 0 0,.slice none 0 0,.slice none 0 0,.int .i64 0,.slice none 0 0] _ HRA.out Tryd.underlying46 rfl HIA.out ?_)
  | (with_reducible refine wpList_load_mid rfl _ (.tmp 2) rfl (g2 + 1) 0 rfl [.int .i64 0,.int .i64 1,.int .i64 2,.int .i64 1,.int .i64 0,.int .i64 0,.int .i64 0,.string ⟨#[83,104,97,112,101]⟩,(.slice (some ⟨g2,0,none⟩) 2 2),.int .i64 0,.int .i64 0,.int .i64 0,.int .i64 0,.slice none 0 0,.int .i64 0,.int .i64 0,.int .i64 0,.int .i64 0,.int .i64 0,.int .i64 0,.int .i64 0,.int .i64 0,.int .i64 0,.int .i64 0,.int .i64 0,.int .i64 0,.slice none 0 0,.slice none 0 0,.slice none 0 0,.int .i64 0,.slice none 0 0] _ HRC.out Tryd.underlying46 rfl HIC.out ?_)
  | (refine wpList_store_arr rfl _ (.tmp 0) (.tmp 22) rfl w.heap.size 0 2 26 _ [.slice none 0 0,.slice (some ⟨w10.heap.size,0,none⟩) 2 2] [.slice none 0 0,.slice none 0 0] rfl rfl rfl HR12.out (show 0 + 2 ≤ 2 by omega) info_prog (List.all_eq_true.mp (by rfl)) ?_;intro w12 f12 o12))
 rw [setAll_all [.slice none 0 0,.slice none 0 0] [.slice none 0 0,.slice (some ⟨w10.heap.size,0,none⟩) 2 2] rfl] at f12
 refine bodyPost_ret (results_one rfl _ _ w.heap.size [.slice none 0 0,.slice (some ⟨w10.heap.size,0,none⟩) 2 2] _ rfl f12.range Tryd.underlying26 rfl info_prog) rfl ?_
 have hg1:=HA1.out.lt
 have hg2:=HAg2.out.lt
 have hw0:=HR1.out.lt
 have hwa:=HV.out.size
 have hg0:w.heap.size < g1 ∧ w.heap.size < g2:=⟨HLg1.out,HLg2.out⟩
 have K0:Arr w12 w10.heap.size 62 46 ([.int .i64 0,.int .i64 1,.int .i64 1,.int .i64 0,.int .i64 0,.int .i64 0,.int .i64 0,.string ⟨#[80,111,105,110,116]⟩,(.slice (some ⟨g1,0,none⟩) 2 2),.int .i64 0,.int .i64 0,.int .i64 0,.int .i64 0,.slice none 0 0,.int .i64 0,.int .i64 0,.int .i64 0,.int .i64 0,.int .i64 0,.int .i64 0,.int .i64 0,.int .i64 0,.int .i64 0,.int .i64 0,.int .i64 0,.int .i64 0,.slice none 0 0,.slice none 0 0,.slice none 0 0,.int .i64 0,.slice none 0 0,.int .i64 0,.int .i64 1,.int .i64 2,.int .i64 1,.int .i64 0,.int .i64 0,.int .i64 0,.string ⟨#[83,104,97,112,101]⟩,(.slice (some ⟨g2,0,none⟩) 2 2),.int .i64 0,.int .i64 0,.int .i64 0,.int .i64 0,.slice none 0 0,.int .i64 0,.int .i64 0,.int .i64 0,.int .i64 0,.int .i64 0,.int .i64 0,.int .i64 0,.int .i64 0,.int .i64 0,.int .i64 0,.int .i64 0,.int .i64 0,.slice none 0 0,.slice none 0 0,.slice none 0 0,.int .i64 0,.slice none 0 0]):=(Arr.new' w10 46 #[.int .i64 0,.int .i64 1,.int .i64 1,.int .i64 0,.int .i64 0,.int .i64 0,.int .i64 0,.string ⟨#[80,111,105,110,116]⟩,(.slice (some ⟨g1,0,none⟩) 2 2),.int .i64 0,.int .i64 0,.int .i64 0,.int .i64 0,.slice none 0 0,.int .i64 0,.int .i64 0,.int .i64 0,.int .i64 0,.int .i64 0,.int .i64 0,.int .i64 0,.int .i64 0,.int .i64 0,.int .i64 0,.int .i64 0,.int .i64 0,.slice none 0 0,.slice none 0 0,.slice none 0 0,.int .i64 0,.slice none 0 0,.int .i64 0,.int .i64 1,.int .i64 2,.int .i64 1,.int .i64 0,.int .i64 0,.int .i64 0,.string ⟨#[83,104,97,112,101]⟩,(.slice (some ⟨g2,0,none⟩) 2 2),.int .i64 0,.int .i64 0,.int .i64 0,.int .i64 0,.slice none 0 0,.int .i64 0,.int .i64 0,.int .i64 0,.int .i64 0,.int .i64 0,.int .i64 0,.int .i64 0,.int .i64 0,.int .i64 0,.int .i64 0,.int .i64 0,.int .i64 0,.slice none 0 0,.slice none 0 0,.slice none 0 0,.int .i64 0,.slice none 0 0] 62 _ rfl rfl (by decide)).only o12 (by omega)
 have K1:=(HA1.out.later (new_later w10 (.cells #[.int .i64 0,.int .i64 1,.int .i64 1,.int .i64 0,.int .i64 0,.int .i64 0,.int .i64 0,.string ⟨#[80,111,105,110,116]⟩,(.slice (some ⟨g1,0,none⟩) 2 2),.int .i64 0,.int .i64 0,.int .i64 0,.int .i64 0,.slice none 0 0,.int .i64 0,.int .i64 0,.int .i64 0,.int .i64 0,.int .i64 0,.int .i64 0,.int .i64 0,.int .i64 0,.int .i64 0,.int .i64 0,.int .i64 0,.int .i64 0,.slice none 0 0,.slice none 0 0,.slice none 0 0,.int .i64 0,.slice none 0 0,.int .i64 0,.int .i64 1,.int .i64 2,.int .i64 1,.int .i64 0,.int .i64 0,.int .i64 0,.string ⟨#[83,104,97,112,101]⟩,(.slice (some ⟨g2,0,none⟩) 2 2),.int .i64 0,.int .i64 0,.int .i64 0,.int .i64 0,.slice none 0 0,.int .i64 0,.int .i64 0,.int .i64 0,.int .i64 0,.int .i64 0,.int .i64 0,.int .i64 0,.int .i64 0,.int .i64 0,.int .i64 0,.int .i64 0,.int .i64 0,.slice none 0 0,.slice none 0 0,.slice none 0 0,.int .i64 0,.slice none 0 0] 46))).only o12 (by omega)
 have K2:=(HAg2.out.later (new_later w10 (.cells #[.int .i64 0,.int .i64 1,.int .i64 1,.int .i64 0,.int .i64 0,.int .i64 0,.int .i64 0,.string ⟨#[80,111,105,110,116]⟩,(.slice (some ⟨g1,0,none⟩) 2 2),.int .i64 0,.int .i64 0,.int .i64 0,.int .i64 0,.slice none 0 0,.int .i64 0,.int .i64 0,.int .i64 0,.int .i64 0,.int .i64 0,.int .i64 0,.int .i64 0,.int .i64 0,.int .i64 0,.int .i64 0,.int .i64 0,.int .i64 0,.slice none 0 0,.slice none 0 0,.slice none 0 0,.int .i64 0,.slice none 0 0,.int .i64 0,.int .i64 1,.int .i64 2,.int .i64 1,.int .i64 0,.int .i64 0,.int .i64 0,.string ⟨#[83,104,97,112,101]⟩,(.slice (some ⟨g2,0,none⟩) 2 2),.int .i64 0,.int .i64 0,.int .i64 0,.int .i64 0,.slice none 0 0,.int .i64 0,.int .i64 0,.int .i64 0,.int .i64 0,.int .i64 0,.int .i64 0,.int .i64 0,.int .i64 0,.int .i64 0,.int .i64 0,.int .i64 0,.int .i64 0,.slice none 0 0,.slice none 0 0,.slice none 0 0,.int .i64 0,.slice none 0 0] 46))).only o12 (by omega)
 refine ⟨w10.heap.size,rfl,⟨g1,g2,K0.range,K1.range,K2.range⟩,?_⟩
 exact (later (later (later HV.out HBg1.out) HBg2.out) (new_later w10 _)).trans (o12.bel.mono (Nat.le_refl _))
end Go.Proofs.YtkpoiljioadfgaaDoor
namespace Go.Proofs.YtkpoiljioadfgaaDoor
open Go.RowKit
set_option maxHeartbeats 4000000 in
set_option maxRecDepth 100000 in
theorem headFits_any (k n:Int) (len m:Nat) (A:Option Addr) (cap:Nat) (w:World) :
  Calls Tryd.prog 57 #[.agg (c3 k n A len cap).toArray,.int .i64 (m:Int)] w (BRes (hfit k n len m) w):=by
 have P1:=c3_new w k n A len cap
 have V1:=new_later w (.cells (c3 k n A len cap).toArray 53)
 generalize hW:w.alloc (.cells (c3 k n A len cap).toArray 53) = wa at P1 V1
 have x0:=P1.cell (j:=0) (v:=.int .i64 k) rfl
 have x1:=P1.cell (j:=1) (v:=.int .i64 n) rfl
 have x2:=P1.cell (j:=2) (v:=.slice A len cap) rfl
 clear P1
 have hl0:((len:Int) == 0) = decide (len = 0):=by rw [beq_int];exact decide_eq_decide.2 (by omega)
 have hl1:((len:Int) == 1) = decide (len = 1):=by rw [beq_int];exact decide_eq_decide.2 (by omega)
 have hlm:((len:Int) == (m:Int)) = decide (len = m):=by rw [beq_int];exact decide_eq_decide.2 (by omega)
 have hn0:(n == 0) = decide (n = 0):=beq_int n 0
 have hn1:(n == 1) = decide (n = 1):=beq_int n 1
 have hf0:∀ b c d e:Bool,decide (len = 0) = b → decide (-1099511627776 ≤ n) = c → decide (n ≤ 1099511627776) = d → hfit 0 n len m = (b && (c && d)):=fun b c d e h1 h2 h3 => by unfold hfit;rw [if_pos rfl,h1,h2,h3]
 by_cases hk0:k = 0
 ·have HZ:Hid (hfit k n len m = (decide (len = 0) && (decide (-1099511627776 ≤ n) && decide (n ≤ 1099511627776)))):=Lib.hid (by unfold hfit;rw [if_pos hk0])
  have hk:=hk0
  clear hk0 hf0 hl1 hlm hn0 hn1
  obtain ⟨Z,hZ⟩:∃ Z,hfit k n len m = Z:=⟨_,rfl⟩
  rw [hZ] at HZ ⊢
  clear hZ
  subst hk
  generalize decide (len = 0) = b at hl0 HZ
  by_cases hc:-1099511627776 ≤ n
  ·rw [decide_eq_true hc] at HZ
   by_cases hd:n ≤ 1099511627776
   ·rw [decide_eq_true hd] at HZ
    cases b
    all_goals
     go_enter Tryd.func57,Tryd.ntmps57
     go_upto_region 1 with fail
     clear hW
     go_wp2_with fail
     go_ret
     exact ⟨by rw [HZ.out];rfl,V1⟩
   ·rw [decide_eq_false hd] at HZ
    cases b
    all_goals
     go_enter Tryd.func57,Tryd.ntmps57
     go_upto_region 1 with fail
     clear hW
     go_wp2_with fail
     go_ret
     exact ⟨by rw [HZ.out];rfl,V1⟩
  ·rw [decide_eq_false hc] at HZ
   cases b
   all_goals
    go_enter Tryd.func57,Tryd.ntmps57
    go_upto_region 1 with fail
    clear hW
    go_wp2_with fail
    go_ret
    exact ⟨by rw [HZ.out];rfl,V1⟩
 by_cases hk1:k = 1
 ·have HZ:Hid (hfit k n len m = (decide (len = 0) && (decide (n = 0) || decide (n = 1)))):=Lib.hid (by unfold hfit;rw [if_neg hk0,if_pos hk1])
  have hk:=hk1
  clear hk0 hk1 hf0 hl1 hlm
  obtain ⟨Z,hZ⟩:∃ Z,hfit k n len m = Z:=⟨_,rfl⟩
  rw [hZ] at HZ ⊢
  clear hZ
  subst hk
  generalize decide (len = 0) = b at hl0 HZ
  generalize decide (n = 0) = c at hn0 HZ
  generalize decide (n = 1) = d at hn1 HZ
  cases b
  all_goals cases c
  all_goals cases d
  all_goals
   go_enter Tryd.func57,Tryd.ntmps57
   go_upto_region 1 with fail
   clear hW
   go_wp2_with fail
   go_ret
   exact ⟨by rw [HZ.out];rfl,V1⟩
 by_cases hk2:k = 2
 ·have HZ:Hid (hfit k n len m = (decide (len = m) && decide (n = 0))):=Lib.hid (by unfold hfit;rw [if_neg hk0,if_neg hk1,if_pos hk2])
  have hk:=hk2
  clear hk0 hk1 hk2 hf0 hl0 hl1 hn1
  obtain ⟨Z,hZ⟩:∃ Z,hfit k n len m = Z:=⟨_,rfl⟩
  rw [hZ] at HZ ⊢
  clear hZ
  subst hk
  generalize decide (len = m) = b at hlm HZ
  generalize decide (n = 0) = c at hn0 HZ
  cases b
  all_goals cases c
  all_goals
   go_enter Tryd.func57,Tryd.ntmps57
   go_upto_region 1 with fail
   clear hW
   go_wp2_with fail
   go_ret
   exact ⟨by rw [HZ.out];rfl,V1⟩
 by_cases hk3:k = 3
 ·have HZ:Hid (hfit k n len m = (decide (len = 1) && (decide (0 ≤ n) && decide (n < (m:Int))))):=Lib.hid (by unfold hfit;rw [if_neg hk0,if_neg hk1,if_neg hk2,if_pos hk3])
  have hk:=hk3
  clear hk0 hk1 hk2 hk3 hf0 hl0 hlm hn0 hn1
  obtain ⟨Z,hZ⟩:∃ Z,hfit k n len m = Z:=⟨_,rfl⟩
  rw [hZ] at HZ ⊢
  clear hZ
  subst hk
  generalize decide (len = 1) = b at hl1 HZ
  by_cases hc:0 ≤ n
  ·rw [decide_eq_true hc] at HZ
   by_cases hd:n < (m:Int)
   ·rw [decide_eq_true hd] at HZ
    cases b
    all_goals
     go_enter Tryd.func57,Tryd.ntmps57
     go_upto_region 1 with fail
     clear hW
     go_wp2_with fail
     go_ret
     exact ⟨by rw [HZ.out];rfl,V1⟩
   ·rw [decide_eq_false hd] at HZ
    cases b
    all_goals
     go_enter Tryd.func57,Tryd.ntmps57
     go_upto_region 1 with fail
     clear hW
     go_wp2_with fail
     go_ret
     exact ⟨by rw [HZ.out];rfl,V1⟩
  ·rw [decide_eq_false hc] at HZ
   cases b
   all_goals
    go_enter Tryd.func57,Tryd.ntmps57
    go_upto_region 1 with fail
    clear hW
    go_wp2_with fail
    go_ret
    exact ⟨by rw [HZ.out];rfl,V1⟩
 ·have HZ:Hid (hfit k n len m = decide (n = 0)):=Lib.hid (by unfold hfit;rw [if_neg hk0,if_neg hk1,if_neg hk2,if_neg hk3])
  have hkb0:(k == 0) = false:=by rw [beq_eq_false_iff_ne];exact hk0
  have hkb1:(k == 1) = false:=by rw [beq_eq_false_iff_ne];exact hk1
  have hkb2:(k == 2) = false:=by rw [beq_eq_false_iff_ne];exact hk2
  have hkb3:(k == 3) = false:=by rw [beq_eq_false_iff_ne];exact hk3
  clear hk0 hk1 hk2 hk3 hf0 hl0 hl1 hlm hn1
  obtain ⟨Z,hZ⟩:∃ Z,hfit k n len m = Z:=⟨_,rfl⟩
  rw [hZ] at HZ ⊢
  clear hZ
  generalize decide (n = 0) = c at hn0 HZ
  go_enter Tryd.func57,Tryd.ntmps57
  go_upto_region 1 with fail
  clear hW
  go_wp2_with fail
  go_ret
  exact ⟨by rw [HZ.out];rfl,V1⟩
end Go.Proofs.YtkpoiljioadfgaaDoor
