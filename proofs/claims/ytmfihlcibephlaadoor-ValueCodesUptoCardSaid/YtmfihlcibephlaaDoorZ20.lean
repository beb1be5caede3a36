import Derived.Test.YtmfihlcibephlaaDoorZ07
import Derived.Test.YtmfihlcibephlaaDoorZ12
import Derived.Test.YtmfihlcibephlaaDoorZ14
import Derived.Test.YtmfihlcibephlaaDoorZ19
import Derived.Deep.RegionHeld3
set_option linter.unusedVariables false
set_option linter.unusedSimpArgs false
namespace Go.Proofs.YtmfihlcibephlaaDoor
open Go.RowKit
def RZ (er:Int) (x:Tr) (c:Nat) (W:World) (e:Ending) (w':World):Prop:=∃ (xk xn:Int) (xA:Option Addr) (xl xc:Nat) (u:Int),e = .returned (.tuple #[.agg #[.int .i64 xk,.int .i64 xn,.slice xA xl xc],.int .i64 u,.int .i64 er]) ∧ (er = 0 → u = (c:Int)) ∧ TrF (W.heap.size ≤ ·) w' x (.agg #[.int .i64 xk,.int .i64 xn,.slice xA xl xc]) ∧ Below W.heap.size W w'
theorem RZ.bad {er:Int} {c:Nat} {W w':World} {u:Int} (h:er ≠ 0) (hb:Below W.heap.size W w'):RZ er z0 c W (.returned (.tuple #[.agg #[.int .i64 0,.int .i64 0,.slice none 0 0],.int .i64 u,.int .i64 er])) w' :=
 ⟨0,0,none,0,0,u,rfl,fun e => absurd e h,tr_z0 _ _,hb⟩
theorem tr_leaf (S:Nat → Prop) (w:World) (k:Int) (hk:i64r k):TrF S w (.node k 0 []) (.agg #[.int .i64 k,.int .i64 0,.slice none 0 0]):=by
 unfold TrF
 exact ⟨none,0,rfl,⟨Nat.le_refl _,by simp [maxLen],hk,by unfold i64r;omega⟩,by unfold KsF;trivial⟩
set_option maxHeartbeats 16000000 in
set_option maxRecDepth 100000 in
theorem rz_A (P:List Df) (W:World) (c d n cap0:Nat) (mv:Value) (A0:Option Addr) (t:Ty) (kt s q i:Int) (B:Option Addr) (ln cp:Nat)
  (hP:PrAt W P (.agg #[mv,.slice A0 n cap0])) (ht:TyAt W t (.agg (t5 kt s q i B ln cp).toArray)) (hc:c ≤ 256) (hd25:d ≤ 25) (hvt:vty P 24 t = false) :
  Calls Tryd.prog 65 #[.agg #[mv,.slice A0 n cap0],.agg (t5 kt s q i B ln cp).toArray,.int .i64 (d:Int),.int .i64 (c:Int)] W (RZ 1 z0 c W):=by
 have HVT:Hid (∀ W',PrAt W' P (.agg #[mv,.slice A0 n cap0]) → TyAt W' t (.agg (t5 kt s q i B ln cp).toArray) → Calls Tryd.prog 17 #[.agg #[mv,.slice A0 n cap0],.agg #[.int .i64 kt,.int .i64 s,.int .i64 q,.int .i64 i,.slice B ln cp]] W' (BRes false W')):=Lib.hid fun W' h1 h2 => by rw [← hvt];exact rvalidtype_any P t W' _ _ h1 h2
 have P0:=p2_new W mv (.slice A0 n cap0)
 have V0:=new_later W (.cells #[mv,.slice A0 n cap0] 26)
 have Q0:=t5_new (W.alloc (.cells #[mv,.slice A0 n cap0] 26)) kt s q i B ln cp
 have b1:=new_later (W.alloc (.cells #[mv,.slice A0 n cap0] 26)) (.cells (t5 kt s q i B ln cp).toArray 31)
 have R0:Arr (((W.alloc (.cells #[mv,.slice A0 n cap0] 26)).alloc (.cells (t5 kt s q i B ln cp).toArray 31)).alloc (.cells #[.int .i64 0,.int .i64 0,.slice none 0 0] 53)) ((W.alloc (.cells #[mv,.slice A0 n cap0] 26)).alloc (.cells (t5 kt s q i B ln cp).toArray 31)).heap.size 3 53 zc3:=Arr.new' _ _ _ 3 zc3 rfl rfl (by decide)
 have b2:=new_later ((W.alloc (.cells #[mv,.slice A0 n cap0] 26)).alloc (.cells (t5 kt s q i B ln cp).toArray 31)) (.cells #[.int .i64 0,.int .i64 0,.slice none 0 0] 53)
 replace P0:=(P0.later b1).later b2
 replace Q0:=Q0.later b2
 have V1:=later (later V0 b1) b2
 rw [World.size_alloc] at Q0
 rw [World.size_alloc,World.size_alloc] at R0
 clear V0 b1 b2
 generalize hW:((W.alloc (.cells #[mv,.slice A0 n cap0] 26)).alloc (.cells (t5 kt s q i B ln cp).toArray 31)).alloc (.cells #[.int .i64 0,.int .i64 0,.slice none 0 0] 53) = wa at P0 Q0 R0 V1
 have y0:=Q0.cell (j:=0) (v:=.int .i64 kt) rfl
 have y1:=Q0.cell (j:=1) (v:=.int .i64 s) rfl
 have y2:=Q0.cell (j:=2) (v:=.int .i64 q) rfl
 have y3:=Q0.cell (j:=3) (v:=.int .i64 i) rfl
 have y4:=Q0.cell (j:=4) (v:=.slice B ln cp) rfl
 have zz0:=P0.cell (j:=0) (v:=mv) rfl
 have zz1:=P0.cell (j:=1) (v:=.slice A0 n cap0) rfl
 have HPA:=Lib.hid (hP.later V1)
 have HP0:=Lib.hid hP
 have HTA:=Lib.hid (ht.later V1)
 have HV:=Lib.hid V1
 have HPB:=Lib.hid P0
 have HQB:=Lib.hid Q0
 have HRB:=Lib.hid R0
 have HIV:Hid ((Tryd.prog.info? 53).map (·.size) = some zc3.length):=Lib.hid info_val
 have hci:(c:Int) ≤ 256:=by omega
 have hc0:(0:Int) ≤ (c:Int):=by omega
 have hdi:(d:Int) ≤ 25:=by omega
 have hd0:(0:Int) ≤ (d:Int):=by omega
 clear hvt hP ht P0 Q0 R0 V1
 go_enter Tryd.func65,Tryd.ntmps65
 go_upto_region 1 with fail
 clear hW
 go_wp2_with (first
  | (go_at_call 17;(with_reducible refine (HVT.out _ HPA.out HTA.out).mono ?_);rintro e w2 ⟨rfl,hb2⟩;have HB2:=Lib.hid hb2;have HR2:=Lib.hid (HRB.out.later hb2);have hyk:=(HQB.out.later hb2).cell (j:=0) (v:=.int .i64 kt) rfl;have hys:=(HQB.out.later hb2).cell (j:=1) (v:=.int .i64 s) rfl;have hyq:=(HQB.out.later hb2).cell (j:=2) (v:=.int .i64 q) rfl;have hyi:=(HQB.out.later hb2).cell (j:=3) (v:=.int .i64 i) rfl;have hpz0:=(HPB.out.later hb2).cell (j:=0) (v:=mv) rfl;have hpz1:=(HPB.out.later hb2).cell (j:=1) (v:=.slice A0 n cap0) rfl;clear hb2)
  | (refine wpList_store_arr rfl _ (.tmp 8) (.tmp 23) rfl (W.heap.size + 1 + 1) 0 3 53 _ zc3 zc3 rfl rfl rfl HR2.out (by decide) HIV.out zc3_one ?_;intro w12 f12 o12))
 rw [setAll_all _ _ rfl] at f12
 refine bodyPost_ret (results_cellBB rfl _ _ (W.heap.size + 1 + 1) zc3 _ rfl f12.range Tryd.underlying53 rfl HIV.out) rfl ?_
 exact RZ.bad (by decide) ((later HV.out HB2.out).trans (o12.bel.mono (by omega)))
set_option maxHeartbeats 16000000 in
set_option maxRecDepth 100000 in
theorem rz_B (P:List Df) (W:World) (c d n cap0:Nat) (mv:Value) (A0:Option Addr) (t:Ty) (kt s q i:Int) (B:Option Addr) (ln cp:Nat)
  (hP:PrAt W P (.agg #[mv,.slice A0 n cap0])) (ht:TyAt W t (.agg (t5 kt s q i B ln cp).toArray)) (hc:c ≤ 256) (hd25:d ≤ 25) (hvt:vty P 24 t = true) (hfc:c = 256 ∨ 24 < d) :
  Calls Tryd.prog 65 #[.agg #[mv,.slice A0 n cap0],.agg (t5 kt s q i B ln cp).toArray,.int .i64 (d:Int),.int .i64 (c:Int)] W (RZ 4 z0 c W):=by
 have HFC:=Lib.hid hfc
 clear hfc
 have HVT:Hid (∀ W',PrAt W' P (.agg #[mv,.slice A0 n cap0]) → TyAt W' t (.agg (t5 kt s q i B ln cp).toArray) → Calls Tryd.prog 17 #[.agg #[mv,.slice A0 n cap0],.agg #[.int .i64 kt,.int .i64 s,.int .i64 q,.int .i64 i,.slice B ln cp]] W' (BRes true W')):=Lib.hid fun W' h1 h2 => by rw [← hvt];exact rvalidtype_any P t W' _ _ h1 h2
 have P0:=p2_new W mv (.slice A0 n cap0)
 have V0:=new_later W (.cells #[mv,.slice A0 n cap0] 26)
 have Q0:=t5_new (W.alloc (.cells #[mv,.slice A0 n cap0] 26)) kt s q i B ln cp
 have b1:=new_later (W.alloc (.cells #[mv,.slice A0 n cap0] 26)) (.cells (t5 kt s q i B ln cp).toArray 31)
 have R0:Arr (((W.alloc (.cells #[mv,.slice A0 n cap0] 26)).alloc (.cells (t5 kt s q i B ln cp).toArray 31)).alloc (.cells #[.int .i64 0,.int .i64 0,.slice none 0 0] 53)) ((W.alloc (.cells #[mv,.slice A0 n cap0] 26)).alloc (.cells (t5 kt s q i B ln cp).toArray 31)).heap.size 3 53 zc3:=Arr.new' _ _ _ 3 zc3 rfl rfl (by decide)
 have b2:=new_later ((W.alloc (.cells #[mv,.slice A0 n cap0] 26)).alloc (.cells (t5 kt s q i B ln cp).toArray 31)) (.cells #[.int .i64 0,.int .i64 0,.slice none 0 0] 53)
 replace P0:=(P0.later b1).later b2
 replace Q0:=Q0.later b2
 have V1:=later (later V0 b1) b2
 rw [World.size_alloc] at Q0
 rw [World.size_alloc,World.size_alloc] at R0
 clear V0 b1 b2
 generalize hW:((W.alloc (.cells #[mv,.slice A0 n cap0] 26)).alloc (.cells (t5 kt s q i B ln cp).toArray 31)).alloc (.cells #[.int .i64 0,.int .i64 0,.slice none 0 0] 53) = wa at P0 Q0 R0 V1
 have y0:=Q0.cell (j:=0) (v:=.int .i64 kt) rfl
 have y1:=Q0.cell (j:=1) (v:=.int .i64 s) rfl
 have y2:=Q0.cell (j:=2) (v:=.int .i64 q) rfl
 have y3:=Q0.cell (j:=3) (v:=.int .i64 i) rfl
 have y4:=Q0.cell (j:=4) (v:=.slice B ln cp) rfl
 have zz0:=P0.cell (j:=0) (v:=mv) rfl
 have zz1:=P0.cell (j:=1) (v:=.slice A0 n cap0) rfl
 have HPA:=Lib.hid (hP.later V1)
 have HP0:=Lib.hid hP
 have HTA:=Lib.hid (ht.later V1)
 have HV:=Lib.hid V1
 have HPB:=Lib.hid P0
 have HQB:=Lib.hid Q0
 have HRB:=Lib.hid R0
 have HIV:Hid ((Tryd.prog.info? 53).map (·.size) = some zc3.length):=Lib.hid info_val
 have hci:(c:Int) ≤ 256:=by omega
 have hc0:(0:Int) ≤ (c:Int):=by omega
 have hdi:(d:Int) ≤ 25:=by omega
 have hd0:(0:Int) ≤ (d:Int):=by omega
 clear hvt hP ht P0 Q0 R0 V1
 have hdec:(256:Int) < (c:Int) + 1 ∨ (¬ (256:Int) < (c:Int) + 1 ∧ (24:Int) < (d:Int)):=by have:=HFC.out;omega
 rcases hdec with h1 | ⟨h1,h2⟩
 ·go_enter Tryd.func65,Tryd.ntmps65
  go_upto_region 1 with fail
  clear hW
  go_wp2_with (first
   | (go_at_call 17;(with_reducible refine (HVT.out _ HPA.out HTA.out).mono ?_);rintro e w2 ⟨rfl,hb2⟩;have HB2:=Lib.hid hb2;have HR2:=Lib.hid (HRB.out.later hb2);have hyk:=(HQB.out.later hb2).cell (j:=0) (v:=.int .i64 kt) rfl;have hys:=(HQB.out.later hb2).cell (j:=1) (v:=.int .i64 s) rfl;have hyq:=(HQB.out.later hb2).cell (j:=2) (v:=.int .i64 q) rfl;have hyi:=(HQB.out.later hb2).cell (j:=3) (v:=.int .i64 i) rfl;have hpz0:=(HPB.out.later hb2).cell (j:=0) (v:=mv) rfl;have hpz1:=(HPB.out.later hb2).cell (j:=1) (v:=.slice A0 n cap0) rfl;clear hb2)
   | (refine wpList_store_arr rfl _ (.tmp 8) (.tmp 33) rfl (W.heap.size + 1 + 1) 0 3 53 _ zc3 zc3 rfl rfl rfl HR2.out (by decide) HIV.out zc3_one ?_;intro w12 f12 o12))
  rw [setAll_all _ _ rfl] at f12
  refine bodyPost_ret (results_cellBB rfl _ _ (W.heap.size + 1 + 1) zc3 _ rfl f12.range Tryd.underlying53 rfl HIV.out) rfl ?_
  exact RZ.bad (by decide) ((later HV.out HB2.out).trans (o12.bel.mono (by omega)))
 ·go_enter Tryd.func65,Tryd.ntmps65
  go_upto_region 1 with fail
  clear hW
  go_wp2_with (first
   | (go_at_call 17;(with_reducible refine (HVT.out _ HPA.out HTA.out).mono ?_);rintro e w2 ⟨rfl,hb2⟩;have HB2:=Lib.hid hb2;have HR2:=Lib.hid (HRB.out.later hb2);have hyk:=(HQB.out.later hb2).cell (j:=0) (v:=.int .i64 kt) rfl;have hys:=(HQB.out.later hb2).cell (j:=1) (v:=.int .i64 s) rfl;have hyq:=(HQB.out.later hb2).cell (j:=2) (v:=.int .i64 q) rfl;have hyi:=(HQB.out.later hb2).cell (j:=3) (v:=.int .i64 i) rfl;have hpz0:=(HPB.out.later hb2).cell (j:=0) (v:=mv) rfl;have hpz1:=(HPB.out.later hb2).cell (j:=1) (v:=.slice A0 n cap0) rfl;clear hb2)
   | (refine wpList_store_arr rfl _ (.tmp 8) (.tmp 33) rfl (W.heap.size + 1 + 1) 0 3 53 _ zc3 zc3 rfl rfl rfl HR2.out (by decide) HIV.out zc3_one ?_;intro w12 f12 o12))
  rw [setAll_all _ _ rfl] at f12
  refine bodyPost_ret (results_cellBB rfl _ _ (W.heap.size + 1 + 1) zc3 _ rfl f12.range Tryd.underlying53 rfl HIV.out) rfl ?_
  exact RZ.bad (by decide) ((later HV.out HB2.out).trans (o12.bel.mono (by omega)))
set_option maxHeartbeats 16000000 in
set_option maxRecDepth 100000 in
theorem rz_I (P:List Df) (W:World) (c d n cap0:Nat) (mv:Value) (A0:Option Addr) (t:Ty) (s q i:Int) (B:Option Addr) (ln cp:Nat)
  (hP:PrAt W P (.agg #[mv,.slice A0 n cap0])) (ht:TyAt W t (.agg (t5 0 s q i B ln cp).toArray)) (hc:c ≤ 256) (hd25:d ≤ 25) (hvt:vty P 24 t = true) (hcd:c < 256 ∧ d ≤ 24) :
  Calls Tryd.prog 65 #[.agg #[mv,.slice A0 n cap0],.agg (t5 0 s q i B ln cp).toArray,.int .i64 (d:Int),.int .i64 (c:Int)] W (RZ 0 (.node 0 0 []) (c + 1) W):=by
 have HVT:Hid (∀ W',PrAt W' P (.agg #[mv,.slice A0 n cap0]) → TyAt W' t (.agg (t5 0 s q i B ln cp).toArray) → Calls Tryd.prog 17 #[.agg #[mv,.slice A0 n cap0],.agg #[.int .i64 0,.int .i64 s,.int .i64 q,.int .i64 i,.slice B ln cp]] W' (BRes true W')):=Lib.hid fun W' h1 h2 => by rw [← hvt];exact rvalidtype_any P t W' _ _ h1 h2
 have P0:=p2_new W mv (.slice A0 n cap0)
 have V0:=new_later W (.cells #[mv,.slice A0 n cap0] 26)
 have Q0:=t5_new (W.alloc (.cells #[mv,.slice A0 n cap0] 26)) 0 s q i B ln cp
 have b1:=new_later (W.alloc (.cells #[mv,.slice A0 n cap0] 26)) (.cells (t5 0 s q i B ln cp).toArray 31)
 have R0:Arr (((W.alloc (.cells #[mv,.slice A0 n cap0] 26)).alloc (.cells (t5 0 s q i B ln cp).toArray 31)).alloc (.cells #[.int .i64 0,.int .i64 0,.slice none 0 0] 53)) ((W.alloc (.cells #[mv,.slice A0 n cap0] 26)).alloc (.cells (t5 0 s q i B ln cp).toArray 31)).heap.size 3 53 zc3:=Arr.new' _ _ _ 3 zc3 rfl rfl (by decide)
 have b2:=new_later ((W.alloc (.cells #[mv,.slice A0 n cap0] 26)).alloc (.cells (t5 0 s q i B ln cp).toArray 31)) (.cells #[.int .i64 0,.int .i64 0,.slice none 0 0] 53)
 replace P0:=(P0.later b1).later b2
 replace Q0:=Q0.later b2
 have V1:=later (later V0 b1) b2
 rw [World.size_alloc] at Q0
 rw [World.size_alloc,World.size_alloc] at R0
 clear V0 b1 b2
 generalize hW:((W.alloc (.cells #[mv,.slice A0 n cap0] 26)).alloc (.cells (t5 0 s q i B ln cp).toArray 31)).alloc (.cells #[.int .i64 0,.int .i64 0,.slice none 0 0] 53) = wa at P0 Q0 R0 V1
 have y0:=Q0.cell (j:=0) (v:=.int .i64 0) rfl
 have y1:=Q0.cell (j:=1) (v:=.int .i64 s) rfl
 have y2:=Q0.cell (j:=2) (v:=.int .i64 q) rfl
 have y3:=Q0.cell (j:=3) (v:=.int .i64 i) rfl
 have y4:=Q0.cell (j:=4) (v:=.slice B ln cp) rfl
 have zz0:=P0.cell (j:=0) (v:=mv) rfl
 have zz1:=P0.cell (j:=1) (v:=.slice A0 n cap0) rfl
 have HPA:=Lib.hid (hP.later V1)
 have HP0:=Lib.hid hP
 have HTA:=Lib.hid (ht.later V1)
 have HV:=Lib.hid V1
 have HPB:=Lib.hid P0
 have HQB:=Lib.hid Q0
 have HRB:=Lib.hid R0
 have HIV:Hid ((Tryd.prog.info? 53).map (·.size) = some zc3.length):=Lib.hid info_val
 have hci:(c:Int) ≤ 256:=by omega
 have hc0:(0:Int) ≤ (c:Int):=by omega
 have hdi:(d:Int) ≤ 25:=by omega
 have hd0:(0:Int) ≤ (d:Int):=by omega
 clear hvt hP ht P0 Q0 R0 V1
 have h1:¬ (256:Int) < (c:Int) + 1:=by omega
 have h2:¬ (24:Int) < (d:Int):=by omega
 go_enter Tryd.func65,Tryd.ntmps65
 go_upto_region 1 with fail
 clear hW
 go_wp2_with (first
  | (go_at_call 17;(with_reducible refine (HVT.out _ HPA.out HTA.out).mono ?_);rintro e w2 ⟨rfl,hb2⟩;have HB2:=Lib.hid hb2;have HR2:=Lib.hid (HRB.out.later hb2);have hyk:=(HQB.out.later hb2).cell (j:=0) (v:=.int .i64 0) rfl;have hys:=(HQB.out.later hb2).cell (j:=1) (v:=.int .i64 s) rfl;have hyq:=(HQB.out.later hb2).cell (j:=2) (v:=.int .i64 q) rfl;have hyi:=(HQB.out.later hb2).cell (j:=3) (v:=.int .i64 i) rfl;have hpz0:=(HPB.out.later hb2).cell (j:=0) (v:=mv) rfl;have hpz1:=(HPB.out.later hb2).cell (j:=1) (v:=.slice A0 n cap0) rfl;clear hb2)
  | (refine wpList_store_arr rfl _ (.tmp 8) (.tmp 38) rfl (W.heap.size + 1 + 1) 0 3 53 _ [.int .i64 0,.int .i64 0,.slice none 0 0] zc3 rfl rfl rfl HR2.out (by decide) HIV.out (by decide) ?_;intro w12 f12 o12))
 rw [setAll_all zc3 [.int .i64 0,.int .i64 0,.slice none 0 0] rfl] at f12
 refine bodyPost_ret (results_cellBB rfl _ _ (W.heap.size + 1 + 1) [.int .i64 0,.int .i64 0,.slice none 0 0] _ rfl f12.range Tryd.underlying53 rfl HIV.out) rfl ?_
 exact ⟨_,_,_,_,_,(c:Int) + 1,rfl,fun _ => by omega,tr_leaf _ _ 0 (by unfold i64r;omega),(later HV.out HB2.out).trans (o12.bel.mono (by omega))⟩
set_option maxHeartbeats 16000000 in
set_option maxRecDepth 100000 in
theorem rz_T (P:List Df) (W:World) (c d n cap0:Nat) (mv:Value) (A0:Option Addr) (t:Ty) (s q i:Int) (B:Option Addr) (ln cp:Nat)
  (hP:PrAt W P (.agg #[mv,.slice A0 n cap0])) (ht:TyAt W t (.agg (t5 1 s q i B ln cp).toArray)) (hc:c ≤ 256) (hd25:d ≤ 25) (hvt:vty P 24 t = true) (hcd:c < 256 ∧ d ≤ 24) :
  Calls Tryd.prog 65 #[.agg #[mv,.slice A0 n cap0],.agg (t5 1 s q i B ln cp).toArray,.int .i64 (d:Int),.int .i64 (c:Int)] W (RZ 0 (.node 1 0 []) (c + 1) W):=by
 have HVT:Hid (∀ W',PrAt W' P (.agg #[mv,.slice A0 n cap0]) → TyAt W' t (.agg (t5 1 s q i B ln cp).toArray) → Calls Tryd.prog 17 #[.agg #[mv,.slice A0 n cap0],.agg #[.int .i64 1,.int .i64 s,.int .i64 q,.int .i64 i,.slice B ln cp]] W' (BRes true W')):=Lib.hid fun W' h1 h2 => by rw [← hvt];exact rvalidtype_any P t W' _ _ h1 h2
 have P0:=p2_new W mv (.slice A0 n cap0)
 have V0:=new_later W (.cells #[mv,.slice A0 n cap0] 26)
 have Q0:=t5_new (W.alloc (.cells #[mv,.slice A0 n cap0] 26)) 1 s q i B ln cp
 have b1:=new_later (W.alloc (.cells #[mv,.slice A0 n cap0] 26)) (.cells (t5 1 s q i B ln cp).toArray 31)
 have R0:Arr (((W.alloc (.cells #[mv,.slice A0 n cap0] 26)).alloc (.cells (t5 1 s q i B ln cp).toArray 31)).alloc (.cells #[.int .i64 0,.int .i64 0,.slice none 0 0] 53)) ((W.alloc (.cells #[mv,.slice A0 n cap0] 26)).alloc (.cells (t5 1 s q i B ln cp).toArray 31)).heap.size 3 53 zc3:=Arr.new' _ _ _ 3 zc3 rfl rfl (by decide)
 have b2:=new_later ((W.alloc (.cells #[mv,.slice A0 n cap0] 26)).alloc (.cells (t5 1 s q i B ln cp).toArray 31)) (.cells #[.int .i64 0,.int .i64 0,.slice none 0 0] 53)
 replace P0:=(P0.later b1).later b2
 replace Q0:=Q0.later b2
 have V1:=later (later V0 b1) b2
 rw [World.size_alloc] at Q0
 rw [World.size_alloc,World.size_alloc] at R0
 clear V0 b1 b2
 generalize hW:((W.alloc (.cells #[mv,.slice A0 n cap0] 26)).alloc (.cells (t5 1 s q i B ln cp).toArray 31)).alloc (.cells #[.int .i64 0,.int .i64 0,.slice none 0 0] 53) = wa at P0 Q0 R0 V1
 have y0:=Q0.cell (j:=0) (v:=.int .i64 1) rfl
 have y1:=Q0.cell (j:=1) (v:=.int .i64 s) rfl
 have y2:=Q0.cell (j:=2) (v:=.int .i64 q) rfl
 have y3:=Q0.cell (j:=3) (v:=.int .i64 i) rfl
 have y4:=Q0.cell (j:=4) (v:=.slice B ln cp) rfl
 have zz0:=P0.cell (j:=0) (v:=mv) rfl
 have zz1:=P0.cell (j:=1) (v:=.slice A0 n cap0) rfl
 have HPA:=Lib.hid (hP.later V1)
 have HP0:=Lib.hid hP
 have HTA:=Lib.hid (ht.later V1)
 have HV:=Lib.hid V1
 have HPB:=Lib.hid P0
 have HQB:=Lib.hid Q0
 have HRB:=Lib.hid R0
 have HIV:Hid ((Tryd.prog.info? 53).map (·.size) = some zc3.length):=Lib.hid info_val
 have hci:(c:Int) ≤ 256:=by omega
 have hc0:(0:Int) ≤ (c:Int):=by omega
 have hdi:(d:Int) ≤ 25:=by omega
 have hd0:(0:Int) ≤ (d:Int):=by omega
 clear hvt hP ht P0 Q0 R0 V1
 have h1:¬ (256:Int) < (c:Int) + 1:=by omega
 have h2:¬ (24:Int) < (d:Int):=by omega
 go_enter Tryd.func65,Tryd.ntmps65
 go_upto_region 1 with fail
 clear hW
 go_wp2_with (first
  | (go_at_call 17;(with_reducible refine (HVT.out _ HPA.out HTA.out).mono ?_);rintro e w2 ⟨rfl,hb2⟩;have HB2:=Lib.hid hb2;have HR2:=Lib.hid (HRB.out.later hb2);have hyk:=(HQB.out.later hb2).cell (j:=0) (v:=.int .i64 1) rfl;have hys:=(HQB.out.later hb2).cell (j:=1) (v:=.int .i64 s) rfl;have hyq:=(HQB.out.later hb2).cell (j:=2) (v:=.int .i64 q) rfl;have hyi:=(HQB.out.later hb2).cell (j:=3) (v:=.int .i64 i) rfl;have hpz0:=(HPB.out.later hb2).cell (j:=0) (v:=mv) rfl;have hpz1:=(HPB.out.later hb2).cell (j:=1) (v:=.slice A0 n cap0) rfl;clear hb2)
  | (refine wpList_store_arr rfl _ (.tmp 8) (.tmp 43) rfl (W.heap.size + 1 + 1) 0 3 53 _ [.int .i64 1,.int .i64 0,.slice none 0 0] zc3 rfl rfl rfl HR2.out (by decide) HIV.out (by decide) ?_;intro w12 f12 o12))
 rw [setAll_all zc3 [.int .i64 1,.int .i64 0,.slice none 0 0] rfl] at f12
 refine bodyPost_ret (results_cellBB rfl _ _ (W.heap.size + 1 + 1) [.int .i64 1,.int .i64 0,.slice none 0 0] _ rfl f12.range Tryd.underlying53 rfl HIV.out) rfl ?_
 exact ⟨_,_,_,_,_,(c:Int) + 1,rfl,fun _ => by omega,tr_leaf _ _ 1 (by unfold i64r;omega),(later HV.out HB2.out).trans (o12.bel.mono (by omega))⟩
set_option maxHeartbeats 16000000 in
set_option maxRecDepth 100000 in
theorem rz_L (P:List Df) (W:World) (c d n cap0:Nat) (mv:Value) (A0:Option Addr) (t:Ty) (s q i:Int) (B:Option Addr) (ln cp:Nat)
  (hP:PrAt W P (.agg #[mv,.slice A0 n cap0])) (ht:TyAt W t (.agg (t5 2 s q i B ln cp).toArray)) (hc:c ≤ 256) (hd25:d ≤ 25) (hvt:vty P 24 t = true) (hcd:c < 256 ∧ d ≤ 24) :
  Calls Tryd.prog 65 #[.agg #[mv,.slice A0 n cap0],.agg (t5 2 s q i B ln cp).toArray,.int .i64 (d:Int),.int .i64 (c:Int)] W (RZ 0 (.node 4 0 []) (c + 1) W):=by
 have HVT:Hid (∀ W',PrAt W' P (.agg #[mv,.slice A0 n cap0]) → TyAt W' t (.agg (t5 2 s q i B ln cp).toArray) → Calls Tryd.prog 17 #[.agg #[mv,.slice A0 n cap0],.agg #[.int .i64 2,.int .i64 s,.int .i64 q,.int .i64 i,.slice B ln cp]] W' (BRes true W')):=Lib.hid fun W' h1 h2 => by rw [← hvt];exact rvalidtype_any P t W' _ _ h1 h2
 have P0:=p2_new W mv (.slice A0 n cap0)
 have V0:=new_later W (.cells #[mv,.slice A0 n cap0] 26)
 have Q0:=t5_new (W.alloc (.cells #[mv,.slice A0 n cap0] 26)) 2 s q i B ln cp
 have b1:=new_later (W.alloc (.cells #[mv,.slice A0 n cap0] 26)) (.cells (t5 2 s q i B ln cp).toArray 31)
 have R0:Arr (((W.alloc (.cells #[mv,.slice A0 n cap0] 26)).alloc (.cells (t5 2 s q i B ln cp).toArray 31)).alloc (.cells #[.int .i64 0,.int .i64 0,.slice none 0 0] 53)) ((W.alloc (.cells #[mv,.slice A0 n cap0] 26)).alloc (.cells (t5 2 s q i B ln cp).toArray 31)).heap.size 3 53 zc3:=Arr.new' _ _ _ 3 zc3 rfl rfl (by decide)
 have b2:=new_later ((W.alloc (.cells #[mv,.slice A0 n cap0] 26)).alloc (.cells (t5 2 s q i B ln cp).toArray 31)) (.cells #[.int .i64 0,.int .i64 0,.slice none 0 0] 53)
 replace P0:=(P0.later b1).later b2
 replace Q0:=Q0.later b2
 have V1:=later (later V0 b1) b2
 rw [World.size_alloc] at Q0
 rw [World.size_alloc,World.size_alloc] at R0
 clear V0 b1 b2
 generalize hW:((W.alloc (.cells #[mv,.slice A0 n cap0] 26)).alloc (.cells (t5 2 s q i B ln cp).toArray 31)).alloc (.cells #[.int .i64 0,.int .i64 0,.slice none 0 0] 53) = wa at P0 Q0 R0 V1
 have y0:=Q0.cell (j:=0) (v:=.int .i64 2) rfl
 have y1:=Q0.cell (j:=1) (v:=.int .i64 s) rfl
 have y2:=Q0.cell (j:=2) (v:=.int .i64 q) rfl
 have y3:=Q0.cell (j:=3) (v:=.int .i64 i) rfl
 have y4:=Q0.cell (j:=4) (v:=.slice B ln cp) rfl
 have zz0:=P0.cell (j:=0) (v:=mv) rfl
 have zz1:=P0.cell (j:=1) (v:=.slice A0 n cap0) rfl
 have HPA:=Lib.hid (hP.later V1)
 have HP0:=Lib.hid hP
 have HTA:=Lib.hid (ht.later V1)
 have HV:=Lib.hid V1
 have HPB:=Lib.hid P0
 have HQB:=Lib.hid Q0
 have HRB:=Lib.hid R0
 have HIV:Hid ((Tryd.prog.info? 53).map (·.size) = some zc3.length):=Lib.hid info_val
 have hci:(c:Int) ≤ 256:=by omega
 have hc0:(0:Int) ≤ (c:Int):=by omega
 have hdi:(d:Int) ≤ 25:=by omega
 have hd0:(0:Int) ≤ (d:Int):=by omega
 clear hvt hP ht P0 Q0 R0 V1
 have h1:¬ (256:Int) < (c:Int) + 1:=by omega
 have h2:¬ (24:Int) < (d:Int):=by omega
 go_enter Tryd.func65,Tryd.ntmps65
 go_upto_region 1 with fail
 clear hW
 go_wp2_with (first
  | (go_at_call 17;(with_reducible refine (HVT.out _ HPA.out HTA.out).mono ?_);rintro e w2 ⟨rfl,hb2⟩;have HB2:=Lib.hid hb2;have HR2:=Lib.hid (HRB.out.later hb2);have hyk:=(HQB.out.later hb2).cell (j:=0) (v:=.int .i64 2) rfl;have hys:=(HQB.out.later hb2).cell (j:=1) (v:=.int .i64 s) rfl;have hyq:=(HQB.out.later hb2).cell (j:=2) (v:=.int .i64 q) rfl;have hyi:=(HQB.out.later hb2).cell (j:=3) (v:=.int .i64 i) rfl;have hpz0:=(HPB.out.later hb2).cell (j:=0) (v:=mv) rfl;have hpz1:=(HPB.out.later hb2).cell (j:=1) (v:=.slice A0 n cap0) rfl;clear hb2)
  | (refine wpList_store_arr rfl _ (.tmp 8) (.tmp 48) rfl (W.heap.size + 1 + 1) 0 3 53 _ [.int .i64 4,.int .i64 0,.slice none 0 0] zc3 rfl rfl rfl HR2.out (by decide) HIV.out (by decide) ?_;intro w12 f12 o12))
 rw [setAll_all zc3 [.int .i64 4,.int .i64 0,.slice none 0 0] rfl] at f12
 refine bodyPost_ret (results_cellBB rfl _ _ (W.heap.size + 1 + 1) [.int .i64 4,.int .i64 0,.slice none 0 0] _ rfl f12.range Tryd.underlying53 rfl HIV.out) rfl ?_
 exact ⟨_,_,_,_,_,(c:Int) + 1,rfl,fun _ => by omega,tr_leaf _ _ 4 (by unfold i64r;omega),(later HV.out HB2.out).trans (o12.bel.mono (by omega))⟩
end Go.Proofs.YtmfihlcibephlaaDoor
namespace Go.Proofs.YtmfihlcibephlaaDoor
open Go.RowKit
theorem slots4 {w:World} {g:Nat} {d:Df} {C:List Value} {sl:List Sl} {sn:Nat} (h:w.rangeAt g 0 C) (hd:DfAt w d C) (hsl:d.slots = sl) (hsn:sl.length = sn):∃ SA scap,w.cell? ⟨g,0 + 8,none⟩ = some (.slice SA sn scap) ∧ SlsAt w (.slice SA sn scap) sl:=by
 obtain ⟨sv,h1,h2⟩:=df_slots h hd
 have h2':=h2
 obtain ⟨A,cap,rfl,_⟩:=h2
 rw [hsl,hsn] at h1
 rw [hsl] at h2'
 refine ⟨A,cap,h1,?_⟩
 rw [← hsn]
 exact h2'
set_option maxHeartbeats 16000000 in
set_option maxRecDepth 100000 in
theorem rz_C (P:List Df) (W:World) (c d n cap0:Nat) (mv:Value) (A0:Option Addr) (t:Ty) (s q i:Int) (B:Option Addr) (ln cp:Nat)
  (hP:PrAt W P (.agg #[mv,.slice A0 n cap0])) (ht:TyAt W t (.agg (t5 3 s q i B ln cp).toArray)) (hc:c ≤ 256) (hd25:d ≤ 25) (hvt:vty P 24 t = true) (hcd:c < 256 ∧ d ≤ 24) (d0:Df) (hdf:P[fnd P s q i]? = some d0) (hdk:d0.kind = 1) (hs0:d0.slots.length = 0) :
  Calls Tryd.prog 65 #[.agg #[mv,.slice A0 n cap0],.agg (t5 3 s q i B ln cp).toArray,.int .i64 (d:Int),.int .i64 (c:Int)] W (RZ 1 z0 (c + 1) W):=by
 have HVT:Hid (∀ W',PrAt W' P (.agg #[mv,.slice A0 n cap0]) → TyAt W' t (.agg (t5 3 s q i B ln cp).toArray) → Calls Tryd.prog 17 #[.agg #[mv,.slice A0 n cap0],.agg #[.int .i64 3,.int .i64 s,.int .i64 q,.int .i64 i,.slice B ln cp]] W' (BRes true W')):=Lib.hid fun W' h1 h2 => by rw [← hvt];exact rvalidtype_any P t W' _ _ h1 h2
 have P0:=p2_new W mv (.slice A0 n cap0)
 have V0:=new_later W (.cells #[mv,.slice A0 n cap0] 26)
 have Q0:=t5_new (W.alloc (.cells #[mv,.slice A0 n cap0] 26)) 3 s q i B ln cp
 have b1:=new_later (W.alloc (.cells #[mv,.slice A0 n cap0] 26)) (.cells (t5 3 s q i B ln cp).toArray 31)
 have R0:Arr (((W.alloc (.cells #[mv,.slice A0 n cap0] 26)).alloc (.cells (t5 3 s q i B ln cp).toArray 31)).alloc (.cells #[.int .i64 0,.int .i64 0,.slice none 0 0] 53)) ((W.alloc (.cells #[mv,.slice A0 n cap0] 26)).alloc (.cells (t5 3 s q i B ln cp).toArray 31)).heap.size 3 53 zc3:=Arr.new' _ _ _ 3 zc3 rfl rfl (by decide)
 have b2:=new_later ((W.alloc (.cells #[mv,.slice A0 n cap0] 26)).alloc (.cells (t5 3 s q i B ln cp).toArray 31)) (.cells #[.int .i64 0,.int .i64 0,.slice none 0 0] 53)
 replace P0:=(P0.later b1).later b2
 replace Q0:=Q0.later b2
 have V1:=later (later V0 b1) b2
 rw [World.size_alloc] at Q0
 rw [World.size_alloc,World.size_alloc] at R0
 clear V0 b1 b2
 generalize hW:((W.alloc (.cells #[mv,.slice A0 n cap0] 26)).alloc (.cells (t5 3 s q i B ln cp).toArray 31)).alloc (.cells #[.int .i64 0,.int .i64 0,.slice none 0 0] 53) = wa at P0 Q0 R0 V1
 have y0:=Q0.cell (j:=0) (v:=.int .i64 3) rfl
 have y1:=Q0.cell (j:=1) (v:=.int .i64 s) rfl
 have y2:=Q0.cell (j:=2) (v:=.int .i64 q) rfl
 have y3:=Q0.cell (j:=3) (v:=.int .i64 i) rfl
 have y4:=Q0.cell (j:=4) (v:=.slice B ln cp) rfl
 have zz0:=P0.cell (j:=0) (v:=mv) rfl
 have zz1:=P0.cell (j:=1) (v:=.slice A0 n cap0) rfl
 have HPA:=Lib.hid (hP.later V1)
 have HP0:=Lib.hid hP
 have HTA:=Lib.hid (ht.later V1)
 have HV:=Lib.hid V1
 have HPB:=Lib.hid P0
 have HQB:=Lib.hid Q0
 have HRB:=Lib.hid R0
 have HIV:Hid ((Tryd.prog.info? 53).map (·.size) = some zc3.length):=Lib.hid info_val
 have hci:(c:Int) ≤ 256:=by omega
 have hc0:(0:Int) ≤ (c:Int):=by omega
 have hdi:(d:Int) ≤ 25:=by omega
 have hd0:(0:Int) ≤ (d:Int):=by omega
 clear hvt hP ht P0 Q0 R0 V1
 have HD1:Hid (∀ W',PrAt W' P (.agg #[mv,.slice A0 n cap0]) → Calls Tryd.prog 21 #[.agg #[mv,.slice A0 n cap0],.agg #[.int .i64 s,.int .i64 q,.int .i64 i]] W' (fun e w' => Below W'.heap.size W' w' ∧ ∃ C:List Value,e = .returned (.tuple #[.agg C.toArray,.bool true]) ∧ DfAt W' d0 C)):=Lib.hid fun W' hW' => (rdef_any P s q i W' _ hW').mono (by
  rintro e w' ⟨hb,⟨d,C,h,rfl,hC⟩ | ⟨h,_⟩⟩
  ·rw [hdf] at h;cases h;exact ⟨hb,C,rfl,hC⟩
  ·rw [hdf] at h;exact absurd h (by simp))
 have hzd:=zero_def
 have h1:¬ (256:Int) < (c:Int) + 1:=by omega
 have h2:¬ (24:Int) < (d:Int):=by omega
 obtain ⟨DK,hDK⟩:∃ DK,d0.kind = DK:=⟨_,rfl⟩
 obtain ⟨sl,hsl⟩:∃ sl,d0.slots = sl:=⟨_,rfl⟩
 obtain ⟨sn,hsn⟩:∃ sn,sl.length = sn:=⟨_,rfl⟩
 have HDK:=Lib.hid hDK
 have HSL:=Lib.hid hsl
 have HSN:=Lib.hid hsn
 have hn0:sn = 0:=by rw [← hsn,← hsl];exact hs0
 have hd1:DK = 1:=by rw [← hDK];exact hdk
 subst hn0
 subst hd1
 clear hDK hsl hsn hdf hdk hs0
 go_enter Tryd.func65,Tryd.ntmps65
 go_upto_region 1 with fail
 clear hW
 go_upto_region 15 with (first
  | (go_at_call 17;(with_reducible refine (HVT.out _ HPA.out HTA.out).mono ?_);rintro e w2 ⟨rfl,hb2⟩;have HB2:=Lib.hid hb2;have HR2:=Lib.hid (HRB.out.later hb2);have hyk:=(HQB.out.later hb2).cell (j:=0) (v:=.int .i64 3) rfl;have hys:=(HQB.out.later hb2).cell (j:=1) (v:=.int .i64 s) rfl;have hyq:=(HQB.out.later hb2).cell (j:=2) (v:=.int .i64 q) rfl;have hyi:=(HQB.out.later hb2).cell (j:=3) (v:=.int .i64 i) rfl;have hpz0:=(HPB.out.later hb2).cell (j:=0) (v:=mv) rfl;have hpz1:=(HPB.out.later hb2).cell (j:=1) (v:=.slice A0 n cap0) rfl;clear hb2)
  | (go_at_call 21;(with_reducible refine (HD1.out _ (HPA.out.later HB2.out)).mono ?_);rintro e w3 ⟨hb3,C,rfl,hC⟩;have HB3:=Lib.hid hb3;have HCL:=Lib.hid (DfAt.len hC);have HOC:Hid (∀ v ∈ C,v.oneCell' = true):=Lib.hid (DfAt.cells hC);have HIN:Hid ((Tryd.prog.info? 46).map (·.size) = some C.length):=Lib.hid (by rw [HCL.out];exact info_def);have HDC:=Lib.hid hC;clear hC hb3)
  | (refine wpList_store_arr rfl _ (.tmp 11) (.tmp 55) rfl w3.heap.size 0 31 46 _ C z31 rfl rfl rfl (z31_new w3) (by rw [HCL.out];omega) HIN.out HOC.out ?_;intro w4 f4 o4;rw [setAll_all _ _ (by rw [HCL.out];rfl)] at f4;have HF4:=Lib.hid f4;have HB4:=Lib.hid (later HB3.out ((new_later w3 _).trans o4.bel));have hdh:=df_head f4.range (HDC.out.later HB4.out);have hck:w4.cell? ⟨w3.heap.size,3,none⟩ = some (.int .i64 1):=(by have h:=hdh.2.2.2;rw [HDK.out] at h;simpa using h);obtain ⟨SA,scap,hsv,hss⟩:=slots4 f4.range (HDC.out.later HB4.out) HSL.out HSN.out;have HSS:=Lib.hid hss;have hsv':w4.cell? ⟨w3.heap.size,8,none⟩ = some (.slice SA 0 scap):=(by simpa using hsv);have hna:=new_later w4 (.cells #[.int .i64 2,.int .i64 0,.slice none 0 0] 53);have hck5:(w4.alloc (.cells #[.int .i64 2,.int .i64 0,.slice none 0 0] 53)).cell? ⟨w3.heap.size,3,none⟩ = some (.int .i64 1):=(hna.cell (p:=⟨w3.heap.size,3,none⟩) (World.block_lt_of_cell? w4 _ hck)).trans hck;have hsv5:(w4.alloc (.cells #[.int .i64 2,.int .i64 0,.slice none 0 0] 53)).cell? ⟨w3.heap.size,8,none⟩ = some (.slice SA 0 scap):=(hna.cell (p:=⟨w3.heap.size,8,none⟩) (World.block_lt_of_cell? w4 _ hsv')).trans hsv';have HSV':=Lib.hid hsv';clear f4 o4 hdh hss hsv hck hsv' hna))
 have HR5:=Lib.hid (fun (o:Obj) => (HR2.out.later HB4.out).later (new_later w4 o))
 have HB5:=Lib.hid (fun (o:Obj) => later (later (later HV.out HB2.out) HB4.out) (new_later w4 o))
 go_wp2_with (refine wpList_store_arr rfl _ (.tmp 8) (.tmp 67) rfl (W.heap.size + 1 + 1) 0 3 53 _ zc3 zc3 rfl rfl rfl (HR5.out _) (by decide) HIV.out zc3_one ?_;intro w12 f12 o12)
 rw [setAll_all _ _ rfl] at f12
 refine bodyPost_ret (results_cellBB rfl _ _ (W.heap.size + 1 + 1) zc3 _ rfl f12.range Tryd.underlying53 rfl HIV.out) rfl ?_
 exact RZ.bad (by decide) ((HB5.out _).trans (o12.bel.mono (by omega)))
end Go.Proofs.YtmfihlcibephlaaDoor
