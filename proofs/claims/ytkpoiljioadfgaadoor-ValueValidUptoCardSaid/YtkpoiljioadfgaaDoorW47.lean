import Derived.Test.YtkpoiljioadfgaaDoorW01
import Derived.Test.YtkpoiljioadfgaaDoorW04
import Derived.Test.YtkpoiljioadfgaaDoorW15
import Derived.Test.YtkpoiljioadfgaaDoorW44
import Derived.Test.YtkpoiljioadfgaaDoorW45
import Derived.Test.YtkpoiljioadfgaaDoorW46
import Derived.ProofKit
import Derived.OpenShut
import Derived.ShutString
import Derived.ChangeOld
import Derived.SizedLaws
import Derived.Deep.Slices
import Derived.SliceStrings
import Derived.ChangeArms
import Derived.DataReads
import Derived.DataElems
set_option linter.unusedVariables false
set_option linter.unusedSimpArgs false
namespace Go.Proofs.YtkpoiljioadfgaaDoor
open Go.RowKit
theorem build_val4 (W:World):(Instr.build 53 #[(0,.int .i64 4)]).run Tryd.prog W = .ok (.agg #[.int .i64 4,.int .i64 0,.slice none 0 0]) W:=run_build W _ _ _ (by kernel_rfl)
theorem t5y_new (w:World) (k s q i:Int) (A:Option Addr) (len cap:Nat):Arr (w.alloc (.cells #[.int .i64 k,.int .i64 s,.int .i64 q,.int .i64 i,.slice A len cap] 31)) w.heap.size 5 31 [.int .i64 k,.int .i64 s,.int .i64 q,.int .i64 i,.slice A len cap]:=Arr.new' w _ _ 5 _ rfl rfl (by decide)
theorem c3y_new (w:World) (k n:Int) (A:Option Addr) (len cap:Nat):Arr (w.alloc (.cells #[.int .i64 k,.int .i64 n,.slice A len cap] 53)) w.heap.size 3 53 [.int .i64 k,.int .i64 n,.slice A len cap]:=Arr.new' w _ _ 3 _ rfl rfl (by decide)
theorem build_type1 (W:World):(Instr.build 31 #[]).run Tryd.prog W = .ok (.agg #[.int .i64 0,.int .i64 0,.int .i64 0,.int .i64 0,.slice none 0 0]) W:=by kernel_rfl
set_option maxHeartbeats 16000000 in
set_option maxRecDepth 100000 in
theorem ValueValid_any (l0 c0 l1 c1:Nat) (A0 A1:Option Addr) (z0 z1:List Int) (wh at_ how by_:Int) (tt:Ty) (tv:Value) (vt:Tr) (vv:Value) (w:World) (hN0:Nums w z0 A0 l0) (hN1:Nums w z1 A1 l1) (hwh:i64r wh) (hat:i64r at_) (hhow:i64r how) (hby:i64r by_) (hT:TyAt w tt tv) (hV:TrAt w vt vv) (hvn:vt.nodes ≤ 4611686018427387904) (hK:Kv w) :
  Calls Tryd.prog 4 #[.slice A0 l0 c0,.slice A1 l1 c1,.int .i64 wh,.int .i64 at_,.int .i64 how,.int .i64 by_,tv,vv] w (BRes true w):=by
 obtain ⟨tk,ts,tq,ti,tA,tl,tc,rfl⟩:=hT.shape
 obtain ⟨vk,vn,vA,vl,vc,rfl⟩:=hV.shape
 simp only [t5] at hT ⊢
 simp only [c3] at hV ⊢
 have P14:=t5y_new w tk ts tq ti tA tl tc
 have V14:=new_later w (.cells #[.int .i64 tk,.int .i64 ts,.int .i64 tq,.int .i64 ti,.slice tA tl tc] 31)
 generalize hW1:w.alloc (.cells #[.int .i64 tk,.int .i64 ts,.int .i64 tq,.int .i64 ti,.slice tA tl tc] 31) = w1 at P14 V14
 have hz1:w1.heap.size = w.heap.size + 1:=by rw [← hW1];simp
 have P15:=c3y_new w1 vk vn vA vl vc
 have b15:=new_later w1 (.cells #[.int .i64 vk,.int .i64 vn,.slice vA vl vc] 53)
 rw [hz1] at P15
 generalize hW2:w1.alloc (.cells #[.int .i64 vk,.int .i64 vn,.slice vA vl vc] 53) = wa at P15 b15
 have P14:=P14.later b15
 have V0:=later V14 b15
 have HTY:=Lib.hid (Types_pr z0 A0 l0 c0 wa (hN0.later V0))
 have HN1:=Lib.hid (hN1.later V0)
 have HR14:=Lib.hid P14.range
 have HR15:=Lib.hid P15.range
 have HTT:=Lib.hid (TyAt.later V0 hT)
 have HVV:=Lib.hid (hV.later V0)
 have HKV:=Lib.hid (hK.later V0)
 have HV0:=Lib.hid V0
 have HI:=Lib.hid (And.intro hwh (And.intro hat (And.intro hhow (And.intro hby hvn))))
 have hbt:=build_type1
 have hb4:=build_val4
 clear hN0 hN1 hT hV hK hwh hat hhow hby hvn P14 P15 V0 V14 b15
 go_enter Tryd.func4,Tryd.ntmps4
 go_upto_region 1 with fail
 clear hW1 hW2 hz1
 go_upto_region 2 with (first
  | (go_at_call 10;(with_reducible refine HTY.out.mono ?_);rintro e w1 ⟨P,mv,gd0,o,n,cap,hn,rfl,hP,hmv,hS,_,hb⟩;have HNN:=Lib.hid hn;have HP1:=Lib.hid hP;have HMV:=Lib.hid hmv;have HS:=Lib.hid hS;have HB1:=Lib.hid hb;clear hn hP hmv hS hb HTY)
  | (refine wpList_store_arr rfl _ (.tmp 17) (.tmp 28) rfl w1.heap.size 0 2 26 _ [mv,.slice (some ⟨gd0,o,none⟩) n cap] [.slice none 0 0,.slice none 0 0] rfl rfl rfl (p2_new w1 _ _) (show 0 + 2 ≤ 2 by omega) info_prog (by intro v hv;simp at hv;rcases hv with rfl | rfl;exact HMV.out;rfl) ?_;intro w2 f2 o2;rw [setAll_all [.slice none 0 0,.slice none 0 0] [mv,.slice (some ⟨gd0,o,none⟩) n cap] rfl] at f2;have HX2:=Lib.hid f2;have HL2:=Lib.hid ((new_later w1 (.cells #[.slice none 0 0,.slice none 0 0] 26)).trans (o2.bel.mono (Nat.le_refl _)));clear f2 o2))
 have HB2:=Lib.hid (later HB1.out HL2.out)
 have HP2:=Lib.hid (HP1.out.later HL2.out)
 generalize w1.heap.size = g17 at HX2 ⊢
 clear HP1 HB1 HL2
 have hn1:0 < n ∧ n ≤ 4:=by have:=HNN.out;have:=HS.out.len;omega
 have HAR:Hid (∀ W,Calls Tryd.prog 12 #[.int .i64 wh,.int .i64 (n:Int)] W fun e w' => e = .returned (.int .i64 ((ar wh n:Nat):Int)) ∧ w' = W):=Lib.hid fun W => Around_any wh n hn1.1 (by omega) HI.out.1 W
 have hkn:=ar_lt wh n hn1.1
 generalize ar wh n = kk at HAR hkn
 have hk0:(0:Int) ≤ (kk:Int):=by omega
 have hk3:(kk:Int) ≤ 3:=by omega
 have HKN:Hid (kk < P.length):=Lib.hid (by have:=HNN.out;omega)
 have HID:Hid (∀ W,Calls Tryd.prog 15 #[.int .i64 (1 + (kk:Int))] W fun e w' => e = .returned (.agg #[.int .i64 0,.int .i64 1,.int .i64 (1 + (kk:Int))]) ∧ Below W.heap.size W w'):=Lib.hid fun W => by
  have h:=ID_any (1 + kk) (by omega) W
  rwa [show ((1 + kk:Nat):Int) = 1 + (kk:Int) by omega] at h
 have HOF:Hid (∀ W,Calls Tryd.prog 14 #[.agg #[.int .i64 0,.int .i64 1,.int .i64 (1 + (kk:Int))]] W fun e w' => e = .returned (.agg #[.int .i64 3,.int .i64 0,.int .i64 1,.int .i64 (1 + (kk:Int)),.slice none 0 0]) ∧ Below W.heap.size W w'):=Lib.hid fun W => Of_any 0 1 (1 + (kk:Int)) W
 have x1:=HX2.out.cell (j:=1) (v:=.slice (some ⟨gd0,o,none⟩) n cap) rfl
 clear hkn hn1
 go_upto_region 3 with (first
  | (go_at_call 12;(with_reducible refine (HAR.out _).mono ?_);rintro e w6 ⟨rfl,hw6⟩;rw [hw6];clear hw6)
  | (go_at_call 15;(with_reducible refine (HID.out _).mono ?_);rintro e w3 ⟨rfl,hb⟩;have HB3:=Lib.hid hb;clear hb)
  | (go_at_call 14;(with_reducible refine (HOF.out _).mono ?_);rintro e w4 ⟨rfl,hb⟩;have HB4:=Lib.hid (later HB3.out hb);clear hb)
  | (refine wpList_store_arr rfl _ (.tmp 18) (.tmp 36) rfl w4.heap.size 0 5 31 _ [.int .i64 3,.int .i64 0,.int .i64 1,.int .i64 (1 + (kk:Int)),.slice none 0 0] [.int .i64 0,.int .i64 0,.int .i64 0,.int .i64 0,.slice none 0 0] rfl rfl rfl (t5y_new w4 0 0 0 0 none 0 0) (show 0 + 5 ≤ 5 by omega) info_typesz (List.all_eq_true.mp (by rfl)) ?_;intro w5 f o;rw [setAll_all [.int .i64 0,.int .i64 0,.int .i64 0,.int .i64 0,.slice none 0 0] [.int .i64 3,.int .i64 0,.int .i64 1,.int .i64 (1 + (kk:Int)),.slice none 0 0] rfl] at f;have HR5:=Lib.hid f;have HL5:=Lib.hid (later HB4.out ((new_later w4 (.cells #[.int .i64 0,.int .i64 0,.int .i64 0,.int .i64 0,.slice none 0 0] 31)).trans (o.bel.mono (Nat.le_refl _))));clear f o))
 generalize w4.heap.size = g18 at HR5 ⊢
 have HB5:=Lib.hid (later HB2.out HL5.out)
 have HX5:=Lib.hid (HX2.out.later HL5.out)
 have HP5:=Lib.hid (HP2.out.later HL5.out)
 clear x1 HB3 HB4 HL5 HX2 HP2 HB2 HAR HID HOF
 have HVA:Hid (∀ W,Below w5.heap.size w5 W → Calls Tryd.prog 23 #[.agg #[mv,.slice (some ⟨gd0,o,none⟩) n cap],.agg #[.int .i64 3,.int .i64 0,.int .i64 1,.int .i64 (1 + (kk:Int)),.slice none 0 0],.slice A1 l1 c1] W (VVal P (tD kk) W)):=Lib.hid fun W h => Value_any P HS.out z1 kk HKN.out W _ _ A1 l1 c1 (HP5.out.later h) (tD_at W kk (by omega)) (HN1.out.later (later HB5.out h))
 have HRX:=Lib.hid HX5.out.range
 have HRT:=Lib.hid HR5.out.range
 have HIP:Hid ((Tryd.prog.info? 26).map (·.size) = some ([mv,.slice (some ⟨gd0,o,none⟩) n cap]:List Value).length):=Lib.hid info_prog
 have HIT:Hid ((Tryd.prog.info? 31).map (·.size) = some ([.int .i64 3,.int .i64 0,.int .i64 1,.int .i64 (1 + (kk:Int)),.slice none 0 0]:List Value).length):=Lib.hid info_typesz
 go_upto_region 4 with (first
  | (with_reducible refine wpList_load_mid rfl _ (.tmp 17) rfl g17 0 rfl [mv,.slice (some ⟨gd0,o,none⟩) n cap] _ HRX.out Tryd.underlying26 rfl HIP.out ?_)
  | (with_reducible refine wpList_load_mid rfl _ (.tmp 18) rfl g18 0 rfl [.int .i64 3,.int .i64 0,.int .i64 1,.int .i64 (1 + (kk:Int)),.slice none 0 0] _ HRT.out Tryd.underlying31 rfl HIT.out ?_)
  | (go_at_call 23;(with_reducible refine (HVA.out _ (Below.refl _ _)).mono ?_);rintro e w6 ⟨x,xk,xn,xA,xl,xc,rfl,hT,hF,hb⟩;have HXT:=Lib.hid hT.at_;have HXF:=Lib.hid hF;have HB6:=Lib.hid hb;clear hT hF hb)
  | (refine wpList_store_arr rfl _ (.tmp 19) (.tmp 40) rfl w6.heap.size 0 3 53 _ [.int .i64 xk,.int .i64 xn,.slice xA xl xc] [.int .i64 0,.int .i64 0,.slice none 0 0] rfl rfl rfl (c3y_new w6 0 0 none 0 0) (show 0 + 3 ≤ 3 by omega) info_val (List.all_eq_true.mp (by rfl)) ?_;intro w7 f o;rw [setAll_all [.int .i64 0,.int .i64 0,.slice none 0 0] [.int .i64 xk,.int .i64 xn,.slice xA xl xc] rfl] at f;have HR7:=Lib.hid f;have HL7:=Lib.hid ((new_later w6 (.cells #[.int .i64 0,.int .i64 0,.slice none 0 0] 53)).trans (o.bel.mono (Nat.le_refl _)));clear f o))
 have HM7:=Lib.hid (later HB6.out HL7.out)
 have HXT7:=Lib.hid (HXT.out.later HL7.out)
 generalize w6.heap.size = g19 at HR7 ⊢
 clear HB6 HL7 HXT HVA HRX HRT
 refine vsreg4 (by kernel_rfl) _ _ g19 at_ how by_ x xk xn xA xl xc (fun b => w7.heap[b]?) rfl rfl rfl rfl rfl HR7.out HXT7.out HXF.out.2.1 HI.out.2.1 HI.out.2.2.1 HI.out.2.2.2.1 (fun _ _ => rfl) ?_
 intro vs4 w8 g20 y yk yn yA yl yc h20 hg20 hA20 hyt hyn hb8 a4 ha4
 simp only [vsD4,List.cons_append,List.nil_append,List.foldl_cons,List.foldl_nil,Act.put,List.setIfInBounds_toArray,List.set_cons_succ,List.set_cons_zero,h20] at ha4
 subst ha4
 have HM8:=Lib.hid (later HM7.out hb8)
 have HB8:=Lib.hid (later HB5.out HM8.out)
 have HP8:=Lib.hid (HP5.out.later HM8.out)
 have HX8:=Lib.hid (HX5.out.later HM8.out)
 have HT8:=Lib.hid (HR5.out.later HM8.out)
 have HR8:=Lib.hid (HR7.out.later hb8)
 have HXT8:=Lib.hid (HXT7.out.later hb8)
 have HYA:=Lib.hid hA20
 have HYT:=Lib.hid hyt
 have HYN:=Lib.hid hyn
 clear h20 hg20 hA20 hyt hyn hb8 HM7 HXT7 HR7 HR5 HX5 HP5 HIP HIT HM8
 obtain ⟨b1,hb1⟩:∃ b,(pv P y (tD kk) 24 0).1 = b:=⟨_,rfl⟩
 obtain ⟨b2,hb2⟩:∃ b,(pv P vt tt 24 0).1 = b:=⟨_,rfl⟩
 obtain ⟨b3,hb3⟩:∃ b,(pv P vt (tD kk) 24 0).1 = b:=⟨_,rfl⟩
 obtain ⟨b4',hb4'⟩:∃ b,(pv P x tt 24 0).1 = b:=⟨_,rfl⟩
 have HBB:=Lib.hid (And.intro hb1 (And.intro hb2 (And.intro hb3 hb4')))
 clear hb1 hb2 hb3 hb4'
 have HVX:Hid ((pv P x (tD kk) 24 0).1 = true):=Lib.hid ((pv_ok P x (tD kk) 24 0 (by omega)).2.2.2 ⟨HXF.out.1,by have:=HXF.out.2.1;omega,by have:=HXF.out.2.2;omega⟩)
 go_upto_region 5 with fail
 refine vwreg5 (by kernel_rfl) _ _ w.heap.size (w.heap.size + 1) g17 g18 g19 g20 kk n cap mv (some ⟨gd0,o,none⟩) tk ts tq ti tA tl tc vk vn vA vl vc xk xn xA xl xc yk yn yA yl yc b1 b2 b3 b4' rfl rfl rfl rfl rfl rfl rfl HX8.out.range HT8.out.range HR8.out.range HYA.out.range (range_below HR14.out HB8.out) (range_below HR15.out HB8.out)
  (fun W hw => by have h:=valid_any P (tD kk) x W _ _ _ (HP8.out.later hw) (tD_at W kk (by omega)) (HXT8.out.later hw) (HKV.out.later (later HB8.out hw));rwa [HVX.out] at h)
  (fun W hw => by have h:=valid_any P (tD kk) y W _ _ _ (HP8.out.later hw) (tD_at W kk (by omega)) (HYT.out.later hw) (HKV.out.later (later HB8.out hw));rwa [HBB.out.1] at h)
  (fun W hw => by have h:=rvalid_any P y (tD kk) W mv (some ⟨gd0,o,none⟩) n cap _ _ (HP8.out.later hw) (tD_at W kk (by omega)) (HYT.out.later hw) (by have:=HXF.out.2.1;have:=HYN.out;omega);rwa [HBB.out.1] at h)
  (fun W hw => by have h:=valid_any P tt vt W _ _ _ (HP8.out.later hw) (TyAt.later (later HB8.out hw) HTT.out) (HVV.out.later (later HB8.out hw)) (HKV.out.later (later HB8.out hw));rwa [HBB.out.2.1] at h)
  (fun W hw => by have h:=rvalid_any P vt tt W mv (some ⟨gd0,o,none⟩) n cap _ _ (HP8.out.later hw) (TyAt.later (later HB8.out hw) HTT.out) (HVV.out.later (later HB8.out hw)) (by exact HI.out.2.2.2.2);rwa [HBB.out.2.1] at h)
  (fun W hw => by have h:=valid_any P (tD kk) vt W _ _ _ (HP8.out.later hw) (tD_at W kk (by omega)) (HVV.out.later (later HB8.out hw)) (HKV.out.later (later HB8.out hw));rwa [HBB.out.2.2.1] at h)
  (fun W hw => by have h:=rvalid_any P vt (tD kk) W mv (some ⟨gd0,o,none⟩) n cap _ _ (HP8.out.later hw) (tD_at W kk (by omega)) (HVV.out.later (later HB8.out hw)) (by exact HI.out.2.2.2.2);rwa [HBB.out.2.2.1] at h)
  (fun W hw => by have h:=valid_any P tt x W _ _ _ (HP8.out.later hw) (TyAt.later (later HB8.out hw) HTT.out) (HXT8.out.later hw) (HKV.out.later (later HB8.out hw));rwa [HBB.out.2.2.2] at h)
  (fun W hw => by have h:=rvalid_any P x tt W mv (some ⟨gd0,o,none⟩) n cap _ _ (HP8.out.later hw) (TyAt.later (later HB8.out hw) HTT.out) (HXT8.out.later hw) (by have:=HXF.out.2.1;omega);rwa [HBB.out.2.2.2] at h) ?_
 intro vs5 w9 hs hb a5 ha5
 simp only [vwD5,List.cons_append,List.nil_append,List.foldl_cons,List.foldl_nil,Act.put,List.setIfInBounds_toArray,List.set_cons_succ,List.set_cons_zero,hs] at ha5
 subst ha5
 have HB9:=Lib.hid (later HB8.out hb)
 have HP9:=Lib.hid (HP8.out.later hb)
 have HX9:=Lib.hid (HX8.out.later hb)
 have HKV9:=Lib.hid (HKV.out.later HB9.out)
 have HBY:=Lib.hid HI.out.2.2.2.1
 clear hs hb HB8 HP8 HX8 HT8 HR8 HXT8 HYA HYT HYN HBB HVX HR14 HR15 HTT HVV HKV HXF HI HN1
 go_upto_region 7 with fail
 go_upto_region 8 with (refine wpList_store_arr rfl _ (.tmp 21) (.tmp 96) rfl w9.heap.size 0 3 53 _ [.int .i64 4,.int .i64 0,.slice none 0 0] [.int .i64 0,.int .i64 0,.slice none 0 0] rfl rfl rfl (c3y_new w9 0 0 none 0 0) (show 0 + 3 ≤ 3 by omega) info_val (List.all_eq_true.mp (by rfl)) ?_;intro w10 f o;rw [setAll_all [.int .i64 0,.int .i64 0,.slice none 0 0] [.int .i64 4,.int .i64 0,.slice none 0 0] rfl] at f;have HM10:=Lib.hid f;have HB10:=Lib.hid ((new_later w9 (.cells #[.int .i64 0,.int .i64 0,.slice none 0 0] 53)).trans (o.bel.mono (Nat.le_refl _)));clear f o)
 clear hb4
 obtain ⟨gM,hgM⟩:∃ g,w9.heap.size = g:=⟨_,rfl⟩
 rw [hgM] at HM10 HB10 ⊢
 have HGM:=Lib.hid hgM
 clear hgM
 have HA5:Hid (∀ W,Calls Tryd.prog 12 #[.int .i64 by_,.int .i64 5] W fun e w' => e = .returned (.int .i64 ((ar by_ 5:Nat):Int)) ∧ w' = W):=Lib.hid fun W => Around_any by_ 5 (by omega) (by omega) HBY.out W
 have hr5:ar by_ 5 < 5:=ar_lt by_ 5 (by omega)
 have HA4:Hid (∀ W,Calls Tryd.prog 12 #[.int .i64 by_,.int .i64 4] W fun e w' => e = .returned (.int .i64 ((ar by_ 4:Nat):Int)) ∧ w' = W):=Lib.hid fun W => Around_any by_ 4 (by omega) (by omega) HBY.out W
 have hr4:ar by_ 4 < 4:=ar_lt by_ 4 (by omega)
 generalize ar by_ 5 = r5 at HA5 hr5
 generalize ar by_ 4 = r4 at HA4 hr4
 have HR4:=Lib.hid hr4
 have hr50:(0:Int) ≤ (r5:Int):=by omega
 have hr54:(r5:Int) ≤ 4:=by omega
 clear hr4
 go_wp2_with fail
 go_loopw [22] (fun iv W' => ∃ (i:Nat) (mA:Option Addr) (mc:Nat),i ≤ 253 + r5 ∧ iv = .int .i64 (i:Int) ∧ Arr W' gM 3 53 [.int .i64 4,.int .i64 0,.slice mA i mc] ∧ GrowG 53 3 PC W' (gM + 1) (.slice mA i mc) (lvc i) ∧ Below gM w9 W') (fun iv _ => 260 - (intOf iv).toNat)
 case atStart => exact ⟨0,none,0,by omega,by go_num,HM10.out,GrowG.nil _ _,HB10.out⟩
 case round =>
  clear HM10 HB10
  obtain ⟨i,mA,mc,hi,rfl,hA,hG,hB⟩:=hrel
  have HA:=Lib.hid hA
  have HG:=Lib.hid hG
  have HB:=Lib.hid hB
  clear hA hG hB
  have hi0:(0:Int) ≤ (i:Int):=by omega
  have hi30:(i:Int) ≤ 257:=by omega
  by_cases hli:i < 253 + r5
  ·have hii:(i:Int) < 253 + (r5:Int):=by omega
   go_upto_region 11 with (go_at_call 12;(with_reducible refine (HA5.out _).mono ?_);rintro e w6 ⟨rfl,hw6⟩;rw [hw6];clear hw6)
   refine kcreg11 (by kernel_rfl) _ _ gM (.slice mA i mc) (gM + 1) (lvc i) (.int .i64 4) (.int .i64 0) i (by rw [lvc_len];omega) rfl rfl rfl (by omega) (by have:=HA.out.lt;omega) HA.out HG.out ?_
   intro vs11 kv w11 hG hnew hA2 hb0 hsame a11 ha11
   simp only [kcD11,List.cons_append,List.nil_append,List.foldl_cons,List.foldl_nil,Act.put,List.setIfInBounds_toArray,List.set_cons_succ,List.set_cons_zero] at ha11
   subst ha11
   obtain ⟨mA2,mc2,hkv,_,_⟩:=hG.shape
   rw [← lvc_succ,lvc_len] at hkv
   rw [← lvc_succ] at hG
   subst hkv
   have hown:∀ g,(Value.slice mA i mc).ownBlock = some g → gM + 1 ≤ g:=fun g e => (HG.out.lt g e).1
   have HA11:=Lib.hid hA2
   have HG11:=Lib.hid hG
   have HB11:Hid (Below gM w9 w11):=Lib.hid (HB.out.trans ⟨hb0.os,hb0.tape,hb0.output,hb0.size,fun g hg => hsame g (by have:=HA.out.lt;omega) (by omega) (fun e => by have:=hown _ e;omega)⟩)
   clear hG hnew hA2 hb0 hsame hown
   go_wp2_with fail
   go_roundw
   case rel => exact ⟨i + 1,mA2,mc2,by omega,by go_num,HA11.out,HG11.out,HB11.out⟩
   case measure => simp [intOf];omega
  ·have hii:¬ (i:Int) < 253 + (r5:Int):=by omega
   obtain rfl:i = 253 + r5:=by omega
   obtain ⟨hMM,hMT⟩:=many_at HG.out (by omega)
   obtain ⟨M,hM⟩:∃ M,253 + r5 = M:=⟨_,rfl⟩
   have HMT:Hid (TrAt wr (.node 4 0 (lvs M)) (.agg #[.int .i64 4,.int .i64 0,.slice mA M mc])):=Lib.hid (by rw [← hM];exact hMT)
   have HMA:Hid (Arr wr gM 3 53 [.int .i64 4,.int .i64 0,.slice mA M mc]):=Lib.hid (by rw [← hM];exact HA.out)
   have HML:Hid (M ≤ 1000):=Lib.hid (by omega)
   have HBx:Hid (Below w9.heap.size w9 wr):=Lib.hid (by rw [HGM.out];exact HB.out)
   have HPx:=Lib.hid (HP9.out.later HBx.out)
   have HXx:=Lib.hid (HX9.out.later HBx.out)
   have HKx:=Lib.hid (HKV9.out.later HBx.out)
   have HBr:=Lib.hid (later HV0.out (later HB9.out HBx.out))
   clear hMM hMT hM HA HG HB HBx HP9 HX9 HKV9 HB9 HV0 HGM
   go_upto_region 12 with (go_at_call 12;(with_reducible refine (HA5.out _).mono ?_);rintro e w6 ⟨rfl,hw6⟩;rw [hw6];clear hw6)
   clear HA5 hii hi hi0 hi30 hli hr5 hr50 hr54
   have hbt2:=hbt wr
   go_upto_region 13 with (refine wpList_store_arr rfl _ (.tmp 23) (.tmp 111) rfl wr.heap.size 0 5 31 _ [.int .i64 0,.int .i64 0,.int .i64 0,.int .i64 0,.slice none 0 0] [.int .i64 0,.int .i64 0,.int .i64 0,.int .i64 0,.slice none 0 0] rfl rfl rfl (t5y_new wr 0 0 0 0 none 0 0) (show 0 + 5 ≤ 5 by omega) info_typesz (List.all_eq_true.mp (by rfl)) ?_;intro w12 f o;rw [setAll_all [.int .i64 0,.int .i64 0,.int .i64 0,.int .i64 0,.slice none 0 0] [.int .i64 0,.int .i64 0,.int .i64 0,.int .i64 0,.slice none 0 0] rfl] at f;have HT12:=Lib.hid f;have HL12:=Lib.hid ((new_later wr (.cells #[.int .i64 0,.int .i64 0,.int .i64 0,.int .i64 0,.slice none 0 0] 31)).trans (o.bel.mono (Nat.le_refl _)));clear f o)
   clear hbt2
   obtain ⟨gT,hgT⟩:∃ g,wr.heap.size = g:=⟨_,rfl⟩
   rw [hgT] at HT12 ⊢
   go_upto_region 14 with (first
    | (go_at_call 27;(with_reducible refine (num_any 0 w12).mono ?_);rintro e w13 ⟨rfl,hb⟩;have HB13:=Lib.hid (later HL12.out hb);have HT13:=Lib.hid (HT12.out.later hb);clear hb)
    | (refine wpList_store_arr rfl _ (.tmp 24) (.tmp 112) rfl w13.heap.size 0 3 53 _ [.int .i64 0,.int .i64 0,.slice none 0 0] [.int .i64 0,.int .i64 0,.slice none 0 0] rfl rfl rfl (c3y_new w13 0 0 none 0 0) (show 0 + 3 ≤ 3 by omega) info_val (List.all_eq_true.mp (by rfl)) ?_;intro w14 f o;rw [setAll_all [.int .i64 0,.int .i64 0,.slice none 0 0] [.int .i64 0,.int .i64 0,.slice none 0 0] rfl] at f;have HD14:=Lib.hid f;have HL14:=Lib.hid ((new_later w13 (.cells #[.int .i64 0,.int .i64 0,.slice none 0 0] 53)).trans (o.bel.mono (Nat.le_refl _)));clear f o))
   have HT14:=Lib.hid (HT13.out.later HL14.out)
   have hgTD:gT < w13.heap.size:=HT13.out.lt
   have HB14:Hid (Below gT wr w14):=Lib.hid (by rw [← hgT];exact later HB13.out HL14.out)
   generalize w13.heap.size = gD at HD14 hgTD ⊢
   have HGT:=Lib.hid hgT
   have HGD:=Lib.hid hgTD
   clear HT12 HL12 HB13 HT13 HL14 hgT hgTD
   have hr40:(0:Int) ≤ (r4:Int):=by omega
   have hr44:(r4:Int) ≤ 3:=by have:=HR4.out;omega
   go_wp2_with fail
   go_loopw [25] (fun iv W' => ∃ (i:Nat) (y:Ty) (d:Tr) (nk ns nq ni:Int) (nA:Option Addr) (nl nc:Nat) (dk dn:Int) (dA:Option Addr) (dl dc:Nat),i ≤ 21 + r4 ∧ iv = .int .i64 (i:Int) ∧ Arr W' gT 5 31 [.int .i64 nk,.int .i64 ns,.int .i64 nq,.int .i64 ni,.slice nA nl nc] ∧ Arr W' gD 3 53 [.int .i64 dk,.int .i64 dn,.slice dA dl dc] ∧ Foot (fun g => g ≠ gT ∧ g ≠ gD) (fun W => TyAt W y (.agg #[.int .i64 nk,.int .i64 ns,.int .i64 nq,.int .i64 ni,.slice nA nl nc])) W' ∧ Foot (fun g => g ≠ gT ∧ g ≠ gD) (fun W => TrAt W d (.agg #[.int .i64 dk,.int .i64 dn,.slice dA dl dc])) W' ∧ d.nodes ≤ i + 1 ∧ Below gT wr W') (fun iv _ => 30 - (intOf iv).toNat)
   case atStart => exact ⟨0,.node 0 0 0 0 [],.node 0 0 [],0,0,0,0,none,0,0,0,0,none,0,0,by omega,by go_num,HT14.out,HD14.out,fun W _ _ => ty_now 0 0 0 0 (by unfold i64r;omega) (by unfold i64r;omega) (by unfold i64r;omega) (by unfold i64r;omega) W,fun W _ _ => leaf_now 0 (by unfold i64r;omega) W,by simp [Tr.nodes,nodesL],HB14.out⟩
   case round =>
    clear HT14 HD14 HB14
    obtain ⟨i,y,d,nk,ns,nq,ni,nA,nl,nc,dk,dn,dA,dl,dc,hi,rfl,hA,hD,hF,hG,hdn,hB⟩:=hrel
    have HA:=Lib.hid hA
    have HD:=Lib.hid hD
    have HF:=Lib.hid hF
    have HG:=Lib.hid hG
    have HDN:=Lib.hid hdn
    have HB:=Lib.hid hB
    have HRA:=Lib.hid hA.range
    have HIA:Hid ((Tryd.prog.info? 31).map (·.size) = some ([.int .i64 nk,.int .i64 ns,.int .i64 nq,.int .i64 ni,.slice nA nl nc]:List Value).length):=Lib.hid info_typesz
    have HID:Hid ((Tryd.prog.info? 53).map (·.size) = some ([.int .i64 dk,.int .i64 dn,.slice dA dl dc]:List Value).length):=Lib.hid info_val
    clear hA hD hF hG hB hdn
    have hi0:(0:Int) ≤ (i:Int):=by omega
    have hi30:(i:Int) ≤ 30:=by omega
    by_cases hli:i < 21 + r4
    ·have hii:(i:Int) < 21 + (r4:Int):=by omega
     have HLN:Hid (∀ W,Calls Tryd.prog 13 #[.agg #[.int .i64 nk,.int .i64 ns,.int .i64 nq,.int .i64 ni,.slice nA nl nc]] W (LNew nk ns nq ni nA nl nc W)):=Lib.hid fun W => List_blk nk ns nq ni nA nl nc W
     go_upto_region 17 with (go_at_call 12;(with_reducible refine (HA4.out _).mono ?_);rintro e w6 ⟨rfl,hw6⟩;rw [hw6];clear hw6)
     go_upto_region 18 with (first
      | (with_reducible refine wpList_load_mid rfl _ (.tmp 23) rfl gT 0 rfl [.int .i64 nk,.int .i64 ns,.int .i64 nq,.int .i64 ni,.slice nA nl nc] _ HRA.out Tryd.underlying31 rfl HIA.out ?_)
      | (go_at_call 13;(with_reducible refine (HLN.out _).mono ?_);rintro e w7 ⟨gn,rfl,hgn,hAn,hbn⟩;have HGN:=Lib.hid hgn;have HAN:=Lib.hid hAn;have HBN:=Lib.hid hbn;have HA7:=Lib.hid (HA.out.later hbn);clear hgn hAn hbn)
      | (refine wpList_store_arr rfl _ (.tmp 23) (.tmp 121) rfl gT 0 5 31 _ [.int .i64 2,.int .i64 0,.int .i64 0,.int .i64 0,.slice (some ⟨gn,0,none⟩) 1 1] [.int .i64 nk,.int .i64 ns,.int .i64 nq,.int .i64 ni,.slice nA nl nc] rfl rfl rfl HA7.out (show 0 + 5 ≤ 5 by omega) info_typesz (List.all_eq_true.mp (by rfl)) ?_;intro w8 f8 o8;rw [setAll_all [.int .i64 nk,.int .i64 ns,.int .i64 nq,.int .i64 ni,.slice nA nl nc] [.int .i64 2,.int .i64 0,.int .i64 0,.int .i64 0,.slice (some ⟨gn,0,none⟩) 1 1] rfl] at f8;have HA8:=Lib.hid f8;have HO8:=Lib.hid o8;clear f8 o8))
     have HD8:=Lib.hid ((HD.out.later HBN.out).only HO8.out (by have:=HGD.out;omega))
     have HRD8:=Lib.hid HD8.out.range
     have HNW:=Lib.hid (new_later w8 (.cells #[.int .i64 dk,.int .i64 dn,.slice dA dl dc] 53))
     have HC8:=Lib.hid (c3y_new w8 dk dn dA dl dc)
     go_wp2_with (first
      | (with_reducible refine wpList_load_mid rfl _ (.tmp 24) rfl gD 0 rfl [.int .i64 dk,.int .i64 dn,.slice dA dl dc] _ HRD8.out Tryd.underlying53 rfl HID.out ?_)
      | (refine wpList_store_arr rfl _ (.tmp 24) (.tmp 124) rfl gD 0 3 53 _ [.int .i64 4,.int .i64 0,.slice (some ⟨w8.heap.size,0,none⟩) 1 1] [.int .i64 dk,.int .i64 dn,.slice dA dl dc] rfl rfl rfl (HD8.out.later HNW.out) (show 0 + 3 ≤ 3 by omega) info_val (List.all_eq_true.mp (by rfl)) ?_;intro w9' f9 o9;rw [setAll_all [.int .i64 dk,.int .i64 dn,.slice dA dl dc] [.int .i64 4,.int .i64 0,.slice (some ⟨w8.heap.size,0,none⟩) 1 1] rfl] at f9;have HD9:=Lib.hid f9;have HO9:=Lib.hid o9;clear f9 o9))
     go_roundw
     case rel =>
      have hTs:gT < wr.heap.size:=HA.out.lt
      have hDs:gD < wr.heap.size:=HD.out.lt
      have hgn:=HGN.out
      have hs8:wr.heap.size ≤ w8.heap.size:=Nat.le_trans HBN.out.size HO8.out.bel.size
      have hF7:Foot (fun g => g ≠ gT ∧ g ≠ gD) (fun W => TyAt W y (.agg #[.int .i64 nk,.int .i64 ns,.int .i64 nq,.int .i64 ni,.slice nA nl nc])) w7:=HF.out.keep (fun _ h _ => h) (HBN.out.mono (Nat.zero_le _)) (fun g _ hl => HBN.out.block g hl)
      have hT7:=foot_listF (F:=fun g => g ≠ gT ∧ g ≠ gD) (g:=gn) ⟨by omega,by omega⟩ HAN.out hF7
      have hT8:=hT7.keep (fun _ h _ => h) (HO8.out.bel.mono (Nat.zero_le _)) (fun g h _ => HO8.out.2 g h.1)
      have hT9:=hT8.keep (fun _ h _ => h) (HNW.out.mono (Nat.zero_le _)) (fun g _ hl => HNW.out.block g hl)
      have hT:=hT9.keep (fun _ h _ => h) (HO9.out.bel.mono (Nat.zero_le _)) (fun g h _ => HO9.out.2 g h.2)
      have hG7:=HG.out.keep (fun _ h _ => h) (HBN.out.mono (Nat.zero_le _)) (fun g _ hl => HBN.out.block g hl)
      have hG8:=hG7.keep (fun _ h _ => h) (HO8.out.bel.mono (Nat.zero_le _)) (fun g h _ => HO8.out.2 g h.1)
      have hG9:=hG8.keep (fun _ h _ => h) (HNW.out.mono (Nat.zero_le _)) (fun g _ hl => HNW.out.block g hl)
      have hV9:=foot_vboxF (F:=fun g => g ≠ gT ∧ g ≠ gD) (g:=w8.heap.size) ⟨by omega,by omega⟩ HC8.out hG9
      have hV:=hV9.keep (fun _ h _ => h) (HO9.out.bel.mono (Nat.zero_le _)) (fun g h _ => HO9.out.2 g h.2)
      have hA9:=(HA8.out.later HNW.out).only HO9.out (by have:=HGD.out;omega)
      have hgD:=HGD.out
      exact ⟨i + 1,.node 2 0 0 0 [y],.node 4 0 [d],2,0,0,0,_,1,1,4,0,_,1,1,by omega,by go_num,hA9,HD9.out,hT,hV,by have:=HDN.out;simp [Tr.nodes,nodesL];omega,(((HB.out.trans (HBN.out.mono (by omega))).trans (HO8.out.bel.mono (Nat.le_refl _))).trans (HNW.out.mono (by omega))).trans (HO9.out.bel.mono (by omega))⟩
     case measure => simp [intOf];omega
    ·have hii:¬ (i:Int) < 21 + (r4:Int):=by omega
     obtain rfl:i = 21 + r4:=by omega
     have hby:=HB.out
     rw [← HGT.out] at hby
     have HBy:=Lib.hid hby
     have HMA1:=Lib.hid (HMA.out.later HBy.out)
     have HMT1:=Lib.hid (HMT.out.later HBy.out)
     have HPy:=Lib.hid (HPx.out.later HBy.out)
     have HXy:=Lib.hid (HXx.out.later HBy.out)
     have HKy:=Lib.hid (HKx.out.later HBy.out)
     have HBe:=Lib.hid (later HBr.out HBy.out)
     have HYT:=Lib.hid HF.out.now
     have HDT:=Lib.hid HG.out.now
     have HDM:Hid (d.nodes ≤ 100):=Lib.hid (by have:=HDN.out;have:=HR4.out;omega)
     clear hby HMA HMT HPx HXx HKx HBr HBy HF HG HRA HIA HID HDN HGT HGD hi
     go_upto_region 19 with (go_at_call 12;(with_reducible refine (HA4.out _).mono ?_);rintro e w6 ⟨rfl,hw6⟩;rw [hw6];clear hw6)
     clear HA4 hii hi0 hi30 hli hr40 hr44
     have hbt3:=hbt wr
     have HLN:Hid (Calls Tryd.prog 13 #[.agg #[.int .i64 0,.int .i64 0,.int .i64 0,.int .i64 0,.slice none 0 0]] wr (LNew 0 0 0 0 none 0 0 wr)):=Lib.hid (List_blk 0 0 0 0 none 0 0 wr)
     go_upto_region 20 with (first
      | (go_at_call 13;(with_reducible refine HLN.out.mono ?_);rintro e w16 ⟨gj,rfl,hgj,hAj,hbj⟩;have HBJ:=Lib.hid hbj;have HTJ:=Lib.hid (foot_listF (F:=fun _ => True) trivial hAj (fun W _ _ => ty_now 0 0 0 0 (by unfold i64r;omega) (by unfold i64r;omega) (by unfold i64r;omega) (by unfold i64r;omega) W)).now;clear hgj hAj hbj)
      | (refine wpList_store_arr rfl _ (.tmp 26) (.tmp 126) rfl w16.heap.size 0 5 31 _ [.int .i64 2,.int .i64 0,.int .i64 0,.int .i64 0,.slice (some ⟨gj,0,none⟩) 1 1] [.int .i64 0,.int .i64 0,.int .i64 0,.int .i64 0,.slice none 0 0] rfl rfl rfl (t5y_new w16 0 0 0 0 none 0 0) (show 0 + 5 ≤ 5 by omega) info_typesz (List.all_eq_true.mp (by rfl)) ?_;intro w17 f o;rw [setAll_all [.int .i64 0,.int .i64 0,.int .i64 0,.int .i64 0,.slice none 0 0] [.int .i64 2,.int .i64 0,.int .i64 0,.int .i64 0,.slice (some ⟨gj,0,none⟩) 1 1] rfl] at f;have HJ17:=Lib.hid f;have HL17:=Lib.hid ((new_later w16 (.cells #[.int .i64 0,.int .i64 0,.int .i64 0,.int .i64 0,.slice none 0 0] 31)).trans (o.bel.mono (Nat.le_refl _)));clear f o))
     have HBK:=Lib.hid (later HBJ.out HL17.out)
     have HJT:=Lib.hid (TyAt.later HL17.out HTJ.out)
     obtain ⟨gI,hgI⟩:∃ g,w16.heap.size = g:=⟨_,rfl⟩
     rw [hgI] at HJ17 ⊢
     have HMA2:=Lib.hid (HMA1.out.later HBK.out)
     have HMT2:=Lib.hid (HMT1.out.later HBK.out)
     have HP2:=Lib.hid (HPy.out.later HBK.out)
     have HX2:=Lib.hid (HXy.out.later HBK.out)
     have HK2:=Lib.hid (HKy.out.later HBK.out)
     have HA2:=Lib.hid (HA.out.later HBK.out)
     have HD2:=Lib.hid (HD.out.later HBK.out)
     have HYT2:=Lib.hid (TyAt.later HBK.out HYT.out)
     have HDT2:=Lib.hid (HDT.out.later HBK.out)
     have HBe2:=Lib.hid (later HBe.out HBK.out)
     obtain ⟨b1',hb1'⟩:∃ b,(pv P d y 24 0).1 = b:=⟨_,rfl⟩
     have HB1:=Lib.hid hb1'
     clear hbt hbt3 HBJ HL17 HTJ hgI HMA1 HMT1 HPy HXy HKy HA HD HYT HDT HBe HBK hb1' HLN
     refine vwreg20 (by kernel_rfl) _ _ g17 gM gT gD gI n cap M mc mv (some ⟨gd0,o,none⟩) mA 2 0 0 0 (some ⟨gj,0,none⟩) 1 1 nk ns nq ni nA nl nc dk dn dA dl dc (decide ((M:Int) ≤ 255)) b1' rfl rfl rfl rfl rfl rfl HX2.out.range HJ17.out.range HMA2.out.range HMA2.out HA2.out.range HD2.out.range HK2.out rfl
      (fun W hw => by have h:=valid_any P (.node 2 0 0 0 [.node 0 0 0 0 []]) (.node 4 0 (lvs M)) W _ _ _ (HP2.out.later hw) (TyAt.later hw HJT.out) (HMT2.out.later hw) (HK2.out.later hw);rwa [many_pv P M HML.out] at h)
      (fun W hw => by have h:=valid_any P y d W _ _ _ (HP2.out.later hw) (TyAt.later hw HYT2.out) (HDT2.out.later hw) (HK2.out.later hw);rwa [HB1.out] at h)
      (fun W hw => by have h:=rvalid_any P d y W mv (some ⟨gd0,o,none⟩) n cap _ _ (HP2.out.later hw) (TyAt.later hw HYT2.out) (HDT2.out.later hw) (by have:=HDM.out;omega);rwa [HB1.out] at h) ?_
     intro vs20 w20 hs hb a20 ha20
     simp only [vwD20,List.cons_append,List.nil_append,List.foldl_cons,List.foldl_nil,Act.put,List.setIfInBounds_toArray,List.set_cons_succ,List.set_cons_zero,hs] at ha20
     subst ha20
     have HEND:=Lib.hid (later HBe2.out hb)
     clear hs hb
     go_wp2_with fail
     go_ret
     exact ⟨rfl,HEND.out⟩
end Go.Proofs.YtkpoiljioadfgaaDoor
namespace Go.Proofs.YtkpoiljioadfgaaDoor
open Go.ChangeShapes Go.WideShapes Go.ChangeAt Go.RowKit Go.Deep
theorem Tryd.laidOut:laidOutB Tryd.prog = true:=by kernel_rfl
theorem rd_of_cells {w:World} {a:Addr} {xs:List Value} (h:∀ j u,xs[j]? = some u → w.cell? (a.add j) = some u):Rd w w.heap.size (some a) xs:=by
 cases xs with
 | nil => exact Rd.nil _ _ _
 | cons x xs =>
  have h0:w.cell? a = some x:=by have:=h 0 x rfl;simpa [Addr.add] using this
  have hlt:=World.block_lt_of_cell? w _ h0
  obtain ⟨b,o,s⟩:=a
  have hs:=World.cell?_spot h0
  simp at hs
  subst hs
  exact .inr ⟨b,o,rfl,hlt,fun j u hu => by
   have h2:=h j u hu
   have ha:(⟨b,o,none⟩:Addr).add j = ⟨b,o + j,none⟩:=by unfold Addr.add;split <;> simp_all
   rwa [ha] at h2⟩
section
variable {H:Type} {enc:TypeId × Value → H} {w:World} {sp:Nat → Bool} {d:DataW H} {p:List MemPlace} {A:Option Addr} {len cap:Nat}
end
end Go.Proofs.YtkpoiljioadfgaaDoor
namespace Go.Proofs.YtkpoiljioadfgaaDoor
open Go.ChangeShapes Go.WideShapes Go.ChangeAt Go.RowKit Go.Deep
theorem elems_at {H:Type} {enc:TypeId × Value → H} {P:Program} {w:World} {base:Nat} {sp:Nat → Bool} {held:Bool} {fuel c:Nat} {t e:TypeId} {cs:List Value} {x:DataW H × List MemPlace}
  (ht:P.underlying t = some (.slice e)) (hc:P.cellsOf e = c) (h0:0 < c) (h:DataW.trod enc P w base sp held fuel t cs = some x) :
  ∃ A len cap,cs = [.slice A len cap] ∧ len ≤ cap ∧ cap ≤ maxLen ∧ ∀ i,i < len → ∃ g o cs' y n,A = some ⟨g,o,none⟩ ∧ w.rangeAt g (o + i * c) cs' ∧ cs'.length = c ∧ fuel = n + 1 ∧ DataW.trod enc P w base sp held n e cs' = some y:=by
 rcases DataW.trod_slice ht h with ⟨rfl,_⟩ | ⟨a,len,cap,elems,rest,n,hf,rfl,_,_,hl,hm,hlen,hel,_,_⟩
 ·exact ⟨none,0,0,rfl,Nat.le_refl _,by simp [maxLen],fun i hi => absurd hi (by omega)⟩
 ·refine ⟨some a,len,cap,rfl,hl,hm,fun i hi => ?_⟩
  have h1:=hel i hi
  rw [List.getElem?_eq_getElem (by omega)] at h1
  obtain ⟨cs',h2,h3⟩:=Option.bind_eq_some_iff.1 h1
  rw [hc] at h2
  obtain ⟨_,h4,h5⟩:=World.cells?_some h2
  have hz:=hel 0 (by omega)
  rw [List.getElem?_eq_getElem (by omega)] at hz
  obtain ⟨cz,z2,_⟩:=Option.bind_eq_some_iff.1 hz
  rw [hc] at z2
  obtain ⟨_,z4,z5⟩:=World.cells?_some z2
  have z50:=z5 0 h0
  rw [Addr.add_add,List.getElem?_eq_getElem (by omega)] at z50
  have hs:=World.cell?_spot z50
  obtain ⟨b,o,s⟩:=a
  have hs:s = none:=by simpa [Addr.add] using hs
  subst hs
  refine ⟨b,o,cs',elems[i],n,rfl,fun j u hu => ?_,h4,hf,h3⟩
  have h6:=h5 j (by have:=(List.getElem?_eq_some_iff.1 hu).1;omega)
  rw [hu,Addr.add_add] at h6
  have ha:(⟨b,o,none⟩:Addr).add (i * c + j) = ⟨b,o + i * c + j,none⟩:=by unfold Addr.add;split <;> simp_all [Nat.add_assoc]
  rwa [ha] at h6
instance:Inhabited Tr:=⟨.node 0 0 []⟩
instance:Inhabited Ty:=⟨.node 0 0 0 0 []⟩
instance:Inhabited Ex:=⟨.node 0 0 0 0 0 0 0 0 (.node 0 0 0 0 []) [] []⟩
instance:Inhabited Sl:=⟨⟨0,0,0,⟨#[]⟩,.node 0 0 0 0 [],0,0⟩⟩
instance:Inhabited Df:=⟨⟨0,0,0,0,0,0,0,⟨#[]⟩,[],.node 0 0 0 0 [],default,0,[]⟩⟩
theorem KsAt.mk {w:World} {A:Option Addr}:∀ {xs:List Tr} {i:Nat},(∀ j x,xs[j]? = some x → ∃ g o cs,A = some ⟨g,o,none⟩ ∧ w.rangeAt g (o + (i + j) * 3) cs ∧ TrAt w x (.agg cs.toArray)) → KsAt w A i xs
 | [],i,_ => by unfold KsAt;trivial
 | x :: xs,i,h => by
  unfold KsAt
  refine ⟨by simpa using h 0 x rfl,KsAt.mk fun j y hy => ?_⟩
  have:=h (j + 1) y (by simpa using hy)
  rwa [show i + (j + 1) = i + 1 + j by omega] at this
theorem KtAt.mk {w:World} {A:Option Addr}:∀ {xs:List Ty} {i:Nat},(∀ j x,xs[j]? = some x → ∃ g o cs,A = some ⟨g,o,none⟩ ∧ w.rangeAt g (o + (i + j) * 5) cs ∧ TyAt w x (.agg cs.toArray)) → KtAt w A i xs
 | [],i,_ => by unfold KtAt;trivial
 | x :: xs,i,h => by
  unfold KtAt
  refine ⟨by simpa using h 0 x rfl,KtAt.mk fun j y hy => ?_⟩
  have:=h (j + 1) y (by simpa using hy)
  rwa [show i + (j + 1) = i + 1 + j by omega] at this
theorem map_get {α:Type} {n:Nat} {f:Nat → α} {j:Nat} {x:α} (h:((List.range n).map f)[j]? = some x):j < n ∧ x = f j:=by
 have hj:=(List.getElem?_eq_some_iff.1 h).1
 simp at hj
 simp [List.getElem?_range hj] at h
 exact ⟨hj,h.symm⟩
theorem ir_of {n:Int} (h:(Lit.int .i64 n).wf = true):i64r n:=by have:=bounds_i64 h;unfold i64r;omega
theorem Tryd.cVal:Tryd.prog.cellsOf 53 = 3:=by kernel_rfl
theorem Tryd.cVs:Tryd.prog.cellsOf 51 = 1:=by kernel_rfl
theorem Tryd.cTy:Tryd.prog.cellsOf 31 = 5:=by kernel_rfl
theorem Tryd.cId:Tryd.prog.cellsOf 28 = 3:=by kernel_rfl
theorem Tryd.cI:Tryd.prog.cellsOf 3 = 1:=by kernel_rfl
section
variable {H:Type} {enc:TypeId × Value → H} {w:World} {sp:Nat → Bool} {held:Bool} {base:Nat}
theorem fld {fs:Array Field} {xs:List (DataW H × List MemPlace)} {n:Nat} {cs:List Value} (hlen:xs.length = fs.size)
  (hf:∀ (i:Nat) (f:Field),fs[i]? = some f → DataW.trod enc Tryd.prog w base sp held n f.type ((cs.drop f.offset).take (Tryd.prog.cellsOf f.type)) = xs[i]?)
  (i:Nat) (T:TypeId) (o c:Nat) (h:∃ f,fs[i]? = some f ∧ f.type = T ∧ f.offset = o) (hc:Tryd.prog.cellsOf T = c):∃ y,DataW.trod enc Tryd.prog w base sp held n T ((cs.drop o).take c) = some y:=by
 obtain ⟨f,h1,rfl,rfl⟩:=h
 rw [← hc,hf i f h1]
 have hi:i < fs.size:=(Array.getElem?_eq_some_iff.1 h1).1
 exact ⟨_,List.getElem?_eq_getElem (by rw [hlen];exact hi)⟩
theorem seg (cs:List Value) (o c p:Nat) (h:o + c = p):cs.drop o = (cs.drop o).take c ++ cs.drop p:=by
 rw [← h,← List.drop_drop,List.take_append_drop]
theorem fld_int {n:Nat} {cs:List Value} {y:DataW H × List MemPlace} (h:DataW.trod enc Tryd.prog w base sp held n 3 cs = some y):∃ k,cs = [.int .i64 k] ∧ i64r k:=by
 obtain ⟨k,h1,_,h2⟩:=DataW.trod_int Tryd.underlying3 h
 exact ⟨k,h1,ir_of h2⟩
end
end Go.Proofs.YtkpoiljioadfgaaDoor
