import Derived.Test.YtmfihlcibephlaaDoorZ35
set_option linter.unusedVariables false
set_option linter.unusedSimpArgs false
namespace Go.Proofs.YtmfihlcibephlaaDoor
open Go.RowKit
structure LV (W w:World) (g g1 g2 gP gT1 gT2:Nat):Prop where
 p:W.rangeAt gP 0 [.slice none 0 0,.slice (some ⟨g,0,none⟩) 2 2]
 t1:W.rangeAt gT1 0 [.int .i64 3,.int .i64 0,.int .i64 1,.int .i64 1,.slice none 0 0]
 t2:W.rangeAt gT2 0 [.int .i64 3,.int .i64 0,.int .i64 1,.int .i64 2,.slice none 0 0]
 x:ExR W g g1 g2
 k:Kv W
 b:Below w.heap.size w W
theorem LV.later {W W' w:World} {g g1 g2 gP gT1 gT2:Nat} (h:LV W w g g1 g2 gP gT1 gT2) (hb:Below W.heap.size W W'):LV W' w g g1 g2 gP gT1 gT2:=⟨range_below h.p hb,range_below h.t1 hb,range_below h.t2 hb,h.x.later hb,h.k.later hb,h.b.trans (hb.mono h.b.size)⟩
theorem trv_one {w:World} {gk:Nat} {k n a:Int} (h:Arr w gk 3 53 [.int .i64 0,.int .i64 a,.slice none 0 0]) (hk:i64r k) (hn:i64r n) (ha:i64r a):TrAt w (.node k n [lf a]) (.agg #[.int .i64 k,.int .i64 n,.slice (some ⟨gk,0,none⟩) 1 1]):=by
 unfold TrAt
 refine ⟨some ⟨gk,0,none⟩,1,rfl,⟨Nat.le_refl _,by simp [maxLen],hk,hn⟩,?_⟩
 unfold KsAt
 exact ⟨⟨gk,0,_,rfl,by simpa using h.range,lf_node ha⟩,by unfold KsAt;trivial⟩
theorem trv_two {w:World} {gk:Nat} {k n a b:Int} (h:Arr w gk 6 53 [.int .i64 0,.int .i64 a,.slice none 0 0,.int .i64 0,.int .i64 b,.slice none 0 0]) (hk:i64r k) (hn:i64r n) (ha:i64r a) (hb:i64r b):TrAt w (.node k n [lf a,lf b]) (.agg #[.int .i64 k,.int .i64 n,.slice (some ⟨gk,0,none⟩) 2 2]):=by
 have hr:=h.range
 unfold TrAt
 refine ⟨some ⟨gk,0,none⟩,2,rfl,⟨Nat.le_refl _,by simp [maxLen],hk,hn⟩,?_⟩
 unfold KsAt
 refine ⟨⟨gk,0,_,rfl,by simpa using range_left (xs:=[.int .i64 0,.int .i64 a,.slice none 0 0]) (ys:=[.int .i64 0,.int .i64 b,.slice none 0 0]) hr,lf_node ha⟩,?_⟩
 unfold KsAt
 exact ⟨⟨gk,0,_,rfl,by simpa using range_right (xs:=[.int .i64 0,.int .i64 a,.slice none 0 0]) (ys:=[.int .i64 0,.int .i64 b,.slice none 0 0]) hr,lf_node hb⟩,by unfold KsAt;trivial⟩
theorem trv_wrap {w:World} {gk:Nat} {k n:Int} {x:Tr} {C:List Value} (h:Arr w gk 3 53 C) (hx:TrAt w x (.agg C.toArray)) (hk:i64r k) (hn:i64r n):TrAt w (.node k n [x]) (.agg #[.int .i64 k,.int .i64 n,.slice (some ⟨gk,0,none⟩) 1 1]):=by
 unfold TrAt
 refine ⟨some ⟨gk,0,none⟩,1,rfl,⟨Nat.le_refl _,by simp [maxLen],hk,hn⟩,?_⟩
 unfold KsAt
 exact ⟨⟨gk,0,_,rfl,by simpa using h.range,hx⟩,by unfold KsAt;trivial⟩
theorem lives_zero (x:Tr) (t:Ty) (er c:Int) (j:Int) (hz:∃ k,zr pEx 24 t 0 = (0,x,k)) (w:World) (g g1 g2:Nat) (hX:ExR w g g1 g2) (tv:Value) (ht:TyAt w t tv) (hK:Kv w) :
  Calls Tryd.prog 34 #[.agg #[.slice none 0 0,.slice (some ⟨g,0,none⟩) 2 2],tv] w (fun e w' => ∃ xk xn xA xl xc,e = .returned (.tuple #[.agg #[.int .i64 xk,.int .i64 xn,.slice xA xl xc],.int .i64 0]) ∧ TrAt w' x (.agg #[.int .i64 xk,.int .i64 xn,.slice xA xl xc]) ∧ Below w.heap.size w w'):=by
 obtain ⟨k,hz⟩:=hz
 refine (zero_any pEx t w tv _ hX.pr ht hK).mono ?_
 rintro e w' ⟨xk,xn,xA,xl,xc,rfl,h1,h2⟩
 rw [hz] at h1
 exact ⟨xk,xn,xA,xl,xc,by rw [hz],h1.at_,h2⟩
theorem enc_lives (W:World) (gk:Nat) (h:Arr W gk 3 53 [.int .i64 0,.int .i64 5,.slice none 0 0]):Calls Tryd.prog 38 #[.agg #[.int .i64 4,.int .i64 0,.slice (some ⟨gk,0,none⟩) 1 1]] W (fun e w' => ∃ gc cc,e = .returned (.slice (some ⟨gc,0,none⟩) 9 cc) ∧ OwnB w' W.heap.size (.slice (some ⟨gc,0,none⟩) 9 cc) [129,4,128,129,1,128,129,5,128] ∧ Below W.heap.size W w'):=by
 have ht:TrAt W fiE (.agg #[.int .i64 4,.int .i64 0,.slice (some ⟨gk,0,none⟩) 1 1]):=trv_one h (ir _ (by omega)) (ir _ (by omega)) (ir _ (by omega))
 refine (encode_any fiE W _ ht (by rw [ex_en];decide)).mono ?_
 rintro e w' ⟨v',rfl,ho,hb⟩
 rw [ex_en] at ho
 obtain ⟨gc,cc,rfl,_⟩:=ho.some_ (by decide)
 exact ⟨gc,cc,rfl,ho,hb⟩
theorem dec_lives (W:World) (B gc cc:Nat) (h:OwnB W B (.slice (some ⟨gc,0,none⟩) 9 cc) [129,4,128,129,1,128,129,5,128]):Calls Tryd.prog 40 #[.slice (some ⟨gc,0,none⟩) 9 cc] W (fun e w' => ∃ xA c',e = .returned (.tuple #[.agg #[.int .i64 4,.int .i64 0,.slice xA 1 c'],.int .i64 9,.int .i64 0]) ∧ Below W.heap.size W w'):=by
 obtain ⟨A,cap,hv,h1,h2⟩:=h.shape
 have hcap:9 ≤ cc ∧ cc ≤ maxLen:=by cases hv;exact ⟨h1,h2⟩
 refine (decode_any [129,4,128,129,1,128,129,5,128] (some ⟨gc,0,none⟩) 9 cc W rfl (by decide) hcap h.rd).mono ?_
 rintro e w' ⟨xk,xn,xA,xl,xc,rfl,ht,hb⟩
 have hd:=ex_dz
 rw [hd] at ht ⊢
 have ht:=ht.at_
 simp only [if_pos] at ht
 unfold fiE TrAt at ht
 obtain ⟨A',cap',hv',_⟩:=ht
 simp [c3] at hv'
 obtain ⟨rfl,rfl,rfl,rfl,rfl⟩:=hv'
 exact ⟨_,_,rfl,hb⟩
set_option maxHeartbeats 8000000 in
set_option maxRecDepth 100000 in
theorem lives_any (w:World) (hK:Kv w):Calls Tryd.prog 22 #[] w (BRes true w):=by
 have HEX:=Lib.hid (example_cells w)
 have HKV:=Lib.hid hK
 have HID1:Hid (∀ W,Calls Tryd.prog 15 #[.int .i64 1] W fun e w' => e = .returned (.agg #[.int .i64 0,.int .i64 1,.int .i64 1]) ∧ Below W.heap.size W w'):=Lib.hid fun W => ID_any 1 (by omega) W
 have HID2:Hid (∀ W,Calls Tryd.prog 15 #[.int .i64 2] W fun e w' => e = .returned (.agg #[.int .i64 0,.int .i64 1,.int .i64 2]) ∧ Below W.heap.size W w'):=Lib.hid fun W => ID_any 2 (by omega) W
 have HOF1:Hid (∀ W,Calls Tryd.prog 14 #[.agg #[.int .i64 0,.int .i64 1,.int .i64 1]] W fun e w' => e = .returned (.agg #[.int .i64 3,.int .i64 0,.int .i64 1,.int .i64 1,.slice none 0 0]) ∧ Below W.heap.size W w'):=Lib.hid fun W => Of_any 0 1 1 W
 have HOF2:Hid (∀ W,Calls Tryd.prog 14 #[.agg #[.int .i64 0,.int .i64 1,.int .i64 2]] W fun e w' => e = .returned (.agg #[.int .i64 3,.int .i64 0,.int .i64 1,.int .i64 2,.slice none 0 0]) ∧ Below W.heap.size W w'):=Lib.hid fun W => Of_any 0 1 2 W
 have HN1:Hid (∀ W,Calls Tryd.prog 27 #[.int .i64 1] W fun e w' => e = .returned (.agg #[.int .i64 0,.int .i64 1,.slice none 0 0]) ∧ Below W.heap.size W w'):=Lib.hid fun W => num_any 1 W
 have HNm2:Hid (∀ W,Calls Tryd.prog 27 #[.int .i64 (-2)] W fun e w' => e = .returned (.agg #[.int .i64 0,.int .i64 (-2),.slice none 0 0]) ∧ Below W.heap.size W w'):=Lib.hid fun W => num_any (-2) W
 have HN3:Hid (∀ W,Calls Tryd.prog 27 #[.int .i64 3] W fun e w' => e = .returned (.agg #[.int .i64 0,.int .i64 3,.slice none 0 0]) ∧ Below W.heap.size W w'):=Lib.hid fun W => num_any 3 W
 have HN0:Hid (∀ W,Calls Tryd.prog 27 #[.int .i64 0] W fun e w' => e = .returned (.agg #[.int .i64 0,.int .i64 0,.slice none 0 0]) ∧ Below W.heap.size W w'):=Lib.hid fun W => num_any 0 W
 have HN9:Hid (∀ W,Calls Tryd.prog 27 #[.int .i64 9] W fun e w' => e = .returned (.agg #[.int .i64 0,.int .i64 9,.slice none 0 0]) ∧ Below W.heap.size W w'):=Lib.hid fun W => num_any 9 W
 have HN5:Hid (∀ W,Calls Tryd.prog 27 #[.int .i64 5] W fun e w' => e = .returned (.agg #[.int .i64 0,.int .i64 5,.slice none 0 0]) ∧ Below W.heap.size W w'):=Lib.hid fun W => num_any 5 W
 have HN2:Hid (∀ W,Calls Tryd.prog 27 #[.int .i64 2] W fun e w' => e = .returned (.agg #[.int .i64 0,.int .i64 2,.slice none 0 0]) ∧ Below W.heap.size W w'):=Lib.hid fun W => num_any 2 W
 clear hK
 go_enter Tryd.func22,Tryd.ntmps22
 go_upto_region 1 with fail
 go_upto_region 2 with (first
  | (go_at_call 51;(with_reducible refine HEX.out.mono ?_);rintro e w1 ⟨g,g1,g2,rfl,hx,hb⟩;have HX1:=Lib.hid hx;have HB1:=Lib.hid hb;clear hx hb HEX)
  | (refine wpList_store_arr rfl _ (.tmp 1) (.tmp 22) rfl w1.heap.size 0 2 26 _ [.slice none 0 0,.slice (some ⟨g,0,none⟩) 2 2] [.slice none 0 0,.slice none 0 0] rfl rfl rfl (p2_new w1 _ _) (show 0 + 2 ≤ 2 by omega) info_prog (List.all_eq_true.mp (by rfl)) ?_;intro w2 f2 o2;rw [setAll_all [.slice none 0 0,.slice none 0 0] [.slice none 0 0,.slice (some ⟨g,0,none⟩) 2 2] rfl] at f2;have HP2:=Lib.hid f2.range;have HO2:=Lib.hid ((new_later w1 _).trans (o2.bel.mono (Nat.le_refl _)));clear f2 o2))
 have HX2:=Lib.hid (HX1.out.later HO2.out)
 have HB2:=Lib.hid (later HB1.out HO2.out)
 have HK2:=Lib.hid (HKV.out.later HB2.out)
 clear HX1 HB1 HO2 HKV
 generalize w1.heap.size = gP at HP2 ⊢
 go_upto_region 3 with (first
  | (go_at_call 15;(with_reducible refine (HID1.out _).mono ?_);rintro e w3 ⟨rfl,hb⟩;have HBw3:=Lib.hid hb;clear hb)
  | (go_at_call 14;(with_reducible refine (HOF1.out _).mono ?_);rintro e w4 ⟨rfl,hb⟩;have HBw4:=Lib.hid (later HBw3.out hb);clear hb)
  | (refine wpList_store_arr rfl _ (.tmp 2) (.tmp 24) rfl w4.heap.size 0 5 31 _ [.int .i64 3,.int .i64 0,.int .i64 1,.int .i64 1,.slice none 0 0] [.int .i64 0,.int .i64 0,.int .i64 0,.int .i64 0,.slice none 0 0] rfl rfl rfl (t5_new w4 0 0 0 0 none 0 0) (show 0 + 5 ≤ 5 by omega) info_typesz (List.all_eq_true.mp (by rfl)) ?_;intro w5 f o;rw [setAll_all [.int .i64 0,.int .i64 0,.int .i64 0,.int .i64 0,.slice none 0 0] [.int .i64 3,.int .i64 0,.int .i64 1,.int .i64 1,.slice none 0 0] rfl] at f;have HRw5:=Lib.hid f.range;have HOw5:=Lib.hid (later HBw4.out ((new_later w4 _).trans (o.bel.mono (Nat.le_refl _))));clear f o))
 have HX5:=Lib.hid (HX2.out.later HOw5.out)
 have HB5:=Lib.hid (later HB2.out HOw5.out)
 have HK5:=Lib.hid (HK2.out.later HOw5.out)
 have HP5:=Lib.hid (range_below HP2.out HOw5.out)
 clear HX2 HB2 HK2 HP2 HOw5 HBw3 HBw4
 generalize w4.heap.size = gT1 at HRw5 ⊢
 go_upto_region 4 with (first
  | (go_at_call 15;(with_reducible refine (HID2.out _).mono ?_);rintro e w6 ⟨rfl,hb⟩;have HBw6:=Lib.hid hb;clear hb)
  | (go_at_call 14;(with_reducible refine (HOF2.out _).mono ?_);rintro e w7 ⟨rfl,hb⟩;have HBw7:=Lib.hid (later HBw6.out hb);clear hb)
  | (refine wpList_store_arr rfl _ (.tmp 3) (.tmp 26) rfl w7.heap.size 0 5 31 _ [.int .i64 3,.int .i64 0,.int .i64 1,.int .i64 2,.slice none 0 0] [.int .i64 0,.int .i64 0,.int .i64 0,.int .i64 0,.slice none 0 0] rfl rfl rfl (t5_new w7 0 0 0 0 none 0 0) (show 0 + 5 ≤ 5 by omega) info_typesz (List.all_eq_true.mp (by rfl)) ?_;intro w8 f o;rw [setAll_all [.int .i64 0,.int .i64 0,.int .i64 0,.int .i64 0,.slice none 0 0] [.int .i64 3,.int .i64 0,.int .i64 1,.int .i64 2,.slice none 0 0] rfl] at f;have HRw8:=Lib.hid f.range;have HOw8:=Lib.hid (later HBw7.out ((new_later w7 _).trans (o.bel.mono (Nat.le_refl _))));clear f o))
 have HL8:Hid (LV w8 w g g1 g2 gP gT1 w7.heap.size):=Lib.hid ⟨range_below HP5.out HOw8.out,range_below HRw5.out HOw8.out,HRw8.out,HX5.out.later HOw8.out,HK5.out.later HOw8.out,later HB5.out HOw8.out⟩
 clear HX5 HB5 HK5 HP5 HOw8 HBw6 HBw7 HRw5 HRw8 HID1 HID2 HOF1 HOF2
 generalize w7.heap.size = gT2 at HL8 ⊢
 have HIP:Hid ((Tryd.prog.info? 26).map (·.size) = some ([.slice none 0 0,.slice (some ⟨g,0,none⟩) 2 2]:List Value).length):=Lib.hid info_prog
 have HIT:Hid ((Tryd.prog.info? 31).map (·.size) = some ([.int .i64 3,.int .i64 0,.int .i64 1,.int .i64 1,.slice none 0 0]:List Value).length):=Lib.hid info_typesz
 have HIT2:Hid ((Tryd.prog.info? 31).map (·.size) = some ([.int .i64 3,.int .i64 0,.int .i64 1,.int .i64 2,.slice none 0 0]:List Value).length):=Lib.hid info_typesz
 have HZ4:Hid (∀ W,LV W w g g1 g2 gP gT1 gT2 → Calls Tryd.prog 34 #[.agg #[.slice none 0 0,.slice (some ⟨g,0,none⟩) 2 2],.agg #[.int .i64 3,.int .i64 0,.int .i64 1,.int .i64 1,.slice none 0 0]] W (fun e w' => ∃ xk xn xA xl xc,e = .returned (.tuple #[.agg #[.int .i64 xk,.int .i64 xn,.slice xA xl xc],.int .i64 0]) ∧ TrAt w' (.node 2 0 [lf 0,lf 0]) (.agg #[.int .i64 xk,.int .i64 xn,.slice xA xl xc]) ∧ Below W.heap.size W w')):=Lib.hid fun W h => lives_zero (.node 2 0 [lf 0,lf 0]) (tD 0) 0 0 0 ⟨_,ex_zr1⟩ W g g1 g2 h.x _ (tD_at0 W) h.k
 have HGP4:=Lib.hid (HL8.out.p)
 have HGT4:=Lib.hid (HL8.out.t1)
 go_upto_region 5 with (first
  | (with_reducible refine wpList_load_mid rfl _ (.tmp 1) rfl gP 0 rfl [.slice none 0 0,.slice (some ⟨g,0,none⟩) 2 2] _ HGP4.out Tryd.underlying26 rfl HIP.out ?_)
  | (with_reducible refine wpList_load_mid rfl _ (.tmp 2) rfl gT1 0 rfl [.int .i64 3,.int .i64 0,.int .i64 1,.int .i64 1,.slice none 0 0] _ HGT4.out Tryd.underlying31 rfl HIT.out ?_)
  | (go_at_call 34;(with_reducible refine (HZ4.out _ HL8.out).mono ?_);rintro e w9 ⟨k4,n4,A4,l4,c4,rfl,htr,hb⟩;have HT4:=Lib.hid htr;have HB4:=Lib.hid hb;clear htr hb)
  | (refine wpList_store_arr rfl _ (.tmp 4) (.tmp 31) rfl w9.heap.size 0 3 53 _ [.int .i64 k4,.int .i64 n4,.slice A4 l4 c4] [.int .i64 0,.int .i64 0,.slice none 0 0] rfl rfl rfl (Arr.new' w9 _ _ 3 _ rfl rfl (by decide)) (show 0 + 3 ≤ 3 by omega) info_val (List.all_eq_true.mp (by rfl)) ?_;intro w10 f o;rw [setAll_all [.int .i64 0,.int .i64 0,.slice none 0 0] [.int .i64 k4,.int .i64 n4,.slice A4 l4 c4] rfl] at f;have HO:=Lib.hid ((new_later w9 (.cells #[.int .i64 0,.int .i64 0,.slice none 0 0] 53)).trans (o.bel.mono (Nat.le_refl _)));have HF:=Lib.hid f.range;clear f o))
 have HV4:Hid (VarAt w10 w9.heap.size (.node 2 0 [lf 0,lf 0]) [.int .i64 k4,.int .i64 n4,.slice A4 l4 c4]):=Lib.hid ⟨HF.out,rfl,HT4.out.later HO.out⟩
 have HBB4:=Lib.hid (later HB4.out HO.out)
 clear HF HT4 HO HZ4 HGP4 HGT4 HB4
 have HL14:=Lib.hid (HL8.out.later HBB4.out)
 clear HL8
 clear HBB4
 generalize w9.heap.size = q4 at HV4 ⊢
 generalize hC4:([.int .i64 k4,.int .i64 n4,.slice A4 l4 c4]:List Value) = CC4 at HV4
 clear hC4
 have HZ5:Hid (∀ W,LV W w g g1 g2 gP gT1 gT2 → Calls Tryd.prog 34 #[.agg #[.slice none 0 0,.slice (some ⟨g,0,none⟩) 2 2],.agg #[.int .i64 3,.int .i64 0,.int .i64 1,.int .i64 2,.slice none 0 0]] W (fun e w' => ∃ xk xn xA xl xc,e = .returned (.tuple #[.agg #[.int .i64 xk,.int .i64 xn,.slice xA xl xc],.int .i64 0]) ∧ TrAt w' (.node 3 0 [lf 0]) (.agg #[.int .i64 xk,.int .i64 xn,.slice xA xl xc]) ∧ Below W.heap.size W w')):=Lib.hid fun W h => lives_zero (.node 3 0 [lf 0]) (tD 1) 0 0 0 ⟨_,ex_zr2⟩ W g g1 g2 h.x _ (tD_at1 W) h.k
 have HGP5:=Lib.hid (HL14.out.p)
 have HGT5:=Lib.hid (HL14.out.t2)
 go_upto_region 6 with (first
  | (with_reducible refine wpList_load_mid rfl _ (.tmp 1) rfl gP 0 rfl [.slice none 0 0,.slice (some ⟨g,0,none⟩) 2 2] _ HGP5.out Tryd.underlying26 rfl HIP.out ?_)
  | (with_reducible refine wpList_load_mid rfl _ (.tmp 3) rfl gT2 0 rfl [.int .i64 3,.int .i64 0,.int .i64 1,.int .i64 2,.slice none 0 0] _ HGT5.out Tryd.underlying31 rfl HIT2.out ?_)
  | (go_at_call 34;(with_reducible refine (HZ5.out _ HL14.out).mono ?_);rintro e w11 ⟨k5,n5,A5,l5,c5,rfl,htr,hb⟩;have HT5:=Lib.hid htr;have HB5:=Lib.hid hb;clear htr hb)
  | (refine wpList_store_arr rfl _ (.tmp 6) (.tmp 37) rfl w11.heap.size 0 3 53 _ [.int .i64 k5,.int .i64 n5,.slice A5 l5 c5] [.int .i64 0,.int .i64 0,.slice none 0 0] rfl rfl rfl (Arr.new' w11 _ _ 3 _ rfl rfl (by decide)) (show 0 + 3 ≤ 3 by omega) info_val (List.all_eq_true.mp (by rfl)) ?_;intro w12 f o;rw [setAll_all [.int .i64 0,.int .i64 0,.slice none 0 0] [.int .i64 k5,.int .i64 n5,.slice A5 l5 c5] rfl] at f;have HO:=Lib.hid ((new_later w11 (.cells #[.int .i64 0,.int .i64 0,.slice none 0 0] 53)).trans (o.bel.mono (Nat.le_refl _)));have HF:=Lib.hid f.range;clear f o))
 have HV6:Hid (VarAt w12 w11.heap.size (.node 3 0 [lf 0]) [.int .i64 k5,.int .i64 n5,.slice A5 l5 c5]):=Lib.hid ⟨HF.out,rfl,HT5.out.later HO.out⟩
 have HBB5:=Lib.hid (later HB5.out HO.out)
 clear HF HT5 HO HZ5 HGP5 HGT5 HB5
 have HL15:=Lib.hid (HL14.out.later HBB5.out)
 have V4_15:=Lib.hid (HV4.out.later HBB5.out)
 clear HL14 HV4
 clear HBB5
 generalize w11.heap.size = q6 at HV6 ⊢
 generalize hC6:([.int .i64 k5,.int .i64 n5,.slice A5 l5 c5]:List Value) = CC6 at HV6
 clear hC6
 go_upto_region 7 with (first
  | (go_at_call 27;(with_reducible refine (HNm2.out _).mono ?_);rintro e wa1 ⟨rfl,hb⟩;have HBwa1:=Lib.hid (later HBwa0.out hb);clear hb)
  | (go_at_call 27;(with_reducible refine (HN1.out _).mono ?_);rintro e wa0 ⟨rfl,hb⟩;have HBwa0:=Lib.hid (hb);clear hb)
  | (refine wpList_store_arr rfl _ (.tmp 8) (.tmp 44) rfl (wa1.heap.size + 1 + 1) 0 3 53 _ [.int .i64 3,.int .i64 1,.slice (some ⟨wa1.heap.size + 1,0,none⟩) 1 1] [.int .i64 0,.int .i64 0,.slice none 0 0] rfl rfl rfl (by have h:=Arr.new' ((wa1.alloc (.cells #[.int .i64 0,.int .i64 1,.slice none 0 0,.int .i64 0,.int .i64 (-2),.slice none 0 0] 53)).alloc (.cells #[.int .i64 2,.int .i64 0,.slice (some ⟨wa1.heap.size,0,none⟩) 2 2] 53)) 53 #[.int .i64 0,.int .i64 0,.slice none 0 0] 3 [.int .i64 0,.int .i64 0,.slice none 0 0] rfl rfl (by decide);rw [World.size_alloc,World.size_alloc] at h;exact h) (show 0 + 3 ≤ 3 by omega) info_val (List.all_eq_true.mp (by rfl)) ?_;intro was f o;rw [setAll_all [.int .i64 0,.int .i64 0,.slice none 0 0] [.int .i64 3,.int .i64 1,.slice (some ⟨wa1.heap.size + 1,0,none⟩) 1 1] rfl] at f;have HF:=Lib.hid f;have HO:=Lib.hid o;clear f o))
 have a1:Arr was wa1.heap.size 6 53 [.int .i64 0,.int .i64 1,.slice none 0 0,.int .i64 0,.int .i64 (-2),.slice none 0 0]:=(((Arr.new' wa1 53 #[.int .i64 0,.int .i64 1,.slice none 0 0,.int .i64 0,.int .i64 (-2),.slice none 0 0] 6 [.int .i64 0,.int .i64 1,.slice none 0 0,.int .i64 0,.int .i64 (-2),.slice none 0 0] rfl rfl (by decide)).later (new_later (wa1.alloc (.cells #[.int .i64 0,.int .i64 1,.slice none 0 0,.int .i64 0,.int .i64 (-2),.slice none 0 0] 53)) (.cells #[.int .i64 2,.int .i64 0,.slice (some ⟨wa1.heap.size,0,none⟩) 2 2] 53))).later (new_later ((wa1.alloc (.cells #[.int .i64 0,.int .i64 1,.slice none 0 0,.int .i64 0,.int .i64 (-2),.slice none 0 0] 53)).alloc (.cells #[.int .i64 2,.int .i64 0,.slice (some ⟨wa1.heap.size,0,none⟩) 2 2] 53)) (.cells #[.int .i64 0,.int .i64 0,.slice none 0 0] 53))).only HO.out (by omega)
 have a2:Arr was (wa1.heap.size + 1) 3 53 [.int .i64 2,.int .i64 0,.slice (some ⟨wa1.heap.size,0,none⟩) 2 2]:=((by have h:=Arr.new' (wa1.alloc (.cells #[.int .i64 0,.int .i64 1,.slice none 0 0,.int .i64 0,.int .i64 (-2),.slice none 0 0] 53)) 53 #[.int .i64 2,.int .i64 0,.slice (some ⟨wa1.heap.size,0,none⟩) 2 2] 3 [.int .i64 2,.int .i64 0,.slice (some ⟨wa1.heap.size,0,none⟩) 2 2] rfl rfl (by decide);rw [World.size_alloc] at h;exact h:Arr ((wa1.alloc (.cells #[.int .i64 0,.int .i64 1,.slice none 0 0,.int .i64 0,.int .i64 (-2),.slice none 0 0] 53)).alloc (.cells #[.int .i64 2,.int .i64 0,.slice (some ⟨wa1.heap.size,0,none⟩) 2 2] 53)) (wa1.heap.size + 1) 3 53 [.int .i64 2,.int .i64 0,.slice (some ⟨wa1.heap.size,0,none⟩) 2 2]).later (new_later ((wa1.alloc (.cells #[.int .i64 0,.int .i64 1,.slice none 0 0,.int .i64 0,.int .i64 (-2),.slice none 0 0] 53)).alloc (.cells #[.int .i64 2,.int .i64 0,.slice (some ⟨wa1.heap.size,0,none⟩) 2 2] 53)) (.cells #[.int .i64 0,.int .i64 0,.slice none 0 0] 53))).only HO.out (by omega)
 have HV8:Hid (VarAt was (wa1.heap.size + 1 + 1) bxE [.int .i64 3,.int .i64 1,.slice (some ⟨wa1.heap.size + 1,0,none⟩) 1 1]):=Lib.hid ⟨HF.out.range,rfl,trv_wrap a2 (trv_two a1 (ir _ (by omega)) (ir _ (by omega)) (ir _ (by omega)) (ir _ (by omega))) (ir _ (by omega)) (ir _ (by omega))⟩
 have HBB6:=Lib.hid ((later (later (later HBwa1.out (new_later wa1 (.cells #[.int .i64 0,.int .i64 1,.slice none 0 0,.int .i64 0,.int .i64 (-2),.slice none 0 0] 53))) (new_later (wa1.alloc (.cells #[.int .i64 0,.int .i64 1,.slice none 0 0,.int .i64 0,.int .i64 (-2),.slice none 0 0] 53)) (.cells #[.int .i64 2,.int .i64 0,.slice (some ⟨wa1.heap.size,0,none⟩) 2 2] 53))) (new_later ((wa1.alloc (.cells #[.int .i64 0,.int .i64 1,.slice none 0 0,.int .i64 0,.int .i64 (-2),.slice none 0 0] 53)).alloc (.cells #[.int .i64 2,.int .i64 0,.slice (some ⟨wa1.heap.size,0,none⟩) 2 2] 53)) (.cells #[.int .i64 0,.int .i64 0,.slice none 0 0] 53))).trans (HO.out.bel.mono (by have:=HBwa1.out.size;omega)))
 clear HF HO a1 a2
 have HL16:=Lib.hid (HL15.out.later HBB6.out)
 have V4_16:=Lib.hid (V4_15.out.later HBB6.out)
 have V6_16:=Lib.hid (HV6.out.later HBB6.out)
 clear HL15 V4_15 HV6
 clear HBB6 HBwa0 HBwa1
 generalize hC8:([.int .i64 3,.int .i64 1,.slice (some ⟨wa1.heap.size + 1,0,none⟩) 1 1]:List Value) = CC8 at HV8
 clear hC8
 generalize (wa1.heap.size + 1 + 1) = q8 at HV8 ⊢
 go_upto_region 8 with (first
  | (go_at_call 27;(with_reducible refine (HN1.out _).mono ?_);rintro e wb0 ⟨rfl,hb⟩;have HBwb0:=Lib.hid (hb);clear hb)
  | (refine wpList_store_arr rfl _ (.tmp 9) (.tmp 47) rfl (wb0.heap.size + 1) 0 3 53 _ [.int .i64 3,.int .i64 1,.slice (some ⟨wb0.heap.size,0,none⟩) 1 1] [.int .i64 0,.int .i64 0,.slice none 0 0] rfl rfl rfl (by have h:=Arr.new' (wb0.alloc (.cells #[.int .i64 0,.int .i64 1,.slice none 0 0] 53)) 53 #[.int .i64 0,.int .i64 0,.slice none 0 0] 3 [.int .i64 0,.int .i64 0,.slice none 0 0] rfl rfl (by decide);rw [World.size_alloc] at h;exact h) (show 0 + 3 ≤ 3 by omega) info_val (List.all_eq_true.mp (by rfl)) ?_;intro wbs f o;rw [setAll_all [.int .i64 0,.int .i64 0,.slice none 0 0] [.int .i64 3,.int .i64 1,.slice (some ⟨wb0.heap.size,0,none⟩) 1 1] rfl] at f;have HF:=Lib.hid f;have HO:=Lib.hid o;clear f o))
 have a1:Arr wbs wb0.heap.size 3 53 [.int .i64 0,.int .i64 1,.slice none 0 0]:=(((Arr.new' wb0 53 #[.int .i64 0,.int .i64 1,.slice none 0 0] 3 [.int .i64 0,.int .i64 1,.slice none 0 0] rfl rfl (by decide))).later (new_later (wb0.alloc (.cells #[.int .i64 0,.int .i64 1,.slice none 0 0] 53)) (.cells #[.int .i64 0,.int .i64 0,.slice none 0 0] 53))).only HO.out (by omega)
 have HV9:Hid (VarAt wbs (wb0.heap.size + 1) wrE [.int .i64 3,.int .i64 1,.slice (some ⟨wb0.heap.size,0,none⟩) 1 1]):=Lib.hid ⟨HF.out.range,rfl,trv_one a1 (ir _ (by omega)) (ir _ (by omega)) (ir _ (by omega))⟩
 have HBB7:=Lib.hid ((later (later HBwb0.out (new_later wb0 (.cells #[.int .i64 0,.int .i64 1,.slice none 0 0] 53))) (new_later (wb0.alloc (.cells #[.int .i64 0,.int .i64 1,.slice none 0 0] 53)) (.cells #[.int .i64 0,.int .i64 0,.slice none 0 0] 53))).trans (HO.out.bel.mono (by have:=HBwb0.out.size;omega)))
 clear HF HO a1
 have HL17:=Lib.hid (HL16.out.later HBB7.out)
 have V4_17:=Lib.hid (V4_16.out.later HBB7.out)
 have V6_17:=Lib.hid (V6_16.out.later HBB7.out)
 have V8_17:=Lib.hid (HV8.out.later HBB7.out)
 clear HL16 V4_16 V6_16 HV8
 clear HBB7 HBwb0
 generalize hC9:([.int .i64 3,.int .i64 1,.slice (some ⟨wb0.heap.size,0,none⟩) 1 1]:List Value) = CC9 at HV9
 clear hC9
 generalize (wb0.heap.size + 1) = q9 at HV9 ⊢
 go_upto_region 9 with (first
  | (go_at_call 27;(with_reducible refine (HN0.out _).mono ?_);rintro e wc1 ⟨rfl,hb⟩;have HBwc1:=Lib.hid (later HBwc0.out hb);clear hb)
  | (go_at_call 27;(with_reducible refine (HN3.out _).mono ?_);rintro e wc0 ⟨rfl,hb⟩;have HBwc0:=Lib.hid (hb);clear hb)
  | (refine wpList_store_arr rfl _ (.tmp 10) (.tmp 51) rfl (wc1.heap.size + 1) 0 3 53 _ [.int .i64 4,.int .i64 0,.slice (some ⟨wc1.heap.size,0,none⟩) 2 2] [.int .i64 0,.int .i64 0,.slice none 0 0] rfl rfl rfl (by have h:=Arr.new' (wc1.alloc (.cells #[.int .i64 0,.int .i64 3,.slice none 0 0,.int .i64 0,.int .i64 0,.slice none 0 0] 53)) 53 #[.int .i64 0,.int .i64 0,.slice none 0 0] 3 [.int .i64 0,.int .i64 0,.slice none 0 0] rfl rfl (by decide);rw [World.size_alloc] at h;exact h) (show 0 + 3 ≤ 3 by omega) info_val (List.all_eq_true.mp (by rfl)) ?_;intro wcs f o;rw [setAll_all [.int .i64 0,.int .i64 0,.slice none 0 0] [.int .i64 4,.int .i64 0,.slice (some ⟨wc1.heap.size,0,none⟩) 2 2] rfl] at f;have HF:=Lib.hid f;have HO:=Lib.hid o;clear f o))
 have a1:Arr wcs wc1.heap.size 6 53 [.int .i64 0,.int .i64 3,.slice none 0 0,.int .i64 0,.int .i64 0,.slice none 0 0]:=(((Arr.new' wc1 53 #[.int .i64 0,.int .i64 3,.slice none 0 0,.int .i64 0,.int .i64 0,.slice none 0 0] 6 [.int .i64 0,.int .i64 3,.slice none 0 0,.int .i64 0,.int .i64 0,.slice none 0 0] rfl rfl (by decide))).later (new_later (wc1.alloc (.cells #[.int .i64 0,.int .i64 3,.slice none 0 0,.int .i64 0,.int .i64 0,.slice none 0 0] 53)) (.cells #[.int .i64 0,.int .i64 0,.slice none 0 0] 53))).only HO.out (by omega)
 have HV10:Hid (VarAt wcs (wc1.heap.size + 1) liE [.int .i64 4,.int .i64 0,.slice (some ⟨wc1.heap.size,0,none⟩) 2 2]):=Lib.hid ⟨HF.out.range,rfl,trv_two a1 (ir _ (by omega)) (ir _ (by omega)) (ir _ (by omega)) (ir _ (by omega))⟩
 have HBB8:=Lib.hid ((later (later HBwc1.out (new_later wc1 (.cells #[.int .i64 0,.int .i64 3,.slice none 0 0,.int .i64 0,.int .i64 0,.slice none 0 0] 53))) (new_later (wc1.alloc (.cells #[.int .i64 0,.int .i64 3,.slice none 0 0,.int .i64 0,.int .i64 0,.slice none 0 0] 53)) (.cells #[.int .i64 0,.int .i64 0,.slice none 0 0] 53))).trans (HO.out.bel.mono (by have:=HBwc1.out.size;omega)))
 clear HF HO a1
 have HL18:=Lib.hid (HL17.out.later HBB8.out)
 have V4_18:=Lib.hid (V4_17.out.later HBB8.out)
 have V6_18:=Lib.hid (V6_17.out.later HBB8.out)
 have V8_18:=Lib.hid (V8_17.out.later HBB8.out)
 have V9_18:=Lib.hid (HV9.out.later HBB8.out)
 clear HL17 V4_17 V6_17 V8_17 HV9
 clear HBB8 HBwc0 HBwc1
 generalize hC10:([.int .i64 4,.int .i64 0,.slice (some ⟨wc1.heap.size,0,none⟩) 2 2]:List Value) = CC10 at HV10
 clear hC10
 generalize (wc1.heap.size + 1) = q10 at HV10 ⊢
 go_upto_region 10 with (first
  | (go_at_call 27;(with_reducible refine (HN9.out _).mono ?_);rintro e wd0 ⟨rfl,hb⟩;have HBwd0:=Lib.hid (hb);clear hb)
  | (refine wpList_store_arr rfl _ (.tmp 11) (.tmp 54) rfl (wd0.heap.size + 1) 0 3 53 _ [.int .i64 4,.int .i64 0,.slice (some ⟨wd0.heap.size,0,none⟩) 1 1] [.int .i64 0,.int .i64 0,.slice none 0 0] rfl rfl rfl (by have h:=Arr.new' (wd0.alloc (.cells #[.int .i64 0,.int .i64 9,.slice none 0 0] 53)) 53 #[.int .i64 0,.int .i64 0,.slice none 0 0] 3 [.int .i64 0,.int .i64 0,.slice none 0 0] rfl rfl (by decide);rw [World.size_alloc] at h;exact h) (show 0 + 3 ≤ 3 by omega) info_val (List.all_eq_true.mp (by rfl)) ?_;intro wds f o;rw [setAll_all [.int .i64 0,.int .i64 0,.slice none 0 0] [.int .i64 4,.int .i64 0,.slice (some ⟨wd0.heap.size,0,none⟩) 1 1] rfl] at f;have HF:=Lib.hid f;have HO:=Lib.hid o;clear f o))
 have a1:Arr wds wd0.heap.size 3 53 [.int .i64 0,.int .i64 9,.slice none 0 0]:=(((Arr.new' wd0 53 #[.int .i64 0,.int .i64 9,.slice none 0 0] 3 [.int .i64 0,.int .i64 9,.slice none 0 0] rfl rfl (by decide))).later (new_later (wd0.alloc (.cells #[.int .i64 0,.int .i64 9,.slice none 0 0] 53)) (.cells #[.int .i64 0,.int .i64 0,.slice none 0 0] 53))).only HO.out (by omega)
 have HV11:Hid (VarAt wds (wd0.heap.size + 1) niE [.int .i64 4,.int .i64 0,.slice (some ⟨wd0.heap.size,0,none⟩) 1 1]):=Lib.hid ⟨HF.out.range,rfl,trv_one a1 (ir _ (by omega)) (ir _ (by omega)) (ir _ (by omega))⟩
 have HBB9:=Lib.hid ((later (later HBwd0.out (new_later wd0 (.cells #[.int .i64 0,.int .i64 9,.slice none 0 0] 53))) (new_later (wd0.alloc (.cells #[.int .i64 0,.int .i64 9,.slice none 0 0] 53)) (.cells #[.int .i64 0,.int .i64 0,.slice none 0 0] 53))).trans (HO.out.bel.mono (by have:=HBwd0.out.size;omega)))
 clear HF HO a1
 have HL19:=Lib.hid (HL18.out.later HBB9.out)
 have V4_19:=Lib.hid (V4_18.out.later HBB9.out)
 have V6_19:=Lib.hid (V6_18.out.later HBB9.out)
 have V8_19:=Lib.hid (V8_18.out.later HBB9.out)
 have V9_19:=Lib.hid (V9_18.out.later HBB9.out)
 have V10_19:=Lib.hid (HV10.out.later HBB9.out)
 clear HL18 V4_18 V6_18 V8_18 V9_18 HV10
 clear HBB9 HBwd0
 generalize hC11:([.int .i64 4,.int .i64 0,.slice (some ⟨wd0.heap.size,0,none⟩) 1 1]:List Value) = CC11 at HV11
 clear hC11
 generalize (wd0.heap.size + 1) = q11 at HV11 ⊢
 go_upto_region 11 with (first
  | (go_at_call 27;(with_reducible refine (HN1.out _).mono ?_);rintro e we1 ⟨rfl,hb⟩;have HBwe1:=Lib.hid (later HBwe0.out hb);clear hb)
  | (go_at_call 27;(with_reducible refine (HN1.out _).mono ?_);rintro e we0 ⟨rfl,hb⟩;have HBwe0:=Lib.hid (hb);clear hb)
  | (refine wpList_store_arr rfl _ (.tmp 12) (.tmp 58) rfl (we1.heap.size + 1) 0 3 53 _ [.int .i64 4,.int .i64 0,.slice (some ⟨we1.heap.size,0,none⟩) 2 2] [.int .i64 0,.int .i64 0,.slice none 0 0] rfl rfl rfl (by have h:=Arr.new' (we1.alloc (.cells #[.int .i64 0,.int .i64 1,.slice none 0 0,.int .i64 0,.int .i64 1,.slice none 0 0] 53)) 53 #[.int .i64 0,.int .i64 0,.slice none 0 0] 3 [.int .i64 0,.int .i64 0,.slice none 0 0] rfl rfl (by decide);rw [World.size_alloc] at h;exact h) (show 0 + 3 ≤ 3 by omega) info_val (List.all_eq_true.mp (by rfl)) ?_;intro wes f o;rw [setAll_all [.int .i64 0,.int .i64 0,.slice none 0 0] [.int .i64 4,.int .i64 0,.slice (some ⟨we1.heap.size,0,none⟩) 2 2] rfl] at f;have HF:=Lib.hid f;have HO:=Lib.hid o;clear f o))
 have a1:Arr wes we1.heap.size 6 53 [.int .i64 0,.int .i64 1,.slice none 0 0,.int .i64 0,.int .i64 1,.slice none 0 0]:=(((Arr.new' we1 53 #[.int .i64 0,.int .i64 1,.slice none 0 0,.int .i64 0,.int .i64 1,.slice none 0 0] 6 [.int .i64 0,.int .i64 1,.slice none 0 0,.int .i64 0,.int .i64 1,.slice none 0 0] rfl rfl (by decide))).later (new_later (we1.alloc (.cells #[.int .i64 0,.int .i64 1,.slice none 0 0,.int .i64 0,.int .i64 1,.slice none 0 0] 53)) (.cells #[.int .i64 0,.int .i64 0,.slice none 0 0] 53))).only HO.out (by omega)
 have HV12:Hid (VarAt wes (we1.heap.size + 1) onE [.int .i64 4,.int .i64 0,.slice (some ⟨we1.heap.size,0,none⟩) 2 2]):=Lib.hid ⟨HF.out.range,rfl,trv_two a1 (ir _ (by omega)) (ir _ (by omega)) (ir _ (by omega)) (ir _ (by omega))⟩
 have HBB10:=Lib.hid ((later (later HBwe1.out (new_later we1 (.cells #[.int .i64 0,.int .i64 1,.slice none 0 0,.int .i64 0,.int .i64 1,.slice none 0 0] 53))) (new_later (we1.alloc (.cells #[.int .i64 0,.int .i64 1,.slice none 0 0,.int .i64 0,.int .i64 1,.slice none 0 0] 53)) (.cells #[.int .i64 0,.int .i64 0,.slice none 0 0] 53))).trans (HO.out.bel.mono (by have:=HBwe1.out.size;omega)))
 clear HF HO a1
 have HL20:=Lib.hid (HL19.out.later HBB10.out)
 have V4_20:=Lib.hid (V4_19.out.later HBB10.out)
 have V6_20:=Lib.hid (V6_19.out.later HBB10.out)
 have V8_20:=Lib.hid (V8_19.out.later HBB10.out)
 have V9_20:=Lib.hid (V9_19.out.later HBB10.out)
 have V10_20:=Lib.hid (V10_19.out.later HBB10.out)
 have V11_20:=Lib.hid (HV11.out.later HBB10.out)
 clear HL19 V4_19 V6_19 V8_19 V9_19 V10_19 HV11
 clear HBB10 HBwe0 HBwe1
 generalize hC12:([.int .i64 4,.int .i64 0,.slice (some ⟨we1.heap.size,0,none⟩) 2 2]:List Value) = CC12 at HV12
 clear hC12
 generalize (we1.heap.size + 1) = q12 at HV12 ⊢
 go_upto_region 12 with (first
  | (go_at_call 27;(with_reducible refine (HN0.out _).mono ?_);rintro e wf1 ⟨rfl,hb⟩;have HBwf1:=Lib.hid (later HBwf0.out hb);clear hb)
  | (go_at_call 27;(with_reducible refine (HN0.out _).mono ?_);rintro e wf0 ⟨rfl,hb⟩;have HBwf0:=Lib.hid (hb);clear hb)
  | (refine wpList_store_arr rfl _ (.tmp 13) (.tmp 62) rfl (wf1.heap.size + 1) 0 3 53 _ [.int .i64 2,.int .i64 0,.slice (some ⟨wf1.heap.size,0,none⟩) 2 2] [.int .i64 0,.int .i64 0,.slice none 0 0] rfl rfl rfl (by have h:=Arr.new' (wf1.alloc (.cells #[.int .i64 0,.int .i64 0,.slice none 0 0,.int .i64 0,.int .i64 0,.slice none 0 0] 53)) 53 #[.int .i64 0,.int .i64 0,.slice none 0 0] 3 [.int .i64 0,.int .i64 0,.slice none 0 0] rfl rfl (by decide);rw [World.size_alloc] at h;exact h) (show 0 + 3 ≤ 3 by omega) info_val (List.all_eq_true.mp (by rfl)) ?_;intro wfs f o;rw [setAll_all [.int .i64 0,.int .i64 0,.slice none 0 0] [.int .i64 2,.int .i64 0,.slice (some ⟨wf1.heap.size,0,none⟩) 2 2] rfl] at f;have HF:=Lib.hid f;have HO:=Lib.hid o;clear f o))
 have a1:Arr wfs wf1.heap.size 6 53 [.int .i64 0,.int .i64 0,.slice none 0 0,.int .i64 0,.int .i64 0,.slice none 0 0]:=(((Arr.new' wf1 53 #[.int .i64 0,.int .i64 0,.slice none 0 0,.int .i64 0,.int .i64 0,.slice none 0 0] 6 [.int .i64 0,.int .i64 0,.slice none 0 0,.int .i64 0,.int .i64 0,.slice none 0 0] rfl rfl (by decide))).later (new_later (wf1.alloc (.cells #[.int .i64 0,.int .i64 0,.slice none 0 0,.int .i64 0,.int .i64 0,.slice none 0 0] 53)) (.cells #[.int .i64 0,.int .i64 0,.slice none 0 0] 53))).only HO.out (by omega)
 have HV13:Hid (VarAt wfs (wf1.heap.size + 1) (.node 2 0 [lf 0,lf 0]) [.int .i64 2,.int .i64 0,.slice (some ⟨wf1.heap.size,0,none⟩) 2 2]):=Lib.hid ⟨HF.out.range,rfl,trv_two a1 (ir _ (by omega)) (ir _ (by omega)) (ir _ (by omega)) (ir _ (by omega))⟩
 have HBB11:=Lib.hid ((later (later HBwf1.out (new_later wf1 (.cells #[.int .i64 0,.int .i64 0,.slice none 0 0,.int .i64 0,.int .i64 0,.slice none 0 0] 53))) (new_later (wf1.alloc (.cells #[.int .i64 0,.int .i64 0,.slice none 0 0,.int .i64 0,.int .i64 0,.slice none 0 0] 53)) (.cells #[.int .i64 0,.int .i64 0,.slice none 0 0] 53))).trans (HO.out.bel.mono (by have:=HBwf1.out.size;omega)))
 clear HF HO a1
 have HL21:=Lib.hid (HL20.out.later HBB11.out)
 have V4_21:=Lib.hid (V4_20.out.later HBB11.out)
 have V6_21:=Lib.hid (V6_20.out.later HBB11.out)
 have V8_21:=Lib.hid (V8_20.out.later HBB11.out)
 have V9_21:=Lib.hid (V9_20.out.later HBB11.out)
 have V10_21:=Lib.hid (V10_20.out.later HBB11.out)
 have V11_21:=Lib.hid (V11_20.out.later HBB11.out)
 have V12_21:=Lib.hid (HV12.out.later HBB11.out)
 clear HL20 V4_20 V6_20 V8_20 V9_20 V10_20 V11_20 HV12
 clear HBB11 HBwf0 HBwf1
 generalize hC13:([.int .i64 2,.int .i64 0,.slice (some ⟨wf1.heap.size,0,none⟩) 2 2]:List Value) = CC13 at HV13
 clear hC13
 generalize (wf1.heap.size + 1) = q13 at HV13 ⊢
 have HENC:=Lib.hid enc_lives
 have HDEC:=Lib.hid dec_lives
 go_upto_region 13 with (first
  | (go_at_call 27;(with_reducible refine (HN5.out _).mono ?_);rintro e wg0 ⟨rfl,hb⟩;have HBwg0:=Lib.hid hb;clear hb)
  | (go_at_call 38;(with_reducible refine (HENC.out _ wg0.heap.size (Arr.new' wg0 53 #[.int .i64 0,.int .i64 5,.slice none 0 0] 3 [.int .i64 0,.int .i64 5,.slice none 0 0] rfl rfl (by decide))).mono ?_);rintro e wg1 ⟨gc,cc,rfl,ho,hb⟩;have HE1:=Lib.hid ho;have HBwg1:=Lib.hid (later (later HBwg0.out (new_later wg0 _)) hb);clear ho hb))
 have HL40:=Lib.hid (HL21.out.later HBwg1.out)
 have V4_40:=Lib.hid (V4_21.out.later HBwg1.out)
 have V6_40:=Lib.hid (V6_21.out.later HBwg1.out)
 have V8_40:=Lib.hid (V8_21.out.later HBwg1.out)
 have V9_40:=Lib.hid (V9_21.out.later HBwg1.out)
 have V10_40:=Lib.hid (V10_21.out.later HBwg1.out)
 have V11_40:=Lib.hid (V11_21.out.later HBwg1.out)
 have V12_40:=Lib.hid (V12_21.out.later HBwg1.out)
 have V13_40:=Lib.hid (HV13.out.later HBwg1.out)
 clear HL21 V4_21 V6_21 V8_21 V9_21 V10_21 V11_21 V12_21 HV13
 clear HBwg0 HBwg1 HENC
 go_upto_region 14 with (first
  | (go_at_call 40;(with_reducible refine (HDEC.out _ _ gc cc HE1.out).mono ?_);rintro e wg2 ⟨xA,cq,rfl,hb⟩;have HE2:=Lib.hid (HE1.out.below hb);have HBwg2:=Lib.hid hb;clear hb)
  | (refine wpList_store_arr rfl _ (.tmp 15) (.tmp 70) rfl wg2.heap.size 0 3 53 _ [.int .i64 4,.int .i64 0,.slice xA 1 cq] [.int .i64 0,.int .i64 0,.slice none 0 0] rfl rfl rfl (Arr.new' wg2 _ _ 3 _ rfl rfl (by decide)) (show 0 + 3 ≤ 3 by omega) info_val (List.all_eq_true.mp (by rfl)) ?_;intro wg3 f o;rw [setAll_all [.int .i64 0,.int .i64 0,.slice none 0 0] [.int .i64 4,.int .i64 0,.slice xA 1 cq] rfl] at f;have HF:=Lib.hid f;have HO:=Lib.hid ((new_later wg2 (.cells #[.int .i64 0,.int .i64 0,.slice none 0 0] 53)).trans (o.bel.mono (Nat.le_refl _)));clear f o))
 have HE3:=Lib.hid (HE2.out.below HO.out)
 have HBB:=Lib.hid (later HBwg2.out HO.out)
 have HL41:=Lib.hid (HL40.out.later HBB.out)
 have V4_41:=Lib.hid (V4_40.out.later HBB.out)
 have V6_41:=Lib.hid (V6_40.out.later HBB.out)
 have V8_41:=Lib.hid (V8_40.out.later HBB.out)
 have V9_41:=Lib.hid (V9_40.out.later HBB.out)
 have V10_41:=Lib.hid (V10_40.out.later HBB.out)
 have V11_41:=Lib.hid (V11_40.out.later HBB.out)
 have V12_41:=Lib.hid (V12_40.out.later HBB.out)
 have V13_41:=Lib.hid (V13_40.out.later HBB.out)
 clear HL40 V4_40 V6_40 V8_40 V9_40 V10_40 V11_40 V12_40 V13_40
 clear HBwg2 HO HE1 HE2 HDEC HBB
 generalize wg2.heap.size = q15 at HF ⊢
 obtain ⟨S9,hS9⟩:∃ S9,mkS [129,4,128,129,1,128,129,5,128] = S9:=⟨_,rfl⟩
 have hcv1:(convert 69 9 (.slice (some ⟨gc,0,none⟩) 9 cc)).run Tryd.prog wg3 = .ok (.string S9) wg3:=by
  rw [← hS9];exact run_conv wg3.heap.size 9 cc (some ⟨gc,0,none⟩) [129,4,128,129,1,128,129,5,128] wg3 rfl HE3.out.rd
 have hcv2:(convert 69 9 (.slice (some ⟨wg3.heap.size,0,none⟩) 9 9)).run Tryd.prog (wg3.alloc (.cells #[.int .u8 129,.int .u8 4,.int .u8 128,.int .u8 129,.int .u8 1,.int .u8 128,.int .u8 129,.int .u8 5,.int .u8 128] 5)) = .ok (.string S9) (wg3.alloc (.cells #[.int .u8 129,.int .u8 4,.int .u8 128,.int .u8 129,.int .u8 1,.int .u8 128,.int .u8 129,.int .u8 5,.int .u8 128] 5)):=by
  rw [← hS9]
  have ha:Arr (wg3.alloc (.cells #[.int .u8 129,.int .u8 4,.int .u8 128,.int .u8 129,.int .u8 1,.int .u8 128,.int .u8 129,.int .u8 5,.int .u8 128] 5)) wg3.heap.size 9 5 (bs [129,4,128,129,1,128,129,5,128]):=Arr.new' wg3 _ _ 9 _ rfl rfl (by decide)
  exact run_conv (wg3.heap.size + 1) 9 9 (some ⟨wg3.heap.size,0,none⟩) [129,4,128,129,1,128,129,5,128] _ rfl (.inr ⟨wg3.heap.size,0,rfl,by omega,ha.range⟩)
 have HBN:Hid (Below wg3.heap.size wg3 (wg3.alloc (.cells #[.int .u8 129,.int .u8 4,.int .u8 128,.int .u8 129,.int .u8 1,.int .u8 128,.int .u8 129,.int .u8 5,.int .u8 128] 5))):=Lib.hid (new_later wg3 _)
 have c15:(wg3.alloc (.cells #[.int .u8 129,.int .u8 4,.int .u8 128,.int .u8 129,.int .u8 1,.int .u8 128,.int .u8 129,.int .u8 5,.int .u8 128] 5)).cell? ⟨q15,2,none⟩ = some (.slice xA 1 cq):=(HF.out.later HBN.out).cell (j:=2) rfl
 clear hS9
 go_upto_region 16 with fail
 have HL42:=Lib.hid (HL41.out.later HBN.out)
 have V4_42:=Lib.hid (V4_41.out.later HBN.out)
 have V6_42:=Lib.hid (V6_41.out.later HBN.out)
 have V8_42:=Lib.hid (V8_41.out.later HBN.out)
 have V9_42:=Lib.hid (V9_41.out.later HBN.out)
 have V10_42:=Lib.hid (V10_41.out.later HBN.out)
 have V11_42:=Lib.hid (V11_41.out.later HBN.out)
 have V12_42:=Lib.hid (V12_41.out.later HBN.out)
 have V13_42:=Lib.hid (V13_41.out.later HBN.out)
 clear HL41 V4_41 V6_41 V8_41 V9_41 V10_41 V11_41 V12_41 V13_41
 clear HBN HF HE3 hcv1 hcv2 c15
 refine regl16 (by kernel_rfl) _ _ g g1 g2 gP rfl rfl HL42.out.p HL42.out.x ?_
 intro vs16 w16 gd hh c2 h18 h19 hgd hA16 hb16 a16 ha16
 simp only [Dl16,List.cons_append,List.nil_append,List.foldl_cons,List.foldl_nil,Act.put,List.setIfInBounds_toArray,List.set_cons_succ,List.set_cons_zero,h18,h19] at ha16
 subst ha16
 have HD16:=Lib.hid hA16
 have HB16:=Lib.hid hb16
 clear h18 h19 hgd hA16 hb16
 have HL43:=Lib.hid (HL42.out.later HB16.out)
 have V4_43:=Lib.hid (V4_42.out.later HB16.out)
 have V6_43:=Lib.hid (V6_42.out.later HB16.out)
 have V8_43:=Lib.hid (V8_42.out.later HB16.out)
 have V9_43:=Lib.hid (V9_42.out.later HB16.out)
 have V10_43:=Lib.hid (V10_42.out.later HB16.out)
 have V11_43:=Lib.hid (V11_42.out.later HB16.out)
 have V12_43:=Lib.hid (V12_42.out.later HB16.out)
 have V13_43:=Lib.hid (V13_42.out.later HB16.out)
 clear HL42 V4_42 V6_42 V8_42 V9_42 V10_42 V11_42 V12_42 V13_42
 clear HB16
 go_upto_region 17 with fail
 refine regl17 (by kernel_rfl) _ _ g g1 g2 gP gT1 gT2 rfl rfl rfl rfl HL43.out.p HL43.out.t1 HL43.out.t2 HL43.out.x ?_
 intro vs17 w17 h20 hb17 a17 ha17
 simp only [Dl17,List.cons_append,List.nil_append,List.foldl_cons,List.foldl_nil,Act.put,List.setIfInBounds_toArray,List.set_cons_succ,List.set_cons_zero,h20] at ha17
 subst ha17
 have HB17:=Lib.hid hb17
 have HD17:=Lib.hid (HD16.out.later hb17)
 clear h20 hb17 HD16
 have HL44:=Lib.hid (HL43.out.later HB17.out)
 have V4_44:=Lib.hid (V4_43.out.later HB17.out)
 have V6_44:=Lib.hid (V6_43.out.later HB17.out)
 have V8_44:=Lib.hid (V8_43.out.later HB17.out)
 have V9_44:=Lib.hid (V9_43.out.later HB17.out)
 have V10_44:=Lib.hid (V10_43.out.later HB17.out)
 have V11_44:=Lib.hid (V11_43.out.later HB17.out)
 have V12_44:=Lib.hid (V12_43.out.later HB17.out)
 have V13_44:=Lib.hid (V13_43.out.later HB17.out)
 clear HL43 V4_43 V6_43 V8_43 V9_43 V10_43 V11_43 V12_43 V13_43
 clear HB17
 go_upto_region 18 with fail
 refine regl18 (by kernel_rfl) _ _ q11 q12 CC11 CC12 rfl rfl rfl V11_44.out V12_44.out ?_
 intro vs18 wc3 h21 hb18 a18 ha18
 simp only [Dl18,List.cons_append,List.nil_append,List.foldl_cons,List.foldl_nil,Act.put,List.setIfInBounds_toArray,List.set_cons_succ,List.set_cons_zero,h21] at ha18
 subst ha18
 have HBc3:=Lib.hid hb18
 clear h21 hb18
 have HD19:=Lib.hid (HD17.out.later HBc3.out)
 have HL45:=Lib.hid (HL44.out.later HBc3.out)
 have V4_45:=Lib.hid (V4_44.out.later HBc3.out)
 have V6_45:=Lib.hid (V6_44.out.later HBc3.out)
 have V8_45:=Lib.hid (V8_44.out.later HBc3.out)
 have V9_45:=Lib.hid (V9_44.out.later HBc3.out)
 have V10_45:=Lib.hid (V10_44.out.later HBc3.out)
 have V11_45:=Lib.hid (V11_44.out.later HBc3.out)
 have V12_45:=Lib.hid (V12_44.out.later HBc3.out)
 have V13_45:=Lib.hid (V13_44.out.later HBc3.out)
 clear HL44 V4_44 V6_44 V8_44 V9_44 V10_44 V11_44 V12_44 V13_44
 go_upto_region 19 with fail
 refine regl19 (by kernel_rfl) _ _ g g1 g2 gP gT2 gd q4 q6 q8 q9 q10 q13 CC4 CC6 CC8 CC9 CC10 CC13 rfl rfl rfl rfl rfl rfl rfl rfl rfl rfl rfl rfl rfl HL45.out.p HL45.out.t2 HL45.out.x HL45.out.k _ HD19.out V4_45.out V6_45.out V8_45.out V9_45.out V10_45.out V13_45.out ?_
 intro vs19 w19 h0 hb19 a19 ha19
 simp only [Dl19,List.cons_append,List.nil_append,List.foldl_cons,List.foldl_nil,Act.put,List.setIfInBounds_toArray,List.set_cons_succ,List.set_cons_zero,h0] at ha19
 subst ha19
 have HEND:=Lib.hid (HL45.out.b.trans (hb19.mono HL45.out.b.size))
 clear h0 hb19
 go_wp2_with fail
 go_ret
 exact ⟨rfl,HEND.out⟩
end Go.Proofs.YtmfihlcibephlaaDoor
