import Derived.Test.YtmfihlcibephlaaDoorZ02
import Derived.Test.YtmfihlcibephlaaDoorZ05
import Derived.Test.YtmfihlcibephlaaDoorZ06
import Derived.Test.YtmfihlcibephlaaDoorZ12
import Derived.BigQuiet
set_option linter.unusedVariables false
set_option linter.unusedSimpArgs false
namespace Go.Proofs.YtmfihlcibephlaaDoor
open Go.RowKit
theorem rdc_any (zs:List Nat) (A:Option Addr) (m cap:Nat) (hzs:zs.length = m) (hall:∀ b ∈ zs,b < 256) (hcap:m ≤ cap ∧ cap ≤ maxLen):∀ (f d p c:Nat) (W:World),d + f = 25 → p ≤ m → c ≤ 256 → Rd W W.heap.size A (bs zs) →
  Calls Tryd.prog 70 #[.slice A m cap,.int .i64 (p:Int),.int .i64 (d:Int),.int .i64 (c:Int)] W (DcR (dz zs f p c).1 (dz zs f p c).2.1 (dz zs f p c).2.2.1 (dz zs f p c).2.2.2 W)
 | 0,d,p,c,W,hd,hp,hc,hr => rdc_A A m cap p d c W (by omega) hc _ _ _ (.inr (by omega))
 | f + 1,d,p,c,W,hd,hp,hc,hr => by
  by_cases h:c = 256
  ·rw [dz_form,if_pos h]
   exact rdc_A A m cap p d c W (by omega) hc _ _ _ (.inl h)
  ·exact rdc_B zs A m cap p d c W hzs hall hcap hr hp ⟨by omega,by omega⟩ f (Lib.hid fun p' c' W' hp' hc' hb => rdc_any zs A m cap hzs hall hcap f (d + 1) p' c' W' (by omega) hp' hc' ((hr.below hb).more hb.size))
set_option maxHeartbeats 4000000 in
set_option maxRecDepth 100000 in
theorem rdecode_any (zs:List Nat) (A:Option Addr) (m cap:Nat) (w:World) (hzs:zs.length = m) (hall:∀ b ∈ zs,b < 256) (hcap:m ≤ cap ∧ cap ≤ maxLen) (hrd:Rd w w.heap.size A (bs zs)) :
  Calls Tryd.prog 41 #[.slice A m cap] w (DecodeRes (dz zs 24 0 0).1 (if (dz zs 24 0 0).1 = 0 then (dz zs 24 0 0).2.1 else z0) (if (dz zs 24 0 0).1 = 0 then (dz zs 24 0 0).2.2.1 else 0) w):=by
 have Q0:Arr (w.alloc (.cells #[.int .i64 0,.int .i64 0,.slice none 0 0] 53)) w.heap.size 3 53 zc3:=Arr.new' _ _ _ 3 zc3 rfl rfl (by decide)
 have V1:=new_later w (.cells #[.int .i64 0,.int .i64 0,.slice none 0 0] 53)
 generalize hW:w.alloc (.cells #[.int .i64 0,.int .i64 0,.slice none 0 0] 53) = wa at V1 Q0
 have HX:=Lib.hid Q0
 have HV:=Lib.hid V1
 have HIV:Hid ((Tryd.prog.info? 53).map (·.size) = some zc3.length):=Lib.hid info_val
 have HC:Hid (Calls Tryd.prog 70 #[.slice A m cap,.int .i64 0,.int .i64 1,.int .i64 0] wa (DcR (dz zs 24 0 0).1 (dz zs 24 0 0).2.1 (dz zs 24 0 0).2.2.1 (dz zs 24 0 0).2.2.2 wa)):=Lib.hid (rdc_any zs A m cap hzs hall hcap 24 1 0 0 wa rfl (Nat.zero_le _) (Nat.zero_le _) ((hrd.below V1).more V1.size))
 generalize (dz zs 24 0 0).1 = er at HC ⊢
 generalize (dz zs 24 0 0).2.1 = Z at HC ⊢
 generalize (dz zs 24 0 0).2.2.1 = q at HC ⊢
 generalize (dz zs 24 0 0).2.2.2 = c2 at HC
 clear Q0 V1 hzs hall hcap hrd
 go_enter Tryd.func41,Tryd.ntmps41
 go_upto_region 1 with fail
 clear hW
 go_upto_region 2 with (go_at_call 70;(with_reducible refine HC.out.mono ?_);rintro e w9 ⟨xk,xn,xA,xl,xc,qq,cc,rfl,hz9,hn9,hb9⟩;have HZ9:=Lib.hid hz9;have HN9:=Lib.hid hn9;have HL9:=Lib.hid hb9;clear hz9 hn9 hb9)
 have b10:=new_later w9 (.cells #[.int .i64 xk,.int .i64 xn,.slice xA xl xc] 53)
 have A14:Arr (w9.alloc (.cells #[.int .i64 xk,.int .i64 xn,.slice xA xl xc] 53)) w9.heap.size 3 53 [.int .i64 xk,.int .i64 xn,.slice xA xl xc]:=Arr.new' w9 _ _ 3 _ rfl rfl (by decide)
 generalize w9.alloc (.cells #[.int .i64 xk,.int .i64 xn,.slice xA xl xc] 53) = w10 at b10 A14 ⊢
 have HB10:=Lib.hid (later HV.out (later HL9.out b10))
 have HX10:=Lib.hid (HX.out.later (later HL9.out b10))
 have HS:Hid (w.heap.size < wa.heap.size ∧ wa.heap.size ≤ w9.heap.size):=Lib.hid ⟨HX.out.lt,HL9.out.size⟩
 by_cases he:er = 0
 ·have hneq:(er != 0) = false:=by rw [bne_eq_false_iff_eq];exact he
  subst he
  obtain ⟨hqq,hcc,hT9⟩:=HZ9.out rfl
  subst hqq
  have HT10:=Lib.hid ((TrF.both hT9 hT9.at_.old).keep (S':=fun k => w.heap.size < k) (fun k hk => by have:=hk.1;have:=HS.out;omega) (fun k hk _ => b10.block k hk.2))
  have HAR:=Lib.hid A14.range
  have HI3:Hid ((Tryd.prog.info? 53).map (·.size) = some ([.int .i64 xk,.int .i64 xn,.slice xA xl xc]:List Value).length):=Lib.hid info_val
  have HO3:Hid (∀ v ∈ ([.int .i64 xk,.int .i64 xn,.slice xA xl xc]:List Value),v.oneCell' = true):=Lib.hid (by intro v hv;simp at hv;rcases hv with rfl | rfl | rfl <;> rfl)
  clear A14 b10 HZ9 HN9 hT9 hcc
  go_wp2_with (first
   | (with_reducible refine wpList_load_mid rfl _ (.tmp 5) rfl w9.heap.size 0 rfl [.int .i64 xk,.int .i64 xn,.slice xA xl xc] _ HAR.out Tryd.underlying53 rfl HI3.out ?_)
   | (refine wpList_store_arr rfl _ (.tmp 2) (.tmp 20) rfl w.heap.size 0 3 53 _ [.int .i64 xk,.int .i64 xn,.slice xA xl xc] zc3 rfl rfl rfl HX10.out (show 0 + 3 ≤ 3 by omega) HI3.out HO3.out ?_;intro w12 f12 o12))
  rw [setAll_all zc3 [.int .i64 xk,.int .i64 xn,.slice xA xl xc] rfl] at f12
  refine bodyPost_ret (results_cellBB rfl _ _ w.heap.size [.int .i64 xk,.int .i64 xn,.slice xA xl xc] _ rfl f12.range Tryd.underlying53 rfl HI3.out) rfl ?_
  exact ⟨_,_,_,_,_,rfl,HT10.out.keep (fun k hk => Nat.le_of_lt hk) (fun k hk _ => o12.2 k (by omega)),HB10.out.trans (o12.bel.mono (Nat.le_refl _))⟩
 ·have hneq:(er != 0) = true:=by rw [bne_iff_ne];exact he
  have HE:=Lib.hid he
  clear he A14 b10 HZ9 HN9
  go_wp2_with (refine wpList_store_arr rfl _ (.tmp 2) (.tmp 18) rfl w.heap.size 0 3 53 _ zc3 zc3 rfl rfl rfl HX10.out (by decide) HIV.out zc3_one ?_;intro w12 f12 o12)
  rw [setAll_all _ _ rfl] at f12
  refine bodyPost_ret (results_cellBB rfl _ _ w.heap.size zc3 _ rfl f12.range Tryd.underlying53 rfl HIV.out) rfl ?_
  exact ⟨0,0,none,0,0,rfl,tr_z0 _ _,HB10.out.trans (o12.bel.mono (Nat.le_refl _))⟩
end Go.Proofs.YtmfihlcibephlaaDoor
namespace Go.Proofs.YtmfihlcibephlaaDoor
open Go.RowKit
def ar (n:Int) (m:Nat):Nat:=(if n < 0 then -(n + 1) else n).toNat % m
theorem ar_lt (n:Int) (m:Nat) (h:0 < m):ar n m < m:=Nat.mod_lt _ h
set_option maxHeartbeats 400000 in
set_option maxRecDepth 100000 in
theorem Around_any (n:Int) (m:Nat) (h0:0 < m) (h1:m ≤ 2097152) (hn:i64r n) (w:World) :
  Calls Tryd.prog 12 #[.int .i64 n,.int .i64 (m:Int)] w fun e w' => e = .returned (.int .i64 ((ar n m:Nat):Int)) ∧ w' = w:=by
 obtain ⟨hlo,hhi⟩:=hn
 have hm0:(m:Int) ≠ 0:=by omega
 have hm1:((m:Int) == 0) = false:=by simpa using hm0
 by_cases h:n < 0
 ·have e:((-(n + 1):Int).tmod (m:Int)) = ((ar n m:Nat):Int):=by
   unfold ar
   rw [if_pos h,Int.tmod_eq_emod_of_nonneg (by omega),Int.natCast_emod,Int.toNat_of_nonneg (by omega)]
  have hb:=ar_lt n m h0
  generalize ar n m = R at e hb ⊢
  have hR:(R:Int) ≤ 2097152:=by omega
  have hR0:(0:Int) ≤ (R:Int):=by omega
  go_enter Tryd.func12,Tryd.ntmps12
  go_wp2
  go_ret
  exact ⟨rfl,rfl⟩
 ·have e:(n.tmod (m:Int)) = ((ar n m:Nat):Int):=by
   unfold ar
   rw [if_neg h,Int.tmod_eq_emod_of_nonneg (by omega),Int.natCast_emod,Int.toNat_of_nonneg (by omega)]
  have hb:=ar_lt n m h0
  generalize ar n m = R at e hb ⊢
  have hR:(R:Int) ≤ 2097152:=by omega
  have hR0:(0:Int) ≤ (R:Int):=by omega
  go_enter Tryd.func12,Tryd.ntmps12
  go_wp2
  go_ret
  exact ⟨rfl,rfl⟩
def iv (l:List Int):List Value:=l.map (Value.int .i64)
theorem iv_get (l:List Int) (j:Nat) (h:j < l.length):(iv l)[j]? = some (.int .i64 (l[j]'h)):=by
 simp [iv,List.getElem?_map,List.getElem?_eq_getElem h]
def at_ (l:List Int) (i m:Nat):Nat:=if h:i < l.length then ar (l[i]'h) m else 0
set_option maxHeartbeats 400000 in
set_option maxRecDepth 100000 in
theorem At_any (l:List Int) (i m n B c:Nat) (A:Option Addr) (hn:n = l.length) (hn1:n ≤ maxLen) (h0:0 < m) (h1:m ≤ 2097152) (hl:∀ x ∈ l,i64r x) (w:World) (hr:Rd w B A (iv l)) :
  Calls Tryd.prog 44 #[.slice A n c,.int .i64 (i:Int),.int .i64 (m:Int)] w fun e w' => e = .returned (.int .i64 ((at_ l i m:Nat):Int)) ∧ w' = w:=by
 have hi0:(0:Int) ≤ (i:Int):=by omega
 unfold at_
 by_cases h:i < l.length
 ·rw [dif_pos h]
  have hin:(i:Int) < (n:Int):=by omega
  obtain ⟨b,o,rfl,_,hc⟩:=hr.at_ (by intro e;have:=congrArg List.length e;simp [iv] at this;subst this;simp at h)
  have hcell:=hc i _ (iv_get l i h)
  have HA:=Lib.hid (Around_any l[i] m h0 h1 (hl _ (List.getElem_mem h)) w)
  generalize ar l[i] m = R at HA ⊢
  generalize l[i] = X at hcell HA
  clear hc hr h0 h1 hl hn hn1
  go_enter Tryd.func44,Tryd.ntmps44
  go_wp2_with (go_at_call 12;(with_reducible refine HA.out.mono ?_);rintro e w' ⟨rfl,hw⟩;rw [hw])
  go_ret
  exact ⟨rfl,rfl⟩
 ·rw [dif_neg h]
  have hin:(n:Int) ≤ (i:Int):=by omega
  clear hr h0 h1 hl hn
  go_enter Tryd.func44,Tryd.ntmps44
  go_wp2
  go_ret
  exact ⟨rfl,rfl⟩
set_option maxHeartbeats 400000 in
set_option maxRecDepth 100000 in
theorem ID_any (k:Nat) (hk:k ≤ 31) (w:World) :
  Calls Tryd.prog 15 #[.int .i64 (k:Int)] w fun e w' => e = .returned (.agg #[.int .i64 0,.int .i64 1,.int .i64 (k:Int)]) ∧ Below w.heap.size w w':=by
 have hk0:(0:Int) ≤ (k:Int):=by omega
 have hk1:(k:Int) ≤ 31:=by omega
 have e1:(k:Int) / 32 = 0:=by omega
 have e2:(k:Int) % 32 = (k:Int):=by omega
 have hB:=new_later w (.cells #[.int .i64 0,.int .i64 1,.int .i64 (k:Int)] 28)
 have A:=Arr.new' w 28 #[.int .i64 0,.int .i64 1,.int .i64 (k:Int)] 3 [.int .i64 0,.int .i64 1,.int .i64 (k:Int)] rfl rfl (by decide)
 have HI:(Tryd.prog.info? 28).map (·.size) = some ([.int .i64 0,.int .i64 1,.int .i64 (k:Int)]:List Value).length:=by kernel_rfl
 have HA:=Lib.hid A
 have HBB:=Lib.hid hB
 have HII:=Lib.hid HI
 clear A hB HI
 go_enter Tryd.func15,Tryd.ntmps15
 go_wp2_with fail
 exact bodyPost_ret (results_one rfl _ _ w.heap.size [.int .i64 0,.int .i64 1,.int .i64 (k:Int)] _ rfl HA.out.range Tryd.underlying28 rfl HII.out) rfl ⟨rfl,HBB.out⟩
set_option maxHeartbeats 400000 in
set_option maxRecDepth 100000 in
theorem Of_any (a b c:Int) (w:World) :
  Calls Tryd.prog 14 #[.agg #[.int .i64 a,.int .i64 b,.int .i64 c]] w fun e w' => e = .returned (.agg #[.int .i64 3,.int .i64 a,.int .i64 b,.int .i64 c,.slice none 0 0]) ∧ Below w.heap.size w w':=by
 have Q0:=i3_new w a b c
 have V0:=new_later w (.cells #[.int .i64 a,.int .i64 b,.int .i64 c] 28)
 have V1:=later V0 (new_later _ (.cells #[.int .i64 3,.int .i64 a,.int .i64 b,.int .i64 c,.slice none 0 0] 31))
 have A:=Arr.new' (w.alloc (.cells #[.int .i64 a,.int .i64 b,.int .i64 c] 28)) 31 #[.int .i64 3,.int .i64 a,.int .i64 b,.int .i64 c,.slice none 0 0] 5 [.int .i64 3,.int .i64 a,.int .i64 b,.int .i64 c,.slice none 0 0] rfl rfl (by decide)
 rw [World.size_alloc] at A
 have x0:=Q0.cell (j:=0) (v:=.int .i64 a) rfl
 have x1:=Q0.cell (j:=1) (v:=.int .i64 b) rfl
 have x2:=Q0.cell (j:=2) (v:=.int .i64 c) rfl
 have HI:(Tryd.prog.info? 31).map (·.size) = some ([.int .i64 3,.int .i64 a,.int .i64 b,.int .i64 c,.slice none 0 0]:List Value).length:=info_type
 have HA:=Lib.hid A
 have HV:=Lib.hid V1
 have HII:=Lib.hid HI
 clear A V0 V1 Q0 HI
 go_enter Tryd.func14,Tryd.ntmps14
 go_wp2_with fail
 exact bodyPost_ret (results_one rfl _ _ (w.heap.size + 1) [.int .i64 3,.int .i64 a,.int .i64 b,.int .i64 c,.slice none 0 0] _ rfl HA.out.range Tryd.underlying31 rfl HII.out) rfl ⟨rfl,HV.out⟩
end Go.Proofs.YtmfihlcibephlaaDoor
namespace Go.Proofs.YtmfihlcibephlaaDoor
open Go.RowKit
theorem n3_new (w:World) (a b c:Int):Arr (w.alloc (.cells #[.int .i64 a,.int .i64 b,.int .i64 c] 3)) w.heap.size 3 3 [.int .i64 a,.int .i64 b,.int .i64 c]:=Arr.new' w _ _ 3 _ rfl rfl (by decide)
theorem at3 (a b c:Int):∀ (j:Nat),j < 3 → ([.int .i64 a,.int .i64 b,.int .i64 c]:List Value)[j]? = some (.int .i64 ([a,b,c].getD j 0))
 | 0,_ => rfl
 | 1,_ => rfl
 | 2,_ => rfl
 | j + 3,h => by omega
theorem range3 {w:World} {g p:Nat} {a b c:Value} (h:w.rangeAt g p [a,b,c]):w.cell? ⟨g,p,none⟩ = some a ∧ w.cell? ⟨g,p + 1,none⟩ = some b ∧ w.cell? ⟨g,p + 2,none⟩ = some c :=
 ⟨h 0 a rfl,h 1 b rfl,h 2 c rfl⟩
theorem three {C:List Value} (h:C.length = 3):∃ a b c,C = [a,b,c]:=by
 match C,h with
 | [a,b,c],_ => exact ⟨a,b,c,rfl⟩
set_option maxHeartbeats 8000000 in
set_option maxRecDepth 100000 in
theorem rcmp_head (k n k' n' R:Int) (len len':Nat) (A B:Option Addr) (cap cap':Nat) (xs ys:List Tr) (w:World) (HA:Hid (KsAt w A 0 xs)) (HB:Hid (KsAt w B 0 ys)) (HM:Hid (len ≤ cap ∧ cap ≤ maxLen)) (HL:Hid (xs.length = len))
  (ih:Hid (∀ (j:Nat) (x y:Tr),xs[j]? = some x → ys[j]? = some y → ∀ W v u,TrAt W x v → TrAt W y u → Calls Tryd.prog 33 #[v,u] W (NumRes (x.cp y) W)))
  (HEND:Hid ((∀ t,t < 3 → [k,n,(len:Int)].getD t 0 = [k',n',(len':Int)].getD t 0) → len' = len ∧ ys.length = len ∧ cpL xs ys = R))
  (HLT:Hid (∀ j,j < 3 → (∀ t,t < j → [k,n,(len:Int)].getD t 0 = [k',n',(len':Int)].getD t 0) → [k,n,(len:Int)].getD j 0 < [k',n',(len':Int)].getD j 0 → R = -1))
  (HGT:Hid (∀ j,j < 3 → (∀ t,t < j → [k,n,(len:Int)].getD t 0 = [k',n',(len':Int)].getD t 0) → [k',n',(len':Int)].getD j 0 < [k,n,(len:Int)].getD j 0 → R = 1)) :
  Calls Tryd.prog 33 #[.agg (c3 k n A len cap).toArray,.agg (c3 k' n' B len' cap').toArray] w (NumRes R w):=by
 have P0:=c3_new w k n A len cap
 have V0':=new_later w (.cells (c3 k n A len cap).toArray 53)
 have Q0:=c3_new (w.alloc (.cells (c3 k n A len cap).toArray 53)) k' n' B len' cap'
 have P1:=P0.later (new_later _ (.cells (c3 k' n' B len' cap').toArray 53))
 have V1:=later V0' (new_later _ (.cells (c3 k' n' B len' cap').toArray 53))
 rw [World.size_alloc] at Q0
 clear P0 V0'
 go_enter Tryd.func33,Tryd.ntmps33
 go_upto_region 1 with fail
 generalize (w.alloc (.cells (c3 k n A len cap).toArray 53)).alloc (.cells (c3 k' n' B len' cap').toArray 53) = wa at P1 V1 Q0 ⊢
 have ha0:=P1.cell (j:=0) (v:=.int .i64 k) rfl
 have ha1:=P1.cell (j:=1) (v:=.int .i64 n) rfl
 have ha2:=P1.cell (j:=2) (v:=.slice A len cap) rfl
 go_upto_region 2 with fail
 have X2:=n3_new wa k n (len:Int)
 have b2:=new_later wa (.cells #[.int .i64 k,.int .i64 n,.int .i64 (len:Int)] 3)
 have P2:=P1.later b2
 have Q2:=Q0.later b2
 have V2:=later V1 b2
 clear P1 Q0 V1 ha0 ha1 ha2 b2
 obtain ⟨gx,hgx⟩:∃ gx,wa.heap.size = gx:=⟨_,rfl⟩
 rw [hgx] at X2 ⊢
 generalize wa.alloc (.cells #[.int .i64 k,.int .i64 n,.int .i64 (len:Int)] 3) = wb at P2 Q2 V2 X2 ⊢
 clear hgx
 have hb0:=Q2.cell (j:=0) (v:=.int .i64 k') rfl
 have hb1:=Q2.cell (j:=1) (v:=.int .i64 n') rfl
 have hb2:=Q2.cell (j:=2) (v:=.slice B len' cap') rfl
 go_upto_region 3 with fail
 have Y3:=n3_new wb k' n' (len':Int)
 have b3:=new_later wb (.cells #[.int .i64 k',.int .i64 n',.int .i64 (len':Int)] 3)
 have P3:=P2.later b3
 have Q3:=Q2.later b3
 have X3:=X2.later b3
 have V3:=later V2 b3
 clear P2 Q2 V2 X2 hb0 hb1 hb2 b3
 obtain ⟨gy,hgy⟩:∃ gy,wb.heap.size = gy:=⟨_,rfl⟩
 rw [hgy] at Y3 ⊢
 generalize wb.alloc (.cells #[.int .i64 k',.int .i64 n',.int .i64 (len':Int)] 3) = wc at P3 Q3 V3 X3 Y3 ⊢
 clear hgy
 have HX3:Hid (∀ j,j < 3 → ([.int .i64 k,.int .i64 n,.int .i64 (len:Int)]:List Value)[j]? = some (.int .i64 ([k,n,(len:Int)].getD j 0))):=Lib.hid (at3 _ _ _)
 have HY3:Hid (∀ j,j < 3 → ([.int .i64 k',.int .i64 n',.int .i64 (len':Int)]:List Value)[j]? = some (.int .i64 ([k',n',(len':Int)].getD j 0))):=Lib.hid (at3 _ _ _)
 generalize [k,n,(len:Int)] = X at HLT HGT HX3 HEND
 generalize [k',n',(len':Int)] = Y at HLT HGT HY3 HEND
 generalize ([.int .i64 k,.int .i64 n,.int .i64 (len:Int)]:List Value) = XV at X3 HX3
 generalize ([.int .i64 k',.int .i64 n',.int .i64 (len':Int)]:List Value) = YV at Y3 HY3
 go_wp2_with fail
 go_loopw [7] (fun i W => ∃ j:Nat,j ≤ 3 ∧ i = .int .i64 (j:Int) ∧ (∀ t,t < j → X.getD t 0 = Y.getD t 0) ∧ Arr W w.heap.size 3 53 (c3 k n A len cap) ∧ Arr W (w.heap.size + 1) 3 53 (c3 k' n' B len' cap') ∧ Arr W gx 3 3 XV ∧ Arr W gy 3 3 YV ∧ Below w.heap.size w W) (fun i _ => 3 - (intOf i).toNat)
 case atStart => exact ⟨0,by omega,rfl,fun t ht => by omega,P3,Q3,X3,Y3,V3⟩
 case round =>
  obtain ⟨j,hj,rfl,heq,P4,Q4,X4,Y4,V4⟩:=hrel
  clear P3 Q3 X3 Y3 V3
  by_cases hlt:j < 3
  ·have hji:(j:Int) < 3:=by omega
   have hj0:(0:Int) ≤ (j:Int):=by omega
   have hcx:=X4.cell (HX3.out j hlt)
   have hcy:=Y4.cell (HY3.out j hlt)
   have HEQ:=Lib.hid heq
   have HJL:Hid (X.getD j 0 < Y.getD j 0 → R = -1):=Lib.hid (HLT.out j hlt heq)
   have HJG:Hid (Y.getD j 0 < X.getD j 0 → R = 1):=Lib.hid (HGT.out j hlt heq)
   have HJE:Hid (X.getD j 0 = Y.getD j 0 → ∀ t,t < j + 1 → X.getD t 0 = Y.getD t 0):=Lib.hid fun he t ht => by
    rcases Nat.lt_or_ge t j with h | h
    ·exact heq t h
    ·have:t = j:=by omega
     rw [this];exact he
   have HR:Hid (∀ m,Arr (wr.drewN m) w.heap.size 3 53 (c3 k n A len cap) ∧ Arr (wr.drewN m) (w.heap.size + 1) 3 53 (c3 k' n' B len' cap') ∧ Arr (wr.drewN m) gx 3 3 XV ∧ Arr (wr.drewN m) gy 3 3 YV ∧ Below w.heap.size w (wr.drewN m)):=Lib.hid fun m => ⟨P4,Q4,X4,Y4,below_drewN V4 m⟩
   generalize X.getD j 0 = x at hcx HJL HJG HJE
   generalize Y.getD j 0 = y at hcy HJL HJG HJE
   clear heq P4 Q4 X4 Y4 V4 HX3 HY3 HLT HGT HEQ
   clear HA HB HL ih HEND
   rcases Int.lt_trichotomy x y with hxy | hxy | hxy
   ·have hyx:¬ y < x:=by omega
    have HRR:Hid (R = -1):=Lib.hid (HJL.out hxy)
    go_wp2_with fail
    go_quiet (fail)
    go_wp2_with fail
    go_ret
    exact ⟨by rw [HRR.out];rfl,(HR.out _).2.2.2.2⟩
   ·subst hxy
    have hxx:¬ x < x:=by omega
    go_wp2_with fail
    go_quiet (fail)
    go_wp2_with fail
    go_quiet (fail)
    go_wp2_with fail
    go_roundw
    case rel => exact ⟨j + 1,by omega,by go_num,HJE.out (by trivial),HR.out _⟩
    case measure => simp [intOf];omega
   ·have hyx:¬ x < y:=by omega
    have HRR:Hid (R = 1):=Lib.hid (HJG.out hxy)
    go_wp2_with fail
    go_quiet (fail)
    go_wp2_with fail
    go_quiet (fail)
    go_wp2_with fail
    go_ret
    exact ⟨by rw [HRR.out];rfl,below_drewN (HR.out _).2.2.2.2 _⟩
  ·have hj3:j = 3:=by omega
   subst hj3
   obtain ⟨hle,hl',hcp⟩:=HEND.out heq
   subst hle
   have HL':=Lib.hid hl'
   have HCP:=Lib.hid hcp
   clear heq X4 Y4 HX3 HY3 HLT HGT HEND hl' hcp
   go_wp2_with fail
   go_loopw [8] (fun i W => ∃ j:Nat,j ≤ len' ∧ i = .int .i64 (j:Int) ∧ Hid (cpL (xs.drop j) (ys.drop j) = R) ∧ Arr W w.heap.size 3 53 (c3 k n A len' cap) ∧ Arr W (w.heap.size + 1) 3 53 (c3 k' n' B len' cap') ∧ Below w.heap.size w W) (fun i _ => len' - (intOf i).toNat)
   case atStart => exact ⟨0,by omega,rfl,Lib.hid (by simpa using HCP.out),P4,Q4,V4⟩
   case round =>
    obtain ⟨j,hj,rfl,HCJ,P5,Q5,V5⟩:=hrel
    clear P4 Q4 V4
    have hpa:=P5.cell (j:=2) (v:=.slice A len' cap) rfl
    by_cases hlt:j < len'
    ·have hji:(j:Int) < (len':Int):=by omega
     have hj0:(0:Int) ≤ (j:Int):=by omega
     have hjm:(j:Int) + 1 ≤ 9223372036854775807:=by have:=HM.out;simp only [maxLen] at this;omega
     have hjx:j < xs.length:=by rw [HL.out];exact hlt
     have hjy:j < ys.length:=by rw [HL'.out];exact hlt
     have hkx:xs[j]? = some xs[j]:=List.getElem?_eq_getElem hjx
     have hky:ys[j]? = some ys[j]:=List.getElem?_eq_getElem hjy
     have hcj:=HCJ.out
     rw [cpL_drop xs ys j hjx hjy] at hcj
     have HCQ:=Lib.hid hcj
     clear hcj HCJ
     obtain ⟨g,o,C,hA,HRa,HT,HC3,HI3,HOC⟩:=kid_at (HA.out.later V5) hkx
     obtain ⟨g',o',C',hB,HRb,HT',HC3',HI3',HOC'⟩:=kid_at (HB.out.later V5) hky
     subst hA
     subst hB
     obtain ⟨c0,c1,c2,rfl⟩:=three HC3.out
     obtain ⟨d0,d1,d2,rfl⟩:=three HC3'.out
     have HIH:Hid (∀ W v u,TrAt W xs[j] v → TrAt W ys[j] u → Calls Tryd.prog 33 #[v,u] W (NumRes (xs[j].cp ys[j]) W)):=Lib.hid (ih.out j _ _ hkx hky)
     clear hkx hky
     generalize xs[j] = x at HCQ HIH HT
     generalize ys[j] = y at HCQ HIH HT'
     generalize x.cp y = c at HCQ HIH
     clear hjx hjy
     have hbd:Below wr.heap.size wr wr.drew:=below_drewN (Below.refl _ _) 1
     have HTd:=Lib.hid (HT.out.later hbd)
     have HTd':=Lib.hid (HT'.out.later hbd)
     have HS:Hid (∀ W,Below wr.heap.size wr W → (W.cell? ⟨w.heap.size,2,none⟩ = some (.slice (some ⟨g,o,none⟩) len' cap) ∧ W.cell? ⟨w.heap.size + 1,2,none⟩ = some (.slice (some ⟨g',o',none⟩) len' cap') ∧ (W.cell? ⟨g,o + j * 3,none⟩ = some c0 ∧ W.cell? ⟨g,o + j * 3 + 1,none⟩ = some c1 ∧ W.cell? ⟨g,o + j * 3 + 2,none⟩ = some c2) ∧ W.cell? ⟨g',o' + j * 3,none⟩ = some d0 ∧ W.cell? ⟨g',o' + j * 3 + 1,none⟩ = some d1 ∧ W.cell? ⟨g',o' + j * 3 + 2,none⟩ = some d2)) :=
      Lib.hid fun W hW => ⟨(P5.later hW).cell (j:=2) rfl,(Q5.later hW).cell (j:=2) rfl,range3 (range_below HRa.out hW),range3 (range_below HRb.out hW)⟩
     have HPQ:Hid (∀ W,Below wr.heap.size wr W → Arr W w.heap.size 3 53 (c3 k n (some ⟨g,o,none⟩) len' cap) ∧ Arr W (w.heap.size + 1) 3 53 (c3 k' n' (some ⟨g',o',none⟩) len' cap') ∧ Below w.heap.size w W):=Lib.hid fun W hW => ⟨P5.later hW,Q5.later hW,later V5 hW⟩
     clear P5 Q5 V5 HA HB HL HL' ih HM
     go_upto_region 13 with fail
     go_region_held3 (fun W => W.cell? ⟨w.heap.size,2,none⟩ = some (.slice (some ⟨g,o,none⟩) len' cap) ∧ W.cell? ⟨w.heap.size + 1,2,none⟩ = some (.slice (some ⟨g',o',none⟩) len' cap') ∧ (W.cell? ⟨g,o + j * 3,none⟩ = some c0 ∧ W.cell? ⟨g,o + j * 3 + 1,none⟩ = some c1 ∧ W.cell? ⟨g,o + j * 3 + 2,none⟩ = some c2) ∧ W.cell? ⟨g',o' + j * 3,none⟩ = some d0 ∧ W.cell? ⟨g',o' + j * 3 + 1,none⟩ = some d1 ∧ W.cell? ⟨g',o' + j * 3 + 2,none⟩ = some d2)
      (first | exact HS.out _ hbd | exact HS.out _ hb8)
      (first
      | (go_at_call 33;(with_reducible refine (HIH.out _ _ _ HTd.out HTd'.out).mono ?_);rintro e w7 ⟨rfl,hb7⟩;have hb8:=later hbd hb7))
     obtain ⟨P8,Q8,V8⟩:=HPQ.out _ hb8
     clear HPQ HS HIH HTd HTd' HRa HRb HT HT' hb7 hb8 hbd
     by_cases hc0:c = 0
     ·subst hc0
      have HC0:Hid (cpL (xs.drop (j + 1)) (ys.drop (j + 1)) = R):=Lib.hid (by have h:=HCQ.out;rw [if_neg (by omega)] at h;exact h)
      go_wp2_with fail
      refine ⟨⟨_,_,_,_,_,_,_,_,_,_,_,_,_,_,_,_,_,_,_,_,_,_,_,_,⟨j + 1,by omega,by go_num,HC0,P8,Q8,V8⟩,rfl⟩,by simp [intOf];omega⟩
     ·have hcb:(c != 0) = true:=by simpa using hc0
      have HCR:Hid (c = R):=Lib.hid (by have h:=HCQ.out;rw [if_pos hc0] at h;exact h)
      go_wp2_with fail
      go_ret
      exact ⟨by rw [← HCR.out];rfl,V8⟩
    ·have hje:j = len':=by omega
     subst hje
     have hcj:=HCJ.out
     rw [List.drop_of_length_le (by rw [HL.out];omega),cpL] at hcj
     have HZ:=Lib.hid hcj
     clear hcj HCJ
     go_wp2_with fail
     go_ret
     exact ⟨by rw [← HZ.out];rfl,V5⟩
theorem cmpI_lt {x y:Int} (h:x < y):cmpI x y = -1:=by unfold cmpI;rw [if_pos h]
theorem cmpI_gt {x y:Int} (h:y < x):cmpI x y = 1:=by unfold cmpI;rw [if_neg (by omega),if_pos h]
theorem cmpI_self (x:Int):cmpI x x = 0:=by unfold cmpI;rw [if_neg (by omega),if_neg (by omega)]
theorem rcompare_any:∀ (N:Nat) (x:Tr),x.nodes ≤ N → ∀ (y:Tr) (w:World) (v u:Value),TrAt w x v → TrAt w y u → Calls Tryd.prog 33 #[v,u] w (NumRes (x.cp y) w)
 | 0,x,hN,_,_,_,_,_,_ => absurd hN (by have:=x.nodes_pos;omega)
 | N + 1,.node k n ks,hN,.node k' n' ks',w,v,u,h,h' => by
  unfold TrAt at h h'
  obtain ⟨A,cap,rfl,hm,hk⟩:=h
  obtain ⟨B,cap',rfl,hm',hk'⟩:=h'
  rw [cp_form]
  refine rcmp_head k n k' n' _ ks.length ks'.length A B cap cap' ks ks' w (Lib.hid hk) (Lib.hid hk') (Lib.hid ⟨hm.1,hm.2.1⟩) (Lib.hid rfl) (Lib.hid fun j x y hx hy W' v' u' e e' => rcompare_any N x (by have:=Tr.kid_less (k:=k) (n:=n) hx;omega) y W' v' u' e e') (Lib.hid fun he => ?_) (Lib.hid fun j hj he hlt => ?_) (Lib.hid fun j hj he hlt => ?_)
  ·have h0:k = k':=he 0 (by decide)
   have h1:n = n':=he 1 (by decide)
   have h2:(ks.length:Int) = (ks'.length:Int):=he 2 (by decide)
   refine ⟨by omega,by omega,?_⟩
   rw [h0,h1,h2,cmpI_self,cmpI_self,cmpI_self]
   rfl
  ·match j,hj with
   | 0,_ =>
    have h0:k < k':=hlt
    unfold or3
    rw [cmpI_lt h0];rfl
   | 1,_ =>
    have h0:k = k':=he 0 (by decide)
    have h1:n < n':=hlt
    unfold or3
    rw [h0,cmpI_self,cmpI_lt h1];rfl
   | 2,_ =>
    have h0:k = k':=he 0 (by decide)
    have h1:n = n':=he 1 (by decide)
    have h2:(ks.length:Int) < (ks'.length:Int):=hlt
    unfold or3
    rw [h0,h1,cmpI_self,cmpI_self,cmpI_lt h2];rfl
  ·match j,hj with
   | 0,_ =>
    have h0:k' < k:=hlt
    unfold or3
    rw [cmpI_gt h0];rfl
   | 1,_ =>
    have h0:k = k':=he 0 (by decide)
    have h1:n' < n:=hlt
    unfold or3
    rw [h0,cmpI_self,cmpI_gt h1];rfl
   | 2,_ =>
    have h0:k = k':=he 0 (by decide)
    have h1:n = n':=he 1 (by decide)
    have h2:(ks'.length:Int) < (ks.length:Int):=hlt
    unfold or3
    rw [h0,h1,cmpI_self,cmpI_self,cmpI_gt h2];rfl
end Go.Proofs.YtmfihlcibephlaaDoor
namespace Go.Proofs.YtmfihlcibephlaaDoor
open Go.RowKit
set_option maxHeartbeats 400000 in
set_option maxRecDepth 100000 in
theorem num_any (n:Int) (w:World) :
  Calls Tryd.prog 27 #[.int .i64 n] w fun e w' => e = .returned (.agg #[.int .i64 0,.int .i64 n,.slice none 0 0]) ∧ Below w.heap.size w w':=by
 have hB:=new_later w (.cells #[.int .i64 0,.int .i64 n,.slice none 0 0] 53)
 have A:=Arr.new' w 53 #[.int .i64 0,.int .i64 n,.slice none 0 0] 3 [.int .i64 0,.int .i64 n,.slice none 0 0] rfl rfl (by decide)
 have HI:(Tryd.prog.info? 53).map (·.size) = some ([.int .i64 0,.int .i64 n,.slice none 0 0]:List Value).length:=by kernel_rfl
 have HA:=Lib.hid A
 have HBB:=Lib.hid hB
 have HII:=Lib.hid HI
 clear A hB HI
 go_enter Tryd.func27,Tryd.ntmps27
 go_wp2_with fail
 exact bodyPost_ret (results_one rfl _ _ w.heap.size [.int .i64 0,.int .i64 n,.slice none 0 0] _ rfl HA.out.range Tryd.underlying53 rfl HII.out) rfl ⟨rfl,HBB.out⟩
set_option maxHeartbeats 400000 in
set_option maxRecDepth 100000 in
theorem same_any (x y:Tr) (w:World) (v u:Value) (hx:TrAt w x v) (hy:TrAt w y u) :
  Calls Tryd.prog 36 #[v,u] w fun e w' => e = .returned (.bool (x.cp y == 0)) ∧ Below w.heap.size w w':=by
 obtain ⟨k,n,A,len,cap,rfl⟩:=hx.shape
 obtain ⟨k',n',A',len',cap',rfl⟩:=hy.shape
 have P0:=c3_new w k n A len cap
 have V0:=new_later w (.cells (c3 k n A len cap).toArray 53)
 have Q0:=c3_new (w.alloc (.cells (c3 k n A len cap).toArray 53)) k' n' A' len' cap'
 have b1:=new_later (w.alloc (.cells (c3 k n A len cap).toArray 53)) (.cells (c3 k' n' A' len' cap').toArray 53)
 replace P0:=P0.later b1
 have V1:=later V0 b1
 rw [World.size_alloc] at Q0
 generalize hW:(w.alloc (.cells (c3 k n A len cap).toArray 53)).alloc (.cells (c3 k' n' A' len' cap').toArray 53) = wa at P0 Q0 V1
 have HC:Hid (Calls Tryd.prog 33 #[.agg #[.int .i64 k,.int .i64 n,.slice A len cap],.agg #[.int .i64 k',.int .i64 n',.slice A' len' cap']] wa (NumRes (x.cp y) wa)):=Lib.hid (rcompare_any x.nodes x (Nat.le_refl _) y wa _ _ (hx.later V1) (hy.later V1))
 generalize x.cp y = R at HC ⊢
 have x0:=P0.cell (j:=0) (v:=.int .i64 k) rfl
 have x1:=P0.cell (j:=1) (v:=.int .i64 n) rfl
 have x2:=P0.cell (j:=2) (v:=.slice A len cap) rfl
 have y0:=Q0.cell (j:=0) (v:=.int .i64 k') rfl
 have y1:=Q0.cell (j:=1) (v:=.int .i64 n') rfl
 have y2:=Q0.cell (j:=2) (v:=.slice A' len' cap') rfl
 have HV:=Lib.hid V1
 clear P0 Q0 V0 V1 b1 hx hy
 go_enter Tryd.func36,Tryd.ntmps36
 go_upto_region 1 with fail
 clear hW
 go_wp2_with (go_at_call 33;(with_reducible refine HC.out.mono ?_);rintro e w2 ⟨rfl,hb2⟩;have HB2:=Lib.hid hb2;clear hb2)
 go_ret
 exact ⟨rfl,later HV.out HB2.out⟩
end Go.Proofs.YtmfihlcibephlaaDoor
