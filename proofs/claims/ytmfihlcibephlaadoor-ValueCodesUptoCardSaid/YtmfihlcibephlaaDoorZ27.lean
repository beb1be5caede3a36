import Derived.Test.YtmfihlcibephlaaDoorZ02
import Derived.Test.YtmfihlcibephlaaDoorZ06
import Derived.Test.YtmfihlcibephlaaDoorZ09
import Derived.Test.YtmfihlcibephlaaDoorZ12
import Derived.Test.YtmfihlcibephlaaDoorZ13
import Derived.Test.YtmfihlcibephlaaDoorZ14
import Derived.Test.YtmfihlcibephlaaDoorZ15
import Derived.Test.YtmfihlcibephlaaDoorZ18
import Derived.Test.YtmfihlcibephlaaDoorZ19
import Derived.Test.YtmfihlcibephlaaDoorZ23
import Derived.Test.YtmfihlcibephlaaDoorZ26
set_option linter.unusedVariables false
set_option linter.unusedSimpArgs false
namespace Go.Proofs.YtmfihlcibephlaaDoor
open Go.RowKit
def VVal (P:List Df) (t:Ty) (w:World) (e:Ending) (w':World):Prop:=∃ (x:Tr) (xk xn:Int) (xA:Option Addr) (xl xc:Nat),e = .returned (.agg #[.int .i64 xk,.int .i64 xn,.slice xA xl xc]) ∧ TrF (w.heap.size ≤ ·) w' x (.agg #[.int .i64 xk,.int .i64 xn,.slice xA xl xc]) ∧ (ft P x t = true ∧ x.nodes ≤ 256 ∧ x.dep ≤ 10) ∧ Below w.heap.size w w'
theorem ZB_4:∀ j,j < 4 → ZB j ≤ 121:=by decide
set_option maxHeartbeats 4000000 in
set_option maxRecDepth 100000 in
theorem Value_any (P:List Df) (hS:Snd P) (ls:List Int) (i0:Nat) (hi0:i0 < P.length) (w:World) (tv pv0:Value) (A:Option Addr) (ln' lc:Nat) (hP0:PrAt w P pv0) (ht:TyAt w (tD i0) tv) (hN:Nums w ls A ln') :
  Calls Tryd.prog 23 #[pv0,tv,.slice A ln' lc] w (VVal P (tD i0) w):=by
 have hP1:=hP0
 have ht1:=ht
 obtain ⟨mv,A0,cap0,rfl,hm,hP⟩:=hP0
 obtain ⟨n,hn⟩:∃ n,P.length = n:=⟨_,rfl⟩
 have hle:n ≤ 4:=by rw [← hn];exact hS.len.2
 have hiP:i0 < P.length:=hi0
 rw [hn] at hP1 ⊢
 obtain ⟨kt,s,q,i,B,ln,cp,rfl⟩:=ht.shape
 have P0:=p2_new w mv (.slice A0 n cap0)
 have V0:=new_later w (.cells #[mv,.slice A0 n cap0] 26)
 have Q0:=t5_new (w.alloc (.cells #[mv,.slice A0 n cap0] 26)) kt s q i B ln cp
 have b1:=new_later (w.alloc (.cells #[mv,.slice A0 n cap0] 26)) (.cells (t5 kt s q i B ln cp).toArray 31)
 have R0:Arr (((w.alloc (.cells #[mv,.slice A0 n cap0] 26)).alloc (.cells (t5 kt s q i B ln cp).toArray 31)).alloc (.cells #[.int .i64 0,.int .i64 0,.slice none 0 0] 53)) ((w.alloc (.cells #[mv,.slice A0 n cap0] 26)).alloc (.cells (t5 kt s q i B ln cp).toArray 31)).heap.size 3 53 zc3:=Arr.new' _ _ _ 3 zc3 rfl rfl (by decide)
 have b2:=new_later ((w.alloc (.cells #[mv,.slice A0 n cap0] 26)).alloc (.cells (t5 kt s q i B ln cp).toArray 31)) (.cells #[.int .i64 0,.int .i64 0,.slice none 0 0] 53)
 replace P0:=(P0.later b1).later b2
 replace Q0:=Q0.later b2
 have V1:=later (later V0 b1) b2
 rw [World.size_alloc] at Q0
 rw [World.size_alloc,World.size_alloc] at R0
 clear V0 b1 b2
 generalize hW:((w.alloc (.cells #[mv,.slice A0 n cap0] 26)).alloc (.cells (t5 kt s q i B ln cp).toArray 31)).alloc (.cells #[.int .i64 0,.int .i64 0,.slice none 0 0] 53) = wa at P0 Q0 R0 V1
 have hMB:=MB_4 (i0 + 1) (by omega)
 have hDM:=DM_4 (i0 + 1) (by omega)
 have HC:Hid (Calls Tryd.prog 52 #[.agg #[mv,.slice A0 n cap0],.agg #[.int .i64 kt,.int .i64 s,.int .i64 q,.int .i64 i,.slice B ln cp],.slice A ln' lc,.int .i64 0,.int .i64 1] wa (fun e w' => ∃ (x:Tr) (xk xn:Int) (xA:Option Addr) (xl xc:Nat) (u:Int),e = .returned (.tuple #[.agg #[.int .i64 xk,.int .i64 xn,.slice xA xl xc],.int .i64 u]) ∧ TrF (wa.heap.size ≤ ·) w' x (.agg #[.int .i64 xk,.int .i64 xn,.slice xA xl xc]) ∧ (ft P x (tD i0) = true ∧ x.nodes ≤ 4665 ∧ x.dep ≤ 10) ∧ Below wa.heap.size wa w')):=Lib.hid (((hS.make ls (i0 + 1) (by omega) (tD i0) (.inr (.inr (.inr ⟨i0,by omega,.inl rfl⟩)))) wa _ _ A ln' lc 0 1 (hP1.later V1) (ht.later V1) (hN.later V1) (by omega) (by omega)).mono (by
  rintro e w' ⟨x,xk,xn,xA,xl,xc,h1,h2,⟨h3,h4,h5⟩,h6⟩
  exact ⟨x,xk,xn,xA,xl,xc,_,h1,h2,⟨h3,by omega,by omega⟩,h6⟩))
 have HZC:Hid (∀ W',Below wa.heap.size wa W' → Calls Tryd.prog 35 #[.agg #[mv,.slice A0 n cap0],.agg #[.int .i64 kt,.int .i64 s,.int .i64 q,.int .i64 i,.slice B ln cp]] W' (fun e w' => ∃ (x:Tr) (xk xn:Int) (xA:Option Addr) (xl xc:Nat),e = .returned (.tuple #[.agg #[.int .i64 xk,.int .i64 xn,.slice xA xl xc],.int .i64 0]) ∧ TrF (W'.heap.size ≤ ·) w' x (.agg #[.int .i64 xk,.int .i64 xn,.slice xA xl xc]) ∧ (ft P x (tD i0) = true ∧ x.nodes ≤ 256 ∧ x.dep ≤ 10) ∧ Below W'.heap.size W' w')):=Lib.hid fun W' h => (rZero_any P (tD i0) W' _ _ ((hP1.later V1).later h) ((ht.later V1).later h)).mono (by
  have hzb:=ZB_4 i0 (by omega)
  obtain ⟨z1,z2,z3,z4,_⟩:=hS.zero i0 hiP 24 0 (by omega) (by omega)
  rintro e w' ⟨xk,xn,xA,xl,xc,h1,h2,h3⟩
  rw [z1] at h1
  exact ⟨_,xk,xn,xA,xl,xc,h1,h2,⟨z2,by omega,by omega⟩,h3⟩)
 have y0:=Q0.cell (j:=0) (v:=.int .i64 kt) rfl
 have y1:=Q0.cell (j:=1) (v:=.int .i64 s) rfl
 have y2:=Q0.cell (j:=2) (v:=.int .i64 q) rfl
 have y3:=Q0.cell (j:=3) (v:=.int .i64 i) rfl
 have y4:=Q0.cell (j:=4) (v:=.slice B ln cp) rfl
 have zz0:=P0.cell (j:=0) (v:=mv) rfl
 have zz1:=P0.cell (j:=1) (v:=.slice A0 n cap0) rfl
 have HR:=Lib.hid R0
 have HV:=Lib.hid V1
 have HIV:Hid ((Tryd.prog.info? 53).map (·.size) = some zc3.length):=Lib.hid info_val
 have HPB:=Lib.hid P0
 have HQB:=Lib.hid Q0
 clear P0 Q0 V1 R0 hP1 hP hm hn ht ht1 hS hN hiP hi0 hle hMB hDM
 go_enter Tryd.func23,Tryd.ntmps23
 go_upto_region 1 with fail
 clear hW
 go_upto_region 2 with (first
  | (go_at_call 52;(with_reducible refine HC.out.mono ?_);rintro e w9 ⟨x,xk,xn,xA,xl,xc,u,rfl,hT9,hF9,hb9⟩;have HT9:=Lib.hid hT9;have HF9:=Lib.hid hF9;have HB9:=Lib.hid hb9;clear hT9 hF9 hb9))
 have b10:=new_later w9 (.cells #[.int .i64 xk,.int .i64 xn,.slice xA xl xc] 53)
 have A14:Arr (w9.alloc (.cells #[.int .i64 xk,.int .i64 xn,.slice xA xl xc] 53)) w9.heap.size 3 53 [.int .i64 xk,.int .i64 xn,.slice xA xl xc]:=Arr.new' w9 _ _ 3 _ rfl rfl (by decide)
 have HT10:Hid (TrF (wa.heap.size ≤ ·) (w9.alloc (.cells #[.int .i64 xk,.int .i64 xn,.slice xA xl xc] 53)) x (.agg #[.int .i64 xk,.int .i64 xn,.slice xA xl xc])):=Lib.hid (HT9.out.keep (fun k hk => hk) (fun k _ hl => b10.block k hl))
 generalize w9.alloc (.cells #[.int .i64 xk,.int .i64 xn,.slice xA xl xc] 53) = w10 at b10 A14 HT10 ⊢
 have hwa:w.heap.size + 1 + 1 < wa.heap.size:=HR.out.lt
 have hw9:wa.heap.size ≤ w9.heap.size:=HB9.out.size
 have HB10:=Lib.hid (later HB9.out b10)
 have x0:=A14.cell (j:=0) (v:=.int .i64 xk) rfl
 have x1:=A14.cell (j:=1) (v:=.int .i64 xn) rfl
 have x2:=A14.cell (j:=2) (v:=.slice xA xl xc) rfl
 have HA14:=Lib.hid A14
 generalize w9.heap.size = g9 at HA14 hw9 x0 x1 x2 ⊢
 obtain ⟨zn,hzn⟩:∃ zn,x.nodes = zn:=⟨_,rfl⟩
 obtain ⟨zd,hzd⟩:∃ zd,x.dep = zd:=⟨_,rfl⟩
 have hF:=HF9.out
 rw [hzn,hzd] at hF
 have HSI:Hid (∀ W',TrAt W' x (.agg #[.int .i64 xk,.int .i64 xn,.slice xA xl xc]) → Calls Tryd.prog 29 #[.agg #[.int .i64 xk,.int .i64 xn,.slice xA xl xc]] W' (NumRes (zn:Int) W')):=Lib.hid fun W' h => by
  have:=rsize_any x.nodes x (Nat.le_refl _) W' _ h
  rwa [Tr.sz_eq' x (by omega),hzn] at this
 have HDE:Hid (∀ W',TrAt W' x (.agg #[.int .i64 xk,.int .i64 xn,.slice xA xl xc]) → Calls Tryd.prog 53 #[.agg #[.int .i64 xk,.int .i64 xn,.slice xA xl xc]] W' (NumRes (zd:Int) W')):=Lib.hid fun W' h => by
  have:=depth_any x.nodes x (Nat.le_refl _) W' _ h
  rwa [Tr.dp_eq x (by omega),hzd] at this
 have HFT:=Lib.hid hF.1
 have hzn1:(zn:Int) ≤ 4665:=by omega
 have hzd1:(zd:Int) ≤ 10:=by omega
 have hzd2:¬ (24:Int) < (zd:Int):=by omega
 have HHN:=Lib.hid hzn
 have HHD:=Lib.hid hzd
 clear A14 b10 hF hzn hzd HF9 HT9 HC
 by_cases hbig:256 < zn
 ·have hb:(256:Int) < (zn:Int):=by omega
  go_upto_region 3 with (first
   | (go_at_call 29;(with_reducible refine (HSI.out _ HT10.out.at_).mono ?_);rintro e w11 ⟨rfl,hb11⟩;have HB11:=Lib.hid hb11;clear hb11))
  have hb12:=later HB10.out HB11.out
  have HB12:=Lib.hid hb12
  have HA15:=Lib.hid (HA14.out.later HB11.out)
  clear x0 x1 x2 y0 y1 y2 y3 y4 zz0 zz1
  have y0:=(HQB.out.later hb12).cell (j:=0) (v:=.int .i64 kt) rfl
  have y1:=(HQB.out.later hb12).cell (j:=1) (v:=.int .i64 s) rfl
  have y2:=(HQB.out.later hb12).cell (j:=2) (v:=.int .i64 q) rfl
  have y3:=(HQB.out.later hb12).cell (j:=3) (v:=.int .i64 i) rfl
  have y4:=(HQB.out.later hb12).cell (j:=4) (v:=.slice B ln cp) rfl
  have zz0:=(HPB.out.later hb12).cell (j:=0) (v:=mv) rfl
  have zz1:=(HPB.out.later hb12).cell (j:=1) (v:=.slice A0 n cap0) rfl
  clear hb12
  go_wp2_with (first
   | (go_at_call 35;(with_reducible refine (HZC.out _ HB12.out).mono ?_);rintro e w13 ⟨x',xk',xn',xA',xl',xc',rfl,hT13,hF13,hb13⟩;have HT13:=Lib.hid hT13;have HF13:=Lib.hid hF13;have HB13:=Lib.hid hb13;have HA16:=Lib.hid (HA15.out.later hb13);clear hT13 hF13 hb13)
   | (refine wpList_store_arr rfl _ (.tmp 7) (.tmp 28) rfl g9 0 3 53 _ [.int .i64 xk',.int .i64 xn',.slice xA' xl' xc'] [.int .i64 xk,.int .i64 xn,.slice xA xl xc] rfl rfl rfl HA16.out (show 0 + 3 ≤ 3 by omega) info_val (by intro v hv;simp at hv;rcases hv with rfl | rfl | rfl <;> rfl) ?_;intro w14 f14 o14;rw [setAll_all [.int .i64 xk,.int .i64 xn,.slice xA xl xc] [.int .i64 xk',.int .i64 xn',.slice xA' xl' xc'] rfl] at f14;have e0:=f14.cell (j:=0) (v:=.int .i64 xk') rfl;have e1:=f14.cell (j:=1) (v:=.int .i64 xn') rfl;have e2:=f14.cell (j:=2) (v:=.slice xA' xl' xc') rfl;have HR14:=Lib.hid (((HR.out.later HB12.out).later HB13.out).below o14.bel (by omega));have HO14:=Lib.hid o14;clear f14 o14)
   | (refine wpList_store_arr rfl _ (.tmp 6) (.tmp 30) rfl (w.heap.size + 1 + 1) 0 3 53 _ [.int .i64 xk',.int .i64 xn',.slice xA' xl' xc'] zc3 rfl rfl rfl HR14.out (show 0 + 3 ≤ 3 by omega) info_val (by intro v hv;simp at hv;rcases hv with rfl | rfl | rfl <;> rfl) ?_;intro w15 f15 o15))
  rw [setAll_all zc3 [.int .i64 xk',.int .i64 xn',.slice xA' xl' xc'] rfl] at f15
  refine bodyPost_ret (results_one rfl _ _ (w.heap.size + 1 + 1) [.int .i64 xk',.int .i64 xn',.slice xA' xl' xc'] _ rfl f15.range Tryd.underlying53 rfl info_val) rfl ?_
  have hg9:=HA15.out.lt
  have hwl:=HV.out.size
  exact ⟨x',_,_,_,_,_,rfl,(HT13.out.keep (S':=(w11.heap.size ≤ ·)) (fun k hk => hk) (fun k hk _ => HO14.out.2 k (by omega))).keep (fun k hk => by have:=HB12.out.size;omega) (fun k hk _ => o15.2 k (by have:=HB12.out.size;omega)),HF13.out,((later (later HV.out HB12.out) HB13.out).trans (HO14.out.bel.mono (by omega))).trans (o15.bel.mono (by omega))⟩
 ·have hb:¬ (256:Int) < (zn:Int):=by omega
  go_wp2_with (first
   | (go_at_call 29;(with_reducible refine (HSI.out _ HT10.out.at_).mono ?_);rintro e w11 ⟨rfl,hb11⟩;have HB11:=Lib.hid hb11;have hx0:=(HA14.out.later hb11).cell (j:=0) (v:=.int .i64 xk) rfl;have hx1:=(HA14.out.later hb11).cell (j:=1) (v:=.int .i64 xn) rfl;have hx2:=(HA14.out.later hb11).cell (j:=2) (v:=.slice xA xl xc) rfl;clear hb11)
   | (go_at_call 53;(with_reducible refine (HDE.out _ (HT10.out.at_.later HB11.out)).mono ?_);rintro e w12 ⟨rfl,hb12⟩;have HB12:=Lib.hid (later HB11.out hb12);have HA12:=HA14.out.later HB12.out;clear hx0 hx1 hx2;have hx0:=HA12.cell (j:=0) (v:=.int .i64 xk) rfl;have hx1:=HA12.cell (j:=1) (v:=.int .i64 xn) rfl;have hx2:=HA12.cell (j:=2) (v:=.slice xA xl xc) rfl;have HR14:=Lib.hid ((HR.out.later HB10.out).later HB12.out);clear hb12 HA12)
   | (refine wpList_store_arr rfl _ (.tmp 6) (.tmp 30) rfl (w.heap.size + 1 + 1) 0 3 53 _ [.int .i64 xk,.int .i64 xn,.slice xA xl xc] zc3 rfl rfl rfl HR14.out (show 0 + 3 ≤ 3 by omega) info_val (by intro v hv;simp at hv;rcases hv with rfl | rfl | rfl <;> rfl) ?_;intro w15 f15 o15))
  rw [setAll_all zc3 [.int .i64 xk,.int .i64 xn,.slice xA xl xc] rfl] at f15
  refine bodyPost_ret (results_one rfl _ _ (w.heap.size + 1 + 1) [.int .i64 xk,.int .i64 xn,.slice xA xl xc] _ rfl f15.range Tryd.underlying53 rfl info_val) rfl ?_
  have hwl:=HV.out.size
  have h1:=HHN.out
  have h2:=HHD.out
  exact ⟨x,_,_,_,_,_,rfl,(HT10.out.keep (S':=(wa.heap.size ≤ ·)) (fun k hk => hk) (fun k hk hl => HB12.out.block k hl)).keep (fun k hk => by omega) (fun k hk _ => o15.2 k (by omega)),⟨HFT.out,by omega,by omega⟩,(later (later HV.out HB10.out) HB12.out).trans (o15.bel.mono (by omega))⟩
end Go.Proofs.YtmfihlcibephlaaDoor
namespace Go.Proofs.YtmfihlcibephlaaDoor
open Go.RowKit
def Foot (F:Nat → Prop) (Φ:World → Prop) (w:World):Prop:=∀ w',Below 0 w w' → (∀ g,F g → g < w.heap.size → w'.heap[g]? = w.heap[g]?) → Φ w'
theorem Foot.now {F:Nat → Prop} {Φ:World → Prop} {w:World} (h:Foot F Φ w):Φ w:=h w (Below.refl _ _) (fun _ _ _ => rfl)
theorem Foot.keep {F F':Nat → Prop} {Φ:World → Prop} {w w':World} (h:Foot F Φ w) (hF:∀ g,F g → g < w.heap.size → F' g) (hb:Below 0 w w') (he:∀ g,F g → g < w.heap.size → w'.heap[g]? = w.heap[g]?):Foot F' Φ w':=fun w'' hb' he' =>
 h w'' (hb.trans hb') fun g hg hl => (he' g (hF g hg hl) (Nat.lt_of_lt_of_le hl hb.size)).trans (he g hg hl)
theorem Foot.imp {F:Nat → Prop} {Φ Ψ:World → Prop} {w:World} (h:Foot F Φ w) (hi:∀ w',Φ w' → Ψ w'):Foot F Ψ w:=fun w' h1 h2 => hi w' (h w' h1 h2)
theorem Foot.mono {F F':Nat → Prop} {Φ:World → Prop} {w:World} (h:Foot F Φ w) (hF:∀ g,F g → F' g):Foot F' Φ w:=h.keep (fun g hg _ => hF g hg) (Below.refl _ _) (fun _ _ _ => rfl)
theorem Foot.const {F:Nat → Prop} {p:Prop} {w:World} (h:p):Foot F (fun _ => p) w:=fun _ _ _ => h
theorem flat_at (sz:Nat):∀ (L:List (List Value)),(∀ C ∈ L,C.length = sz) → ∀ (i:Nat) (C:List Value),L[i]? = some C → ∀ (j:Nat) (v:Value),C[j]? = some v → L.flatten[i * sz + j]? = some v
 | [],_,i,C,h,_,_,_ => by simp at h
 | D :: L,hl,0,C,h,j,v,hv => by
  simp at h;subst h
  have hj:=(List.getElem?_eq_some_iff.1 hv).1
  rw [List.flatten_cons,List.getElem?_append_left (by omega)]
  simpa using hv
 | D :: L,hl,i + 1,C,h,j,v,hv => by
  have hD:=hl D (by simp)
  have ih:=flat_at sz L (fun C hC => hl C (by simp [hC])) i C (by simpa using h) j v hv
  rw [List.flatten_cons,List.getElem?_append_right (by rw [hD,Nat.succ_mul];omega),hD,show (i + 1) * sz + j - sz = i * sz + j by rw [Nat.succ_mul];omega]
  exact ih
def GrowG {α:Type} (e:TypeId) (sz:Nat) (Φ:α → List Value → World → Prop) (w:World) (B:Nat) (v:Value) (acc:List α):Prop:=∃ L:List (List Value),w.ownsRow B e sz v acc.length L.flatten ∧ L.length = acc.length ∧ (∀ C ∈ L,C.length = sz) ∧
 ∀ (i:Nat) (x:α) (C:List Value),acc[i]? = some x → L[i]? = some C → Foot (fun g => B ≤ g ∧ v.ownBlock ≠ some g) (Φ x C) w
section
variable {α:Type} {e:TypeId} {sz:Nat} {Φ:α → List Value → World → Prop} {w w':World} {B:Nat} {v:Value} {acc:List α}
theorem GrowG.nil (w:World) (B:Nat):GrowG e sz Φ w B (.slice none 0 0) []:=⟨[],World.ownsRow_nil w B _ sz,rfl,by simp,by simp⟩
theorem GrowG.keep (h:GrowG e sz Φ w B v acc) (hb:Below 0 w w') (he:∀ g,B ≤ g → g < w.heap.size → w'.heap[g]? = w.heap[g]?):GrowG e sz Φ w' B v acc:=by
 obtain ⟨L,h1,h2,h3,h4⟩:=h
 refine ⟨L,?_,h2,h3,fun i x C hx hC => (h4 i x C hx hC).keep (fun _ h _ => h) hb (fun g hg hl => he g hg.1 hl)⟩
 refine ⟨h1.1,?_⟩
 rcases h1.2 with h5 | ⟨g,cap,cur,hv,hg,hh,r⟩
 ·exact .inl h5
 ·refine .inr ⟨g,cap,cur,hv,hg,?_,r⟩
  rw [he g hg (Array.getElem?_eq_some_iff.1 hh).1]
  exact hh
theorem GrowG.shape (h:GrowG e sz Φ w B v acc):∃ A cap,v = .slice A acc.length cap ∧ acc.length ≤ cap ∧ cap ≤ maxLen:=by
 obtain ⟨L,h1,_⟩:=h
 obtain ⟨A,cap,hv,h2,h3,_⟩:=own_shape h1
 exact ⟨A,cap,hv,h2,h3⟩
theorem GrowG.lt (h:GrowG e sz Φ w B v acc):∀ g,v.ownBlock = some g → B ≤ g ∧ g < w.heap.size:=by
 obtain ⟨L,h1,_⟩:=h
 exact h1.lt
theorem GrowG.get {A:Option Addr} {len cap:Nat} (h:GrowG e sz Φ w B (.slice A len cap) acc):len = acc.length ∧ Foot (B ≤ ·) (fun W => ∀ (j:Nat) (x:α),acc[j]? = some x → ∃ g o C,A = some ⟨g,o,none⟩ ∧ W.rangeAt g (o + j * sz) C ∧ C.length = sz ∧ Φ x C W) w:=by
 obtain ⟨A',cap',hv,h5,h6⟩:=h.shape
 cases hv
 refine ⟨rfl,fun w' hb he j x hx => ?_⟩
 obtain ⟨L,h1,h2,h3,h4⟩:=h
 have hj:=(List.getElem?_eq_some_iff.1 hx).1
 obtain ⟨g,cap2,hv,hg,_,_⟩:=own_some h1 (by omega)
 cases hv
 have hC:L[j]? = some (L[j]'(by omega)):=List.getElem?_eq_getElem (by omega)
 refine ⟨g,0,_,rfl,?_,h3 _ (List.getElem_mem _),h4 j x _ hx hC w' hb (fun k hk hl => he k hk.1 hl)⟩
 refine range_heap (w:=w) (fun p u hu => ?_) (fun hl => he g hg hl)
 have hc:=h1.cells (g:=g) rfl _ _ (flat_at sz L h3 j _ hC p u hu)
 have ha:(⟨g,0,none⟩:Addr).add (j * sz + p) = ⟨g,0 + j * sz + p,none⟩:=by unfold Addr.add;split <;> simp_all
 rwa [ha] at hc
end
theorem GrowG.grown {α:Type} {e:TypeId} {sz:Nat} {Φ:α → List Value → World → Prop} {w wm w':World} {B:Nat} {v:Value} {acc:List α} {x:α} {C:List Value} {L:List (List Value)} {g cap:Nat}
  (h1:w.ownsRow B e sz v acc.length L.flatten) (h2:L.length = acc.length) (h3:∀ C ∈ L,C.length = sz)
  (h4:∀ (i:Nat) (x:α) (C:List Value),acc[i]? = some x → L[i]? = some C → Foot (fun g => B ≤ g ∧ v.ownBlock ≠ some g) (Φ x C) w)
  (hC:C.length = sz) (hx:Foot (fun g => B ≤ g ∧ v.ownBlock ≠ some g) (Φ x C) w) (hB:B ≤ w.heap.size) (hwm:Below w.heap.size w wm)
  (hown:w'.ownsRow B e sz (.slice (some ⟨g,0,none⟩) (acc.length + 1) cap) (acc.length + 1) (L.flatten ++ C)) (hg:wm.grownBy w' v.ownBlock) (hat:v.ownBlock = some g ∨ w.heap.size ≤ g) :
  GrowG e sz Φ w' B (.slice (some ⟨g,0,none⟩) (acc.length + 1) cap) (acc ++ [x]) ∧ Below B w w' ∧ (∀ k,k < w.heap.size → v.ownBlock ≠ some k → w'.heap[k]? = w.heap[k]?):=by
 have hsame:∀ k,k < w.heap.size → v.ownBlock ≠ some k → w'.heap[k]? = w.heap[k]?:=fun k hk hne => by
  rw [hg.block k (Nat.lt_of_lt_of_le hk hwm.size) (fun e => hne e.symm)]
  exact hwm.block k hk
 have hb:Below B w w':=(hwm.mono hB).grown hg (Nat.le_trans hB hwm.size) (fun k hk => (h1.lt k hk).1)
 refine ⟨⟨L ++ [C],by rw [List.length_append,List.length_singleton,List.flatten_append];simpa using hown,by simp [h2],?_,?_⟩,hb,hsame⟩
 ·intro D hD
  rcases List.mem_append.1 hD with hD | hD
  ·exact h3 D hD
  ·simp at hD;rw [hD];exact hC
 ·intro i y D hy hD
  have hmv:∀ (y:α) (D:List Value),Foot (fun g => B ≤ g ∧ v.ownBlock ≠ some g) (Φ y D) w → Foot (fun g' => B ≤ g' ∧ (Value.slice (some ⟨g,0,none⟩) (acc.length + 1) cap).ownBlock ≠ some g') (Φ y D) w':=by
   intro y D hT
   refine hT.keep ?_ (hb.mono (Nat.zero_le _)) (fun k hk hl => hsame k hl hk.2)
   rintro k ⟨hk1,hk2⟩ hk3
   refine ⟨hk1,fun e => ?_⟩
   have hgk:g = k:=by simpa [Value.ownBlock] using e
   rcases hat with hat | hat
   ·exact hk2 (by rw [hat,hgk])
   ·omega
  by_cases hi:i < acc.length
  ·rw [List.getElem?_append_left hi] at hy
   rw [List.getElem?_append_left (by omega)] at hD
   exact hmv _ _ (h4 i y D hy hD)
  ·have hie:i = acc.length:=by
    have:=(List.getElem?_eq_some_iff.1 hy).1
    simp at this;omega
   subst hie
   rw [List.getElem?_append_right (Nat.le_refl _),Nat.sub_self] at hy
   rw [List.getElem?_append_right (by omega),h2,Nat.sub_self] at hD
   simp at hy hD
   subst hy;subst hD
   exact hmv _ _ hx
end Go.Proofs.YtmfihlcibephlaaDoor
namespace Go.Proofs.YtmfihlcibephlaaDoor
open Go.RowKit
set_option maxHeartbeats 400000 in
set_option maxRecDepth 100000 in
theorem List_new (k s q i:Int) (w:World) :
  Calls Tryd.prog 13 #[.agg (t5 k s q i none 0 0).toArray] w (fun e w' => ∃ g,e = .returned (.agg #[.int .i64 2,.int .i64 0,.int .i64 0,.int .i64 0,.slice (some ⟨g,0,none⟩) 1 1]) ∧ w.heap.size ≤ g ∧ w'.rangeAt g 0 [.int .i64 k,.int .i64 s,.int .i64 q,.int .i64 i,.slice none 0 0] ∧ Below w.heap.size w w'):=by
 have P0:=t5_new w k s q i none 0 0
 have V0:=new_later w (.cells (t5 k s q i none 0 0).toArray 31)
 have b2:=new_later (w.alloc (.cells (t5 k s q i none 0 0).toArray 31)) (.cells #[.int .i64 0,.int .i64 0,.int .i64 0,.int .i64 0,.slice none 0 0] 31)
 have R0:=Arr.new' (w.alloc (.cells (t5 k s q i none 0 0).toArray 31)) 31 #[.int .i64 0,.int .i64 0,.int .i64 0,.int .i64 0,.slice none 0 0] 5 z5 rfl rfl (by decide)
 rw [World.size_alloc] at R0
 have P1:=P0.later b2
 have V1:=later V0 b2
 generalize hW:(w.alloc (.cells (t5 k s q i none 0 0).toArray 31)).alloc (.cells #[.int .i64 0,.int .i64 0,.int .i64 0,.int .i64 0,.slice none 0 0] 31) = wa at P1 V1 R0
 have y0:=P1.cell (j:=0) (v:=.int .i64 k) rfl
 have y1:=P1.cell (j:=1) (v:=.int .i64 s) rfl
 have y2:=P1.cell (j:=2) (v:=.int .i64 q) rfl
 have y3:=P1.cell (j:=3) (v:=.int .i64 i) rfl
 have y4:=P1.cell (j:=4) (v:=.slice none 0 0) rfl
 have V2:=new_later wa (.cells #[.int .i64 k,.int .i64 s,.int .i64 q,.int .i64 i,.slice none 0 0] 31)
 have K2:=Arr.new' wa 31 #[.int .i64 k,.int .i64 s,.int .i64 q,.int .i64 i,.slice none 0 0] 5 (t5 k s q i none 0 0) rfl rfl (by decide)
 have R2:=R0.later V2
 have hwl:w.heap.size + 1 < wa.heap.size:=R0.lt
 have HR:=Lib.hid R2
 have HV:=Lib.hid (later V1 V2)
 have HK:=Lib.hid K2
 have HI:Hid (∀ A:Option Addr,(Tryd.prog.info? 31).map (·.size) = some ([.int .i64 2,.int .i64 0,.int .i64 0,.int .i64 0,.slice A 1 1]:List Value).length):=Lib.hid fun A => info_type
 have HO:Hid (∀ A:Option Addr,∀ v ∈ ([.int .i64 2,.int .i64 0,.int .i64 0,.int .i64 0,.slice A 1 1]:List Value),v.oneCell' = true):=Lib.hid fun A => by intro v hv;simp at hv;rcases hv with rfl | rfl | rfl | rfl | rfl <;> rfl
 clear P1 P0 V0 b2 V1 R0 R2 V2 K2
 go_enter Tryd.func13,Tryd.ntmps13
 go_upto_region 1 with fail
 clear hW
 go_wp2_with (refine wpList_store_arr rfl _ (.tmp 2) (.tmp 5) rfl (w.heap.size + 1) 0 5 31 _ [.int .i64 2,.int .i64 0,.int .i64 0,.int .i64 0,.slice (some ⟨wa.heap.size,0,none⟩) 1 1] z5 rfl rfl rfl HR.out (show 0 + 5 ≤ 5 by omega) (HI.out _) (HO.out _) ?_;intro w7 f7 o7)
 rw [setAll_all z5 [.int .i64 2,.int .i64 0,.int .i64 0,.int .i64 0,.slice (some ⟨wa.heap.size,0,none⟩) 1 1] rfl] at f7
 refine bodyPost_ret (results_one rfl _ _ (w.heap.size + 1) [.int .i64 2,.int .i64 0,.int .i64 0,.int .i64 0,.slice (some ⟨wa.heap.size,0,none⟩) 1 1] _ rfl f7.range Tryd.underlying31 rfl (HI.out _)) rfl ?_
 have hb7:Below w.heap.size w w7:=HV.out.trans (o7.bel.mono (by omega))
 exact ⟨wa.heap.size,rfl,by omega,(HK.out.only o7 (by omega)).range,hb7⟩
theorem ty_leaf (k s q i:Int) (h1:i64r k) (h2:i64r s) (h3:i64r q) (h4:i64r i) (F:Nat → Prop) (w:World):Foot F (fun W => TyAt W (.node k s q i []) (.agg #[.int .i64 k,.int .i64 s,.int .i64 q,.int .i64 i,.slice none 0 0])) w:=fun w' _ _ => by
 unfold TyAt
 exact ⟨none,0,rfl,⟨Nat.le_refl _,by simp [maxLen],h1,h2,h3,h4⟩,by unfold KtAt;trivial⟩
theorem ty_list (k s q i:Int) (h1:i64r k) (h2:i64r s) (h3:i64r q) (h4:i64r i) {F:Nat → Prop} {w:World} {g:Nat} (hr:w.rangeAt g 0 [.int .i64 k,.int .i64 s,.int .i64 q,.int .i64 i,.slice none 0 0]) (hg:F g):Foot F (fun W => TyAt W (tL (.node k s q i [])) (.agg #[.int .i64 2,.int .i64 0,.int .i64 0,.int .i64 0,.slice (some ⟨g,0,none⟩) 1 1])) w:=fun w' hb he => by
 unfold tL TyAt
 refine ⟨some ⟨g,0,none⟩,1,rfl,⟨by simp,by simp [maxLen],by unfold i64r;omega,by unfold i64r;omega,by unfold i64r;omega,by unfold i64r;omega⟩,?_⟩
 unfold KtAt
 refine ⟨⟨g,0,t5 k s q i none 0 0,rfl,?_,ty_leaf k s q i h1 h2 h3 h4 F w w' hb he⟩,by unfold KtAt;trivial⟩
 have h:=range_heap hr (he g hg)
 simpa [t5] using h
def PickRes (j:Nat) (w:World) (e:Ending) (w':World):Prop:=∃ (t:Ty) (k s q i:Int) (A:Option Addr) (len cap:Nat),Gd j t ∧ e = .returned (.agg #[.int .i64 k,.int .i64 s,.int .i64 q,.int .i64 i,.slice A len cap]) ∧ Foot (w.heap.size ≤ ·) (fun W => TyAt W t (.agg #[.int .i64 k,.int .i64 s,.int .i64 q,.int .i64 i,.slice A len cap])) w' ∧ Below w.heap.size w w'
set_option maxHeartbeats 2000000 in
set_option maxRecDepth 100000 in
theorem Pick_any (n j:Nat) (hn:n < 65536) (hj:j ≤ 4) (w:World) :
  Calls Tryd.prog 45 #[.int .i64 (n:Int),.int .i64 (j:Int)] w (PickRes j w):=by
 have hK:=ar_lt (n:Int) (4 + 2 * j) (by omega)
 have HAR:Hid (∀ W,Calls Tryd.prog 12 #[.int .i64 (n:Int),.int .i64 (4 + 2 * (j:Int))] W fun e w' => e = .returned (.int .i64 ((ar (n:Int) (4 + 2 * j):Nat):Int)) ∧ w' = W):=Lib.hid fun W => by
  have h:=Around_any (n:Int) (4 + 2 * j) (by omega) (by omega) (by unfold i64r;omega) W
  rwa [show ((4 + 2 * j:Nat):Int) = 4 + 2 * (j:Int) from by omega] at h
 have HAR2:Hid (∀ W,Calls Tryd.prog 12 #[.int .i64 ((n:Int) / 64),.int .i64 5] W fun e w' => e = .returned (.int .i64 ((ar ((n:Int) / 64) 5:Nat):Int)) ∧ w' = W):=Lib.hid fun W => Around_any ((n:Int) / 64) 5 (by omega) (by omega) (by unfold i64r;omega) W
 have hK2:=ar_lt ((n:Int) / 64) 5 (by omega)
 generalize ar (n:Int) (4 + 2 * j) = K at hK HAR
 generalize ar ((n:Int) / 64) 5 = K2 at hK2 HAR2
 have hni:(n:Int) < 65536:=by omega
 have hn0:(0:Int) ≤ (n:Int):=by omega
 have hji:(j:Int) ≤ 4:=by omega
 have hj0:(0:Int) ≤ (j:Int):=by omega
 have hKi:(K:Int) < 12:=by omega
 have hK0:(0:Int) ≤ (K:Int):=by omega
 have HKJ:=Lib.hid hK
 have HJ:=Lib.hid hj
 have V0:=new_later w (.cells #[.int .i64 0,.int .i64 0,.int .i64 0,.int .i64 0,.slice none 0 0] 31)
 have R0:Arr (w.alloc (.cells #[.int .i64 0,.int .i64 0,.int .i64 0,.int .i64 0,.slice none 0 0] 31)) w.heap.size 5 31 z5:=Arr.new' w _ _ 5 z5 rfl rfl (by decide)
 generalize hW:w.alloc (.cells #[.int .i64 0,.int .i64 0,.int .i64 0,.int .i64 0,.slice none 0 0] 31) = wa at V0 R0
 have HV:=Lib.hid V0
 have HR:=Lib.hid R0
 have hwa:w.heap.size < wa.heap.size:=R0.lt
 have HLZ:Hid (∀ W,Calls Tryd.prog 13 #[.agg #[.int .i64 0,.int .i64 0,.int .i64 0,.int .i64 0,.slice none 0 0]] W (fun e w' => ∃ g,e = .returned (.agg #[.int .i64 2,.int .i64 0,.int .i64 0,.int .i64 0,.slice (some ⟨g,0,none⟩) 1 1]) ∧ W.heap.size ≤ g ∧ w'.rangeAt g 0 [.int .i64 0,.int .i64 0,.int .i64 0,.int .i64 0,.slice none 0 0] ∧ Below W.heap.size W w')):=Lib.hid fun W => List_new 0 0 0 0 W
 clear V0 R0 hn hj
 by_cases h1:K = 1
 ·have e1:((K:Int) == 1) = true:=by rw [beq_iff_eq];omega
  clear h1 hK hK2
  go_enter Tryd.func45,Tryd.ntmps45
  go_upto_region 1 with fail
  clear hW
  go_wp2_with (first
   | (go_at_call 12;(with_reducible refine (HAR.out _).mono ?_);rintro e w2 ⟨rfl,hw2⟩;rw [hw2];clear hw2)
   | (refine wpList_store_arr rfl _ (.tmp 4) (.tmp 14) rfl w.heap.size 0 5 31 _ [.int .i64 1,.int .i64 0,.int .i64 0,.int .i64 0,.slice none 0 0] z5 rfl rfl rfl HR.out (show 0 + 5 ≤ 5 by omega) info_type (by intro v hv;simp at hv;rcases hv with rfl | rfl | rfl | rfl | rfl <;> rfl) ?_;intro w7 f7 o7))
  rw [setAll_all z5 [.int .i64 1,.int .i64 0,.int .i64 0,.int .i64 0,.slice none 0 0] rfl] at f7
  refine bodyPost_ret (results_one rfl _ _ w.heap.size [.int .i64 1,.int .i64 0,.int .i64 0,.int .i64 0,.slice none 0 0] _ rfl f7.range Tryd.underlying31 rfl info_type) rfl ?_
  exact ⟨tB,_,_,_,_,_,_,_,.inr (.inl rfl),rfl,ty_leaf _ _ _ _ (by unfold i64r;omega) (by unfold i64r;omega) (by unfold i64r;omega) (by unfold i64r;omega) _ _,HV.out.trans (o7.bel.mono (Nat.le_refl _))⟩
 have e1:((K:Int) == 1) = false:=by rw [beq_eq_false_iff_ne];omega
 by_cases h2:K = 2
 ·have e2:((K:Int) == 2) = true:=by rw [beq_iff_eq];omega
  clear h1 h2 hK hK2
  go_enter Tryd.func45,Tryd.ntmps45
  go_upto_region 1 with fail
  clear hW
  go_wp2_with (first
   | (go_at_call 12;(with_reducible refine (HAR.out _).mono ?_);rintro e w2 ⟨rfl,hw2⟩;rw [hw2];clear hw2)
   | (go_at_call 13;(with_reducible refine (HLZ.out _).mono ?_);rintro e w3 ⟨g,rfl,hg,hr3,hb3⟩;have HG:=Lib.hid hg;have HR3:=Lib.hid hr3;have HB3:=Lib.hid hb3;clear hg hr3 hb3)
   | (refine wpList_store_arr rfl _ (.tmp 4) (.tmp 18) rfl w.heap.size 0 5 31 _ [.int .i64 2,.int .i64 0,.int .i64 0,.int .i64 0,.slice (some ⟨g,0,none⟩) 1 1] z5 rfl rfl rfl (HR.out.later HB3.out) (show 0 + 5 ≤ 5 by omega) info_type (by intro v hv;simp at hv;rcases hv with rfl | rfl | rfl | rfl | rfl <;> rfl) ?_;intro w7 f7 o7))
  rw [setAll_all z5 [.int .i64 2,.int .i64 0,.int .i64 0,.int .i64 0,.slice (some ⟨g,0,none⟩) 1 1] rfl] at f7
  refine bodyPost_ret (results_one rfl _ _ w.heap.size [.int .i64 2,.int .i64 0,.int .i64 0,.int .i64 0,.slice (some ⟨g,0,none⟩) 1 1] _ rfl f7.range Tryd.underlying31 rfl info_type) rfl ?_
  have hg:=HG.out
  exact ⟨tL tI,_,_,_,_,_,_,_,.inr (.inr (.inl rfl)),rfl,ty_list 0 0 0 0 (by unfold i64r;omega) (by unfold i64r;omega) (by unfold i64r;omega) (by unfold i64r;omega) (range_heap HR3.out fun _ => o7.2 _ (by omega)) (by omega),(later HV.out HB3.out).trans (o7.bel.mono (Nat.le_refl _))⟩
 have e2:((K:Int) == 2) = false:=by rw [beq_eq_false_iff_ne];omega
 by_cases h4:4 ≤ K
 ·have h4i:(4:Int) ≤ (K:Int):=by omega
  obtain ⟨I,hI⟩:∃ I,(K - 4) / 2 = I:=⟨_,rfl⟩
  obtain ⟨II,hII⟩:∃ II,1 + I = II:=⟨_,rfl⟩
  have hIj:I < j:=by omega
  have hII31:II ≤ 31:=by have:=HJ.out;omega
  have HGI:Hid (tD I = .node 3 0 1 (II:Int) []):=Lib.hid (by unfold tD;rw [← hII,show ((1 + I:Nat):Int) = 1 + (I:Int) from by omega])
  have HIJ:=Lib.hid hIj
  have HID:Hid (∀ W,Calls Tryd.prog 15 #[.int .i64 (1 + ((K:Int) - 4) / 2)] W fun e w' => e = .returned (.agg #[.int .i64 0,.int .i64 1,.int .i64 (II:Int)]) ∧ Below W.heap.size W w'):=Lib.hid fun W => by
   have h:=ID_any II hII31 W
   rwa [show (Value.int .i64 (1 + ((K:Int) - 4) / 2)) = .int .i64 (II:Int) from by congr 1;omega]
  have HOF:Hid (∀ W,Calls Tryd.prog 14 #[.agg #[.int .i64 0,.int .i64 1,.int .i64 (II:Int)]] W fun e w' => e = .returned (.agg #[.int .i64 3,.int .i64 0,.int .i64 1,.int .i64 (II:Int),.slice none 0 0]) ∧ Below W.heap.size W w'):=Lib.hid fun W => Of_any 0 1 (II:Int) W
  have HLD:Hid (∀ W,Calls Tryd.prog 13 #[.agg #[.int .i64 3,.int .i64 0,.int .i64 1,.int .i64 (II:Int),.slice none 0 0]] W (fun e w' => ∃ g,e = .returned (.agg #[.int .i64 2,.int .i64 0,.int .i64 0,.int .i64 0,.slice (some ⟨g,0,none⟩) 1 1]) ∧ W.heap.size ≤ g ∧ w'.rangeAt g 0 [.int .i64 3,.int .i64 0,.int .i64 1,.int .i64 (II:Int),.slice none 0 0] ∧ Below W.heap.size W w')):=Lib.hid fun W => List_new 3 0 1 (II:Int) W
  have HR2:Hid (i64r (II:Int)):=Lib.hid (by unfold i64r;omega)
  clear h1 h2 h4 hK hI hII hIj hII31
  go_enter Tryd.func45,Tryd.ntmps45
  go_upto_region 1 with fail
  clear hW
  go_upto_region 8 with (first
   | (go_at_call 12;(with_reducible refine (HAR.out _).mono ?_);rintro e w2 ⟨rfl,hw2⟩;rw [hw2];clear hw2)
   | (go_at_call 15;(with_reducible refine (HID.out _).mono ?_);rintro e w3 ⟨rfl,hb3⟩;have HB3:=Lib.hid hb3;clear hb3)
   | (go_at_call 14;(with_reducible refine (HOF.out _).mono ?_);rintro e w4 ⟨rfl,hb4⟩;have HB4:=Lib.hid (later HB3.out hb4);clear hb4))
  have b5:=new_later w4 (.cells #[.int .i64 3,.int .i64 0,.int .i64 1,.int .i64 (II:Int),.slice none 0 0] 31)
  have A5:Arr (w4.alloc (.cells #[.int .i64 3,.int .i64 0,.int .i64 1,.int .i64 (II:Int),.slice none 0 0] 31)) w4.heap.size 5 31 [.int .i64 3,.int .i64 0,.int .i64 1,.int .i64 (II:Int),.slice none 0 0]:=Arr.new' w4 _ _ 5 _ rfl rfl (by decide)
  generalize w4.alloc (.cells #[.int .i64 3,.int .i64 0,.int .i64 1,.int .i64 (II:Int),.slice none 0 0] 31) = w5 at b5 A5 ⊢
  have HB5:=Lib.hid (later HB4.out b5)
  have HR5:=Lib.hid ((HR.out.later HB4.out).later b5)
  generalize w4.heap.size = g4 at A5 ⊢
  have x0:=A5.cell (j:=0) (v:=.int .i64 3) rfl
  have x1:=A5.cell (j:=1) (v:=.int .i64 0) rfl
  have x2:=A5.cell (j:=2) (v:=.int .i64 1) rfl
  have x3:=A5.cell (j:=3) (v:=.int .i64 (II:Int)) rfl
  have x4:=A5.cell (j:=4) (v:=.slice none 0 0) rfl
  clear b5 A5
  by_cases h5:K2 = 1
  ·have e5:((K2:Int) == 1) = true:=by rw [beq_iff_eq];omega
   clear h5 hK2
   go_wp2_with (first
    | (go_at_call 12;(with_reducible refine (HAR2.out _).mono ?_);rintro e w2 ⟨rfl,hw2⟩;rw [hw2];clear hw2)
    | (go_at_call 13;(with_reducible refine (HLD.out _).mono ?_);rintro e w3 ⟨g,rfl,hg,hr3,hb3⟩;have HG:=Lib.hid hg;have HR3:=Lib.hid hr3;have HB6:=Lib.hid hb3;clear hg hr3 hb3)
    | (refine wpList_store_arr rfl _ (.tmp 4) (.tmp 32) rfl w.heap.size 0 5 31 _ [.int .i64 2,.int .i64 0,.int .i64 0,.int .i64 0,.slice (some ⟨g,0,none⟩) 1 1] z5 rfl rfl rfl (HR5.out.later HB6.out) (show 0 + 5 ≤ 5 by omega) info_type (by intro v hv;simp at hv;rcases hv with rfl | rfl | rfl | rfl | rfl <;> rfl) ?_;intro w7 f7 o7))
   rw [setAll_all z5 [.int .i64 2,.int .i64 0,.int .i64 0,.int .i64 0,.slice (some ⟨g,0,none⟩) 1 1] rfl] at f7
   refine bodyPost_ret (results_one rfl _ _ w.heap.size [.int .i64 2,.int .i64 0,.int .i64 0,.int .i64 0,.slice (some ⟨g,0,none⟩) 1 1] _ rfl f7.range Tryd.underlying31 rfl info_type) rfl ?_
   have hg:=HG.out
   have hs5:=HB5.out.size
   refine ⟨tL (tD I),_,_,_,_,_,_,_,.inr (.inr (.inr ⟨I,HIJ.out,.inr rfl⟩)),rfl,?_,(later (later HV.out HB5.out) HB6.out).trans (o7.bel.mono (Nat.le_refl _))⟩
   rw [HGI.out]
   exact ty_list 3 0 1 (II:Int) (by unfold i64r;omega) (by unfold i64r;omega) (by unfold i64r;omega) HR2.out (range_heap HR3.out fun _ => o7.2 _ (by omega)) (by omega)
  ·have e5:((K2:Int) == 1) = false:=by rw [beq_eq_false_iff_ne];omega
   clear h5 hK2
   go_wp2_with (first
    | (go_at_call 12;(with_reducible refine (HAR2.out _).mono ?_);rintro e w2 ⟨rfl,hw2⟩;rw [hw2];clear hw2)
    | (refine wpList_store_arr rfl _ (.tmp 4) (.tmp 33) rfl w.heap.size 0 5 31 _ [.int .i64 3,.int .i64 0,.int .i64 1,.int .i64 (II:Int),.slice none 0 0] z5 rfl rfl rfl HR5.out (show 0 + 5 ≤ 5 by omega) info_type (by intro v hv;simp at hv;rcases hv with rfl | rfl | rfl | rfl | rfl <;> rfl) ?_;intro w7 f7 o7))
   rw [setAll_all z5 [.int .i64 3,.int .i64 0,.int .i64 1,.int .i64 (II:Int),.slice none 0 0] rfl] at f7
   refine bodyPost_ret (results_one rfl _ _ w.heap.size [.int .i64 3,.int .i64 0,.int .i64 1,.int .i64 (II:Int),.slice none 0 0] _ rfl f7.range Tryd.underlying31 rfl info_type) rfl ?_
   refine ⟨tD I,_,_,_,_,_,_,_,.inr (.inr (.inr ⟨I,HIJ.out,.inl rfl⟩)),rfl,?_,(later HV.out HB5.out).trans (o7.bel.mono (Nat.le_refl _))⟩
   rw [HGI.out]
   exact ty_leaf 3 0 1 (II:Int) (by unfold i64r;omega) (by unfold i64r;omega) (by unfold i64r;omega) HR2.out _ _
 ·have h4i:decide ((4:Int) ≤ (K:Int)) = false:=by rw [decide_eq_false_iff_not];omega
  clear h1 h2 h4 hK hK2 hKi
  go_enter Tryd.func45,Tryd.ntmps45
  go_upto_region 1 with fail
  clear hW
  go_wp2_with (first
   | (go_at_call 12;(with_reducible refine (HAR.out _).mono ?_);rintro e w2 ⟨rfl,hw2⟩;rw [hw2];clear hw2)
   | (refine wpList_store_arr rfl _ (.tmp 4) (.tmp 34) rfl w.heap.size 0 5 31 _ [.int .i64 0,.int .i64 0,.int .i64 0,.int .i64 0,.slice none 0 0] z5 rfl rfl rfl HR.out (show 0 + 5 ≤ 5 by omega) info_type (by intro v hv;simp at hv;rcases hv with rfl | rfl | rfl | rfl | rfl <;> rfl) ?_;intro w7 f7 o7))
  rw [setAll_all z5 [.int .i64 0,.int .i64 0,.int .i64 0,.int .i64 0,.slice none 0 0] rfl] at f7
  refine bodyPost_ret (results_one rfl _ _ w.heap.size [.int .i64 0,.int .i64 0,.int .i64 0,.int .i64 0,.slice none 0 0] _ rfl f7.range Tryd.underlying31 rfl info_type) rfl ?_
  exact ⟨tI,_,_,_,_,_,_,_,.inl rfl,rfl,ty_leaf _ _ _ _ (by unfold i64r;omega) (by unfold i64r;omega) (by unfold i64r;omega) (by unfold i64r;omega) _ _,HV.out.trans (o7.bel.mono (Nat.le_refl _))⟩
end Go.Proofs.YtmfihlcibephlaaDoor
namespace Go.Proofs.YtmfihlcibephlaaDoor
open Go.RowKit
def lf (n:Int):Tr:=.node 0 n []
def bxE:Tr:=.node 3 1 [.node 2 0 [lf 1,lf (-2)]]
def wrE:Tr:=.node 3 1 [lf 1]
def liE:Tr:=.node 4 0 [lf 3,lf 0]
def niE:Tr:=.node 4 0 [lf 9]
def onE:Tr:=.node 4 0 [lf 1,lf 1]
def fiE:Tr:=.node 4 0 [lf 5]
theorem ex_vty:vty pEx 24 (tD 1) = true:=by decide
theorem ex_vty':vty pEx 24 (tD 2) = false:=by decide
theorem ex_same:(tD 1).same (tD 1) = true:=by decide
theorem ex_same':(tD 1).same (tD 0) = false:=by decide
theorem ex_wt:bxE.wt = 4:=by decide +kernel
theorem ex_wt':liE.wt = 5:=by decide +kernel
theorem ex_sz:bxE.sz = 4:=by decide +kernel
theorem ex_cp1:(lf 2).cp (.node 1 1 []) = -1:=by decide
theorem ex_cp2:niE.cp onE = -1:=by decide
theorem ex_cp3:onE.cp niE = 1:=by decide
theorem ex_zr1:(zr pEx 24 (tD 0) 0) = (0,.node 2 0 [lf 0,lf 0],3):=by rfl
theorem ex_zr2:(zr pEx 24 (tD 1) 0) = (0,.node 3 0 [lf 0],2):=by rfl
theorem ex_pv1:(pv pEx bxE (tD 1) 24 0).1 = true:=by decide
theorem ex_pv2:(pv pEx wrE (tD 1) 24 0).1 = false:=by decide
theorem ex_en:fiE.en = [129,4,128,129,1,128,129,5,128]:=by decide +kernel
theorem ex_dz:(dz [129,4,128,129,1,128,129,5,128] 24 0 0) = (0,fiE,9,2):=by kernel_rfl
end Go.Proofs.YtmfihlcibephlaaDoor
