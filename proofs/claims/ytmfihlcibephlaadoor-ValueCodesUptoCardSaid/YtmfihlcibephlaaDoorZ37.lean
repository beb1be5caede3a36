import Derived.Test.YtmfihlcibephlaaDoorZ02
import Derived.Test.YtmfihlcibephlaaDoorZ32
set_option linter.unusedVariables false
set_option linter.unusedSimpArgs false
namespace Go.Proofs.YtmfihlcibephlaaDoor
open Go.RowKit
def dTy (i:Nat) (kd:Nat) (sl:List Sl):Df:=⟨0,1,((i + 1:Nat):Int),(kd:Int),0,1,0,nmB i,sl,tI,exZ,0,[]⟩
theorem df_at2 (w:World) (i kd:Nat) (sl:List Sl) (sv:Value) (hs:SlsAt w sv sl):DfAt w (dTy i kd sl) (df31 ((i + 1:Nat):Int) (kd:Int) (nmB i) sv) :=
 ⟨sv,[.int .i64 0,.int .i64 0,.int .i64 0,.int .i64 0,.slice none 0 0],[.int .i64 0,.int .i64 0,.int .i64 0,.int .i64 0,.int .i64 0,.int .i64 0,.int .i64 0,.int .i64 0,.int .i64 0,.int .i64 0,.int .i64 0,.int .i64 0,.slice none 0 0,.slice none 0 0,.slice none 0 0],.slice none 0 0,rfl,rfl,hs,tI_now w,ex_at w,strs_nil w⟩
theorem sls_of {w:World} {B:Nat} {sv:Value} {acc:List Sl} (h:GrowG 66 11 PS w B sv acc):Foot (B ≤ ·) (fun W => SlsAt W sv acc) w:=by
 obtain ⟨A,cap,rfl,h1,h2⟩:=h.shape
 refine h.get.2.imp fun W hW => ⟨A,cap,rfl,⟨h1,h2⟩,fun j x hx => ?_⟩
 obtain ⟨g,o,C,a,b,c,d⟩:=hW j x hx
 exact ⟨g,o,C,a,b,d⟩
theorem pr_of {w:World} {B:Nat} {M:Nat → Prop} {mv dv:Value} {P:List Df} (h:GrowF 46 31 PD w B M dv P) (hm:mv.oneCell' = true):PrAt w P (.agg #[mv,dv]):=by
 obtain ⟨A,cap,rfl,h1,h2⟩:=h.shape
 refine ⟨mv,A,cap,rfl,⟨hm,h1,h2⟩,fun j d hd => ?_⟩
 obtain ⟨g,o,C,a,b,c,e⟩:=h.get.2 j d hd
 exact ⟨g,o,C,a,b,e⟩
structure SndP (P:List Df):Prop where
 ids:∀ (i:Nat) (d:Df),P[i]? = some d → d.a = 0 ∧ d.b = 1 ∧ d.c = 1 + (i:Int)
 knd:∀ (i:Nat) (d:Df),P[i]? = some d → d.kind = 0 ∨ d.kind = 1
 slt:∀ (i:Nat) (d:Df),P[i]? = some d → 1 ≤ d.slots.length ∧ d.slots.length ≤ 3 ∧ ∀ (j:Nat) (s:Sl),d.slots[j]? = some s → Gd i s.ty
 nm:∀ d:Df,P[0]? = some d → d.name = ⟨#[80,111,105,110,116]⟩
theorem SndP.nil:SndP []:=⟨fun _ _ h => by simp at h,fun _ _ h => by simp at h,fun _ _ h => by simp at h,fun _ h => by simp at h⟩
theorem snoc_get {α:Type} {xs:List α} {x y:α} {i:Nat} (h:(xs ++ [x])[i]? = some y):xs[i]? = some y ∨ (i = xs.length ∧ y = x):=by
 by_cases hi:i < xs.length
 ·rw [List.getElem?_append_left hi] at h;exact .inl h
 ·rw [List.getElem?_append_right (by omega)] at h
  have hl:=(List.getElem?_eq_some_iff.1 h).1
  simp at hl
  have:i = xs.length:=by omega
  subst this
  simp at h
  exact .inr ⟨rfl,h.symm⟩
theorem SndP.snoc {P:List Df} (h:SndP P) (kd:Nat) (hk:kd < 2) (sl:List Sl) (h1:1 ≤ sl.length) (h2:sl.length ≤ 3) (hg:∀ s ∈ sl,Gd P.length s.ty):SndP (P ++ [dTy P.length kd sl]):=by
 refine ⟨fun i d hd => ?_,fun i d hd => ?_,fun i d hd => ?_,fun d hd => ?_⟩
 ·rcases snoc_get hd with e | ⟨rfl,rfl⟩
  ·exact h.ids i d e
  ·exact ⟨rfl,rfl,by show ((P.length + 1:Nat):Int) = _;omega⟩
 ·rcases snoc_get hd with e | ⟨rfl,rfl⟩
  ·exact h.knd i d e
  ·show (kd:Int) = 0 ∨ (kd:Int) = 1;omega
 ·rcases snoc_get hd with e | ⟨rfl,rfl⟩
  ·exact h.slt i d e
  ·exact ⟨h1,h2,fun j s hs => hg s (List.mem_of_getElem? hs)⟩
 ·rcases snoc_get hd with e | ⟨e,rfl⟩
  ·exact h.nm d e
  ·show nmB P.length = _
   rw [← e];rfl
theorem SndP.snd {P:List Df} (h:SndP P) (hl:1 ≤ P.length ∧ P.length ≤ 4):Snd P:=⟨hl,h.ids,h.knd,h.slt⟩
theorem mod_build (W:World):(Instr.build 84 #[(0,.agg #[.int .i64 0,.int .i64 1,.int .i64 0]),(1,.string ⟨#[99,111,114,101]⟩)]).run Tryd.prog W = .ok (.agg #[.int .i64 0,.int .i64 1,.int .i64 0,.string ⟨#[99,111,114,101]⟩,.slice none 0 0,.slice none 0 0]) W :=
 run_build W _ _ _ (by kernel_rfl)
theorem growU_keep {w w':World} {B:Nat} {v:Value} {U:List Unit} (h:GrowG 28 3 PU w B v U) (he:∀ g,v.ownBlock = some g → w'.heap[g]? = w.heap[g]?):GrowG 28 3 PU w' B v U:=by
 obtain ⟨L,h1,h2,h3,h4⟩:=h
 refine ⟨L,⟨h1.1,?_⟩,h2,h3,fun _ _ _ _ _ => Foot.const trivial⟩
 rcases h1.2 with h5 | ⟨g,cap,cur,hv,hg,hh,r⟩
 ·exact .inl h5
 ·refine .inr ⟨g,cap,cur,hv,hg,?_,r⟩
  rw [he g (by rw [hv];rfl)]
  exact hh
def TysRes (w:World) (e:Ending) (w':World):Prop:=∃ (P:List Df) (gm B:Nat) (M:Nat → Prop) (dv:Value),e = .returned (.agg #[.slice (some ⟨gm,0,none⟩) 1 1,dv]) ∧ GrowF 46 31 PD w' B M dv P ∧ (w.heap.size ≤ B ∧ ∀ g,M g → B ≤ g) ∧ Snd P ∧ (∀ d:Df,P[0]? = some d → d.name = ⟨#[80,111,105,110,116]⟩) ∧ Below w.heap.size w w'
set_option maxHeartbeats 4000000 in
set_option maxRecDepth 100000 in
theorem Types_any (ls:List Int) (LA:Option Addr) (ln lc:Nat) (w:World) (hN:Nums w ls LA ln) :
  Calls Tryd.prog 10 #[.slice LA ln lc] w (TysRes w):=by
 have V0:=new_later w (.cells #[.slice none 0 0,.slice none 0 0] 26)
 have R0:Arr (w.alloc (.cells #[.slice none 0 0,.slice none 0 0] 26)) w.heap.size 2 26 [.slice none 0 0,.slice none 0 0]:=Arr.new' w _ _ 2 _ rfl rfl (by decide)
 generalize hW:w.alloc (.cells #[.slice none 0 0,.slice none 0 0] 26) = wa at V0 R0
 have HV:=Lib.hid V0
 have HR:=Lib.hid R0
 have HID:Hid (∀ W,Calls Tryd.prog 15 #[.int .i64 0] W fun e w' => e = .returned (.agg #[.int .i64 0,.int .i64 1,.int .i64 0]) ∧ Below W.heap.size W w'):=Lib.hid fun W => ID_any 0 (by omega) W
 have hq:=mod_build
 have hwlt:=R0.lt
 have HWL:=Lib.hid hwlt
 have HAT:Hid (∀ (j m:Nat) W,0 < m → m ≤ 2097152 → Below w.heap.size w W → Calls Tryd.prog 44 #[.slice LA ln lc,.int .i64 (j:Int),.int .i64 (m:Int)] W fun e w' => e = .returned (.int .i64 ((at_ ls j m:Nat):Int)) ∧ w' = W):=Lib.hid fun j m W h1 h2 h => At_any ls j m ln W.heap.size lc LA hN.ln hN.mx h1 h2 hN.i64 W (hN.later h).rd
 have HM0:Hid (∀ W,Below w.heap.size w W → Calls Tryd.prog 44 #[.slice LA ln lc,.int .i64 0,.int .i64 4] W fun e w' => e = .returned (.int .i64 ((at_ ls 0 4:Nat):Int)) ∧ w' = W):=Lib.hid fun W h => HAT.out 0 4 W (by decide) (by decide) h
 have hm0:=atl_lt ls 0 4 (by omega)
 generalize at_ ls 0 4 = m0 at HM0 hm0
 have hm0i:(m0:Int) < 4:=by omega
 have hm00:(0:Int) ≤ (m0:Int):=by omega
 have HN:=Lib.hid hN
 clear V0 R0 hwlt hN
 go_enter Tryd.func10,Tryd.ntmps10
 go_upto_region 1 with fail
 clear hW
 go_upto_region 2 with (first
  | (go_at_call 15;(with_reducible refine (HID.out _).mono ?_);rintro e w1 ⟨rfl,hb⟩;have HBw1:=Lib.hid (hb);clear hb)
  | (refine wpList_store_arr rfl _ (.tmp 3) (.tmp 14) rfl (w1.heap.size + 1) 0 2 26 _ [.slice (some ⟨w1.heap.size,0,none⟩) 1 1,.slice none 0 0] [.slice none 0 0,.slice none 0 0] rfl rfl rfl (by have h:=p2_new (w1.alloc (.cells #[.int .i64 0,.int .i64 1,.int .i64 0,.string ⟨#[99,111,114,101]⟩,.slice none 0 0,.slice none 0 0] 84)) (.slice none 0 0) (.slice none 0 0);rw [World.size_alloc] at h;exact h) (show 0 + 2 ≤ 2 by omega) info_prog (List.all_eq_true.mp (by rfl)) ?_;intro w4 f o;rw [setAll_all [.slice none 0 0,.slice none 0 0] [.slice (some ⟨w1.heap.size,0,none⟩) 1 1,.slice none 0 0] rfl] at f;have HF:=Lib.hid f;have HO:=Lib.hid o;clear f o))
 have hAm:Arr w4 w1.heap.size 6 84 (md6 (.string ⟨#[99,111,114,101]⟩) (.slice none 0 0)):=((Arr.new' w1 84 #[.int .i64 0,.int .i64 1,.int .i64 0,.string ⟨#[99,111,114,101]⟩,.slice none 0 0,.slice none 0 0] 6 (md6 (.string ⟨#[99,111,114,101]⟩) (.slice none 0 0)) rfl rfl (by decide)).later (new_later _ _)).only HO.out (by omega)
 have hB4:Below wa.heap.size wa w4:=later HBw1.out ((later (new_later w1 _) (new_later _ _)).trans (HO.out.bel.mono (by omega)))
 have hR4:=HR.out.later hB4
 have hV4:=later HV.out hB4
 have hgw:w.heap.size < w1.heap.size:=Nat.lt_of_lt_of_le HWL.out HBw1.out.size
 have hF4:=HF.out
 have hsz4:w1.heap.size + 2 ≤ w4.heap.size:=by have:=HF.out.lt;omega
 generalize w1.heap.size = gm at hAm hgw hF4 hsz4 ⊢
 clear HF HO HBw1 HV HR HWL HID hB4 hq
 have HV4:=Lib.hid hV4
 go_upto_region 4 with (go_at_call 44;(with_reducible refine (HM0.out _ HV4.out).mono ?_);rintro e w2 ⟨rfl,hw2⟩;rw [hw2];clear hw2)
 go_wp2_with fail
 go_loopw [5,6] (fun nv iv W' => ∃ (i nx:Nat) (P:List Df) (dv mdv:Value) (U:List Unit),i ≤ m0 + 1 ∧ iv = .int .i64 (i:Int) ∧ nv = .int .i64 (nx:Int) ∧ (P.length = i ∧ U.length = i ∧ nx ≤ m0 + 2 + 3 * i) ∧ Hid (SndP P) ∧ Arr W' w.heap.size 2 26 [.slice none 0 0,.slice none 0 0] ∧ Arr W' (gm + 1) 2 26 [.slice (some ⟨gm,0,none⟩) 1 1,dv] ∧ Arr W' gm 6 84 (md6 (.string ⟨#[99,111,114,101]⟩) mdv) ∧ GrowF 46 31 PD W' (gm + 2) (fun g => gm + 2 ≤ g ∧ mdv.ownBlock ≠ some g) dv P ∧ GrowG 28 3 PU W' (gm + 2) mdv U ∧ (∀ g,dv.ownBlock = some g → mdv.ownBlock ≠ some g) ∧ Below w.heap.size w W' ∧ gm + 2 ≤ W'.heap.size) (fun _ iv _ => m0 + 1 - (intOf iv).toNat)
 case atStart => exact ⟨0,m0 + 2,[],.slice none 0 0,.slice none 0 0,[],Nat.zero_le _,by go_num,by go_num,⟨rfl,rfl,by omega⟩,Lib.hid SndP.nil,hR4,hF4,hAm,GrowF.nil _ _ _,GrowG.nil _ _,fun g h => by simp [Value.ownBlock] at h,hV4,hsz4⟩
 case round =>
  clear hR4 hV4 hAm hF4 hsz4
  obtain ⟨i,nx,P,dv,mdv,U,hi,rfl,rfl,⟨hP,hU,hnx⟩,HS,A2,AP,AM,GD,GM,HD,V6,hB6⟩:=hrel
  have hi0:(0:Int) ≤ (i:Int):=by omega
  have hn0:(0:Int) ≤ (nx:Int):=by omega
  by_cases hlt:i < m0 + 1
  ·have hii:(i:Int) < 1 + (m0:Int):=by omega
   have hi4:(i:Int) < 4:=by omega
   have hn20:(nx:Int) ≤ 20:=by omega
   have HAX:Hid (∀ W,Below w.heap.size w W → Calls Tryd.prog 44 #[.slice LA ln lc,.int .i64 (1 + (i:Int)),.int .i64 65536] W fun e w' => e = .returned (.int .i64 ((at_ ls (1 + i) 65536:Nat):Int)) ∧ w' = W):=Lib.hid fun W h => by
    have:=HAT.out (1 + i) 65536 W (by decide) (by decide) h
    rwa [show ((1 + i:Nat):Int) = 1 + (i:Int) by omega] at this
   have hX:=atl_lt ls (1 + i) 65536 (by omega)
   generalize at_ ls (1 + i) 65536 = X at HAX hX
   have hXi:(X:Int) < 65536:=by omega
   have hX0:(0:Int) ≤ (X:Int):=by omega
   have HA2:=Lib.hid A2
   have HAP:=Lib.hid AP
   have HAM:=Lib.hid AM
   have HGD:=Lib.hid GD
   have HGM:=Lib.hid GM
   have HHD:=Lib.hid HD
   have HV6:=Lib.hid V6
   have HB6:=Lib.hid hB6
   have HPU:=Lib.hid (And.intro hP (And.intro hU hnx))
   have HI:=Lib.hid hlt
   have hi4n:i < 4:=by omega
   clear A2 AP AM GD GM HD V6 hB6 hP hU hnx hlt hi
   go_upto_region 8 with (go_at_call 44;(with_reducible refine (HAX.out _ HV6.out).mono ?_);rintro e w7 ⟨rfl,hw7⟩;rw [hw7];clear hw7)
   refine reg8 (by kernel_rfl) _ _ i X hi4n hX (by simp) rfl rfl ?_
   intro vs gd w8 h8 hgd hA8 hb8 a' ha'
   simp only [List.foldl_cons,List.foldl_nil,Act.put,List.setIfInBounds_toArray,List.set_cons_succ,List.set_cons_zero,h8] at ha'
   subst ha'
   have HOUT:Hid (∀ W,Below gd w8 W → (Arr W w.heap.size 2 26 [.slice none 0 0,.slice none 0 0] ∧ Arr W (gm + 1) 2 26 [.slice (some ⟨gm,0,none⟩) 1 1,dv] ∧ Arr W gm 6 84 (md6 (.string ⟨#[99,111,114,101]⟩) mdv) ∧ GrowF 46 31 PD W (gm + 2) (fun g => gm + 2 ≤ g ∧ mdv.ownBlock ≠ some g) dv P ∧ GrowG 28 3 PU W (gm + 2) mdv U ∧ Below w.heap.size w W)):=Lib.hid fun W h => by
    have hb:=hb8.trans (h.mono hgd)
    exact ⟨HA2.out.later hb,HAP.out.later hb,HAM.out.later hb,HGD.out.keep (hb.mono (Nat.zero_le _)) (fun g _ hl => hb.block g hl),HGM.out.keep (hb.mono (Nat.zero_le _)) (fun g _ hl => hb.block g hl),later HV6.out hb⟩
   have HOB:Hid (∀ g,dv.ownBlock = some g ∨ mdv.ownBlock = some g → g < gd):=Lib.hid fun g h => by
    have:g < wr.heap.size:=h.elim (fun e => (HGD.out.lt g e).2) (fun e => (HGM.out.lt g e).2)
    omega
   have HGE:Hid (gm + 2 ≤ gd):=Lib.hid (Nat.le_trans HB6.out hgd)
   clear HA2 HAP HAM HGD HGM HV6 HB6 hgd hb8
   obtain ⟨sn,hsn⟩:∃ sn,X / 2 % 3 = sn:=⟨_,rfl⟩
   have hsr:(X:Int) / 2 % 3 = (sn:Int):=by omega
   have hsn3:(sn:Int) < 3:=by omega
   have hsn0:(0:Int) ≤ (sn:Int):=by omega
   have HSN:Hid (sn < 3):=Lib.hid (by omega)
   generalize hkd:X % 2 = kd at hA8
   have HKD:Hid (kd < 2):=Lib.hid (by omega)
   have HA8:=Lib.hid hA8
   clear hsn hkd hA8 h8
   go_wp2_with fail
   have hgB:=HA8.out.lt
   have hb80:Below gd w8 w8:=Below.refl _ _
   generalize hB0:w8.heap.size = B0 at hgB
   have HGB:=Lib.hid hgB
   have HB0:=Lib.hid hB0
   clear hgB hB0
   go_loopw [5,10] (fun nv kv W' => ∃ (k:Nat) (sv:Value) (acc:List Sl),k ≤ sn + 1 ∧ kv = .int .i64 (k:Int) ∧ nv = .int .i64 ((nx + k:Nat):Int) ∧ acc.length = k ∧ Hid (∀ s ∈ acc,Gd i s.ty) ∧ Arr W' gd 31 46 (df31 ((i + 1:Nat):Int) (kd:Int) (nmB i) sv) ∧ GrowG 66 11 PS W' B0 sv acc ∧ Below gd w8 W' ∧ B0 ≤ W'.heap.size) (fun _ kv _ => sn + 1 - (intOf kv).toNat)
   case atStart => exact ⟨0,.slice none 0 0,[],Nat.zero_le _,by go_num,by go_num,rfl,Lib.hid (by simp),HA8.out,GrowG.nil _ _,hb80,by rw [HB0.out];exact Nat.le_refl _⟩
   case round =>
    clear hb80
    obtain ⟨k,sv,acc,hk,rfl,rfl,hac,HGA,A9,G9,V9,hB9⟩:=hrel
    have hk0:(0:Int) ≤ (k:Int):=by omega
    have hnk0:(0:Int) ≤ ((nx + k:Nat):Int):=by omega
    by_cases hlk:k < sn + 1
    ·have hki:(k:Int) < 1 + (sn:Int):=by omega
     have hk3:(k:Int) < 3:=by omega
     have hk3n:k < 3:=by omega
     have hnk:((nx + k:Nat):Int) ≤ 31:=by omega
     have hnkn:nx + k ≤ 31:=by omega
     have hac3:acc.length ≤ 3:=by omega
     have hY:=atl_lt ls (5 + 3 * i + k) 65536 (by omega)
     have HATY:Hid (∀ W,Below B0 wr W → Calls Tryd.prog 44 #[.slice LA ln lc,.int .i64 ((5 + 3 * i + k:Nat):Int),.int .i64 65536] W fun e w' => e = .returned (.int .i64 ((at_ ls (5 + 3 * i + k) 65536:Nat):Int)) ∧ w' = W):=Lib.hid fun W h => by
      have h1:=(HOUT.out wr V9).2.2.2.2.2
      exact HAT.out (5 + 3 * i + k) 65536 W (by decide) (by decide) (h1.trans (h.mono (by have:=HGE.out;have:=HGB.out;omega)))
     generalize at_ ls (5 + 3 * i + k) 65536 = Y at HATY hY
     have HA9:=Lib.hid A9
     have HG9:=Lib.hid G9
     have HV9:=Lib.hid V9
     have HB9:=Lib.hid hB9
     have HLK:=Lib.hid hlk
     have HAC:=Lib.hid hac
     clear A9 G9 V9 hB9 hk hlk hac
     go_upto_region 13 with fail
     refine reg13 (by kernel_rfl) _ _ i k (nx + k) gd Y B0 sv (.slice LA ln lc) _ _ _ acc hi4n hk3n hnkn hY hac3 (by simp) rfl rfl rfl rfl rfl HGB.out HB9.out HA9.out HG9.out HATY.out ?_
     intro vs2 sv' t w13 ht hA13 hG13 hb13 a2 ha2
     simp only [D13,List.foldl_cons,List.foldl_nil,Act.put,List.setIfInBounds_toArray,List.set_cons_succ,List.set_cons_zero] at ha2
     subst ha2
     have HA13:=Lib.hid hA13
     have HG13:=Lib.hid hG13
     have HV13:=Lib.hid (HV9.out.trans hb13)
     have HB13:=Lib.hid (Nat.le_trans HB9.out hb13.size)
     have HGA2:Hid (∀ s ∈ acc ++ [sEx ((nx + k:Nat):Int) (nmx k) t],Gd i s.ty):=Lib.hid fun s hs => by
      rcases List.mem_append.1 hs with h | h
      ·exact HGA.out s h
      ·simp at h;subst h;exact ht
     clear hA13 hG13 hb13 ht
     go_wp2_with fail
     go_roundw
     case rel => exact ⟨k + 1,sv',acc ++ [sEx ((nx + k:Nat):Int) (nmx k) t],HLK.out,by go_num,by go_num,by rw [List.length_append,HAC.out];rfl,HGA2,HA13.out,HG13.out,HV13.out,HB13.out⟩
     case measure => simp [intOf];omega
    ·have hnl:¬ ((k:Int) < 1 + (sn:Int)):=by omega
     have HKE:Hid (k = sn + 1):=Lib.hid (by omega)
     obtain ⟨O2,OP,OM,OD,OI,OV⟩:=HOUT.out wr V9
     have hS9:=sls_of G9
     have HG9S:=Lib.hid G9.shape
     have HXD:Hid (Foot (fun g => (gm + 2 ≤ g ∧ mdv.ownBlock ≠ some g) ∧ dv.ownBlock ≠ some g) (PD (dTy i kd acc) (df31 ((i + 1:Nat):Int) (kd:Int) (nmB i) sv)) wr):=Lib.hid ((hS9.mono (fun g hg => ⟨⟨by have:=HGE.out;have:=HGB.out;omega,fun e => by have:=HOB.out g (.inr e);have:=HGB.out;omega⟩,fun e => by have:=HOB.out g (.inl e);have:=HGB.out;omega⟩)).imp (fun W h => df_at2 W i kd acc sv h))
     have HO2:=Lib.hid O2
     have HOP:=Lib.hid OP
     have HOM:=Lib.hid OM
     have HOD:=Lib.hid OD
     have HOI:=Lib.hid OI
     have HOV:=Lib.hid OV
     have HA9:=Lib.hid A9
     have HB9:=Lib.hid hB9
     have HAC:=Lib.hid hac
     clear O2 OP OM OD OI OV A9 G9 V9 hB9 hS9 hk hac hlk
     go_upto_region 15 with fail
     have HPL:=HPU.out.1
     have HUL:=HPU.out.2.1
     have hgm1:gm + 1 < gm + 2:=by omega
     have hgm0:gm < gm + 2:=by omega
     have hB0w:gm + 2 ≤ wr.heap.size:=by have:=HB9.out;have:=HGB.out;have:=HGE.out;omega
     have hgdd:dv.ownBlock ≠ some gd:=fun e => by have:=HOB.out gd (.inl e);omega
     have hgdm:mdv.ownBlock ≠ some gd:=fun e => by have:=HOB.out gd (.inr e);omega
     have hC1:∀ u ∈ df31 ((i + 1:Nat):Int) (kd:Int) (nmB i) sv,u.oneCell' = true:=by
      obtain ⟨A,cap,h,_⟩:=HG9S.out
      rw [h]
      exact List.all_eq_true.mp (by rfl)
     refine reg15 (by kernel_rfl) _ _ (gm + 1) gd (gm + 2) (fun g => gm + 2 ≤ g ∧ mdv.ownBlock ≠ some g) (.slice (some ⟨gm,0,none⟩) 1 1) dv (df31 ((i + 1:Nat):Int) (kd:Int) (nmB i) sv) P (dTy i kd acc) (by omega) hgdd _ _ _ sv rfl (by simp) rfl rfl hgm1 hB0w (fun g h => h.1) rfl hC1 HOP.out HA9.out HOD.out HXD.out ?_
     intro vs3 dv' w15 hG15 hn15 hP15 hb15 ho15 a3 ha3
     simp only [D15,List.foldl_cons,List.foldl_nil,Act.put,List.setIfInBounds_toArray,List.set_cons_succ,List.set_cons_zero] at ha3
     subst ha3
     have hdo:∀ g,dv.ownBlock = some g → gm + 2 ≤ g:=fun g e => (HOD.out.lt g e).1
     have hmo:∀ g,mdv.ownBlock = some g → gm + 2 ≤ g ∧ g < wr.heap.size:=fun g e => HOI.out.lt g e
     have hgdw:=HA9.out.lt
     have HA2':Hid (Arr w15 w.heap.size 2 26 [.slice none 0 0,.slice none 0 0]):=Lib.hid (arr_same HO2.out (ho15 _ HO2.out.lt (by omega) (fun e => by have:=hdo _ e;omega)))
     have HAM':Hid (Arr w15 gm 6 84 (md6 (.string ⟨#[99,111,114,101]⟩) mdv)):=Lib.hid (arr_same HOM.out (ho15 _ HOM.out.lt (by omega) (fun e => by have:=hdo _ e;omega)))
     have HAD':Hid (Arr w15 gd 31 46 (df31 ((i + 1:Nat):Int) (kd:Int) (nmB i) sv)):=Lib.hid (arr_same HA9.out (ho15 _ hgdw (by have:=HGE.out;omega) hgdd))
     have HGI':Hid (GrowG 28 3 PU w15 (gm + 2) mdv U):=Lib.hid (growU_keep HOI.out (fun g e => ho15 g (hmo g e).2 (by have:=(hmo g e).1;omega) (fun e2 => HHD.out g e2 e)))
     have HV15:Hid (Below w.heap.size w w15):=Lib.hid (HOV.out.trans ⟨hb15.os,hb15.tape,hb15.output,hb15.size,fun g hg => ho15 g (Nat.lt_of_lt_of_le hg HOV.out.size) (by omega) (fun e => by have:=hdo _ e;omega)⟩)
     have HHD':Hid (∀ g,dv'.ownBlock = some g → mdv.ownBlock ≠ some g):=Lib.hid fun g e e2 => by
      rcases hn15 g e with h | h
      ·exact HHD.out g h e2
      ·have:=(hmo g e2).2;omega
     have HG15:=Lib.hid hG15
     have HP15:=Lib.hid hP15
     have hB15:gm + 2 ≤ w15.heap.size:=Nat.le_trans hB0w hb15.size
     clear hG15 hn15 hP15 hb15 ho15 hdo hmo hgdw hgdd hC1 HO2 HOP HOM HOD HOI HOV HXD HA9 HB9
     go_upto_region 16 with fail
     refine reg16 (by kernel_rfl) _ _ (gm + 1) gm gd (gm + 2) sv dv' (.string ⟨#[99,111,114,101]⟩) mdv _ _ _ U (by omega) (by simp) rfl rfl hgm1 hgm0 hB15 hgdm HP15.out HAM'.out HAD'.out HGI'.out ?_
     intro vs4 mdv' w16 hG16 hn16 hA16 hb16 ho16 a4 ha4
     simp only [D16,List.foldl_cons,List.foldl_nil,Act.put,List.setIfInBounds_toArray,List.set_cons_succ,List.set_cons_zero] at ha4
     subst ha4
     have hmo:∀ g,mdv.ownBlock = some g → gm + 2 ≤ g:=fun g e => (HGI'.out.lt g e).1
     have HA2'':Hid (Arr w16 w.heap.size 2 26 [.slice none 0 0,.slice none 0 0]):=Lib.hid (arr_same HA2'.out (ho16 _ HA2'.out.lt (by omega) (fun e => by have:=hmo _ e;omega)))
     have HAP'':Hid (Arr w16 (gm + 1) 2 26 [.slice (some ⟨gm,0,none⟩) 1 1,dv']):=Lib.hid (arr_same HP15.out (ho16 _ HP15.out.lt (by omega) (fun e => by have:=hmo _ e;omega)))
     have HV16:Hid (Below w.heap.size w w16):=Lib.hid (HV15.out.trans ⟨hb16.os,hb16.tape,hb16.output,hb16.size,fun g hg => ho16 g (Nat.lt_of_lt_of_le hg HV15.out.size) (by omega) (fun e => by have:=hmo _ e;omega)⟩)
     have HGD'':Hid (GrowF 46 31 PD w16 (gm + 2) (fun g => gm + 2 ≤ g ∧ mdv'.ownBlock ≠ some g) dv' (P ++ [dTy i kd acc])):=Lib.hid (by
      have h1:=HG15.out.mono (F':=fun g => (gm + 2 ≤ g ∧ mdv.ownBlock ≠ some g) ∧ mdv'.ownBlock ≠ some g) (fun g hg hl => ⟨hg,fun e => (hn16 g e).elim (fun e2 => hg.2 e2) (fun h => by omega)⟩)
      have hgeq:∀ g,((gm + 2 ≤ g ∧ mdv.ownBlock ≠ some g) ∧ mdv'.ownBlock ≠ some g) ∨ dv'.ownBlock = some g → g ≠ gm:=fun g hg => by
       rcases hg with h | h
       ·omega
       ·have:=(HG15.out.lt g h).1;omega
      have h2:=h1.keep (hb16.mono (Nat.zero_le _)) (fun g hg hl => ho16 g hl (hgeq g hg) (hg.elim (fun h => h.1.2) (fun h => HHD'.out g h)))
      exact h2.mono (fun g hg _ => ⟨hg.1.1,hg.2⟩))
     have HHD'':Hid (∀ g,dv'.ownBlock = some g → mdv'.ownBlock ≠ some g):=Lib.hid fun g e e2 => by
      rcases hn16 g e2 with h | h
      ·exact HHD'.out g e h
      ·have:=(HG15.out.lt g e).2;omega
     have HG16:=Lib.hid hG16
     have HA16:=Lib.hid hA16
     have hB16:gm + 2 ≤ w16.heap.size:=Nat.le_trans hB15 hb16.size
     have HSN2:Hid (SndP (P ++ [dTy i kd acc])):=Lib.hid (by
      have h:=HS.out.snoc kd HKD.out acc (by rw [HAC.out,HKE.out];omega) (by rw [HAC.out,HKE.out];have:=HSN.out;omega) (fun s hs => by rw [HPL];exact HGA.out s hs)
      rwa [HPL] at h)
     have HFIN:Hid ((P ++ [dTy i kd acc]).length = i + 1 ∧ (U ++ [()]).length = i + 1 ∧ nx + k ≤ m0 + 2 + 3 * (i + 1)):=Lib.hid ⟨by rw [List.length_append,HPL];rfl,by rw [List.length_append,HUL];rfl,by have:=HPU.out.2.2;have:=HKE.out;have:=HSN.out;omega⟩
     have HIL:Hid (i + 1 ≤ m0 + 1):=Lib.hid HI.out
     clear hG16 hn16 hA16 hb16 ho16 hmo HPL HUL HA2' HAM' HAD' HGI' HV15 HHD' HG15 HP15
     go_wp2_with fail
     go_roundw
     case rel => exact ⟨i + 1,nx + k,P ++ [dTy i kd acc],dv',mdv',U ++ [()],HIL.out,by go_num,by go_num,HFIN.out,HSN2,HA2''.out,HAP''.out,HA16.out,HGD''.out,HG16.out,HHD''.out,HV16.out,hB16⟩
     case measure => simp [intOf];have:=HI.out;omega
  ·have hnl:¬ ((i:Int) < 1 + (m0:Int)):=by omega
   have HAP:=Lib.hid AP
   have HA2:=Lib.hid A2
   have HGD:=Lib.hid GD
   have HV6:=Lib.hid V6
   have HPP:Hid (1 ≤ P.length ∧ P.length ≤ 4):=Lib.hid (by omega)
   have HIP:Hid ((Tryd.prog.info? 26).map (·.size) = some ([.slice (some ⟨gm,0,none⟩) 1 1,dv]:List Value).length):=Lib.hid info_prog
   have HC1:Hid (∀ v ∈ [Value.slice (some ⟨gm,0,none⟩) 1 1,dv],v.oneCell' = true):=Lib.hid (by
    obtain ⟨A,cap,h,_⟩:=GD.shape
    intro v hv
    simp at hv
    rcases hv with rfl | rfl
    ·rfl
    ·rw [h];rfl)
   have HRP:Hid (wr.rangeAt (gm + 1) 0 [.slice (some ⟨gm,0,none⟩) 1 1,dv]):=Lib.hid AP.range
   clear AP A2 GD V6 AM GM HD hB6 hP hU hnx hlt hi
   go_wp2_with (first
    | (with_reducible refine wpList_load_mid rfl _ (.tmp 3) rfl (gm + 1) 0 rfl [.slice (some ⟨gm,0,none⟩) 1 1,dv] _ HRP.out Tryd.underlying26 rfl HIP.out ?_)
    | (refine wpList_store_arr rfl _ (.tmp 2) (.tmp 91) rfl w.heap.size 0 2 26 _ [.slice (some ⟨gm,0,none⟩) 1 1,dv] [.slice none 0 0,.slice none 0 0] rfl rfl rfl HA2.out (show 0 + 2 ≤ 2 by omega) info_prog HC1.out ?_;intro w17 f17 o17))
   rw [setAll_all [.slice none 0 0,.slice none 0 0] [.slice (some ⟨gm,0,none⟩) 1 1,dv] rfl] at f17
   refine bodyPost_ret (results_one rfl _ _ w.heap.size [.slice (some ⟨gm,0,none⟩) 1 1,dv] _ rfl f17.range Tryd.underlying26 rfl info_prog) rfl ?_
   have ha2:=HA2.out.lt
   refine ⟨P,gm,gm + 2,fun g => gm + 2 ≤ g ∧ mdv.ownBlock ≠ some g,dv,rfl,HGD.out.keep (o17.bel.mono (Nat.zero_le _)) (fun g hg _ => o17.2 g (by
    have:gm + 2 ≤ g:=hg.elim (fun h => h.1) (fun e => (HGD.out.lt g e).1)
    omega)),⟨by omega,fun g h => h.1⟩,HS.out.snd HPP.out,HS.out.nm,HV6.out.trans (o17.bel.mono (Nat.le_refl _))⟩
end Go.Proofs.YtmfihlcibephlaaDoor
namespace Go.Proofs.YtmfihlcibephlaaDoor
open Go.RowKit
theorem cmpI_cases (x y:Int):(x < y ∧ cmpI x y = -1) ∨ (x = y ∧ cmpI x y = 0) ∨ (y < x ∧ cmpI x y = 1):=by
 unfold cmpI
 by_cases h:x < y
 ·exact .inl ⟨h,by rw [if_pos h]⟩
 ·by_cases h2:y < x
  ·exact .inr (.inr ⟨h2,by rw [if_neg h,if_pos h2]⟩)
  ·exact .inr (.inl ⟨by omega,by rw [if_neg h,if_neg h2]⟩)
def lex4 (a b c d:Int):Int:=if a ≠ 0 then a else if b ≠ 0 then b else if c ≠ 0 then c else d
theorem cp_lex (k n k' n':Int) (ks ks':List Tr):(Tr.node k n ks).cp (.node k' n' ks') = lex4 (cmpI k k') (cmpI n n') (cmpI (ks.length:Int) (ks'.length:Int)) (cpL ks ks'):=by rw [Tr.cp];rfl
theorem lex4_cases (a b c d:Int):(a ≠ 0 ∧ lex4 a b c d = a) ∨ (a = 0 ∧ b ≠ 0 ∧ lex4 a b c d = b) ∨ (a = 0 ∧ b = 0 ∧ c ≠ 0 ∧ lex4 a b c d = c) ∨ (a = 0 ∧ b = 0 ∧ c = 0 ∧ lex4 a b c d = d):=by
 unfold lex4
 by_cases ha:a = 0
 ·by_cases hb:b = 0
  ·by_cases hc:c = 0
   ·exact .inr (.inr (.inr ⟨ha,hb,hc,by rw [if_neg (by simp [ha]),if_neg (by simp [hb]),if_neg (by simp [hc])]⟩))
   ·exact .inr (.inr (.inl ⟨ha,hb,hc,by rw [if_neg (by simp [ha]),if_neg (by simp [hb]),if_pos hc]⟩))
  ·exact .inr (.inl ⟨ha,hb,by rw [if_neg (by simp [ha]),if_pos hb]⟩)
 ·exact .inl ⟨ha,by rw [if_pos ha]⟩
theorem cpL_cons (x y:Tr) (xs ys:List Tr):(x.cp y ≠ 0 ∧ cpL (x :: xs) (y :: ys) = x.cp y) ∨ (x.cp y = 0 ∧ cpL (x :: xs) (y :: ys) = cpL xs ys):=by
 rw [cpL]
 by_cases h:x.cp y = 0
 ·exact .inr ⟨h,by rw [if_neg (by simp [h])]⟩
 ·exact .inl ⟨h,by rw [if_pos h]⟩
mutual
theorem cp_rng:∀ (x y:Tr),-1 ≤ x.cp y ∧ x.cp y ≤ 1
 | .node k n ks,.node k' n' ks' => by
  have h:=cpL_rng ks ks'
  rw [cp_lex]
  rcases cmpI_cases k k' with a | a | a <;> rcases cmpI_cases n n' with b | b | b <;> rcases cmpI_cases (ks.length:Int) (ks'.length:Int) with c | c | c <;> rcases lex4_cases (cmpI k k') (cmpI n n') (cmpI (ks.length:Int) (ks'.length:Int)) (cpL ks ks') with e | e | e | e <;> omega
theorem cpL_rng:∀ (xs ys:List Tr),-1 ≤ cpL xs ys ∧ cpL xs ys ≤ 1
 | [],_ => by simp [cpL]
 | _ :: _,[] => by simp [cpL]
 | x :: xs,y :: ys => by
  have h1:=cp_rng x y
  have h2:=cpL_rng xs ys
  rcases cpL_cons x y xs ys with h | h <;> omega
end
mutual
theorem cp_anti:∀ (x y:Tr),y.cp x = -(x.cp y)
 | .node k n ks,.node k' n' ks' => by
  have h:=cpL_anti ks ks'
  rw [cp_lex,cp_lex]
  have a2:=cmpI_cases k' k
  have b2:=cmpI_cases n' n
  have c2:=cmpI_cases (ks'.length:Int) (ks.length:Int)
  rcases cmpI_cases k k' with a | a | a <;> rcases cmpI_cases n n' with b | b | b <;> rcases cmpI_cases (ks.length:Int) (ks'.length:Int) with c | c | c <;> rcases lex4_cases (cmpI k k') (cmpI n n') (cmpI (ks.length:Int) (ks'.length:Int)) (cpL ks ks') with e | e | e | e <;> rcases lex4_cases (cmpI k' k) (cmpI n' n) (cmpI (ks'.length:Int) (ks.length:Int)) (cpL ks' ks) with f | f | f | f <;> omega
theorem cpL_anti:∀ (xs ys:List Tr),cpL ys xs = -(cpL xs ys)
 | [],[] => by simp [cpL]
 | [],_ :: _ => by simp [cpL]
 | _ :: _,[] => by simp [cpL]
 | x :: xs,y :: ys => by
  have h1:=cp_anti x y
  have h2:=cpL_anti xs ys
  rcases cpL_cons x y xs ys with h | h <;> rcases cpL_cons y x ys xs with h' | h' <;> omega
end
theorem cp_self (x:Tr):x.cp x = 0:=by have:=cp_anti x x;omega
end Go.Proofs.YtmfihlcibephlaaDoor
