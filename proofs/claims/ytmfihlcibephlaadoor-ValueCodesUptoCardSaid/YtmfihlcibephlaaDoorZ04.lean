import Derived.Test.YtmfihlcibephlaaDoorZ03
set_option linter.unusedVariables false
set_option linter.unusedSimpArgs false
namespace Go.Proofs.YtmfihlcibephlaaDoor
open Go.RowKit
def vty (P:List Df):Nat → Ty → Bool
 | 0,_ => false
 | f + 1,.node k s q i ks =>
  if k = 0 ∨ k = 1 then decide (ks.length = 0) && (decide (s = 0) && (decide (q = 0) && decide (i = 0)))
  else if k = 3 then decide (ks.length = 0) && isD P s q i
  else if k = 2 then decide (ks.length = 1) && ((decide (s = 0) && (decide (q = 0) && decide (i = 0))) && (ks.map (vty P f)).headD false)
  else false
set_option maxHeartbeats 16000000 in
set_option maxRecDepth 100000 in
theorem validtype_any (P:List Df) (x:Ty) (w:World) (v pv:Value) (hP0:PrAt w P pv) (hx:TyAt w x v) :
  Calls Tryd.prog 16 #[pv,v] w (BRes (vty P 24 x) w):=by
 have hP1:=hP0
 obtain ⟨mv,A0,cap0,rfl,hm,hP⟩:=hP0
 obtain ⟨n,hn⟩:∃ n,P.length = n:=⟨_,rfl⟩
 rw [hn] at hP1 ⊢
 have HID:=Lib.hid fun (a b c:Int) (W:World) (hW:PrAt W P (.agg #[mv,.slice A0 n cap0])) => isData_any P a b c W _ hW
 cases x with
 | node k0 s0 q0 i0 ks0 =>
 unfold TyAt at hx
 obtain ⟨B0,capb,rfl,hmb,hkb⟩:=hx
 obtain ⟨Z,hZ⟩:∃ Z,vty P 24 (.node k0 s0 q0 i0 ks0) = Z:=⟨_,rfl⟩
 rw [hZ]
 have P0:=p2_new w mv (.slice A0 n cap0)
 have V0':=new_later w (.cells #[mv,.slice A0 n cap0] 26)
 have Q0:=t5_new (w.alloc (.cells #[mv,.slice A0 n cap0] 26)) k0 s0 q0 i0 B0 ks0.length capb
 have P1:=P0.later (new_later _ (.cells (t5 k0 s0 q0 i0 B0 ks0.length capb).toArray 31))
 have V1:=later V0' (new_later _ (.cells (t5 k0 s0 q0 i0 B0 ks0.length capb).toArray 31))
 rw [World.size_alloc] at Q0
 clear P0 V0'
 generalize hW:(w.alloc (.cells #[mv,.slice A0 n cap0] 26)).alloc (.cells (t5 k0 s0 q0 i0 B0 ks0.length capb).toArray 31) = wa at P1 V1 Q0
 have HPA:=Lib.hid hP1
 have HV1:=Lib.hid V1
 have HKB:=Lib.hid hkb
 have HMB:=Lib.hid hmb
 have HZ:=Lib.hid hZ
 have HP1':=Lib.hid P1
 have HQ1:=Lib.hid Q0
 clear hP1 hP hm hkb hmb hZ P1 Q0 V1 hn
 go_enter Tryd.func16,Tryd.ntmps16
 go_upto_region 1 with fail
 clear hW
 go_wp2_with fail
 go_loopw [6] (fun c W => ∃ (j:Nat) (k s q i:Int) (ks:List Ty) (A:Option Addr) (cap:Nat),j ≤ 24 ∧ c = .int .i64 (j:Int) ∧ Arr W (w.heap.size + 1) 5 31 (t5 k s q i A ks.length cap) ∧ KtAt w A 0 ks ∧ Below w.heap.size w W ∧ Arr W w.heap.size 2 26 [mv,.slice A0 n cap0] ∧ Hid (vty P (24 - j) (.node k s q i ks) = Z)) (fun c _ => 24 - (intOf c).toNat)
 case atStart => exact ⟨0,k0,s0,q0,i0,ks0,B0,capb,by omega,rfl,HQ1.out,HKB.out,HV1.out,HP1'.out,HZ⟩
 case round =>
  obtain ⟨j,k,s,q,i,ks,A,cap,hj,rfl,Q2,hks,V2,P2,HZJ⟩:=hrel
  have hj0:(0:Int) ≤ (j:Int):=by omega
  by_cases hlt:j < 24
  ·have hji:(j:Int) < 24:=by omega
   obtain ⟨f,hf⟩:∃ f,24 - j = f + 1:=⟨23 - j,by omega⟩
   have hzj:=HZJ.out
   rw [hf,vty] at hzj
   have y0:=Q2.cell (j:=0) (v:=.int .i64 k) rfl
   have y1:=Q2.cell (j:=1) (v:=.int .i64 s) rfl
   have y2:=Q2.cell (j:=2) (v:=.int .i64 q) rfl
   have y3:=Q2.cell (j:=3) (v:=.int .i64 i) rfl
   have y4:=Q2.cell (j:=4) (v:=.slice A ks.length cap) rfl
   have z0:=P2.cell (j:=0) (v:=mv) rfl
   have z1:=P2.cell (j:=1) (v:=.slice A0 n cap0) rfl
   have HVV:=Lib.hid V2
   have HPP:=Lib.hid P2
   have HQQ:=Lib.hid Q2
   have HKS:=Lib.hid hks
   have HPR:=Lib.hid (HPA.out.later V2)
   have HLT:=Lib.hid (⟨hlt,hf⟩:j < 24 ∧ 24 - j = f + 1)
   have heq:=fun W => eq_id s q i 0 0 0 W
   have hneq:=fun W => neq_id s q i 0 0 0 W
   have HIS:=Lib.hid (HID.out s q i)
   generalize isD P s q i = D at hzj HIS
   generalize (decide (s = 0) && (decide (q = 0) && decide (i = 0))) = E at hzj heq hneq
   clear V2 P2 Q2 hks HZJ hf hlt hj
   rcases ks with _ | ⟨x1,_ | ⟨x2,r⟩⟩
   ·have y5:wr.cell? ⟨w.heap.size + 1,4,none⟩ = some (.slice A 0 cap):=y4
    clear y4
    cases E with
    | true =>
     by_cases hk0:k = 0
     ·have hk:=hk0
      clear hk0
      subst hk
      have HZZ:Hid (true = Z):=Lib.hid (by rw [← hzj];simp)
      clear hzj
      go_wp2_with fail
      go_ret
      exact ⟨by rw [← HZZ.out];rfl,HVV.out⟩
     by_cases hk1:k = 1
     ·have hk:=hk1
      clear hk0 hk1
      subst hk
      have HZZ:Hid (true = Z):=Lib.hid (by rw [← hzj];simp)
      clear hzj
      go_wp2_with fail
      go_ret
      exact ⟨by rw [← HZZ.out];rfl,HVV.out⟩
     by_cases hk2:k = 2
     ·have hk:=hk2
      clear hk0 hk1 hk2
      subst hk
      have HZZ:Hid (false = Z):=Lib.hid (by rw [← hzj];simp)
      clear hzj
      go_wp2_with fail
      go_ret
      exact ⟨by rw [← HZZ.out];rfl,HVV.out⟩
     by_cases hk3:k = 3
     ·have hk:=hk3
      clear hk0 hk1 hk2 hk3
      subst hk
      have HZZ:Hid (D = Z):=Lib.hid (by rw [← hzj];simp)
      clear hzj
      go_wp2_with (first
       | (go_at_call 46;(with_reducible refine (HIS.out _ HPR.out).mono ?_);rintro e w7 ⟨rfl,hb7⟩;have V7:=later HVV.out hb7))
      go_ret
      exact ⟨by rw [← HZZ.out];rfl,V7⟩
     have HZZ:Hid (false = Z):=Lib.hid (by rw [← hzj,if_neg (by omega),if_neg hk3,if_neg hk2])
     clear hzj
     have hkb0:(k == 0) = false:=by rw [beq_eq_false_iff_ne];exact hk0
     have hkb1:(k == 1) = false:=by rw [beq_eq_false_iff_ne];exact hk1
     have hkb2:(k == 2) = false:=by rw [beq_eq_false_iff_ne];exact hk2
     have hkb3:(k == 3) = false:=by rw [beq_eq_false_iff_ne];exact hk3
     clear hk0 hk1 hk2 hk3
     go_wp2_with fail
     go_ret
     exact ⟨by rw [← HZZ.out];rfl,HVV.out⟩
    | false =>
     by_cases hk0:k = 0
     ·have hk:=hk0
      clear hk0
      subst hk
      have HZZ:Hid (false = Z):=Lib.hid (by rw [← hzj];simp)
      clear hzj
      go_wp2_with fail
      go_ret
      exact ⟨by rw [← HZZ.out];rfl,HVV.out⟩
     by_cases hk1:k = 1
     ·have hk:=hk1
      clear hk0 hk1
      subst hk
      have HZZ:Hid (false = Z):=Lib.hid (by rw [← hzj];simp)
      clear hzj
      go_wp2_with fail
      go_ret
      exact ⟨by rw [← HZZ.out];rfl,HVV.out⟩
     by_cases hk2:k = 2
     ·have hk:=hk2
      clear hk0 hk1 hk2
      subst hk
      have HZZ:Hid (false = Z):=Lib.hid (by rw [← hzj];simp)
      clear hzj
      go_wp2_with fail
      go_ret
      exact ⟨by rw [← HZZ.out];rfl,HVV.out⟩
     by_cases hk3:k = 3
     ·have hk:=hk3
      clear hk0 hk1 hk2 hk3
      subst hk
      have HZZ:Hid (D = Z):=Lib.hid (by rw [← hzj];simp)
      clear hzj
      go_wp2_with (first
       | (go_at_call 46;(with_reducible refine (HIS.out _ HPR.out).mono ?_);rintro e w7 ⟨rfl,hb7⟩;have V7:=later HVV.out hb7))
      go_ret
      exact ⟨by rw [← HZZ.out];rfl,V7⟩
     have HZZ:Hid (false = Z):=Lib.hid (by rw [← hzj,if_neg (by omega),if_neg hk3,if_neg hk2])
     clear hzj
     have hkb0:(k == 0) = false:=by rw [beq_eq_false_iff_ne];exact hk0
     have hkb1:(k == 1) = false:=by rw [beq_eq_false_iff_ne];exact hk1
     have hkb2:(k == 2) = false:=by rw [beq_eq_false_iff_ne];exact hk2
     have hkb3:(k == 3) = false:=by rw [beq_eq_false_iff_ne];exact hk3
     clear hk0 hk1 hk2 hk3
     go_wp2_with fail
     go_ret
     exact ⟨by rw [← HZZ.out];rfl,HVV.out⟩
   ·have y5:wr.cell? ⟨w.heap.size + 1,4,none⟩ = some (.slice A 1 cap):=y4
    clear y4
    cases E with
    | true =>
     by_cases hk0:k = 0
     ·have hk:=hk0
      clear hk0
      subst hk
      have HZZ:Hid (false = Z):=Lib.hid (by rw [← hzj];simp)
      clear hzj
      go_wp2_with fail
      go_ret
      exact ⟨by rw [← HZZ.out];rfl,HVV.out⟩
     by_cases hk1:k = 1
     ·have hk:=hk1
      clear hk0 hk1
      subst hk
      have HZZ:Hid (false = Z):=Lib.hid (by rw [← hzj];simp)
      clear hzj
      go_wp2_with fail
      go_ret
      exact ⟨by rw [← HZZ.out];rfl,HVV.out⟩
     by_cases hk2:k = 2
     ·have hk:=hk2
      clear hk0 hk1 hk2
      subst hk
      have HZZ:Hid (vty P f x1 = Z):=Lib.hid (by rw [if_neg (by decide),if_neg (by decide),if_pos rfl] at hzj;exact hzj)
      clear hzj
      obtain ⟨g,o,C,hA,HRa,HT,HC5,HI5,HOC⟩:=tkid_at HKS.out (j:=0) (x:=x1) rfl
      subst hA
      rw [Nat.zero_mul,Nat.add_zero] at HRa
      have HRb:=Lib.hid (range_below HRa.out HVV.out)
      go_wp2_with (first
       | (with_reducible refine wpList_load_mid rfl _ (.tmp 50) rfl g o rfl C _ HRb.out Tryd.underlying31 rfl HI5.out ?_)
       | (refine wpList_store_arr rfl _ (.tmp 3) (.tmp 51) rfl (w.heap.size + 1) 0 5 31 _ C _ rfl rfl rfl HQQ.out (by rw [HC5.out];omega) HI5.out HOC.out ?_;intro w7 f7 o7))
      rw [setAll_all _ _ (by rw [HC5.out];rfl)] at f7
      have hTy:=HT.out
      cases x1 with
      | node k1 s1 q1 i1 ks1 =>
      unfold TyAt at hTy
      obtain ⟨A1,cap1,hC,_,hk1⟩:=hTy
      have hC1:C = t5 k1 s1 q1 i1 A1 ks1.length cap1:=by simpa using hC
      subst hC1
      have hL:=HLT.out
      refine ⟨⟨j + 1,k1,s1,q1,i1,ks1,A1,cap1,by omega,by go_num,f7,hk1,HVV.out.trans (o7.bel.mono (Nat.le_succ _)),HPP.out.only o7 (by omega),Lib.hid (by rw [show 24 - (j + 1) = f by omega];exact HZZ.out)⟩,by simp [intOf];omega⟩
     by_cases hk3:k = 3
     ·have hk:=hk3
      clear hk0 hk1 hk2 hk3
      subst hk
      have HZZ:Hid (false = Z):=Lib.hid (by rw [← hzj];simp)
      clear hzj
      go_wp2_with fail
      go_ret
      exact ⟨by rw [← HZZ.out];rfl,HVV.out⟩
     have HZZ:Hid (false = Z):=Lib.hid (by rw [← hzj,if_neg (by omega),if_neg hk3,if_neg hk2])
     clear hzj
     have hkb0:(k == 0) = false:=by rw [beq_eq_false_iff_ne];exact hk0
     have hkb1:(k == 1) = false:=by rw [beq_eq_false_iff_ne];exact hk1
     have hkb2:(k == 2) = false:=by rw [beq_eq_false_iff_ne];exact hk2
     have hkb3:(k == 3) = false:=by rw [beq_eq_false_iff_ne];exact hk3
     clear hk0 hk1 hk2 hk3
     go_wp2_with fail
     go_ret
     exact ⟨by rw [← HZZ.out];rfl,HVV.out⟩
    | false =>
     by_cases hk0:k = 0
     ·have hk:=hk0
      clear hk0
      subst hk
      have HZZ:Hid (false = Z):=Lib.hid (by rw [← hzj];simp)
      clear hzj
      go_wp2_with fail
      go_ret
      exact ⟨by rw [← HZZ.out];rfl,HVV.out⟩
     by_cases hk1:k = 1
     ·have hk:=hk1
      clear hk0 hk1
      subst hk
      have HZZ:Hid (false = Z):=Lib.hid (by rw [← hzj];simp)
      clear hzj
      go_wp2_with fail
      go_ret
      exact ⟨by rw [← HZZ.out];rfl,HVV.out⟩
     by_cases hk2:k = 2
     ·have hk:=hk2
      clear hk0 hk1 hk2
      subst hk
      have HZZ:Hid (false = Z):=Lib.hid (by rw [← hzj];simp)
      clear hzj
      go_wp2_with fail
      go_ret
      exact ⟨by rw [← HZZ.out];rfl,HVV.out⟩
     by_cases hk3:k = 3
     ·have hk:=hk3
      clear hk0 hk1 hk2 hk3
      subst hk
      have HZZ:Hid (false = Z):=Lib.hid (by rw [← hzj];simp)
      clear hzj
      go_wp2_with fail
      go_ret
      exact ⟨by rw [← HZZ.out];rfl,HVV.out⟩
     have HZZ:Hid (false = Z):=Lib.hid (by rw [← hzj,if_neg (by omega),if_neg hk3,if_neg hk2])
     clear hzj
     have hkb0:(k == 0) = false:=by rw [beq_eq_false_iff_ne];exact hk0
     have hkb1:(k == 1) = false:=by rw [beq_eq_false_iff_ne];exact hk1
     have hkb2:(k == 2) = false:=by rw [beq_eq_false_iff_ne];exact hk2
     have hkb3:(k == 3) = false:=by rw [beq_eq_false_iff_ne];exact hk3
     clear hk0 hk1 hk2 hk3
     go_wp2_with fail
     go_ret
     exact ⟨by rw [← HZZ.out];rfl,HVV.out⟩
   ·obtain ⟨len,hlen⟩:∃ len,(x1 :: x2 :: r).length = len:=⟨_,rfl⟩
    have hlm:len ≠ 0 ∧ len ≠ 1:=by rw [← hlen];simp
    rw [hlen] at y4 hzj
    have hl0:((len:Int) == 0) = false:=by rw [beq_eq_false_iff_ne];omega
    have hl1:((len:Int) != 1) = true:=by rw [bne_iff_ne];omega
    have hl2:decide (len = 0) = false:=decide_eq_false hlm.1
    have hl3:decide (len = 1) = false:=decide_eq_false hlm.2
    rw [hl2,hl3] at hzj
    clear hlen hlm hl2 hl3 HQQ HKS
    by_cases hk0:k = 0
    ·have hk:=hk0
     clear hk0
     subst hk
     have HZZ:Hid (false = Z):=Lib.hid (by rw [← hzj];simp)
     clear hzj
     go_wp2_with fail
     go_ret
     exact ⟨by rw [← HZZ.out];rfl,HVV.out⟩
    by_cases hk1:k = 1
    ·have hk:=hk1
     clear hk0 hk1
     subst hk
     have HZZ:Hid (false = Z):=Lib.hid (by rw [← hzj];simp)
     clear hzj
     go_wp2_with fail
     go_ret
     exact ⟨by rw [← HZZ.out];rfl,HVV.out⟩
    by_cases hk2:k = 2
    ·have hk:=hk2
     clear hk0 hk1 hk2
     subst hk
     have HZZ:Hid (false = Z):=Lib.hid (by rw [← hzj];simp)
     clear hzj
     go_wp2_with fail
     go_ret
     exact ⟨by rw [← HZZ.out];rfl,HVV.out⟩
    by_cases hk3:k = 3
    ·have hk:=hk3
     clear hk0 hk1 hk2 hk3
     subst hk
     have HZZ:Hid (false = Z):=Lib.hid (by rw [← hzj];simp)
     clear hzj
     go_wp2_with fail
     go_ret
     exact ⟨by rw [← HZZ.out];rfl,HVV.out⟩
    have HZZ:Hid (false = Z):=Lib.hid (by rw [← hzj,if_neg (by omega),if_neg hk3,if_neg hk2])
    clear hzj
    have hkb0:(k == 0) = false:=by rw [beq_eq_false_iff_ne];exact hk0
    have hkb1:(k == 1) = false:=by rw [beq_eq_false_iff_ne];exact hk1
    have hkb2:(k == 2) = false:=by rw [beq_eq_false_iff_ne];exact hk2
    have hkb3:(k == 3) = false:=by rw [beq_eq_false_iff_ne];exact hk3
    clear hk0 hk1 hk2 hk3
    go_wp2_with fail
    go_ret
    exact ⟨by rw [← HZZ.out];rfl,HVV.out⟩
  ·obtain rfl:j = 24:=by omega
   have hz:=HZJ.out
   rw [Nat.sub_self,vty] at hz
   have HZZ:=Lib.hid hz
   clear hz HZJ hlt
   go_wp2_with fail
   go_ret
   exact ⟨by rw [← HZZ.out];rfl,V2⟩
end Go.Proofs.YtmfihlcibephlaaDoor
namespace Go.Proofs.YtmfihlcibephlaaDoor
open Go.RowKit
def Ty.kids:Ty → List Ty
 | .node _ _ _ _ ks => ks
def dfo (P:List Df):Ty → Option Df
 | .node _ s q i _ => P[fnd P s q i]?
def Ty.kind:Ty → Int
 | .node k _ _ _ _ => k
def shK (P:List Df) (t:Ty):Int:=if t.kind = 3 then ((dfo P t).map fun d => if d.kind = 0 then (2:Int) else 3).getD 0 else if t.kind = 2 then 4 else t.kind
def shS (P:List Df) (t:Ty):List Sl:=if t.kind = 3 then ((dfo P t).map Df.slots).getD [] else []
def hfit (k n:Int) (len m:Nat):Bool :=
 if k = 0 then decide (len = 0) && (decide (-1099511627776 ≤ n) && decide (n ≤ 1099511627776))
 else if k = 1 then decide (len = 0) && (decide (n = 0) || decide (n = 1))
 else if k = 2 then decide (len = m) && decide (n = 0)
 else if k = 3 then decide (len = 1) && (decide (0 ≤ n) && decide (n < (m:Int)))
 else decide (n = 0)
def kty (t:Ty) (sl:List Sl) (k n:Int) (i:Nat):Ty :=
 if k = 2 then ((sl[i]?).map Sl.ty).getD t else if k = 3 then ((sl[n.toNat]?).map Sl.ty).getD t else t.kids.headD t
mutual
def pv (P:List Df):Tr → Ty → Nat → Nat → Bool × Nat
 | .node k n ks,t,f,c =>
  if vty P 24 t = false then (false,c) else if f = 0 ∨ c = 256 then (false,c)
  else if k = shK P t ∧ hfit k n ks.length (shS P t).length = true then pvL P ks (kty t (shS P t) k n) 0 (f - 1) (c + 1) else (false,c + 1)
def pvL (P:List Df):List Tr → (Nat → Ty) → Nat → Nat → Nat → Bool × Nat
 | [],_,_,_,c => (true,c)
 | x :: xs,T,i,f,c => if (pv P x (T i) f c).1 = true then pvL P xs T (i + 1) f (pv P x (T i) f c).2 else (false,(pv P x (T i) f c).2)
end
mutual
def ft (P:List Df):Tr → Ty → Bool
 | .node k n ks,t => vty P 24 t && (decide (k = shK P t) && (hfit k n ks.length (shS P t).length && ftL P ks (kty t (shS P t) k n) 0))
def ftL (P:List Df):List Tr → (Nat → Ty) → Nat → Bool
 | [],_,_ => true
 | x :: xs,T,i => ft P x (T i) && ftL P xs T (i + 1)
end
mutual
def Tr.dep:Tr → Nat
 | .node _ _ ks => depL ks + 1
def depL:List Tr → Nat
 | [] => 0
 | x :: xs => max x.dep (depL xs)
end
mutual
theorem pv_ok (P:List Df):∀ (x:Tr) (t:Ty) (f c:Nat),c ≤ 256 → (pv P x t f c).2 ≤ 256 ∧ ((pv P x t f c).1 = true → (pv P x t f c).2 = c + x.nodes) ∧ ((pv P x t f c).1 = true ↔ ft P x t = true ∧ c + x.nodes ≤ 256 ∧ x.dep ≤ f)
 | .node k n ks,t,f,c,hc => by
  unfold pv ft Tr.nodes Tr.dep
  by_cases h1:vty P 24 t = false
  ·rw [if_pos h1,h1];simp;exact hc
  ·rw [if_neg h1]
   have h1':vty P 24 t = true:=by simpa using h1
   by_cases h2:f = 0 ∨ c = 256
   ·rw [if_pos h2];simp;exact ⟨hc,fun _ _ => by omega⟩
   ·rw [if_neg h2]
    by_cases h3:k = shK P t ∧ hfit k n ks.length (shS P t).length = true
    ·rw [if_pos h3,h1',decide_eq_true h3.1,h3.2]
     obtain ⟨a,b,e⟩:=pvL_ok P ks (kty t (shS P t) k n) 0 (f - 1) (c + 1) (by omega)
     refine ⟨a,fun h => by rw [b h];omega,?_⟩
     rw [e,Bool.true_and,Bool.true_and,Bool.true_and]
     constructor
     ·rintro ⟨x,y,z⟩;exact ⟨x,by omega,by omega⟩
     ·rintro ⟨x,y,z⟩;exact ⟨x,by omega,by omega⟩
    ·rw [if_neg h3]
     refine ⟨by show c + 1 ≤ 256;omega,fun h => by simp at h,?_⟩
     simp
     intro _ h4 h5
     exact absurd ⟨h4,h5⟩ h3
theorem pvL_ok (P:List Df):∀ (xs:List Tr) (T:Nat → Ty) (i f c:Nat),c ≤ 256 → (pvL P xs T i f c).2 ≤ 256 ∧ ((pvL P xs T i f c).1 = true → (pvL P xs T i f c).2 = c + nodesL xs) ∧ ((pvL P xs T i f c).1 = true ↔ ftL P xs T i = true ∧ c + nodesL xs ≤ 256 ∧ depL xs ≤ f)
 | [],T,i,f,c,hc => by
  unfold pvL ftL nodesL depL
  simp
  exact hc
 | x :: xs,T,i,f,c,hc => by
  unfold pvL ftL nodesL depL
  obtain ⟨a,b,e⟩:=pv_ok P x (T i) f c hc
  by_cases h:(pv P x (T i) f c).1 = true
  ·rw [if_pos h]
   obtain ⟨a',b',e'⟩:=pvL_ok P xs T (i + 1) f _ a
   have hb:=b h
   have he:=e.1 h
   refine ⟨a',fun h' => by rw [b' h',hb];omega,?_⟩
   rw [e',hb,he.1,Bool.true_and]
   constructor
   ·rintro ⟨x,y,z⟩;exact ⟨x,by omega,by omega⟩
   ·rintro ⟨x,y,z⟩;exact ⟨x,by omega,by omega⟩
  ·rw [if_neg h]
   refine ⟨a,fun h' => by simp at h',?_⟩
   constructor
   ·intro h';simp at h'
   ·rintro ⟨x1,y,z⟩
    rw [Bool.and_eq_true] at x1
    exact absurd (e.2 ⟨x1.1,by omega,by omega⟩) h
end
mutual
theorem Tr.sz_eq:∀ (x:Tr),x.nodes ≤ 4611686018427387904 → x.sz = (x.nodes:Int)
 | .node k n ks,h => by
  unfold Tr.nodes at h ⊢;unfold Tr.sz
  rw [szL_eq ks 1 (by omega) (by omega)];push_cast;omega
theorem szL_eq:∀ (xs:List Tr) (a:Int),0 ≤ a → a + nodesL xs ≤ 9223372036854775807 → szL a xs = a + nodesL xs
 | [],a,_,h => by simp [szL,nodesL]
 | x :: xs,a,h0,h => by
  unfold szL nodesL at *
  push_cast at h ⊢
  have h1:=x.nodes_pos
  by_cases hx:x.nodes ≤ 4611686018427387904
  ·rw [Tr.sz_eq x hx,show wrap64 (a + (x.nodes:Int)) = a + x.nodes from by unfold wrap64;omega,szL_eq xs _ (by omega) (by omega)];omega
  ·rw [Tr.sz_eq' x (by omega),show wrap64 (a + (x.nodes:Int)) = a + x.nodes from by unfold wrap64;omega,szL_eq xs _ (by omega) (by omega)];omega
theorem Tr.sz_eq':∀ (x:Tr),x.nodes ≤ 9223372036854775807 → x.sz = (x.nodes:Int)
 | .node k n ks,h => by
  unfold Tr.nodes at h ⊢;unfold Tr.sz
  rw [szL_eq ks 1 (by omega) (by omega)];push_cast;omega
end
mutual
theorem Tr.dep_le:∀ (x:Tr),x.dep ≤ x.nodes
 | .node k n ks => by unfold Tr.dep Tr.nodes;have:=depL_le ks;omega
theorem depL_le:∀ (xs:List Tr),depL xs ≤ nodesL xs
 | [] => by simp [depL]
 | x :: xs => by unfold depL nodesL;have:=Tr.dep_le x;have:=depL_le xs;omega
end
mutual
theorem Tr.dp_eq:∀ (x:Tr),x.nodes ≤ 9223372036854775807 → x.dp = (x.dep:Int)
 | .node k n ks,h => by
  unfold Tr.nodes at h;unfold Tr.dp Tr.dep
  have:=depL_le ks
  have e:dpL 0 ks = ((max 0 (depL ks):Nat):Int):=dpL_eq ks 0 (by omega)
  rw [e]
  unfold wrap64;omega
theorem dpL_eq:∀ (xs:List Tr) (a:Nat),nodesL xs ≤ 9223372036854775807 → dpL (a:Int) xs = ((max a (depL xs):Nat):Int)
 | [],a,_ => by simp [dpL,depL]
 | x :: xs,a,h => by
  unfold nodesL at h;unfold dpL depL
  rw [Tr.dp_eq x (by omega),show max (a:Int) (x.dep:Int) = ((max a x.dep:Nat):Int) from by omega,dpL_eq xs _ (by omega),Nat.max_assoc]
end
def z0:Tr:=.node 0 0 []
def zrL (g:Ty → Nat → Int × Tr × Nat) (k:Int):List Sl → List Tr → Nat → Int × Tr × Nat
 | [],acc,c => (0,.node k 0 acc,c)
 | s :: r,acc,c => if (g s.ty c).1 = 0 then zrL g k r (acc ++ [(g s.ty c).2.1]) (g s.ty c).2.2 else ((g s.ty c).1,z0,(g s.ty c).2.2)
def zr (P:List Df):Nat → Ty → Nat → Int × Tr × Nat
 | 0,t,c => if vty P 24 t = false then (1,z0,c) else (4,z0,c)
 | f + 1,t,c => if vty P 24 t = false then (1,z0,c) else if c = 256 then (4,z0,c)
  else if shK P t = 3 ∧ (shS P t).length = 0 then (1,z0,c + 1)
  else zrL (zr P f) (shK P t) (if shK P t = 3 then (shS P t).take 1 else shS P t) [] (c + 1)
theorem zr_form (P:List Df) (f:Nat) (t:Ty) (c:Nat):zr P (f + 1) t c = if vty P 24 t = false then (1,z0,c) else if c = 256 then (4,z0,c)
  else if shK P t = 3 ∧ (shS P t).length = 0 then (1,z0,c + 1)
  else zrL (zr P f) (shK P t) (if shK P t = 3 then (shS P t).take 1 else shS P t) [] (c + 1):=by rw [zr]
end Go.Proofs.YtmfihlcibephlaaDoor
namespace Go.Proofs.YtmfihlcibephlaaDoor
open Go.RowKit
def Fr (g:Nat) (W W':World):Prop:=Below g W W' ∧ ∀ k,k ≠ g → k < W.heap.size → W'.heap[k]? = W.heap[k]?
theorem Fr.of_below {g:Nat} {W W':World} (h:Below W.heap.size W W') (hg:g ≤ W.heap.size):Fr g W W':=⟨h.mono hg,fun k _ hk => h.block k hk⟩
theorem Fr.trans {g:Nat} {W W' W'':World} (h:Fr g W W') (h':Fr g W' W''):Fr g W W'' :=
 ⟨h.1.trans h'.1,fun k hk hl => (h'.2 k hk (Nat.lt_of_lt_of_le hl h.1.size)).trans (h.2 k hk hl)⟩
theorem cell_heap {W W':World} {p:Addr} (h:W'.heap[p.block]? = W.heap[p.block]?):W'.cell? p = W.cell? p:=by
 unfold World.cell?;rw [h]
theorem Fr.cell {g b o:Nat} {W W':World} {v:Value} (h:Fr g W W') (hb:b ≠ g) (hc:W.cell? ⟨b,o,none⟩ = some v):W'.cell? ⟨b,o,none⟩ = some v :=
 (cell_heap (p:=⟨b,o,none⟩) (h.2 b hb (World.block_lt_of_cell? W _ hc))).trans hc
theorem Arr.fr {W W':World} {b g n:Nat} {t:TypeId} {xs:List Value} (a:Arr W b n t xs) (f:Fr g W W') (hb:b ≠ g):Arr W' b n t xs:=by
 have hlt:=a.lt
 refine ⟨a.1,?_⟩
 rcases a.2 with h2 | ⟨g',cap,cur,hv,hg,hh,r⟩
 ·exact .inl h2
 ·refine .inr ⟨g',cap,cur,hv,hg,?_,r⟩
  cases hv
  rw [f.2 _ hb hlt]
  exact hh
theorem Fr.more {g:Nat} {W W' W'':World} (h:Fr g W W') (h':Below W.heap.size W' W'') (hg:g ≤ W.heap.size):Fr g W W'':=⟨h.1.trans (h'.mono hg),fun k hk hl => (h'.block k hl).trans (h.2 k hk hl)⟩
theorem Fr.set {g j:Nat} {W W':World} (h:Fr g W W') (v:Value):Fr g W (W'.setCell ⟨g,j,none⟩ v):=⟨h.1.setCell (p:=⟨g,j,none⟩) (Nat.le_refl g) v,fun k hk hl => (Below.heap_setCell _ _ _ _ (fun e => hk (by simpa using e))).trans (h.2 k hk hl)⟩
theorem Fr.refl (g:Nat) (W:World):Fr g W W:=⟨Below.refl _ _,fun _ _ _ => rfl⟩
def Cnt (W:World) (gn c:Nat):Prop:=Arr W gn 1 3 [.int .i64 (c:Int)]
def moreV (gn:Nat):Value:=.func (.func 80) #[] #[.pointer (some ⟨gn,0,none⟩)]
set_option maxHeartbeats 400000 in
set_option maxRecDepth 100000 in
theorem counter_any (w:World):Calls Tryd.prog 54 #[] w fun e w' => e = .returned (moreV w.heap.size) ∧ Cnt w' w.heap.size 0 ∧ Below w.heap.size w w' ∧ w.heap.size < w'.heap.size:=by
 have h1:Arr ((w.alloc (.cells #[.int .i64 0] 3))) w.heap.size 1 3 [.int .i64 0]:=Arr.new' w 3 #[.int .i64 0] 1 [.int .i64 0] rfl rfl (by decide)
 have hb:=new_later w (.cells #[.int .i64 0] 3)
 go_enter Tryd.func54,Tryd.ntmps54
 go_wp2_with fail
 go_ret
 exact ⟨rfl,h1,hb,by simp⟩
set_option maxHeartbeats 400000 in
set_option maxRecDepth 100000 in
theorem more_yes (gn c d:Nat) (w:World) (h:Cnt w gn c) (hc:c < 256) (hd:d ≤ 24):Calls Tryd.prog 80 #[.int .i64 (d:Int),.pointer (some ⟨gn,0,none⟩)] w fun e w' => e = .returned (.bool true) ∧ Cnt w' gn (c + 1) ∧ Fr gn w w':=by
 have h0:=Arr.cell h (j:=0) (v:=.int .i64 (c:Int)) rfl
 have hf:=Arr.free h 0
 have hs:=Arr.set_ h 0 (.int .i64 (((c + 1:Nat)):Int))
 have hci:((c:Int) == 256) = false:=by rw [beq_eq_false_iff_ne];omega
 have hdi:¬ (24:Int) < (d:Int):=by omega
 have hcm:(c:Int) + 1 ≤ 9223372036854775807:=by omega
 have hc0:(0:Int) ≤ (c:Int):=by omega
 have HS:=Lib.hid hs
 clear hs
 go_enter Tryd.func80,Tryd.ntmps80
 go_wp2_with fail
 go_ret
 exact ⟨rfl,HS.out,(Fr.refl gn w).set _⟩
set_option maxHeartbeats 400000 in
set_option maxRecDepth 100000 in
theorem more_no (gn c d:Nat) (w:World) (h:Cnt w gn c) (hc:c = 256 ∨ 24 < d):Calls Tryd.prog 80 #[.int .i64 (d:Int),.pointer (some ⟨gn,0,none⟩)] w fun e w' => e = .returned (.bool false) ∧ w' = w:=by
 have h0:=Arr.cell h (j:=0) (v:=.int .i64 (c:Int)) rfl
 by_cases h2:c = 256
 ·subst h2
  have hci:(((256:Nat):Int) == 256) = true:=rfl
  go_enter Tryd.func80,Tryd.ntmps80
  go_wp2_with fail
  go_ret
  exact ⟨rfl,rfl⟩
 ·have hci:((c:Int) == 256) = false:=by rw [beq_eq_false_iff_ne];omega
  have hdi:(24:Int) < (d:Int):=by omega
  clear h2 hc
  go_enter Tryd.func80,Tryd.ntmps80
  go_wp2_with fail
  go_ret
  exact ⟨rfl,rfl⟩
end Go.Proofs.YtmfihlcibephlaaDoor
namespace Go.Proofs.YtmfihlcibephlaaDoor
open Go.RowKit
structure Kv (w:World):Prop where
 sz:2 ≤ w.heap.size
 p0:w.cell? ⟨0,0,none⟩ = some (.int .i64 0)
 p1:w.cell? ⟨0,1,none⟩ = some (.int .i64 1)
 p2:w.cell? ⟨0,2,none⟩ = some (.int .i64 4)
 d0:w.cell? ⟨1,0,none⟩ = some (.int .i64 2)
 d1:w.cell? ⟨1,1,none⟩ = some (.int .i64 3)
theorem Kv.later {w w':World} (h:Kv w) (hb:Below w.heap.size w w'):Kv w':=by
 have f:∀ b o v,w.cell? ⟨b,o,none⟩ = some v → w'.cell? ⟨b,o,none⟩ = some v:=fun b o v hv => (hb.cell (p:=⟨b,o,none⟩) (World.block_lt_of_cell? w _ hv)).trans hv
 exact ⟨Nat.le_trans h.sz hb.size,f _ _ _ h.p0,f _ _ _ h.p1,f _ _ _ h.p2,f _ _ _ h.d0,f _ _ _ h.d1⟩
theorem vty_kind {P:List Df} {f:Nat} {k s q i:Int} {ks:List Ty} (h:vty P f (.node k s q i ks) = true) :
  (k = 0 ∧ ks = []) ∨ (k = 1 ∧ ks = []) ∨ (k = 2 ∧ ∃ x,ks = [x]) ∨ (k = 3 ∧ ks = [] ∧ ∃ d,P[fnd P s q i]? = some d ∧ (d.kind = 0 ∨ d.kind = 1)):=by
 cases f with
 | zero => simp [vty] at h
 | succ f =>
  rw [vty] at h
  by_cases h1:k = 0 ∨ k = 1
  ·rw [if_pos h1] at h
   have h2:ks = []:=by simp at h;exact h.1
   rcases h1 with h1 | h1
   ·exact .inl ⟨h1,h2⟩
   ·exact .inr (.inl ⟨h1,h2⟩)
  ·rw [if_neg h1] at h
   by_cases h3:k = 3
   ·rw [if_pos h3] at h
    simp only [Bool.and_eq_true,decide_eq_true_eq] at h
    refine .inr (.inr (.inr ⟨h3,List.eq_nil_of_length_eq_zero h.1,?_⟩))
    have h4:=h.2
    unfold isD at h4
    cases hg:P[fnd P s q i]? with
    | none => rw [hg] at h4;simp at h4
    | some d => rw [hg] at h4;refine ⟨d,rfl,?_⟩;simpa using h4
   ·rw [if_neg h3] at h
    by_cases h4:k = 2
    ·rw [if_pos h4] at h
     simp only [Bool.and_eq_true,decide_eq_true_eq] at h
     exact .inr (.inr (.inl ⟨h4,List.length_eq_one_iff.1 h.1⟩))
    ·rw [if_neg h4] at h;simp at h
theorem shK_def {P:List Df} {t:Ty} {d:Df} (hk:t.kind = 3) (h:dfo P t = some d):shK P t = if d.kind = 0 then 2 else 3:=by unfold shK;rw [if_pos hk,h];rfl
theorem shS_def {P:List Df} {t:Ty} {d:Df} (hk:t.kind = 3) (h:dfo P t = some d):shS P t = d.slots:=by unfold shS;rw [if_pos hk,h];rfl
theorem df_slots {w:World} {g p:Nat} {d:Df} {C:List Value} (h:w.rangeAt g p C) (hd:DfAt w d C):∃ sv,w.cell? ⟨g,p + 8,none⟩ = some sv ∧ SlsAt w sv d.slots:=by
 obtain ⟨sv,T,E,lv,rfl,_,hs,_⟩:=hd
 exact ⟨sv,h 8 _ rfl,hs⟩
def ShRes (P:List Df) (t:Ty) (W0 w:World) (e:Ending) (w':World):Prop:=∃ sv,e = .returned (.tuple #[.int .i64 (shK P t),sv]) ∧ SlsAt W0 sv (shS P t) ∧ Below w.heap.size w w'
theorem SlsAt.nil (w:World):SlsAt w (.slice none 0 0) []:=⟨none,0,rfl,⟨Nat.le_refl _,by simp [maxLen]⟩,fun j x h => by simp at h⟩
set_option maxHeartbeats 4000000 in
set_option maxRecDepth 100000 in
theorem shape_any (P:List Df) (t:Ty) (W0 w:World) (v pv:Value) (hP0:PrAt W0 P pv) (hx:TyAt W0 t v) (hb:Below W0.heap.size W0 w) (hv:vty P 24 t = true) (hK:Kv w) :
  Calls Tryd.prog 56 #[pv,v] w (ShRes P t W0 w):=by
 cases t with
 | node k s q i ks =>
 have hK':=vty_kind hv
 have hP1:=hP0
 obtain ⟨mv,A0,cap0,rfl,hm,hP⟩:=hP0
 obtain ⟨n,hn⟩:∃ n,P.length = n:=⟨_,rfl⟩
 rw [hn] at hP1 hm ⊢
 unfold TyAt at hx
 obtain ⟨A,cap,rfl,hmb,hkb⟩:=hx
 obtain ⟨len,hlen⟩:∃ len,ks.length = len:=⟨_,rfl⟩
 rw [hlen]
 have P0:=p2_new w mv (.slice A0 n cap0)
 have V0':=new_later w (.cells #[mv,.slice A0 n cap0] 26)
 have Q0:=t5_new (w.alloc (.cells #[mv,.slice A0 n cap0] 26)) k s q i A len cap
 have P1:=P0.later (new_later _ (.cells (t5 k s q i A len cap).toArray 31))
 have V1:=later V0' (new_later _ (.cells (t5 k s q i A len cap).toArray 31))
 rw [World.size_alloc] at Q0
 clear P0 V0'
 generalize hW:(w.alloc (.cells #[mv,.slice A0 n cap0] 26)).alloc (.cells (t5 k s q i A len cap).toArray 31) = wa at P1 V1 Q0
 have K1:=hK.later V1
 have kp0:=K1.p0
 have kp1:=K1.p1
 have kp2:=K1.p2
 have HK1:=Lib.hid K1
 have y0:=Q0.cell (j:=0) (v:=.int .i64 k) rfl
 have y1:=Q0.cell (j:=1) (v:=.int .i64 s) rfl
 have y2:=Q0.cell (j:=2) (v:=.int .i64 q) rfl
 have y3:=Q0.cell (j:=3) (v:=.int .i64 i) rfl
 have z0:=P1.cell (j:=0) (v:=mv) rfl
 have z1:=P1.cell (j:=1) (v:=.slice A0 n cap0) rfl
 have HPP:=Lib.hid P1
 have HVV:=Lib.hid V1
 have HB:=Lib.hid hb
 have HPA:=Lib.hid ((hP1.later hb).later V1)
 have HPX:=Lib.hid hP
 have HN:=Lib.hid hn
 clear K1 hK P1 V1 Q0 hb hP1 hP hlen hkb hmb hn
 rcases hK' with ⟨rfl,_⟩ | ⟨rfl,_⟩ | ⟨rfl,_⟩ | ⟨rfl,_,d,hd,hdk⟩
 ·go_enter Tryd.func56,Tryd.ntmps56
  go_upto_region 1 with fail
  clear hW
  go_wp2_with fail
  go_ret2
  exact ⟨_,rfl,SlsAt.nil _,HVV.out⟩
 ·go_enter Tryd.func56,Tryd.ntmps56
  go_upto_region 1 with fail
  clear hW
  go_wp2_with fail
  go_ret2
  exact ⟨_,rfl,SlsAt.nil _,HVV.out⟩
 ·go_enter Tryd.func56,Tryd.ntmps56
  go_upto_region 1 with fail
  clear hW
  go_wp2_with fail
  go_ret2
  exact ⟨_,rfl,SlsAt.nil _,HVV.out⟩
 ·have hjl:fnd P s q i < P.length:=(List.getElem?_eq_some_iff.1 hd).1
  have hfi:fndI P s q i = (fnd P s q i:Int):=by unfold fndI;rw [if_pos hjl]
  have HF:Hid (∀ W,PrAt W P (.agg #[mv,.slice A0 n cap0]) → Calls Tryd.prog 49 #[.agg #[mv,.slice A0 n cap0],.agg #[.int .i64 s,.int .i64 q,.int .i64 i]] W fun e w' => e = .returned (.int .i64 (fnd P s q i:Int)) ∧ Below W.heap.size W w'):=Lib.hid fun W hW => by rw [← hfi];exact find_any P s q i W _ hW
  obtain ⟨g,o,C,hA,hrg,hdf⟩:=HPX.out _ _ hd
  have hSK:shK P (.node 3 s q i ks) = if d.kind = 0 then 2 else 3:=shK_def rfl hd
  have hSS:shS P (.node 3 s q i ks) = d.slots:=shS_def rfl hd
  subst hA
  rw [HN.out] at hjl
  have HC:Hid (∀ W,Below W0.heap.size W0 W → W.cell? ⟨g,o + fnd P s q i * 31 + 3,none⟩ = some (.int .i64 d.kind)):=Lib.hid fun W hW' => (df_head (range_below hrg hW') (hdf.later hW')).2.2.2
  obtain ⟨sv,hsv,hsl⟩:=df_slots hrg hdf
  have HSV:Hid (∀ W,Below W0.heap.size W0 W → W.cell? ⟨g,o + fnd P s q i * 31 + 8,none⟩ = some sv):=Lib.hid fun W hW' => (hW'.cell (p:=⟨g,_,none⟩) (World.block_lt_of_cell? W0 _ hsv)).trans hsv
  have HSL:=Lib.hid hsl
  have HSK:=Lib.hid hSK
  have HSS:=Lib.hid hSS
  generalize fnd P s q i = j at HF hjl HC HSV
  have hji:(j:Int) < (n:Int):=by omega
  have hj0:(0:Int) ≤ (j:Int):=by omega
  clear hd hfi hrg hdf hsv hsl hSK hSS hjl
  obtain ⟨K,hKd⟩:∃ K,d.kind = K:=⟨_,rfl⟩
  rw [hKd] at HC HSK hdk
  clear hKd
  rcases hdk with rfl | rfl
  ·go_enter Tryd.func56,Tryd.ntmps56
   go_upto_region 1 with fail
   clear hW
   go_upto_region 4 with (first
    | (go_at_call 49;(with_reducible refine (HF.out _ HPA.out).mono ?_);rintro e w7 ⟨rfl,hb7⟩;have V7:=later HVV.out hb7;have hcs:=(HPP.out.later hb7).cell (j:=1) (v:=.slice (some ⟨g,o,none⟩) n cap0) rfl;have hck:=HC.out _ (later HB.out V7);have hcv:=HSV.out _ (later HB.out V7);have hk7:=(HK1.out.later hb7).d0))
   go_quiet (fail)
   go_wp2_with fail
   go_ret2
   exact ⟨sv,by rw [HSK.out];rfl,by rw [HSS.out];exact HSL.out,below_drewN V7 _⟩
  ·go_enter Tryd.func56,Tryd.ntmps56
   go_upto_region 1 with fail
   clear hW
   go_upto_region 4 with (first
    | (go_at_call 49;(with_reducible refine (HF.out _ HPA.out).mono ?_);rintro e w7 ⟨rfl,hb7⟩;have V7:=later HVV.out hb7;have hcs:=(HPP.out.later hb7).cell (j:=1) (v:=.slice (some ⟨g,o,none⟩) n cap0) rfl;have hck:=HC.out _ (later HB.out V7);have hcv:=HSV.out _ (later HB.out V7);have hk7:=(HK1.out.later hb7).d1))
   go_quiet (fail)
   go_wp2_with fail
   go_ret2
   exact ⟨sv,by rw [HSK.out];rfl,by rw [HSS.out];exact HSL.out,below_drewN V7 _⟩
end Go.Proofs.YtmfihlcibephlaaDoor
