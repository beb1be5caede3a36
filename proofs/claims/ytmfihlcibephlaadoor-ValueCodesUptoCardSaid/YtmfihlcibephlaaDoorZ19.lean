import Derived.Test.YtmfihlcibephlaaDoorZ06
set_option linter.unusedVariables false
set_option linter.unusedSimpArgs false
namespace Go.Proofs.YtmfihlcibephlaaDoor
open Go.RowKit
theorem vty_form (P:List Df) (f:Nat) (k s q i:Int) (ks:List Ty):vty P (f + 1) (.node k s q i ks) =
  if k = 0 ∨ k = 1 then decide (ks.length = 0) && (decide (s = 0) && (decide (q = 0) && decide (i = 0)))
  else if k = 3 then decide (ks.length = 0) && isD P s q i
  else if k = 2 then decide (ks.length = 1) && ((decide (s = 0) && (decide (q = 0) && decide (i = 0))) && (ks.map (vty P f)).headD false)
  else false:=by rw [vty]
set_option maxHeartbeats 16000000 in
set_option maxRecDepth 100000 in
theorem rvtype_any (P:List Df):∀ (f d:Nat),d + f = 25 → ∀ (x:Ty) (w:World) (v pv:Value),PrAt w P pv → TyAt w x v →
  Calls Tryd.prog 47 #[pv,v,.int .i64 (d:Int)] w (BRes (vty P f x) w)
 | 0,d,hd,x,w,v,pv,hP0,hx => by
  obtain ⟨mv,A0,cap0,rfl,hm,hP⟩:=hP0
  obtain ⟨k,s,q,i,A,len,cap,rfl⟩:=hx.shape
  rw [show vty P 0 x = false from by cases x;rfl]
  have hdi:(24:Int) < (d:Int):=by omega
  have V1:=later (new_later w (.cells #[mv,.slice A0 P.length cap0] 26)) (new_later _ (.cells (t5 k s q i A len cap).toArray 31))
  generalize hW:(w.alloc (.cells #[mv,.slice A0 P.length cap0] 26)).alloc (.cells (t5 k s q i A len cap).toArray 31) = wa at V1
  clear hP hm hx hd
  go_enter Tryd.func47,Tryd.ntmps47
  go_upto_region 1 with fail
  clear hW
  go_wp2_with fail
  go_ret
  exact ⟨rfl,V1⟩
 | f + 1,d,hd,.node k s q i ks,w,v,pv,hP0,hx => by
  have hP1:=hP0
  obtain ⟨mv,A0,cap0,rfl,hm,hP⟩:=hP0
  obtain ⟨n,hn⟩:∃ n,P.length = n:=⟨_,rfl⟩
  rw [hn] at hP1 ⊢
  unfold TyAt at hx
  obtain ⟨A,cap,rfl,hmb,hkb⟩:=hx
  have IH:=Lib.hid (rvtype_any P f (d + 1) (by omega))
  have HDEF:=Lib.hid fun (W:World) (hW:PrAt W P (.agg #[mv,.slice A0 n cap0])) => rdef_any P s q i W _ hW
  obtain ⟨Z,hZ⟩:∃ Z,vty P (f + 1) (.node k s q i ks) = Z:=⟨_,rfl⟩
  rw [hZ]
  rw [vty_form] at hZ
  have P0:=p2_new w mv (.slice A0 n cap0)
  have V0':=new_later w (.cells #[mv,.slice A0 n cap0] 26)
  have Q0:=t5_new (w.alloc (.cells #[mv,.slice A0 n cap0] 26)) k s q i A ks.length cap
  have P1:=P0.later (new_later _ (.cells (t5 k s q i A ks.length cap).toArray 31))
  have V1:=later V0' (new_later _ (.cells (t5 k s q i A ks.length cap).toArray 31))
  rw [World.size_alloc] at Q0
  clear P0 V0'
  generalize hW:(w.alloc (.cells #[mv,.slice A0 n cap0] 26)).alloc (.cells (t5 k s q i A ks.length cap).toArray 31) = wa at P1 V1 Q0
  have HPA:=Lib.hid (hP1.later V1)
  have HVV:=Lib.hid V1
  have HKS:=Lib.hid hkb
  have y0:=Q0.cell (j:=0) (v:=.int .i64 k) rfl
  have y1:=Q0.cell (j:=1) (v:=.int .i64 s) rfl
  have y2:=Q0.cell (j:=2) (v:=.int .i64 q) rfl
  have y3:=Q0.cell (j:=3) (v:=.int .i64 i) rfl
  have y4:=Q0.cell (j:=4) (v:=.slice A ks.length cap) rfl
  have z0:=P1.cell (j:=0) (v:=mv) rfl
  have z1:=P1.cell (j:=1) (v:=.slice A0 n cap0) rfl
  have HQ:=Lib.hid Q0
  have HP:=Lib.hid P1
  have hdi:¬ (24:Int) < (d:Int):=by omega
  have hd24:(d:Int) ≤ 24:=by omega
  have hd0:(0:Int) ≤ (d:Int):=by omega
  have heq:=fun W => eq_id s q i 0 0 0 W
  have HISD:Hid (isD P s q i = match P[fnd P s q i]? with | some d => decide (d.kind = 0) || decide (d.kind = 1) | none => false):=Lib.hid (by unfold isD;cases P[fnd P s q i]? <;> rfl)
  generalize isD P s q i = D at hZ HISD
  generalize (decide (s = 0) && (decide (q = 0) && decide (i = 0))) = E at hZ heq
  obtain ⟨len,hlen⟩:∃ len,ks.length = len:=⟨_,rfl⟩
  rw [hlen] at y4 HQ hZ hW
  have hlen0:(0:Int) ≤ (len:Int):=by omega
  have hcapi:(len:Int) ≤ 9223372036854775807:=by have:=hmb.1;have:=hmb.2.1;simp only [maxLen] at this;omega
  rw [hlen]
  clear hP hm hn hkb hmb Q0 P1 V1 hP1 hd
  by_cases hk2:k = 2
  ·subst hk2
   rw [if_neg (by decide),if_neg (by decide),if_pos rfl] at hZ
   cases E with
   | false =>
    have HZZ:Hid (false = Z):=Lib.hid (by rw [← hZ];simp)
    clear hZ hlen
    go_enter Tryd.func47,Tryd.ntmps47
    go_upto_region 1 with fail
    clear hW
    go_upto_region 4 with fail
    go_quiet (fail)
    go_wp2_with fail
    go_ret
    exact ⟨by rw [← HZZ.out];rfl,later HVV.out (below_drewN (Below.refl _ _) _)⟩
   | true =>
    by_cases h1:len = 1
    ·have hks1:∃ x,ks = [x]:=by
      match ks,(hlen.trans h1) with
      | [x],_ => exact ⟨x,rfl⟩
     obtain ⟨x,rfl⟩:=hks1
     obtain ⟨g,o,C,hA,HRa,HT,HC3,HI3,HOC⟩:=tkid_at (HKS.out.later HVV.out) (j:=0) (x:=x) rfl
     subst hA
     obtain ⟨e0,e1,e2,e3,e4,rfl⟩:=five HC3.out
     have HR0:Hid (wa.rangeAt g o [e0,e1,e2,e3,e4]):=Lib.hid (by have h:=HRa.out;simpa using h)
     have HZZ:Hid (vty P f x = Z):=Lib.hid (by rw [← hZ,h1];simp)
     have HIH:Hid (∀ W pv v,PrAt W P pv → TyAt W x v → Calls Tryd.prog 47 #[pv,v,.int .i64 (IntKind.i64.wrap ((d:Int) + 1))] W (BRes (vty P f x) W)):=Lib.hid fun W pv v h1 h2 => by rw [show IntKind.i64.wrap ((d:Int) + 1) = (((d + 1:Nat)):Int) from (by rw [IntKind.wrap_i64];omega)];exact IH.out x W v pv h1 h2
     have hl1:((len:Int) == 1) = true:=by rw [beq_iff_eq];omega
     have hpi:(0:Int) < (len:Int):=by omega
     have hpn:0 < len:=by omega
     have hdm:(d:Int) + 1 ≤ 9223372036854775807:=by omega
     have hbd0:Below wa.heap.size wa wa.drew:=below_drewN (Below.refl _ _) 1
     have HTd:=Lib.hid (HT.out.later hbd0)
     have HPd:=Lib.hid (HPA.out.later hbd0)
     clear hbd0
     generalize vty P f x = c at HZZ HIH
     clear hZ hlen h1 HRa
     have HSP:∀ W,Below wa.heap.size wa W → (W.cell? ⟨w.heap.size + 1,1,none⟩ = some (.int .i64 s) ∧ W.cell? ⟨w.heap.size + 1,2,none⟩ = some (.int .i64 q) ∧ W.cell? ⟨w.heap.size + 1,3,none⟩ = some (.int .i64 i) ∧ W.cell? ⟨w.heap.size + 1,4,none⟩ = some (.slice (some ⟨g,o,none⟩) len cap) ∧ W.cell? ⟨w.heap.size,0,none⟩ = some mv ∧ W.cell? ⟨w.heap.size,1,none⟩ = some (.slice A0 n cap0) ∧ W.cell? ⟨g,o,none⟩ = some e0 ∧ W.cell? ⟨g,o + 1,none⟩ = some e1 ∧ W.cell? ⟨g,o + 2,none⟩ = some e2 ∧ W.cell? ⟨g,o + 3,none⟩ = some e3 ∧ W.cell? ⟨g,o + 4,none⟩ = some e4):=fun W hW => ⟨(HQ.out.later hW).cell (j:=1) rfl,(HQ.out.later hW).cell (j:=2) rfl,(HQ.out.later hW).cell (j:=3) rfl,(HQ.out.later hW).cell (j:=4) rfl,(HP.out.later hW).cell (j:=0) rfl,(HP.out.later hW).cell (j:=1) rfl,range5 (range_below HR0.out hW)⟩
     cases c with
     | true =>
      have hbd:Below wa.heap.size wa wa.drew:=below_drewN (Below.refl _ _) 1
      have HVD:=Lib.hid (later HVV.out hbd)
      have HS:Hid (∀ W,Below wa.heap.size wa W → (W.cell? ⟨w.heap.size + 1,1,none⟩ = some (.int .i64 s) ∧ W.cell? ⟨w.heap.size + 1,2,none⟩ = some (.int .i64 q) ∧ W.cell? ⟨w.heap.size + 1,3,none⟩ = some (.int .i64 i) ∧ W.cell? ⟨w.heap.size + 1,4,none⟩ = some (.slice (some ⟨g,o,none⟩) len cap) ∧ W.cell? ⟨w.heap.size,0,none⟩ = some mv ∧ W.cell? ⟨w.heap.size,1,none⟩ = some (.slice A0 n cap0) ∧ W.cell? ⟨g,o,none⟩ = some e0 ∧ W.cell? ⟨g,o + 1,none⟩ = some e1 ∧ W.cell? ⟨g,o + 2,none⟩ = some e2 ∧ W.cell? ⟨g,o + 3,none⟩ = some e3 ∧ W.cell? ⟨g,o + 4,none⟩ = some e4)):=Lib.hid HSP
      go_enter Tryd.func47,Tryd.ntmps47
      go_upto_region 1 with fail
      clear hW
      go_upto_region 4 with fail
      go_region_held3 (fun W => W.cell? ⟨w.heap.size + 1,1,none⟩ = some (.int .i64 s) ∧ W.cell? ⟨w.heap.size + 1,2,none⟩ = some (.int .i64 q) ∧ W.cell? ⟨w.heap.size + 1,3,none⟩ = some (.int .i64 i) ∧ W.cell? ⟨w.heap.size + 1,4,none⟩ = some (.slice (some ⟨g,o,none⟩) len cap) ∧ W.cell? ⟨w.heap.size,0,none⟩ = some mv ∧ W.cell? ⟨w.heap.size,1,none⟩ = some (.slice A0 n cap0) ∧ W.cell? ⟨g,o,none⟩ = some e0 ∧ W.cell? ⟨g,o + 1,none⟩ = some e1 ∧ W.cell? ⟨g,o + 2,none⟩ = some e2 ∧ W.cell? ⟨g,o + 3,none⟩ = some e3 ∧ W.cell? ⟨g,o + 4,none⟩ = some e4)
       (first | exact HS.out _ hbd | exact HS.out _ hb8)
       (first
       | (go_at_call 47;(with_reducible refine (HIH.out _ _ _ HPd.out HTd.out).mono ?_);rintro e w7 ⟨rfl,hb7⟩;have hb8:=later hbd hb7))
      have VFIN:=later HVV.out hb8
      go_wp2_with fail
      go_ret
      exact ⟨by rw [← HZZ.out];rfl,VFIN⟩
     | false =>
      have hbd:Below wa.heap.size wa wa.drew:=below_drewN (Below.refl _ _) 1
      have HVD:=Lib.hid (later HVV.out hbd)
      have HS:Hid (∀ W,Below wa.heap.size wa W → (W.cell? ⟨w.heap.size + 1,1,none⟩ = some (.int .i64 s) ∧ W.cell? ⟨w.heap.size + 1,2,none⟩ = some (.int .i64 q) ∧ W.cell? ⟨w.heap.size + 1,3,none⟩ = some (.int .i64 i) ∧ W.cell? ⟨w.heap.size + 1,4,none⟩ = some (.slice (some ⟨g,o,none⟩) len cap) ∧ W.cell? ⟨w.heap.size,0,none⟩ = some mv ∧ W.cell? ⟨w.heap.size,1,none⟩ = some (.slice A0 n cap0) ∧ W.cell? ⟨g,o,none⟩ = some e0 ∧ W.cell? ⟨g,o + 1,none⟩ = some e1 ∧ W.cell? ⟨g,o + 2,none⟩ = some e2 ∧ W.cell? ⟨g,o + 3,none⟩ = some e3 ∧ W.cell? ⟨g,o + 4,none⟩ = some e4)):=Lib.hid HSP
      go_enter Tryd.func47,Tryd.ntmps47
      go_upto_region 1 with fail
      clear hW
      go_upto_region 4 with fail
      go_region_held3 (fun W => W.cell? ⟨w.heap.size + 1,1,none⟩ = some (.int .i64 s) ∧ W.cell? ⟨w.heap.size + 1,2,none⟩ = some (.int .i64 q) ∧ W.cell? ⟨w.heap.size + 1,3,none⟩ = some (.int .i64 i) ∧ W.cell? ⟨w.heap.size + 1,4,none⟩ = some (.slice (some ⟨g,o,none⟩) len cap) ∧ W.cell? ⟨w.heap.size,0,none⟩ = some mv ∧ W.cell? ⟨w.heap.size,1,none⟩ = some (.slice A0 n cap0) ∧ W.cell? ⟨g,o,none⟩ = some e0 ∧ W.cell? ⟨g,o + 1,none⟩ = some e1 ∧ W.cell? ⟨g,o + 2,none⟩ = some e2 ∧ W.cell? ⟨g,o + 3,none⟩ = some e3 ∧ W.cell? ⟨g,o + 4,none⟩ = some e4)
       (first | exact HS.out _ hbd | exact HS.out _ hb8)
       (first
       | (go_at_call 47;(with_reducible refine (HIH.out _ _ _ HPd.out HTd.out).mono ?_);rintro e w7 ⟨rfl,hb7⟩;have hb8:=later hbd hb7))
      have VFIN:=later HVV.out hb8
      go_wp2_with fail
      go_ret
      exact ⟨by rw [← HZZ.out];rfl,VFIN⟩
    ·have HZZ:Hid (false = Z):=Lib.hid (by rw [← hZ,decide_eq_false h1];rfl)
     have hl1:((len:Int) == 1) = false:=by rw [beq_eq_false_iff_ne];omega
     clear hZ hlen h1
     go_enter Tryd.func47,Tryd.ntmps47
     go_upto_region 1 with fail
     clear hW
     go_upto_region 4 with fail
     go_quiet (fail)
     go_wp2_with fail
     go_ret
     exact ⟨by rw [← HZZ.out];rfl,later HVV.out (below_drewN (Below.refl _ _) _)⟩
  ·rw [if_neg hk2] at hZ
   have hkb2:(k == 2) = false:=by rw [beq_eq_false_iff_ne];exact hk2
   rcases Nat.eq_zero_or_pos len with h0 | hpos
   ·subst h0
    have y5:wa.cell? ⟨w.heap.size + 1,4,none⟩ = some (.slice A 0 cap):=y4
    clear y4
    by_cases hk3:k = 3
    ·have hk:=hk3
     clear hk3 hkb2 hk2
     subst hk
     rw [if_neg (by decide),if_pos rfl] at hZ
     have hD:D = Z:=by rw [← hZ];simp
     have hzd:=zero_def
     have HOZ:Hid (∀ v ∈ z31,v.oneCell' = true):=Lib.hid (by decide)
     have hI:=HISD.out
     cases hg:P[fnd P s q i]? with
     | none =>
      rw [hg] at hI
      have HZZ:Hid (false = Z):=Lib.hid (by rw [← hD,hI])
      have HD0:Hid (∀ W,PrAt W P (.agg #[mv,.slice A0 n cap0]) → Calls Tryd.prog 21 #[.agg #[mv,.slice A0 n cap0],.agg #[.int .i64 s,.int .i64 q,.int .i64 i]] W (fun e w' => Below W.heap.size W w' ∧ e = .returned (.tuple #[.agg z31.toArray,.bool false]))):=Lib.hid fun W hW => (HDEF.out W hW).mono (by
       rintro e w' ⟨hb,⟨d,C,h,_⟩ | ⟨_,rfl⟩⟩
       ·rw [hg] at h;exact absurd h (by simp)
       ·exact ⟨hb,rfl⟩)
      clear hg hI hD hZ HISD HDEF hlen
      go_enter Tryd.func47,Tryd.ntmps47
      go_upto_region 1 with fail
      clear hW
      go_wp2_with (first
       | (go_at_call 21;(with_reducible refine (HD0.out _ HPA.out).mono ?_);rintro e w7 ⟨hb7,rfl⟩;have V7:=later HVV.out hb7)
       | (refine wpList_store_arr rfl _ (.tmp 7) (.tmp 46) rfl w7.heap.size 0 31 46 _ z31 z31 rfl rfl rfl (z31_new w7) (by decide) info_def HOZ.out ?_;intro w8 f8 o8;have VFIN:=later V7 ((new_later w7 _).trans o8.bel)))
      go_ret
      exact ⟨by rw [← HZZ.out];rfl,VFIN⟩
     | some d0 =>
      rw [hg] at hI
      have HD1:Hid (∀ W,PrAt W P (.agg #[mv,.slice A0 n cap0]) → Calls Tryd.prog 21 #[.agg #[mv,.slice A0 n cap0],.agg #[.int .i64 s,.int .i64 q,.int .i64 i]] W (fun e w' => Below W.heap.size W w' ∧ ∃ C:List Value,e = .returned (.tuple #[.agg C.toArray,.bool true]) ∧ DfAt W d0 C)):=Lib.hid fun W hW => (HDEF.out W hW).mono (by
       rintro e w' ⟨hb,⟨d,C,h,rfl,hC⟩ | ⟨h,_⟩⟩
       ·rw [hg] at h;cases h;exact ⟨hb,C,rfl,hC⟩
       ·rw [hg] at h;exact absurd h (by simp))
      have HZZ:Hid ((decide (d0.kind = 0) || decide (d0.kind = 1)) = Z):=Lib.hid (by rw [← hD,hI])
      obtain ⟨K,hK⟩:∃ K,d0.kind = K:=⟨_,rfl⟩
      rw [hK] at HZZ
      have HKK:=Lib.hid hK
      clear hg hI hD hZ HISD HDEF hlen hK
      have hkc:(K == 1) = decide (K = 1):=beq_int K 1
      by_cases hk0:K = 0
      ·subst hk0
       have hkb0:((0:Int) == 0) = true:=rfl
       clear hkc
       go_enter Tryd.func47,Tryd.ntmps47
       go_upto_region 1 with fail
       clear hW
       go_wp2_with (first
        | (go_at_call 21;(with_reducible refine (HD1.out _ HPA.out).mono ?_);rintro e w7 ⟨hb7,C,rfl,hC⟩;have V7:=later HVV.out hb7;have HCL:=Lib.hid (DfAt.len hC);have HOC:Hid (∀ v ∈ C,v.oneCell' = true):=Lib.hid (DfAt.cells hC);have HIN:Hid ((Tryd.prog.info? 46).map (·.size) = some C.length):=Lib.hid (by rw [HCL.out];exact info_def);have HDC:=Lib.hid hC;clear hC)
        | (refine wpList_store_arr rfl _ (.tmp 7) (.tmp 46) rfl w7.heap.size 0 31 46 _ C z31 rfl rfl rfl (z31_new w7) (by rw [HCL.out];omega) HIN.out HOC.out ?_;intro w8 f8 o8;rw [setAll_all _ _ (by rw [HCL.out];rfl)] at f8;have VFIN:=later V7 ((new_later w7 _).trans o8.bel);have hck:w8.cell? ⟨w7.heap.size,3,none⟩ = some (.int .i64 0):=(by have h:=(df_head f8.range (HDC.out.later (later hb7 ((new_later w7 _).trans o8.bel)))).2.2.2;rw [HKK.out] at h;simpa using h);clear f8))
       go_ret
       exact ⟨by rw [← HZZ.out];rfl,VFIN⟩
      ·have hkb0:(K == 0) = false:=by rw [beq_eq_false_iff_ne];exact hk0
       rw [decide_eq_false hk0,Bool.false_or] at HZZ
       clear hk0
       generalize decide (K = 1) = B at hkc HZZ
       cases B with
       | true =>
        go_enter Tryd.func47,Tryd.ntmps47
        go_upto_region 1 with fail
        clear hW
        go_wp2_with (first
         | (go_at_call 21;(with_reducible refine (HD1.out _ HPA.out).mono ?_);rintro e w7 ⟨hb7,C,rfl,hC⟩;have V7:=later HVV.out hb7;have HCL:=Lib.hid (DfAt.len hC);have HOC:Hid (∀ v ∈ C,v.oneCell' = true):=Lib.hid (DfAt.cells hC);have HIN:Hid ((Tryd.prog.info? 46).map (·.size) = some C.length):=Lib.hid (by rw [HCL.out];exact info_def);have HDC:=Lib.hid hC;clear hC)
         | (refine wpList_store_arr rfl _ (.tmp 7) (.tmp 46) rfl w7.heap.size 0 31 46 _ C z31 rfl rfl rfl (z31_new w7) (by rw [HCL.out];omega) HIN.out HOC.out ?_;intro w8 f8 o8;rw [setAll_all _ _ (by rw [HCL.out];rfl)] at f8;have VFIN:=later V7 ((new_later w7 _).trans o8.bel);have hck:w8.cell? ⟨w7.heap.size,3,none⟩ = some (.int .i64 K):=(by have h:=(df_head f8.range (HDC.out.later (later hb7 ((new_later w7 _).trans o8.bel)))).2.2.2;rw [HKK.out] at h;simpa using h);clear f8))
        go_ret
        exact ⟨by rw [← HZZ.out];rfl,VFIN⟩
       | false =>
        go_enter Tryd.func47,Tryd.ntmps47
        go_upto_region 1 with fail
        clear hW
        go_wp2_with (first
         | (go_at_call 21;(with_reducible refine (HD1.out _ HPA.out).mono ?_);rintro e w7 ⟨hb7,C,rfl,hC⟩;have V7:=later HVV.out hb7;have HCL:=Lib.hid (DfAt.len hC);have HOC:Hid (∀ v ∈ C,v.oneCell' = true):=Lib.hid (DfAt.cells hC);have HIN:Hid ((Tryd.prog.info? 46).map (·.size) = some C.length):=Lib.hid (by rw [HCL.out];exact info_def);have HDC:=Lib.hid hC;clear hC)
         | (refine wpList_store_arr rfl _ (.tmp 7) (.tmp 46) rfl w7.heap.size 0 31 46 _ C z31 rfl rfl rfl (z31_new w7) (by rw [HCL.out];omega) HIN.out HOC.out ?_;intro w8 f8 o8;rw [setAll_all _ _ (by rw [HCL.out];rfl)] at f8;have VFIN:=later V7 ((new_later w7 _).trans o8.bel);have hck:w8.cell? ⟨w7.heap.size,3,none⟩ = some (.int .i64 K):=(by have h:=(df_head f8.range (HDC.out.later (later hb7 ((new_later w7 _).trans o8.bel)))).2.2.2;rw [HKK.out] at h;simpa using h);clear f8))
        go_ret
        exact ⟨by rw [← HZZ.out];rfl,VFIN⟩
    ·rw [if_neg hk3] at hZ
     have hkb3:(k == 3) = false:=by rw [beq_eq_false_iff_ne];exact hk3
     by_cases hk0:k = 0
     ·have hk:=hk0
      clear hk0 hk2 hk3 hkb3 hkb2
      subst hk
      rw [if_pos (by decide)] at hZ
      have HZZ:Hid (E = Z):=Lib.hid (by rw [← hZ];simp)
      clear hZ hlen
      cases E with
      | true =>
       go_enter Tryd.func47,Tryd.ntmps47
       go_upto_region 1 with fail
       clear hW
       go_wp2_with fail
       go_ret
       exact ⟨by rw [← HZZ.out];rfl,HVV.out⟩
      | false =>
       go_enter Tryd.func47,Tryd.ntmps47
       go_upto_region 1 with fail
       clear hW
       go_wp2_with fail
       go_ret
       exact ⟨by rw [← HZZ.out];rfl,HVV.out⟩
     by_cases hk1:k = 1
     ·have hk:=hk1
      clear hk0 hk1 hk2 hk3 hkb3 hkb2
      subst hk
      rw [if_pos (by decide)] at hZ
      have HZZ:Hid (E = Z):=Lib.hid (by rw [← hZ];simp)
      clear hZ hlen
      cases E with
      | true =>
       go_enter Tryd.func47,Tryd.ntmps47
       go_upto_region 1 with fail
       clear hW
       go_wp2_with fail
       go_ret
       exact ⟨by rw [← HZZ.out];rfl,HVV.out⟩
      | false =>
       go_enter Tryd.func47,Tryd.ntmps47
       go_upto_region 1 with fail
       clear hW
       go_wp2_with fail
       go_ret
       exact ⟨by rw [← HZZ.out];rfl,HVV.out⟩
     have HZZ:Hid (false = Z):=Lib.hid (by rw [← hZ,if_neg (by omega)])
     have hkb0:(k == 0) = false:=by rw [beq_eq_false_iff_ne];exact hk0
     have hkb1:(k == 1) = false:=by rw [beq_eq_false_iff_ne];exact hk1
     clear hk0 hk1 hk2 hk3 hZ hlen
     cases E with
     | true =>
      go_enter Tryd.func47,Tryd.ntmps47
      go_upto_region 1 with fail
      clear hW
      go_wp2_with fail
      go_ret
      exact ⟨by rw [← HZZ.out];rfl,HVV.out⟩
     | false =>
      go_enter Tryd.func47,Tryd.ntmps47
      go_upto_region 1 with fail
      clear hW
      go_wp2_with fail
      go_ret
      exact ⟨by rw [← HZZ.out];rfl,HVV.out⟩
   ·have hpi:(0:Int) < (len:Int):=by omega
    have HZZ:Hid (false = Z):=Lib.hid (by
                         rw [← hZ];have h5:decide (len = 0) = false:=decide_eq_false (by omega)
                         rw [h5];simp)
    clear hZ hlen hk2 hpos
    go_enter Tryd.func47,Tryd.ntmps47
    go_upto_region 1 with fail
    clear hW
    go_wp2_with fail
    go_ret
    exact ⟨by rw [← HZZ.out];rfl,HVV.out⟩
end Go.Proofs.YtmfihlcibephlaaDoor
namespace Go.Proofs.YtmfihlcibephlaaDoor
open Go.RowKit
set_option maxHeartbeats 4000000 in
set_option maxRecDepth 100000 in
theorem rvalidtype_any (P:List Df) (x:Ty) (w:World) (v pv:Value) (hP0:PrAt w P pv) (hx:TyAt w x v) :
  Calls Tryd.prog 17 #[pv,v] w (BRes (vty P 24 x) w):=by
 have HC:Hid (∀ W,PrAt W P pv → TyAt W x v → Calls Tryd.prog 47 #[pv,v,.int .i64 1] W (BRes (vty P 24 x) W)):=Lib.hid fun W h1 h2 => rvtype_any P 24 1 rfl x W v pv h1 h2
 have hP1:=hP0
 obtain ⟨mv,A0,cap0,rfl,hm,hP⟩:=hP0
 obtain ⟨k,s,q,i,A,len,cap,rfl⟩:=hx.shape
 generalize vty P 24 x = Z at HC
 obtain ⟨n,hn⟩:∃ n,P.length = n:=⟨_,rfl⟩
 rw [hn] at hP1 HC ⊢
 replace HC:Hid (∀ W,PrAt W P (.agg #[mv,.slice A0 n cap0]) → TyAt W x (.agg (t5 k s q i A len cap).toArray) → Calls Tryd.prog 47 #[.agg #[mv,.slice A0 n cap0],.agg #[.int .i64 k,.int .i64 s,.int .i64 q,.int .i64 i,.slice A len cap],.int .i64 1] W (BRes Z W)):=Lib.hid fun W h1 h2 => HC.out W h1 h2
 have P0:=p2_new w mv (.slice A0 n cap0)
 have V0':=new_later w (.cells #[mv,.slice A0 n cap0] 26)
 have Q0:=t5_new (w.alloc (.cells #[mv,.slice A0 n cap0] 26)) k s q i A len cap
 have P1:=P0.later (new_later _ (.cells (t5 k s q i A len cap).toArray 31))
 have V1:=later V0' (new_later _ (.cells (t5 k s q i A len cap).toArray 31))
 rw [World.size_alloc] at Q0
 clear P0 V0'
 generalize hW:(w.alloc (.cells #[mv,.slice A0 n cap0] 26)).alloc (.cells (t5 k s q i A len cap).toArray 31) = wa at P1 V1 Q0
 have HPA:=Lib.hid (hP1.later V1)
 have HXA:=Lib.hid (hx.later V1)
 have HVV:=Lib.hid V1
 have y0:=Q0.cell (j:=0) (v:=.int .i64 k) rfl
 have y1:=Q0.cell (j:=1) (v:=.int .i64 s) rfl
 have y2:=Q0.cell (j:=2) (v:=.int .i64 q) rfl
 have y3:=Q0.cell (j:=3) (v:=.int .i64 i) rfl
 have y4:=Q0.cell (j:=4) (v:=.slice A len cap) rfl
 have z0:=P1.cell (j:=0) (v:=mv) rfl
 have z1:=P1.cell (j:=1) (v:=.slice A0 n cap0) rfl
 clear hP1 hP hm hx hn P1 Q0 V1
 go_enter Tryd.func17,Tryd.ntmps17
 go_upto_region 1 with fail
 clear hW
 go_wp2_with (first
  | (go_at_call 47;(with_reducible refine (HC.out _ HPA.out HXA.out).mono ?_);rintro e w7 ⟨rfl,hb7⟩;have V7:=later HVV.out hb7))
 go_ret
 exact ⟨rfl,V7⟩
end Go.Proofs.YtmfihlcibephlaaDoor
