import Derived.Test.YtmfihlcibephlaaDoorZ01
import Derived.Test.YtmfihlcibephlaaDoorZ02
set_option linter.unusedVariables false
set_option linter.unusedSimpArgs false
namespace Go.Proofs.YtmfihlcibephlaaDoor
open Go.RowKit
def BRes (p:Bool) (w:World) (e:Ending) (w':World):Prop:=e = .returned (.bool p) ∧ Below w.heap.size w w'
set_option maxHeartbeats 4000000 in
set_option maxRecDepth 100000 in
theorem efunc_step (xs ys:List Ty) (A B:Option Addr) (n cap cap':Nat) (w:World) (hl:xs.length = n) (hl':ys.length = n) (ha:KtAt w A 0 xs) (hb:KtAt w B 0 ys) (HM:Hid (n ≤ cap ∧ cap ≤ maxLen))
  (ih:Hid (∀ (j:Nat) (x y:Ty),xs[j]? = some x → ys[j]? = some y → ∀ W v u,TyAt W x v → TyAt W y u → Calls Tryd.prog 18 #[v,u] W (BRes (x.same y) W))) :
  Calls Tryd.prog 48 #[.slice A n cap,.slice B n cap',.func (.func 18) #[] #[]] w (BRes (sameL xs ys) w):=by
 have HA:=Lib.hid ha
 have HB:=Lib.hid hb
 have HL:=Lib.hid hl
 have HL':=Lib.hid hl'
 obtain ⟨R,hR⟩:∃ R,sameL xs ys = R:=⟨_,rfl⟩
 rw [hR]
 have HR:=Lib.hid hR
 clear ha hb hl hl' hR
 go_enter Tryd.func48,Tryd.ntmps48
 go_wp2_with fail
 go_loopw [17] (fun i W => ∃ j:Nat,j ≤ n ∧ i = .int .i64 (j:Int) ∧ sameL (xs.drop j) (ys.drop j) = R ∧ Below w.heap.size w W) (fun i _ => n - (intOf i).toNat)
 case atStart => exact ⟨0,by omega,rfl,by simpa using HR.out,Below.refl _ _⟩
 case round =>
  obtain ⟨j,hj,rfl,hcp,V1⟩:=hrel
  by_cases hlt:j < n
  ·have hji:(j:Int) < (n:Int):=by omega
   have hj0:(0:Int) ≤ (j:Int):=by omega
   have hjm:(j:Int) + 1 ≤ 9223372036854775807:=by have:=HM.out;simp only [maxLen] at this;omega
   have hjx:j < xs.length:=by rw [HL.out];exact hlt
   have hjy:j < ys.length:=by rw [HL'.out];exact hlt
   have hkx:xs[j]? = some xs[j]:=List.getElem?_eq_getElem hjx
   have hky:ys[j]? = some ys[j]:=List.getElem?_eq_getElem hjy
   rw [sameL_drop hjx hjy] at hcp
   have HCP:=Lib.hid hcp
   clear hcp
   obtain ⟨g,o,C,hA,HRa,HT,HC3,HI3,HOC⟩:=tkid_at (HA.out.later V1) hkx
   obtain ⟨g',o',C',hB,HRb,HT',HC3',HI3',HOC'⟩:=tkid_at (HB.out.later V1) hky
   subst hA
   subst hB
   have HIH:Hid (∀ W v u,TyAt W xs[j] v → TyAt W ys[j] u → Calls Tryd.prog 18 #[v,u] W (BRes (xs[j].same ys[j]) W)):=Lib.hid (ih.out j _ _ hkx hky)
   clear hkx hky
   generalize xs[j] = x at HCP HIH HT
   generalize ys[j] = y at HCP HIH HT'
   generalize x.same y = c at HCP HIH
   clear hjx hjy
   go_upto_region 6 with (first
    | (with_reducible refine wpList_load_mid rfl _ (.tmp 20) rfl g (o + j * 5) rfl C _ HRa.out Tryd.underlying31 rfl HI3.out ?_)
    | (refine wpList_store_new rfl _ (.tmp 8) (.tmp 21) rfl rfl rfl info_type HC3.out rfl (all_oneCell_toArray HOC.out) ?_;intro w5 hbel5 hrow5 hsz5;have T5:Arr w5 wr.heap.size 5 31 C:=Arr.of_row hrow5 HC3.out (by decide);have V5:=later V1 hbel5;have HT5:=Lib.hid (HT.out.later hbel5);have HT5':=Lib.hid (HT'.out.later hbel5);have HRb5:=Lib.hid (range_below HRb.out hbel5);clear hrow5))
   clear hbel5 hsz5 HC3 HRa HRb HT HT'
   clear HA HB HL HL' HR ih
   go_upto_region 7 with (first
    | (with_reducible refine wpList_load_mid rfl _ (.tmp 24) rfl g' (o' + j * 5) rfl C' _ HRb5.out Tryd.underlying31 rfl HI3'.out ?_)
    | (refine wpList_store_new rfl _ (.tmp 9) (.tmp 25) rfl rfl rfl info_type HC3'.out rfl (all_oneCell_toArray HOC'.out) ?_;intro w6 hbel6 hrow6 hsz6;have T6':Arr w6 w5.heap.size 5 31 C':=Arr.of_row hrow6 HC3'.out (by decide);have T6:=T5.later hbel6;have V6:=later V5 hbel6;have HT6:=Lib.hid (HT5.out.later hbel6);have HT6':=Lib.hid (HT5'.out.later hbel6);clear hrow6))
   have HV6:=Lib.hid V6
   clear T5 V5 HT5 HT5' HRb5 hbel6 hsz6 V1 hlt
   cases c with
   | true =>
    go_upto_region 8 with (first
     | (with_reducible refine wpList_load_mid rfl _ (.tmp 8) rfl wr.heap.size 0 rfl C _ T6.range Tryd.underlying31 rfl HI3.out ?_)
     | (with_reducible refine wpList_load_mid rfl _ (.tmp 9) rfl w5.heap.size 0 rfl C' _ T6'.range Tryd.underlying31 rfl HI3'.out ?_)
     | (go_at_call 18;(with_reducible refine (HIH.out _ _ _ HT6.out HT6'.out).mono ?_);rintro e w7 ⟨rfl,hb7⟩;have V7:=later V6 hb7))
    have HCP0:Hid (sameL (xs.drop (j + 1)) (ys.drop (j + 1)) = R):=Lib.hid (by have h:=HCP.out;rwa [Bool.true_and] at h)
    go_wp2_with fail
    refine ⟨⟨j + 1,by omega,by go_num,HCP0.out,V7⟩,by simp [intOf];omega⟩
   | false =>
    go_wp2_with (first
     | (with_reducible refine wpList_load_mid rfl _ (.tmp 8) rfl wr.heap.size 0 rfl C _ T6.range Tryd.underlying31 rfl HI3.out ?_)
     | (with_reducible refine wpList_load_mid rfl _ (.tmp 9) rfl w5.heap.size 0 rfl C' _ T6'.range Tryd.underlying31 rfl HI3'.out ?_)
     | (go_at_call 18;(with_reducible refine (HIH.out _ _ _ HT6.out HT6'.out).mono ?_);rintro e w7 ⟨rfl,hb7⟩;have V7:=later V6 hb7))
    have HCR:Hid (false = R):=Lib.hid (by have h:=HCP.out;rwa [Bool.false_and] at h)
    go_ret
    exact ⟨by rw [← HCR.out];rfl,V7⟩
  ·have hje:j = n:=by omega
   subst hje
   rw [List.drop_of_length_le (by rw [HL.out];omega),List.drop_of_length_le (by rw [HL'.out];omega),sameL] at hcp
   subst hcp
   go_wp2_with fail
   go_ret
   exact ⟨rfl,V1⟩
set_option maxHeartbeats 400000 in
set_option maxRecDepth 100000 in
theorem efunc_lens (A B:Option Addr) (n m cap cap':Nat) (f:Value) (w:World) (h:n ≠ m) :
  Calls Tryd.prog 48 #[.slice A n cap,.slice B m cap',f] w (BRes false w):=by
 have hb:((n:Int) != (m:Int)) = true:=by rw [bne_iff_ne];omega
 clear h
 go_enter Tryd.func48,Tryd.ntmps48
 go_wp2_with fail
 go_ret
 exact ⟨rfl,Below.refl _ _⟩
theorem eqf_id (a b c a' b' c':Int) (W:World) (F:List Field) (hF:F.map (fun f => (f.name,f.type,f.offset)) = [("Shop",3,0),("Seq",3,1),("Index",3,2)]) :
  (Op.eqFields 9999 #[.int .i64 a,.int .i64 b,.int .i64 c] #[.int .i64 a',.int .i64 b',.int .i64 c'] F).run Tryd.prog W = .ok (a == a' && (b == b' && c == c')) W:=by
 rcases F with _ | ⟨f,_ | ⟨g,_ | ⟨e,_ | ⟨z,F⟩⟩⟩⟩
 ·simp at hF
 ·simp at hF
 ·simp at hF
 ·simp only [List.map_cons,List.map_nil,List.cons.injEq,Prod.mk.injEq,and_true] at hF
  obtain ⟨⟨h1,h2,h3⟩,⟨h4,h5,h6⟩,h7,h8,h9⟩:=hF
  have p1:=fun W => run_part (P:=Tryd.prog) W 3 .i64 Tryd.underlying3 #[.int .i64 a,.int .i64 b,.int .i64 c] 0 _ rfl
  have p2:=fun W => run_part (P:=Tryd.prog) W 3 .i64 Tryd.underlying3 #[.int .i64 a',.int .i64 b',.int .i64 c'] 0 _ rfl
  have p3:=fun W => run_part (P:=Tryd.prog) W 3 .i64 Tryd.underlying3 #[.int .i64 a,.int .i64 b,.int .i64 c] 1 _ rfl
  have p4:=fun W => run_part (P:=Tryd.prog) W 3 .i64 Tryd.underlying3 #[.int .i64 a',.int .i64 b',.int .i64 c'] 1 _ rfl
  have p5:=fun W => run_part (P:=Tryd.prog) W 3 .i64 Tryd.underlying3 #[.int .i64 a,.int .i64 b,.int .i64 c] 2 _ rfl
  have p6:=fun W => run_part (P:=Tryd.prog) W 3 .i64 Tryd.underlying3 #[.int .i64 a',.int .i64 b',.int .i64 c'] 2 _ rfl
  have q1:=fun W => run_equalIn_int (P:=Tryd.prog) W 9998 3 .i64 .i64 a a' Tryd.underlying3
  have q2:=fun W => run_equalIn_int (P:=Tryd.prog) W 9998 3 .i64 .i64 b b' Tryd.underlying3
  have q3:=fun W => run_equalIn_int (P:=Tryd.prog) W 9998 3 .i64 .i64 c c' Tryd.underlying3
  simp only [Op.eqFields,h1,h2,h3,h4,h5,h6,h7,h8,h9]
  generalize (a == a') = X at *
  generalize (b == b') = Y at *
  generalize (c == c') = Z at *
  cases X <;> cases Y <;> cases Z <;> simp [p1,p2,p3,p4,p5,p6,q1,q2,q3]
 ·simp at hF
theorem fields_id:(Tryd.prog.fieldsOf 28).toList.map (fun f => (f.name,f.type,f.offset)) = [("Shop",3,0),("Seq",3,1),("Index",3,2)]:=by kernel_rfl
theorem beq_int (a b:Int):(a == b) = decide (a = b):=by
 by_cases h:a = b
 ·subst h;simp
 ·rw [decide_eq_false h,beq_eq_false_iff_ne];exact h
theorem eq_id (a b c a' b' c':Int) (W:World) :
  (binOp .eql 28 (.agg #[.int .i64 a,.int .i64 b,.int .i64 c]) (.agg #[.int .i64 a',.int .i64 b',.int .i64 c'])).run Tryd.prog W = .ok (.bool (decide (a = a') && (decide (b = b') && decide (c = c')))) W:=by
 rw [run_eql_struct,run_equalIn_agg _ _ _ _ _ (by kernel_rfl) (by kernel_rfl),eqf_id _ _ _ _ _ _ _ _ fields_id,beq_int,beq_int,beq_int]
 rfl
theorem neq_id (a b c a' b' c':Int) (W:World) :
  (binOp .neq 28 (.agg #[.int .i64 a,.int .i64 b,.int .i64 c]) (.agg #[.int .i64 a',.int .i64 b',.int .i64 c'])).run Tryd.prog W = .ok (.bool (!(decide (a = a') && (decide (b = b') && decide (c = c'))))) W:=by
 rw [run_neq_struct,run_equalIn_agg _ _ _ _ _ (by kernel_rfl) (by kernel_rfl),eqf_id _ _ _ _ _ _ _ _ fields_id,beq_int,beq_int,beq_int]
 rfl
theorem info_id:(Tryd.prog.info? 28).map (·.size) = some 3:=by kernel_rfl
set_option maxHeartbeats 4000000 in
set_option maxRecDepth 100000 in
theorem sametype_step (k s q i k' s' q' i':Int) (R:Bool) (len len':Nat) (A B:Option Addr) (cap cap':Nat) (w:World)
  (HH:Hid (∀ W,Below w.heap.size w W → Calls Tryd.prog 48 #[.slice A len cap,.slice B len' cap',.func (.func 18) #[] #[]] W (BRes R W))) :
  Calls Tryd.prog 18 #[.agg (t5 k s q i A len cap).toArray,.agg (t5 k' s' q' i' B len' cap').toArray] w (BRes (decide (k = k') && (decide (s = s') && (decide (q = q') && decide (i = i'))) && R) w):=by
 have P0:=t5_new w k s q i A len cap
 have V0':=new_later w (.cells (t5 k s q i A len cap).toArray 31)
 have Q0:=t5_new (w.alloc (.cells (t5 k s q i A len cap).toArray 31)) k' s' q' i' B len' cap'
 have P1:=P0.later (new_later _ (.cells (t5 k' s' q' i' B len' cap').toArray 31))
 have V1:=later V0' (new_later _ (.cells (t5 k' s' q' i' B len' cap').toArray 31))
 rw [World.size_alloc] at Q0
 clear P0 V0'
 generalize hW:(w.alloc (.cells (t5 k s q i A len cap).toArray 31)).alloc (.cells (t5 k' s' q' i' B len' cap').toArray 31) = wa at P1 V1 Q0
 have c1:=P1.cell (j:=0) (v:=.int .i64 k) rfl
 have c2:=Q0.cell (j:=0) (v:=.int .i64 k') rfl
 have c3':=P1.cell (j:=4) (v:=.slice A len cap) rfl
 have c4:=Q0.cell (j:=4) (v:=.slice B len' cap') rfl
 have a1:=P1.cell (j:=1) (v:=.int .i64 s) rfl
 have a2:=P1.cell (j:=2) (v:=.int .i64 q) rfl
 have a3:=P1.cell (j:=3) (v:=.int .i64 i) rfl
 have b1:=Q0.cell (j:=1) (v:=.int .i64 s') rfl
 have b2:=Q0.cell (j:=2) (v:=.int .i64 q') rfl
 have b3:=Q0.cell (j:=3) (v:=.int .i64 i') rfl
 have heq:=fun W => eq_id s q i s' q' i' W
 obtain ⟨E,hE⟩:∃ E,(decide (s = s') && (decide (q = q') && decide (i = i'))) = E:=⟨_,rfl⟩
 rw [hE] at heq ⊢
 have HV1:=Lib.hid V1
 clear hE P1 Q0 V1
 by_cases hk:k = k'
 ·subst hk
  rw [decide_eq_true rfl,Bool.true_and]
  cases E with
  | true =>
   rw [Bool.true_and]
   go_enter Tryd.func18,Tryd.ntmps18
   go_upto_region 1 with fail
   clear hW
   go_wp2_with (first
    | (go_at_call 48;(with_reducible refine (HH.out _ HV1.out).mono ?_);rintro e w7 ⟨rfl,hb7⟩;have V7:=later HV1.out hb7))
   go_ret
   exact ⟨rfl,V7⟩
  | false =>
   rw [Bool.false_and]
   go_enter Tryd.func18,Tryd.ntmps18
   go_upto_region 1 with fail
   clear hW
   go_wp2_with (first
    | fail)
   go_ret
   exact ⟨rfl,HV1.out⟩
 ·have hkb:(k == k') = false:=by rw [beq_eq_false_iff_ne];exact hk
  rw [decide_eq_false hk,Bool.false_and,Bool.false_and]
  clear hk
  go_enter Tryd.func18,Tryd.ntmps18
  go_upto_region 1 with fail
  clear hW
  go_wp2_with fail
  go_ret
  exact ⟨rfl,HV1.out⟩
theorem sametype_any:∀ (N:Nat) (x:Ty),x.nodes ≤ N → ∀ (y:Ty) (w:World) (v u:Value),TyAt w x v → TyAt w y u → Calls Tryd.prog 18 #[v,u] w (BRes (x.same y) w)
 | 0,x,hN,_,_,_,_,_,_ => absurd hN (by have:=x.nodes_pos;omega)
 | N + 1,.node k s q i ks,hN,.node k' s' q' i' ks',w,v,u,h,h' => by
  unfold TyAt at h h'
  obtain ⟨A,cap,rfl,hm,hk⟩:=h
  obtain ⟨B,cap',rfl,hm',hk'⟩:=h'
  rw [same_form]
  refine sametype_step k s q i k' s' q' i' _ ks.length ks'.length A B cap cap' w (Lib.hid fun W hW => ?_)
  by_cases hl:ks'.length = ks.length
  ·rw [hl]
   exact efunc_step ks ks' A B ks.length cap cap' W rfl hl (hk.later hW) (hk'.later hW) (Lib.hid ⟨hm.1,hm.2.1⟩) (Lib.hid fun j x y hx hy W' v' u' e e' => sametype_any N x (by have:=Ty.kid_less (k:=k) (s:=s) (q:=q) (i:=i) hx;omega) y W' v' u' e e')
  ·rw [sameL_len ks ks' (fun e => hl e.symm)]
   exact efunc_lens A B ks.length ks'.length cap cap' _ W (fun e => hl e.symm)
end Go.Proofs.YtmfihlcibephlaaDoor
namespace Go.Proofs.YtmfihlcibephlaaDoor
open Go.RowKit
theorem range5 {w:World} {g p:Nat} {a b c d e:Value} (h:w.rangeAt g p [a,b,c,d,e]):w.cell? ⟨g,p,none⟩ = some a ∧ w.cell? ⟨g,p + 1,none⟩ = some b ∧ w.cell? ⟨g,p + 2,none⟩ = some c ∧ w.cell? ⟨g,p + 3,none⟩ = some d ∧ w.cell? ⟨g,p + 4,none⟩ = some e :=
 ⟨h 0 a rfl,h 1 b rfl,h 2 c rfl,h 3 d rfl,h 4 e rfl⟩
theorem five {C:List Value} (h:C.length = 5):∃ a b c d e,C = [a,b,c,d,e]:=by
 match C,h with
 | [a,b,c,d,e],_ => exact ⟨a,b,c,d,e,rfl⟩
end Go.Proofs.YtmfihlcibephlaaDoor
namespace Go.Proofs.YtmfihlcibephlaaDoor
open Go.RowKit
def StrsAt (w:World) (v:Value) (L:List ByteArray):Prop:=∃ A cap,v = .slice A L.length cap ∧ (L.length ≤ cap ∧ cap ≤ maxLen) ∧ Rd w w.heap.size A (L.map Value.string)
theorem StrsAt.later {w w':World} {v:Value} {L:List ByteArray} (h:StrsAt w v L) (hb:Below w.heap.size w w'):StrsAt w' v L:=by
 obtain ⟨A,cap,h1,h2,h3⟩:=h
 exact ⟨A,cap,h1,h2,h3.later hb⟩
structure Sl where
 a:Int
 b:Int
 c:Int
 name:ByteArray
 ty:Ty
 most:Int
 place:Int
def SlAt (w:World) (x:Sl) (C:List Value):Prop:=∃ T:List Value,C = [.int .i64 x.a,.int .i64 x.b,.int .i64 x.c,.string x.name] ++ T ++ [.int .i64 x.most,.int .i64 x.place] ∧ T.length = 5 ∧ TyAt w x.ty (.agg T.toArray)
theorem SlAt.later {w w':World} {x:Sl} {C:List Value} (h:SlAt w x C) (hb:Below w.heap.size w w'):SlAt w' x C:=by
 obtain ⟨T,h1,h2,h3⟩:=h
 exact ⟨T,h1,h2,TyAt.later hb h3⟩
inductive Ex where
 | node (a b c k n ra rb rc:Int) (ty:Ty) (ks:List Ex) (names:List ByteArray)
mutual
def Ex.nodes:Ex → Nat
 | .node _ _ _ _ _ _ _ _ _ ks _ => enodesL ks + 1
def enodesL:List Ex → Nat
 | [] => 0
 | x :: xs => x.nodes + enodesL xs
end
mutual
def ExAt (w:World):Ex → List Value → Prop
 | .node a b c k n ra rb rc ty ks names,C => ∃ T A cap nv,C = [.int .i64 a,.int .i64 b,.int .i64 c,.int .i64 k,.int .i64 n,.int .i64 ra,.int .i64 rb,.int .i64 rc] ++ T ++ [.slice A ks.length cap,nv] ∧ (T.length = 5 ∧ ks.length ≤ cap ∧ cap ≤ maxLen) ∧ TyAt w ty (.agg T.toArray) ∧ StrsAt w nv names ∧ KxAt w A 0 ks
def KxAt (w:World) (A:Option Addr):Nat → List Ex → Prop
 | _,[] => True
 | i,x :: xs => (∃ g o cs,A = some ⟨g,o,none⟩ ∧ w.rangeAt g (o + i * 15) cs ∧ ExAt w x cs) ∧ KxAt w A (i + 1) xs
end
mutual
theorem ExAt.later {w w':World} (hb:Below w.heap.size w w'):∀ {x:Ex} {C:List Value},ExAt w x C → ExAt w' x C
 | .node a b c k n ra rb rc ty ks names,C,h => by
  unfold ExAt at h ⊢
  obtain ⟨T,A,cap,nv,h1,h2,h3,h4,h5⟩:=h
  exact ⟨T,A,cap,nv,h1,h2,TyAt.later hb h3,h4.later hb,KxAt.later hb h5⟩
theorem KxAt.later {w w':World} (hb:Below w.heap.size w w'):∀ {xs:List Ex} {A:Option Addr} {i:Nat},KxAt w A i xs → KxAt w' A i xs
 | [],A,i,h => by unfold KxAt;trivial
 | x :: xs,A,i,h => by
  unfold KxAt at h ⊢
  obtain ⟨⟨g,o,cs,h1,h2,h3⟩,h4⟩:=h
  exact ⟨⟨g,o,cs,h1,range_below h2 hb,ExAt.later hb h3⟩,KxAt.later hb h4⟩
end
theorem ExAt.len {w:World} {x:Ex} {C:List Value} (h:ExAt w x C):C.length = 15:=by
 cases x with
 | node a b c k n ra rb rc ty ks names =>
  unfold ExAt at h
  obtain ⟨T,A,cap,nv,rfl,h2,_⟩:=h
  simp [h2.1]
structure Df where
 a:Int
 b:Int
 c:Int
 kind:Int
 ma:Int
 mb:Int
 mc:Int
 name:ByteArray
 slots:List Sl
 res:Ty
 body:Ex
 place:Int
 lay:List ByteArray
def SlsAt (w:World) (v:Value) (L:List Sl):Prop:=∃ A cap,v = .slice A L.length cap ∧ (L.length ≤ cap ∧ cap ≤ maxLen) ∧ ∀ j x,L[j]? = some x → ∃ g o C,A = some ⟨g,o,none⟩ ∧ w.rangeAt g (o + j * 11) C ∧ SlAt w x C
theorem SlsAt.later {w w':World} {v:Value} {L:List Sl} (h:SlsAt w v L) (hb:Below w.heap.size w w'):SlsAt w' v L:=by
 obtain ⟨A,cap,h1,h2,h3⟩:=h
 refine ⟨A,cap,h1,h2,fun j x hx => ?_⟩
 obtain ⟨g,o,C,h4,h5,h6⟩:=h3 j x hx
 exact ⟨g,o,C,h4,range_below h5 hb,h6.later hb⟩
def DfAt (w:World) (d:Df) (C:List Value):Prop:=∃ (sv:Value) (T E:List Value) (lv:Value),C = [.int .i64 d.a,.int .i64 d.b,.int .i64 d.c,.int .i64 d.kind,.int .i64 d.ma,.int .i64 d.mb,.int .i64 d.mc,.string d.name,sv] ++ T ++ E ++ [.int .i64 d.place,lv] ∧
 T.length = 5 ∧ SlsAt w sv d.slots ∧ TyAt w d.res (.agg T.toArray) ∧ ExAt w d.body E ∧ StrsAt w lv d.lay
theorem DfAt.later {w w':World} {d:Df} {C:List Value} (h:DfAt w d C) (hb:Below w.heap.size w w'):DfAt w' d C:=by
 obtain ⟨sv,T,E,lv,h1,h2,h3,h4,h5,h6⟩:=h
 exact ⟨sv,T,E,lv,h1,h2,h3.later hb,TyAt.later hb h4,ExAt.later hb h5,h6.later hb⟩
theorem DfAt.len {w:World} {d:Df} {C:List Value} (h:DfAt w d C):C.length = 31:=by
 obtain ⟨sv,T,E,lv,rfl,h2,_,_,h5,_⟩:=h
 simp [h2,h5.len]
def PrAt (w:World) (P:List Df) (v:Value):Prop:=∃ (mv:Value) (A:Option Addr) (cap:Nat),v = .agg #[mv,.slice A P.length cap] ∧ (mv.oneCell' = true ∧ P.length ≤ cap ∧ cap ≤ maxLen) ∧ ∀ j d,P[j]? = some d → ∃ g o C,A = some ⟨g,o,none⟩ ∧ w.rangeAt g (o + j * 31) C ∧ DfAt w d C
theorem PrAt.later {w w':World} {P:List Df} {v:Value} (h:PrAt w P v) (hb:Below w.heap.size w w'):PrAt w' P v:=by
 obtain ⟨mv,A,cap,h1,h2,h3⟩:=h
 refine ⟨mv,A,cap,h1,h2,fun j d hd => ?_⟩
 obtain ⟨g,o,C,h4,h5,h6⟩:=h3 j d hd
 exact ⟨g,o,C,h4,range_below h5 hb,h6.later hb⟩
def Df.has (d:Df) (a b c:Int):Bool:=decide (d.a = a) && (decide (d.b = b) && decide (d.c = c))
def fnd (P:List Df) (a b c:Int):Nat:=P.findIdx fun d => d.has a b c
def fndI (P:List Df) (a b c:Int):Int:=if fnd P a b c < P.length then (fnd P a b c:Int) else -1
theorem fnd_at {P:List Df} {a b c:Int} {j:Nat} (h:j < P.length) (h1:P[j].has a b c = true) (h2:∀ i (hi:i < j),(P[i]'(by omega)).has a b c = false):fnd P a b c = j:=by
 unfold fnd
 exact (List.findIdx_eq h).2 ⟨h1,fun i hi => by rw [h2 i hi]⟩
theorem fnd_none {P:List Df} {a b c:Int} (h:∀ i (hi:i < P.length),(P[i]'hi).has a b c = false):fnd P a b c = P.length:=by
 unfold fnd
 rw [List.findIdx_eq_length]
 intro x hx
 obtain ⟨i,hi,rfl⟩:=List.getElem_of_mem hx
 exact h i hi
theorem info_prog:(Tryd.prog.info? 26).map (·.size) = some 2:=by kernel_rfl
theorem info_def:(Tryd.prog.info? 46).map (·.size) = some 31:=by kernel_rfl
theorem info_slot:(Tryd.prog.info? 66).map (·.size) = some 11:=by kernel_rfl
theorem p2_new (w:World) (mv dv:Value):Arr (w.alloc (.cells #[mv,dv] 26)) w.heap.size 2 26 [mv,dv]:=Arr.new' w _ _ 2 _ rfl rfl (by decide)
theorem i3_new (w:World) (a b c:Int):Arr (w.alloc (.cells #[.int .i64 a,.int .i64 b,.int .i64 c] 28)) w.heap.size 3 28 [.int .i64 a,.int .i64 b,.int .i64 c]:=Arr.new' w _ _ 3 _ rfl rfl (by decide)
end Go.Proofs.YtmfihlcibephlaaDoor
namespace Go.Proofs.YtmfihlcibephlaaDoor
open Go.RowKit
theorem df_head {w:World} {g p:Nat} {d:Df} {C:List Value} (h:w.rangeAt g p C) (hd:DfAt w d C):w.cell? ⟨g,p,none⟩ = some (.int .i64 d.a) ∧ w.cell? ⟨g,p + 1,none⟩ = some (.int .i64 d.b) ∧ w.cell? ⟨g,p + 2,none⟩ = some (.int .i64 d.c) ∧ w.cell? ⟨g,p + 3,none⟩ = some (.int .i64 d.kind):=by
 obtain ⟨sv,T,E,lv,rfl,_⟩:=hd
 exact ⟨h 0 _ rfl,h 1 _ rfl,h 2 _ rfl,h 3 _ rfl⟩
set_option maxHeartbeats 4000000 in
set_option maxRecDepth 100000 in
theorem find_any (P:List Df) (a b c:Int) (w:World) (v:Value) (h:PrAt w P v) :
  Calls Tryd.prog 49 #[v,.agg #[.int .i64 a,.int .i64 b,.int .i64 c]] w fun e w' => e = .returned (.int .i64 (fndI P a b c)) ∧ Below w.heap.size w w':=by
 obtain ⟨mv,A,cap,rfl,hm,hP⟩:=h
 obtain ⟨n,hn⟩:∃ n,P.length = n:=⟨_,rfl⟩
 rw [hn] at hm ⊢
 have HP:=Lib.hid hP
 have HN:=Lib.hid hn
 have HM:=Lib.hid hm
 have hni:(n:Int) ≤ 9223372036854775807:=by have:=hm.2;simp only [maxLen] at this;omega
 have P0:=p2_new w mv (.slice A n cap)
 have V0':=new_later w (.cells #[mv,.slice A n cap] 26)
 have Q0:=i3_new (w.alloc (.cells #[mv,.slice A n cap] 26)) a b c
 have P1:=P0.later (new_later _ (.cells #[.int .i64 a,.int .i64 b,.int .i64 c] 28))
 have V1:=later V0' (new_later _ (.cells #[.int .i64 a,.int .i64 b,.int .i64 c] 28))
 rw [World.size_alloc] at Q0
 clear P0 V0'
 generalize hW:(w.alloc (.cells #[mv,.slice A n cap] 26)).alloc (.cells #[.int .i64 a,.int .i64 b,.int .i64 c] 28) = wa at P1 V1 Q0
 have hc1:=P1.cell (j:=1) (v:=.slice A n cap) rfl
 have HP1:=Lib.hid P1
 have HQ1:=Lib.hid Q0
 have HV1:=Lib.hid V1
 clear hP hn hm P1 Q0 V1
 go_enter Tryd.func49,Tryd.ntmps49
 go_upto_region 1 with fail
 clear hW
 go_wp2_with fail
 clear hc1
 go_loopw [9] (fun i W => ∃ j:Nat,j ≤ n ∧ i = .int .i64 (j:Int) ∧ Arr W w.heap.size 2 26 [mv,.slice A n cap] ∧ Arr W (w.heap.size + 1) 3 28 [.int .i64 a,.int .i64 b,.int .i64 c] ∧ Below w.heap.size w W ∧ Hid (∀ i (hi:i < P.length),i < j → (P[i]'hi).has a b c = false)) (fun i _ => n - (intOf i).toNat)
 case atStart => exact ⟨0,by omega,rfl,HP1.out,HQ1.out,HV1.out,Lib.hid fun i _ h => absurd h (by omega)⟩
 case round =>
  obtain ⟨j,hj,rfl,P2,Q2,V2,HNO⟩:=hrel
  have hj0:(0:Int) ≤ (j:Int):=by omega
  by_cases hlt:j < n
  ·have hji:(j:Int) < (n:Int):=by omega
   have hjl:j < P.length:=by rw [HN.out];exact hlt
   obtain ⟨g,o,C,rfl,hrg,hdf⟩:=HP.out j _ (List.getElem?_eq_getElem hjl)
   obtain ⟨d1,d2,d3,d4⟩:=df_head (range_below hrg V2) (hdf.later V2)
   have hA1:=P2.cell (j:=1) (v:=.slice (some ⟨g,o,none⟩) n cap) rfl
   have b1:=Q2.cell (j:=0) (v:=.int .i64 a) rfl
   have b2:=Q2.cell (j:=1) (v:=.int .i64 b) rfl
   have b3:=Q2.cell (j:=2) (v:=.int .i64 c) rfl
   have HNE:Hid ((P[j]).has a b c = true → fndI P a b c = (j:Int)):=Lib.hid fun h => by
    have h2:=fnd_at hjl h (fun i hi => HNO.out i (by omega) hi)
    unfold fndI
    rw [if_pos (by omega),h2]
   have HNX:Hid ((P[j]).has a b c = false → ∀ i (hi:i < P.length),i < j + 1 → (P[i]'hi).has a b c = false):=Lib.hid fun h i hi hij => by
    by_cases e:i = j
    ·subst e;exact h
    ·exact HNO.out i hi (by omega)
   have heq:=fun W => eq_id (P[j]).a (P[j]).b (P[j]).c a b c W
   obtain ⟨E,hE⟩:∃ E,(P[j]).has a b c = E:=⟨_,rfl⟩
   rw [hE] at HNE HNX
   rw [show (decide ((P[j]).a = a) && (decide ((P[j]).b = b) && decide ((P[j]).c = c))) = E from hE] at heq
   generalize P[j] = d at heq d1 d2 d3
   have HPP:=Lib.hid P2
   have HQQ:=Lib.hid Q2
   have HVV:=Lib.hid V2
   have HLT:=Lib.hid hlt
   clear d4 hE hrg hdf hjl P2 Q2 V2 HNO hlt
   cases E with
   | true =>
    have HZ:=Lib.hid (HNE.out rfl)
    go_wp2_with fail
    go_quiet (fail)
    go_wp2_with fail
    go_ret
    exact ⟨by rw [HZ.out];rfl,below_drewN HVV.out _⟩
   | false =>
    have HZ:=Lib.hid (HNX.out rfl)
    go_wp2_with fail
    go_quiet (fail)
    go_wp2_with fail
    refine ⟨⟨j + 1,by have:=HLT.out;omega,by go_num,HPP.out,HQQ.out,below_drewN HVV.out _,HZ⟩,by have:=HLT.out;simp [intOf];omega⟩
  ·obtain rfl:j = n:=by omega
   have HZ:Hid (fndI P a b c = -1):=Lib.hid (by
    unfold fndI
    rw [fnd_none (fun i hi => HNO.out i hi (by rw [← HN.out];exact hi)),if_neg (by omega)])
   clear hlt HNO
   go_wp2_with fail
   go_ret
   exact ⟨by rw [HZ.out];rfl,V2⟩
end Go.Proofs.YtmfihlcibephlaaDoor
namespace Go.Proofs.YtmfihlcibephlaaDoor
open Go.RowKit
theorem below_setCells {B b:Nat} {a:World}:∀ (vs:List Value) (o:Nat) (w:World),Below B a w → B ≤ b → Below B a (w.setCells b o vs)
 | [],_,_,h,_ => h
 | v :: r,o,w,h,hb => below_setCells r (o + 1) _ (h.setCell (p:=⟨b,o,none⟩) hb v) hb
def setAll:List Value → Nat → List Value → List Value
 | ys,_,[] => ys
 | ys,o,v :: r => setAll (ys.set o v) (o + 1) r
theorem Arr.setCells {g n:Nat} {e:TypeId}:∀ (vs:List Value) {w:World} {o:Nat} {xs:List Value},Arr w g n e xs → Arr (w.setCells g o vs) g n e (setAll xs o vs)
 | [],_,_,_,h => h
 | v :: r,w,o,xs,h => Arr.setCells r (h.set_ o v)
theorem setAll_eq:∀ (vs:List Value) (ys:List Value) (o:Nat),o + vs.length ≤ ys.length → setAll ys o vs = ys.take o ++ vs ++ ys.drop (o + vs.length)
 | [],ys,o,_ => by simp [setAll]
 | v :: r,ys,o,h => by
  have h:o + (r.length + 1) ≤ ys.length:=h
  rw [setAll,setAll_eq r (ys.set o v) (o + 1) (by simp;omega)]
  have e1:(ys.set o v).take (o + 1) = ys.take o ++ [v]:=by
   rw [List.take_succ_eq_append_getElem (by simp;omega),List.getElem_set_self,List.take_set_of_le (Nat.le_refl _)]
  have e2:(ys.set o v).drop (o + 1 + r.length) = ys.drop (o + (v :: r).length):=by
   rw [List.drop_set_of_lt (by omega)];congr 1;simp;omega
  rw [e1,e2];simp
def Only (g:Nat) (w w':World):Prop:=Below g w w' ∧ ∀ k,k ≠ g → w'.heap[k]? = w.heap[k]?
theorem Only.bel {g:Nat} {w w':World} (h:Only g w w'):Below g w w':=h.1
theorem heap_setCells (b k:Nat) (hk:k ≠ b):∀ (vs:List Value) (o:Nat) (w:World),(w.setCells b o vs).heap[k]? = w.heap[k]?
 | [],_,_ => rfl
 | v :: r,o,w => by rw [World.setCells,heap_setCells b k hk r];exact Below.heap_setCell _ _ _ _ hk
theorem Only.setCells (g o:Nat) (vs:List Value) (w:World):Only g w (w.setCells g o vs):=⟨below_setCells vs o w (Below.refl _ w) (Nat.le_refl _),fun k hk => heap_setCells g k hk vs o w⟩
theorem Arr.only {W W':World} {b g n:Nat} {e:TypeId} {xs:List Value} (h:Arr W b n e xs) (ho:Only g W W') (hb:b ≠ g):Arr W' b n e xs:=by
 refine ⟨h.1,?_⟩
 rcases h.2 with h2 | ⟨g',cap,cur,hv,hg,hh,r⟩
 ·exact .inl h2
 ·refine .inr ⟨g',cap,cur,hv,hg,?_,r⟩
  rw [ho.2 _ (by cases hv;exact hb)]
  exact hh
theorem Arr.mid {W:World} {g n k:Nat} {e:TypeId} {a x b:List Value} (h:Arr W g n e (a ++ x ++ b)) (hk:k = a.length):W.rangeAt g k x:=by
 subst hk
 intro j v hv
 have hj:=(List.getElem?_eq_some_iff.1 hv).1
 refine h.cell ?_
 rw [List.append_assoc,List.getElem?_append_right (by omega),Nat.add_sub_cancel_left,List.getElem?_append_left hj]
 exact hv
theorem Arr.thereAt {W:World} {g n o k:Nat} {e:TypeId} {xs:List Value} (h:Arr W g n e xs) (hk:o + k ≤ n):W.there g o k:=fun j hj => by
 refine ⟨?_,h.free _⟩
 rw [World.ownsRow.cellAt h (o + j) (by omega),List.getElem?_eq_getElem (by have:=h.1;omega)]
 rfl
theorem wpList_store_arr {P:Program} {ops:Array Oper} {rest:List Oper} {op:Oper} {a:Act} {w:World} {Q:Exit → Act → World → Prop} (hgd:op.guard = none) (ty:TypeId) (x y:Operand) (ho:op.op = .store ty x y)
  (g k n:Nat) (e:TypeId) (cs:Array Value) (vs xs:List Value) (hx:a.eval x = .pointer (some ⟨g,k,none⟩)) (hy:a.eval y = .agg cs) (hcs:cs = vs.toArray)
  (hA:Arr w g n e xs) (hfit:k + vs.length ≤ n) (hi:(P.info? ty).map (·.size) = some vs.length) (h1:∀ v ∈ vs,v.oneCell' = true)
  (h:∀ w',Arr w' g n e (setAll xs k vs) → Only g w w' → wpList P ops Q rest (a.put op.dst undef) w'):wpList P ops Q (op :: rest) a w:=by
 subst hcs
 exact wpList_store_mid hgd ty x y ho g k vs.toArray hx hy (hA.thereAt (by simpa using hfit)) (by simpa using hi) (all_oneCell_toArray h1) (h _ (hA.setCells vs) (Only.setCells g k vs w))
theorem setAll_all (ys vs:List Value) (h:vs.length = ys.length):setAll ys 0 vs = vs:=by
 rw [setAll_eq _ _ _ (by omega),List.drop_of_length_le (by omega)];simp
end Go.Proofs.YtmfihlcibephlaaDoor
namespace Go.Proofs.YtmfihlcibephlaaDoor
open Go.RowKit
def isD (P:List Df) (a b c:Int):Bool:=match P[fnd P a b c]? with
 | some d => decide (d.kind = 0) || decide (d.kind = 1)
 | none => false
theorem fnd_le (P:List Df) (a b c:Int):fnd P a b c ≤ P.length:=List.findIdx_le_length
set_option maxHeartbeats 4000000 in
set_option maxRecDepth 100000 in
theorem isData_any (P:List Df) (a b c:Int) (w:World) (v:Value) (h:PrAt w P v) :
  Calls Tryd.prog 46 #[v,.agg #[.int .i64 a,.int .i64 b,.int .i64 c]] w (BRes (isD P a b c) w):=by
 have hP0:=h
 obtain ⟨mv,A,cap,rfl,hm,hP⟩:=h
 obtain ⟨n,hn⟩:∃ n,P.length = n:=⟨_,rfl⟩
 rw [hn] at hm hP0 ⊢
 have HF:=Lib.hid fun (W:World) (hW:PrAt W P (.agg #[mv,.slice A n cap])) => find_any P a b c W _ hW
 have P0:=p2_new w mv (.slice A n cap)
 have V0':=new_later w (.cells #[mv,.slice A n cap] 26)
 have Q0:=i3_new (w.alloc (.cells #[mv,.slice A n cap] 26)) a b c
 have P1:=P0.later (new_later _ (.cells #[.int .i64 a,.int .i64 b,.int .i64 c] 28))
 have V1:=later V0' (new_later _ (.cells #[.int .i64 a,.int .i64 b,.int .i64 c] 28))
 rw [World.size_alloc] at Q0
 clear P0 V0'
 generalize hW:(w.alloc (.cells #[mv,.slice A n cap] 26)).alloc (.cells #[.int .i64 a,.int .i64 b,.int .i64 c] 28) = wa at P1 V1 Q0
 have HPA:=Lib.hid (hP0.later V1)
 have HPX:=Lib.hid hP
 have HV1:=Lib.hid V1
 have x0:=P1.cell (j:=0) (v:=mv) rfl
 have x1:=P1.cell (j:=1) (v:=.slice A n cap) rfl
 have y0:=Q0.cell (j:=0) (v:=.int .i64 a) rfl
 have y1:=Q0.cell (j:=1) (v:=.int .i64 b) rfl
 have y2:=Q0.cell (j:=2) (v:=.int .i64 c) rfl
 have HP1:=Lib.hid P1
 have hle:=fnd_le P a b c
 rw [hn] at hle
 clear hP0 hP P1 Q0 V1
 by_cases hlt:fnd P a b c < n
 ·have hjl:fnd P a b c < P.length:=by rw [hn];exact hlt
  have hfi:fndI P a b c = (fnd P a b c:Int):=by unfold fndI;rw [if_pos hjl]
  have hget:=List.getElem?_eq_getElem hjl
  have his:isD P a b c = (decide ((P[fnd P a b c]).kind = 0) || decide ((P[fnd P a b c]).kind = 1)):=by unfold isD;rw [hget]
  obtain ⟨g,o,C,hA,hrg,hdf⟩:=HPX.out _ _ hget
  rw [hfi] at HF
  rw [his]
  have HDF:=Lib.hid hdf
  have HRG:=Lib.hid hrg
  generalize P[fnd P a b c] = d at HDF
  generalize fnd P a b c = j at HF hlt HRG
  have hji:(j:Int) < (n:Int):=by omega
  have hj0:(0:Int) ≤ (j:Int):=by omega
  subst hA
  obtain ⟨K,hK⟩:∃ K,d.kind = K:=⟨_,rfl⟩
  have HKC:Hid (∀ W,Below w.heap.size w W → W.cell? ⟨g,o + j * 31 + 3,none⟩ = some (.int .i64 K)):=Lib.hid fun W hW' => by rw [← hK];exact (df_head (range_below HRG.out hW') (HDF.out.later hW')).2.2.2
  rw [hK]
  clear hrg hdf hget hjl hfi his hlt hle hn hm HDF HRG HPX hK
  by_cases hk0:K = 0
  ·subst hk0
   rw [decide_eq_true rfl,Bool.true_or]
   go_enter Tryd.func46,Tryd.ntmps46
   go_upto_region 1 with fail
   clear hW
   go_wp2_with (first
    | (go_at_call 49;(with_reducible refine (HF.out _ HPA.out).mono ?_);rintro e w7 ⟨rfl,hb7⟩;have V7:=later HV1.out hb7;have hcs:=(HP1.out.later hb7).cell (j:=1) (v:=.slice (some ⟨g,o,none⟩) n cap) rfl;have hck:=HKC.out _ V7))
   go_ret
   exact ⟨rfl,V7⟩
  ·have hkb:(K == 0) = false:=by rw [beq_eq_false_iff_ne];exact hk0
   rw [decide_eq_false hk0,Bool.false_or]
   clear hk0
   have hkc:(K == 1) = decide (K = 1):=beq_int K 1
   generalize decide (K = 1) = D at hkc
   go_enter Tryd.func46,Tryd.ntmps46
   go_upto_region 1 with fail
   clear hW
   go_wp2_with (first
    | (go_at_call 49;(with_reducible refine (HF.out _ HPA.out).mono ?_);rintro e w7 ⟨rfl,hb7⟩;have V7:=later HV1.out hb7;have hcs:=(HP1.out.later hb7).cell (j:=1) (v:=.slice (some ⟨g,o,none⟩) n cap) rfl;have hck:=HKC.out _ V7))
   go_ret
   exact ⟨rfl,V7⟩
 ·have hje:fnd P a b c = n:=by omega
  have hfi:fndI P a b c = -1:=by unfold fndI;rw [if_neg (by omega)]
  have his:isD P a b c = false:=by unfold isD;rw [hje,List.getElem?_eq_none (by omega)]
  rw [hfi] at HF
  rw [his]
  clear hlt hle hje hfi his hn hm
  go_enter Tryd.func46,Tryd.ntmps46
  go_upto_region 1 with fail
  clear hW
  go_wp2_with (first
   | (go_at_call 49;(with_reducible refine (HF.out _ HPA.out).mono ?_);rintro e w7 ⟨rfl,hb7⟩;have V7:=later HV1.out hb7))
  go_ret
  exact ⟨rfl,V7⟩
end Go.Proofs.YtmfihlcibephlaaDoor
