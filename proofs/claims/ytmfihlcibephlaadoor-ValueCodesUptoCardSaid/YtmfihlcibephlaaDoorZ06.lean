import Derived.Test.YtmfihlcibephlaaDoorZ04
import Derived.Deep.AppendLies
set_option linter.unusedVariables false
set_option linter.unusedSimpArgs false
namespace Go.Proofs.YtmfihlcibephlaaDoor
open Go.RowKit
theorem results_cellB {P:Program} {fn:Func} {p u:Tmp} {ty:TypeId} (h:fn.results = #[.cell p ty,.tmp u]) (tmps:Array Value) (w:World) (g:Nat) (cs:List Value) (d:TypeDesc)
  (hp:tmps.getD p undef = .pointer (some ⟨g,0,none⟩)) (hg:w.rangeAt g 0 cs)
  (hu:P.underlying ty = some d) (hd:d.isRow = true) (hi:(P.info? ty).map (·.size) = some cs.length) :
  (results fn tmps).run P w = .ok (.tuple #[.agg cs.toArray,tmps.getD u undef]) w:=by
 have hp':tmps[p]?.getD undef = .pointer (some ⟨g,0,none⟩):=by simpa using hp
 simp [results,h,hp',asAddr,run_loadVar_mid w g 0 ty cs d hg hu hd hi]
def z31:List Value:=[.int .i64 0,.int .i64 0,.int .i64 0,.int .i64 0,.int .i64 0,.int .i64 0,.int .i64 0,.string ⟨#[]⟩,.slice none 0 0,.int .i64 0,.int .i64 0,.int .i64 0,.int .i64 0,.slice none 0 0,
 .int .i64 0,.int .i64 0,.int .i64 0,.int .i64 0,.int .i64 0,.int .i64 0,.int .i64 0,.int .i64 0,.int .i64 0,.int .i64 0,.int .i64 0,.int .i64 0,.slice none 0 0,.slice none 0 0,.slice none 0 0,.int .i64 0,.slice none 0 0]
theorem z31_new (w:World):Arr (w.alloc (.cells z31.toArray 46)) w.heap.size 31 46 z31:=Arr.new' w _ _ 31 _ rfl rfl (by decide)
theorem zero_def (W:World):(zeroValue 46).run Tryd.prog W = .ok (.agg z31.toArray) W:=by kernel_rfl
theorem ExAt.cells {w:World} {x:Ex} {C:List Value} (h:ExAt w x C):∀ v ∈ C,v.oneCell' = true:=by
 cases x with
 | node a b c k n ra rb rc ty ks names =>
  unfold ExAt at h
  obtain ⟨T,A,cap,nv,rfl,_,hT,⟨A',cap',rfl,_⟩,_⟩:=h
  obtain ⟨k',s',q',i',B,len',cp,hsh⟩:=hT.shape
  have hT':T = t5 k' s' q' i' B len' cp:=by simpa using hsh
  subst hT'
  intro v hv
  simp [t5] at hv
  rcases hv with rfl | rfl | rfl | rfl | rfl | rfl | rfl | rfl | rfl | rfl | rfl | rfl | rfl | rfl | rfl <;> rfl
theorem DfAt.cells {w:World} {d:Df} {C:List Value} (h:DfAt w d C):∀ v ∈ C,v.oneCell' = true:=by
 obtain ⟨sv,T,E,lv,rfl,_,⟨A,cap,rfl,_⟩,hT,hE,⟨A',cap',rfl,_⟩⟩:=h
 obtain ⟨k',s',q',i',B,len',cp,hsh⟩:=hT.shape
 have hT':T = t5 k' s' q' i' B len' cp:=by simpa using hsh
 subst hT'
 have hEc:=hE.cells
 intro v hv
 simp only [List.mem_append,List.mem_cons,List.not_mem_nil,or_false,t5] at hv
 rcases hv with ((hv | hv) | hv) | hv
 ·rcases hv with rfl | rfl | rfl | rfl | rfl | rfl | rfl | rfl | rfl <;> rfl
 ·rcases hv with rfl | rfl | rfl | rfl | rfl <;> rfl
 ·exact hEc v hv
 ·rcases hv with rfl | rfl <;> rfl
def DefRes (P:List Df) (a b c:Int) (w:World) (e:Ending) (w':World):Prop:=Below w.heap.size w w' ∧
 ((∃ d C,P[fnd P a b c]? = some d ∧ e = .returned (.tuple #[.agg C.toArray,.bool true]) ∧ DfAt w d C) ∨ (P[fnd P a b c]? = none ∧ e = .returned (.tuple #[.agg z31.toArray,.bool false])))
set_option maxHeartbeats 4000000 in
set_option maxRecDepth 100000 in
theorem rdef_any (P:List Df) (a b c:Int) (w:World) (v:Value) (h:PrAt w P v) :
  Calls Tryd.prog 21 #[v,.agg #[.int .i64 a,.int .i64 b,.int .i64 c]] w (DefRes P a b c w):=by
 obtain ⟨mv,A,cap,rfl,hm,hP⟩:=h
 obtain ⟨n,hn⟩:∃ n,P.length = n:=⟨_,rfl⟩
 rw [hn] at hm ⊢
 have HP:=Lib.hid hP
 have HN:=Lib.hid hn
 have HM:=Lib.hid hm
 have hni:(n:Int) ≤ 9223372036854775807:=by have:=hm.2;simp only [maxLen] at this;omega
 have P0:=p2_new w mv (.slice A n cap)
 have V0':=new_later w (.cells #[mv,.slice A n cap] 26)
 have Q0:=i3_new (w.alloc (.cells #[mv,.slice A n cap] 26)) a b c
 have P1:=P0.later (new_later _ (.cells #[.int .i64 a,.int .i64 b,.int .i64 c] 28))
 have V1:=later V0' (new_later _ (.cells #[.int .i64 a,.int .i64 b,.int .i64 c] 28))
 rw [World.size_alloc] at Q0
 have R0:=z31_new ((w.alloc (.cells #[mv,.slice A n cap] 26)).alloc (.cells #[.int .i64 a,.int .i64 b,.int .i64 c] 28))
 rw [World.size_alloc,World.size_alloc] at R0
 have P1x:=P1
 have R1:=new_later ((w.alloc (.cells #[mv,.slice A n cap] 26)).alloc (.cells #[.int .i64 a,.int .i64 b,.int .i64 c] 28)) (.cells z31.toArray 46)
 replace P1:=P1.later R1
 replace Q0:=Q0.later R1
 replace V1:=later V1 R1
 clear P1x R1
 clear P0 V0'
 generalize hW:((w.alloc (.cells #[mv,.slice A n cap] 26)).alloc (.cells #[.int .i64 a,.int .i64 b,.int .i64 c] 28)).alloc (.cells z31.toArray 46) = wa at P1 V1 Q0 R0
 have hc1:=P1.cell (j:=1) (v:=.slice A n cap) rfl
 have HP1:=Lib.hid P1
 have HQ1:=Lib.hid Q0
 have HR1:=Lib.hid R0
 have HV1:=Lib.hid V1
 have hzd:=zero_def
 have HOZ:Hid (∀ v ∈ z31,v.oneCell' = true):=Lib.hid (by decide)
 clear hP hn hm P1 Q0 V1 R0
 go_enter Tryd.func21,Tryd.ntmps21
 go_upto_region 1 with fail
 clear hW
 go_wp2_with fail
 clear hc1
 go_loopw [6] (fun i W => ∃ j:Nat,j ≤ n ∧ i = .int .i64 (j:Int) ∧ Arr W w.heap.size 2 26 [mv,.slice A n cap] ∧ Arr W (w.heap.size + 1) 3 28 [.int .i64 a,.int .i64 b,.int .i64 c] ∧ Arr W (w.heap.size + 1 + 1) 31 46 z31 ∧ Below w.heap.size w W ∧ Hid (∀ i (hi:i < P.length),i < j → (P[i]'hi).has a b c = false)) (fun i _ => n - (intOf i).toNat)
 case atStart => exact ⟨0,by omega,rfl,HP1.out,HQ1.out,HR1.out,HV1.out,Lib.hid fun i _ h => absurd h (by omega)⟩
 case round =>
  obtain ⟨j,hj,rfl,P2,Q2,R2,V2,HNO⟩:=hrel
  have hj0:(0:Int) ≤ (j:Int):=by omega
  have hA0:=P2.cell (j:=1) (v:=.slice A n cap) rfl
  by_cases hlt:j < n
  ·have hji:(j:Int) < (n:Int):=by omega
   have hjl:j < P.length:=by rw [HN.out];exact hlt
   obtain ⟨g,o,C,rfl,hrg,hdf⟩:=HP.out j _ (List.getElem?_eq_getElem hjl)
   obtain ⟨d1,d2,d3,d4⟩:=df_head (range_below hrg V2) (hdf.later V2)
   have b1:=Q2.cell (j:=0) (v:=.int .i64 a) rfl
   have b2:=Q2.cell (j:=1) (v:=.int .i64 b) rfl
   have b3:=Q2.cell (j:=2) (v:=.int .i64 c) rfl
   have HNE:Hid ((P[j]).has a b c = true → P[fnd P a b c]? = some P[j]):=Lib.hid fun h => by
    have h2:=fnd_at hjl h (fun i hi => HNO.out i (by omega) hi)
    rw [h2];exact List.getElem?_eq_getElem hjl
   have HNX:Hid ((P[j]).has a b c = false → ∀ i (hi:i < P.length),i < j + 1 → (P[i]'hi).has a b c = false):=Lib.hid fun h i hi hij => by
    by_cases e:i = j
    ·subst e;exact h
    ·exact HNO.out i hi (by omega)
   have heq:=fun W => eq_id (P[j]).a (P[j]).b (P[j]).c a b c W
   obtain ⟨E,hE⟩:∃ E,(P[j]).has a b c = E:=⟨_,rfl⟩
   rw [hE] at HNE HNX
   rw [show (decide ((P[j]).a = a) && (decide ((P[j]).b = b) && decide ((P[j]).c = c))) = E from hE] at heq
   have HDF:=Lib.hid hdf
   generalize P[j] = d at heq d1 d2 d3 HDF HNE d4
   have hCl:=HDF.out.len
   have HCL:=Lib.hid hCl
   have HOC:Hid (∀ v ∈ C,v.oneCell' = true):=Lib.hid (DfAt.cells HDF.out)
   have HRG:Hid (∀ q,(wr.drewN q).rangeAt g (o + j * 31) C):=Lib.hid fun q => range_below hrg (below_drewN V2 q)
   have HIN:Hid ((Tryd.prog.info? 46).map (·.size) = some C.length):=Lib.hid (by rw [hCl];exact info_def)
   have HPP:=Lib.hid P2
   have HQQ:=Lib.hid Q2
   have HRR:=Lib.hid R2
   have HVV:=Lib.hid V2
   have HLT:=Lib.hid hlt
   clear d4 hE hrg hdf hjl P2 Q2 V2 R2 HNO hlt hCl
   cases E with
   | true =>
    have HZ:=Lib.hid (HNE.out rfl)
    go_wp2_with fail
    go_quiet (fail)
    go_wp2_with (first
     | (with_reducible refine wpList_load_mid rfl _ (.tmp 25) rfl g (o + j * 31) rfl C _ (HRG.out _) Tryd.underlying46 rfl HIN.out ?_)
     | (refine wpList_store_arr rfl _ (.tmp 4) (.tmp 26) rfl (w.heap.size + 1 + 1) 0 31 46 _ C z31 rfl rfl rfl (show Arr (wr.drewN _) _ _ _ _ from HRR.out) (by rw [HCL.out];omega) HIN.out HOC.out ?_;intro w7 f7 o7))
    rw [setAll_all _ _ (by rw [HCL.out];rfl)] at f7
    exact bodyPost_ret (results_cellB rfl _ _ (w.heap.size + 1 + 1) C _ rfl f7.range Tryd.underlying46 rfl HIN.out) rfl ⟨(below_drewN HVV.out _).trans (o7.bel.mono (by omega)),.inl ⟨d,C,HZ.out,rfl,HDF.out⟩⟩
   | false =>
    have HZ:=Lib.hid (HNX.out rfl)
    go_wp2_with fail
    go_quiet (fail)
    go_wp2_with fail
    refine ⟨⟨j + 1,by have:=HLT.out;omega,by go_num,HPP.out,HQQ.out,HRR.out,below_drewN HVV.out _,HZ⟩,by have:=HLT.out;simp [intOf];omega⟩
  ·obtain rfl:j = n:=by omega
   have HZ:Hid (P[fnd P a b c]? = none):=Lib.hid (by
    rw [fnd_none (fun i hi => HNO.out i hi (by rw [← HN.out];exact hi))]
    exact List.getElem?_eq_none (Nat.le_refl _))
   have HRR:=Lib.hid R2
   clear hlt HNO R2
   go_wp2_with (refine wpList_store_arr rfl _ (.tmp 4) (.tmp 27) rfl (w.heap.size + 1 + 1) 0 31 46 _ z31 z31 rfl rfl rfl HRR.out (by decide) (by exact info_def) HOZ.out ?_;intro w7 f7 o7)
   rw [setAll_all _ _ rfl] at f7
   exact bodyPost_ret (results_cellB rfl _ _ (w.heap.size + 1 + 1) z31 _ rfl f7.range Tryd.underlying46 rfl info_def) rfl ⟨V2.trans (o7.bel.mono (by omega)),.inr ⟨HZ.out,rfl⟩⟩
end Go.Proofs.YtmfihlcibephlaaDoor
namespace Go.Proofs.YtmfihlcibephlaaDoor
open Go.RowKit
mutual
def TrF (S:Nat → Prop) (w:World):Tr → Value → Prop
 | .node k n ks,v => ∃ A cap,v = .agg (c3 k n A ks.length cap).toArray ∧ (ks.length ≤ cap ∧ cap ≤ maxLen ∧ i64r k ∧ i64r n) ∧ KsF S w A 0 ks
def KsF (S:Nat → Prop) (w:World) (A:Option Addr):Nat → List Tr → Prop
 | _,[] => True
 | i,x :: xs => (∃ g o cs,A = some ⟨g,o,none⟩ ∧ S g ∧ w.rangeAt g (o + i * 3) cs ∧ TrF S w x (.agg cs.toArray)) ∧ KsF S w A (i + 1) xs
end
mutual
theorem TrF.at_ {S:Nat → Prop} {w:World}:∀ {x:Tr} {v:Value},TrF S w x v → TrAt w x v
 | .node k n ks,v,h => by
  unfold TrF at h;unfold TrAt
  obtain ⟨A,cap,h1,hm,h2⟩:=h
  exact ⟨A,cap,h1,hm,KsF.at_ h2⟩
theorem KsF.at_ {S:Nat → Prop} {w:World}:∀ {xs:List Tr} {A:Option Addr} {i:Nat},KsF S w A i xs → KsAt w A i xs
 | [],A,i,h => by unfold KsAt;trivial
 | x :: xs,A,i,h => by
  unfold KsF at h;unfold KsAt
  obtain ⟨⟨g,o,cs,h1,_,h2,h3⟩,h4⟩:=h
  exact ⟨⟨g,o,cs,h1,h2,TrF.at_ h3⟩,KsF.at_ h4⟩
end
theorem range_heap {w w':World} {g p:Nat} {cs:List Value} (h:w.rangeAt g p cs) (he:g < w.heap.size → w'.heap[g]? = w.heap[g]?):w'.rangeAt g p cs:=fun j v hv => by
 have h1:=h j v hv
 have h2:=he (World.block_lt_of_cell? w _ h1)
 exact (World.cell?_of_block (a:=⟨g,p + j,none⟩) h2).trans h1
mutual
theorem TrF.keep {S S':Nat → Prop} {w w':World} (hS:∀ g,S g → S' g) (he:∀ g,S g → g < w.heap.size → w'.heap[g]? = w.heap[g]?):∀ {x:Tr} {v:Value},TrF S w x v → TrF S' w' x v
 | .node k n ks,v,h => by
  unfold TrF at h ⊢
  obtain ⟨A,cap,h1,hm,h2⟩:=h
  exact ⟨A,cap,h1,hm,KsF.keep hS he h2⟩
theorem KsF.keep {S S':Nat → Prop} {w w':World} (hS:∀ g,S g → S' g) (he:∀ g,S g → g < w.heap.size → w'.heap[g]? = w.heap[g]?):∀ {xs:List Tr} {A:Option Addr} {i:Nat},KsF S w A i xs → KsF S' w' A i xs
 | [],A,i,h => by unfold KsF;trivial
 | x :: xs,A,i,h => by
  unfold KsF at h ⊢
  obtain ⟨⟨g,o,cs,h1,hs,h2,h3⟩,h4⟩:=h
  exact ⟨⟨g,o,cs,h1,hS g hs,range_heap h2 (he g hs),TrF.keep hS he h3⟩,KsF.keep hS he h4⟩
end
theorem TrF.shape {S:Nat → Prop} {w:World} {x:Tr} {v:Value} (h:TrF S w x v):∃ k n A len cap,v = .agg (c3 k n A len cap).toArray:=h.at_.shape
theorem TrF.mono {S S':Nat → Prop} {w:World} {x:Tr} {v:Value} (h:TrF S w x v) (hS:∀ g,S g → S' g):TrF S' w x v:=h.keep hS (fun _ _ _ => rfl)
mutual
theorem TrAt.old {w:World}:∀ {x:Tr} {v:Value},TrAt w x v → TrF (· < w.heap.size) w x v
 | .node k n ks,v,h => by
  unfold TrAt at h;unfold TrF
  obtain ⟨A,cap,h1,hm,h2⟩:=h
  exact ⟨A,cap,h1,hm,KsAt.old h2⟩
theorem KsAt.old {w:World}:∀ {xs:List Tr} {A:Option Addr} {i:Nat},KsAt w A i xs → KsF (· < w.heap.size) w A i xs
 | [],A,i,h => by unfold KsF;trivial
 | x :: xs,A,i,h => by
  unfold KsAt at h;unfold KsF
  obtain ⟨⟨g,o,cs,h1,h2,h3⟩,h4⟩:=h
  obtain ⟨k,n,A',len,cap,hs⟩:=h3.shape
  have hc:cs = c3 k n A' len cap:=by simpa using hs
  have h0:cs[0]? = some (.int .i64 k):=by rw [hc];rfl
  exact ⟨⟨g,o,cs,h1,World.block_lt_of_cell? w _ (h2 0 _ h0),h2,TrAt.old h3⟩,KsAt.old h4⟩
end
mutual
theorem TrF.both {S S':Nat → Prop} {w:World}:∀ {x:Tr} {v:Value},TrF S w x v → TrF S' w x v → TrF (fun g => S g ∧ S' g) w x v
 | .node k n ks,v,h,h' => by
  unfold TrF at h h' ⊢
  obtain ⟨A,cap,h1,hm,h2⟩:=h
  obtain ⟨A',cap',h1',hm',h2'⟩:=h'
  subst h1
  have e:A = A':=by simp [c3] at h1';exact h1'.1
  subst e
  exact ⟨A,cap,rfl,hm,KsF.both h2 h2'⟩
theorem KsF.both {S S':Nat → Prop} {w:World}:∀ {xs:List Tr} {A:Option Addr} {i:Nat},KsF S w A i xs → KsF S' w A i xs → KsF (fun g => S g ∧ S' g) w A i xs
 | [],A,i,h,h' => by unfold KsF;trivial
 | x :: xs,A,i,h,h' => by
  unfold KsF at h h' ⊢
  obtain ⟨⟨g,o,cs,h1,hs,h2,h3⟩,h4⟩:=h
  obtain ⟨⟨g',o',cs',h1',hs',h2',h3'⟩,h4'⟩:=h'
  subst h1
  cases h1'
  obtain ⟨k1,n1,A1,l1,c1,e1⟩:=h3.shape
  obtain ⟨k2,n2,A2,l2,c2,e2⟩:=h3'.shape
  have e1:cs = c3 k1 n1 A1 l1 c1:=by simpa using e1
  have e2:cs' = c3 k2 n2 A2 l2 c2:=by simpa using e2
  have e:cs = cs':=by
   apply List.ext_getElem?
   intro j
   by_cases hj:j < 3
   ·have a1:cs[j]? = some (cs[j]'(by rw [e1];exact hj)):=List.getElem?_eq_getElem _
    have a2:cs'[j]? = some (cs'[j]'(by rw [e2];exact hj)):=List.getElem?_eq_getElem _
    have b1:=h2 j _ a1
    have b2:=h2' j _ a2
    rw [a1,a2,← b1,← b2]
   ·rw [List.getElem?_eq_none (by rw [e1];simp [c3];omega),List.getElem?_eq_none (by rw [e2];simp [c3];omega)]
  subst e
  exact ⟨⟨g,o,cs,rfl,⟨hs,hs'⟩,h2,TrF.both h3 h3'⟩,KsF.both h4 h4'⟩
end
theorem KsF.of {S:Nat → Prop} {w:World} {A:Option Addr}:∀ {xs:List Tr} {i:Nat},(∀ j x,xs[j]? = some x → ∃ g o cs,A = some ⟨g,o,none⟩ ∧ S g ∧ w.rangeAt g (o + (i + j) * 3) cs ∧ TrF S w x (.agg cs.toArray)) → KsF S w A i xs
 | [],i,_ => by unfold KsF;trivial
 | x :: xs,i,h => by
  unfold KsF
  refine ⟨by simpa using h 0 x rfl,KsF.of fun j y hy => ?_⟩
  have:=h (j + 1) y (by simpa using hy)
  rwa [show i + (j + 1) = i + 1 + j by omega] at this
def cat3 (L:List (List Value)):List Value:=L.flatten
theorem cat3_get:∀ (L:List (List Value)),(∀ C ∈ L,C.length = 3) → ∀ (i:Nat) (C:List Value),L[i]? = some C → ∀ (j:Nat) (v:Value),C[j]? = some v → (cat3 L)[i * 3 + j]? = some v
 | [],_,i,C,h,_,_,_ => by simp at h
 | D :: L,hl,0,C,h,j,v,hv => by
  simp at h;subst h
  have hj:=(List.getElem?_eq_some_iff.1 hv).1
  unfold cat3
  rw [List.flatten_cons,List.getElem?_append_left (by omega)]
  simpa using hv
 | D :: L,hl,i + 1,C,h,j,v,hv => by
  have hD:=hl D (by simp)
  have ih:=cat3_get L (fun C hC => hl C (by simp [hC])) i C (by simpa using h) j v hv
  unfold cat3 at ih ⊢
  rw [List.flatten_cons,List.getElem?_append_right (by omega),hD,show (i + 1) * 3 + j - 3 = i * 3 + j by omega]
  exact ih
theorem cat3_snoc (L:List (List Value)) (C:List Value):cat3 (L ++ [C]) = cat3 L ++ C:=by simp [cat3]
theorem info_val3:(Tryd.prog.info? 53).map (fun i => (i.zero,i.size,i.bytes)) = some (some (.agg #[.int .i64 0,.int .i64 0,.slice none 0 0]),3,40):=by kernel_rfl
def Grow (w:World) (B:Nat) (v:Value) (acc:List Tr):Prop:=∃ L:List (List Value),w.ownsRow B 53 3 v acc.length (cat3 L) ∧ L.length = acc.length ∧ (∀ C ∈ L,C.length = 3) ∧
 ∀ (i:Nat) (x:Tr) (C:List Value),acc[i]? = some x → L[i]? = some C → TrF (fun g => B ≤ g ∧ v.ownBlock ≠ some g) w x (.agg C.toArray)
theorem Grow.nil (w:World) (B:Nat):Grow w B (.slice none 0 0) []:=⟨[],World.ownsRow_nil w B _ 3,rfl,by simp,by simp⟩
theorem Grow.keep {w w':World} {B:Nat} {v:Value} {acc:List Tr} (h:Grow w B v acc) (he:∀ g,B ≤ g → g < w.heap.size → w'.heap[g]? = w.heap[g]?):Grow w' B v acc:=by
 obtain ⟨L,h1,h2,h3,h4⟩:=h
 refine ⟨L,?_,h2,h3,fun i x C hx hC => (h4 i x C hx hC).keep (fun _ h => h) (fun g hg hl => he g hg.1 hl)⟩
 refine ⟨h1.1,?_⟩
 rcases h1.2 with h5 | ⟨g,cap,cur,hv,hg,hh,r⟩
 ·exact .inl h5
 ·refine .inr ⟨g,cap,cur,hv,hg,?_,r⟩
  rw [he g hg (Array.getElem?_eq_some_iff.1 hh).1]
  exact hh
theorem Grow.shape {w:World} {B:Nat} {v:Value} {acc:List Tr} (h:Grow w B v acc):∃ A cap,v = .slice A acc.length cap ∧ acc.length ≤ cap ∧ cap ≤ maxLen:=by
 obtain ⟨L,h1,_⟩:=h
 obtain ⟨A,cap,hv,h2,h3,_⟩:=own_shape h1
 exact ⟨A,cap,hv,h2,h3⟩
theorem Grow.tree {w:World} {B:Nat} {A:Option Addr} {len cap:Nat} {acc:List Tr} (h:Grow w B (.slice A len cap) acc) (k n:Int) (hk:i64r k) (hn:i64r n):len = acc.length ∧ TrF (B ≤ ·) w (.node k n acc) (.agg (c3 k n A len cap).toArray):=by
 obtain ⟨A',cap',hv,h5,h6⟩:=h.shape
 cases hv
 refine ⟨rfl,?_⟩
 unfold TrF
 refine ⟨A,cap,rfl,⟨h5,h6,hk,hn⟩,KsF.of fun j x hx => ?_⟩
 obtain ⟨L,h1,h2,h3,h4⟩:=h
 have hj:=(List.getElem?_eq_some_iff.1 hx).1
 obtain ⟨g,cap2,hv,hg,_,_⟩:=own_some h1 (by omega)
 cases hv
 have hC:L[j]? = some (L[j]'(by omega)):=List.getElem?_eq_getElem (by omega)
 refine ⟨g,0,_,rfl,hg,fun p v hv => ?_,(h4 j x _ hx hC).mono fun g h => h.1⟩
 have hp:=(List.getElem?_eq_some_iff.1 hv).1
 have hc:=h1.cells (g:=g) rfl _ _ (cat3_get L h3 j _ hC p v hv)
 have ha:(⟨g,0,none⟩:Addr).add (j * 3 + p) = ⟨g,0 + (0 + j) * 3 + p,none⟩:=by unfold Addr.add;split <;> simp_all
 rwa [ha] at hc
theorem wpList_putT {w:World} {B:Nat} {v:Value} {acc:List Tr} {x:Tr} {C:List Value} {cs:Array Value} {ops:Array Oper} {rest:List Oper} {o:Oper} {a:Act} {Q:Exit → Act → World → Prop} {c:Nat}
  (hcs:cs = C.toArray) (hG:Grow w B v acc) (hx:TrF (fun g => B ≤ g ∧ v.ownBlock ≠ some g) w x (.agg C.toArray)) (hB:B ≤ w.heap.size) (hacc:acc.length + 1 ≤ 1000000000000)
  (hgd:o.guard = none) (s y:Operand) (ho:o.op = .call { callee:=.builtin .append,args:=#[s,y],argTypes:=#[51,51] })
  (hs:a.eval s = v) (hy:a.eval y = .slice (some ⟨w.heap.size,0,none⟩) 1 c)
  (h:∀ g cap w',Grow w' B (.slice (some ⟨g,0,none⟩) (acc.length + 1) cap) (acc ++ [x]) → Below B w w' → wpList Tryd.prog ops Q rest (a.put o.dst (.slice (some ⟨g,0,none⟩) (acc.length + 1) cap)) w') :
  wpList Tryd.prog ops Q (o :: rest) a (w.alloc (.cells cs 53)):=by
 subst hcs
 obtain ⟨L,h1,h2,h3,h4⟩:=hG
 obtain ⟨i0,hi0,hz0,hz1,hz2⟩:=info_parts info_val3
 obtain ⟨xk,xn,xA,xl,xc,hsh⟩:=hx.shape
 have hC:C = c3 xk xn xA xl xc:=by simpa using hsh
 have hC3:C.length = 3:=by rw [hC];rfl
 refine wpList_append_lies _ hgd s y _ ho B _ i0 _ 3 40 Tryd.underlying51 hi0 hz0 hz1 hz2 rfl (by decide) v acc.length (cat3 L) hs (h1.alloc _) ⟨w.heap.size,0,none⟩ 1 c C hy (by rw [hC3]) (World.news_of_block (heap_alloc_new w _)) (by rw [hC];intro u hu;simp [c3] at hu;rcases hu with rfl | rfl | rfl <;> rfl) (by decide) (by simp only [maxLen];omega) (by omega) (by simp;omega) (w.heap.size + 1) (by simp) ?_
 intro g cap w' hown hg hat hlt
 have hsame:∀ k,k < w.heap.size → v.ownBlock ≠ some k → w'.heap[k]? = w.heap[k]?:=fun k hk hne => by
  rw [hg.block k (by simp;omega) (fun e => hne e.symm)]
  exact Below.heap_alloc w _ k hk
 refine h g cap w' ?_ (((Below.refl B w).alloc hB _).grown hg (by simp;omega) (fun k hk => (h1.lt k hk).1))
 refine ⟨L ++ [C],by rw [List.length_append,List.length_singleton,cat3_snoc];exact hown,by simp [h2],?_,?_⟩
 ·intro D hD
  rcases List.mem_append.1 hD with hD | hD
  ·exact h3 D hD
  ·simp at hD;rw [hD];exact hC3
 ·intro i y D hy hD
  have hmv:∀ S:Tr,∀ D:List Value,TrF (fun g => B ≤ g ∧ v.ownBlock ≠ some g) w S (.agg D.toArray) → TrF (fun g' => B ≤ g' ∧ (Value.slice (some ⟨g,0,none⟩) (acc.length + 1) cap).ownBlock ≠ some g') w' S (.agg D.toArray):=by
   intro S D hT
   have hT2:TrF (fun g' => (B ≤ g' ∧ v.ownBlock ≠ some g') ∧ g' < w.heap.size) w S (.agg D.toArray):=TrF.both hT hT.at_.old
   refine hT2.keep ?_ (fun k hk hl => hsame k hl hk.1.2)
   rintro k ⟨⟨hk1,hk2⟩,hk3⟩
   refine ⟨hk1,fun e => ?_⟩
   have hgk:g = k:=by simpa [Value.ownBlock] using e
   rcases hat with hat | hat
   ·exact hk2 (by rw [hat,hgk])
   ·omega
  by_cases hi:i < acc.length
  ·rw [List.getElem?_append_left hi] at hy
   rw [List.getElem?_append_left (by omega)] at hD
   exact hmv _ _ (h4 i y D hy hD)
  ·have hie:i = acc.length:=by
    have:=(List.getElem?_eq_some_iff.1 hy).1
    simp at this;omega
   subst hie
   rw [List.getElem?_append_right (Nat.le_refl _),Nat.sub_self] at hy
   rw [List.getElem?_append_right (by omega),h2,Nat.sub_self] at hD
   simp at hy hD
   subst hy;subst hD
   exact hmv _ _ hx
end Go.Proofs.YtmfihlcibephlaaDoor
