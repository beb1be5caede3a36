import Derived.Test.YtkpoiljioadfgaaDoorW03
import Derived.Test.YtkpoiljioadfgaaDoorW04
import Derived.Test.YtkpoiljioadfgaaDoorW07
import Derived.Test.YtkpoiljioadfgaaDoorW23
import Derived.Test.YtkpoiljioadfgaaDoorW24
import Derived.Orders
set_option linter.unusedVariables false
set_option linter.unusedSimpArgs false
namespace Go.Proofs.YtkpoiljioadfgaaDoor
open Go.RowKit
def KRow (S:Nat → Prop) (w:World) (B:Nat) (v:Value) (ks:List Tr):Prop:=∃ L:List (List Value),w.ownsRow B 53 3 v ks.length (cat3 L) ∧ L.length = ks.length ∧ (∀ C ∈ L,C.length = 3) ∧
 ∀ (i:Nat) (x:Tr) (C:List Value),ks[i]? = some x → L[i]? = some C → TrF S w x (.agg C.toArray)
theorem trf_len {S:Nat → Prop} {w:World} {x:Tr} {C:List Value} (h:TrF S w x (.agg C.toArray)):C.length = 3 ∧ ∀ u ∈ C,u.oneCell' = true:=by
 obtain ⟨k,n,A,l,c,e⟩:=h.shape
 have:C = c3 k n A l c:=by simpa using e
 rw [this]
 exact ⟨rfl,by intro u hu;simp [c3] at hu;rcases hu with rfl | rfl | rfl <;> rfl⟩
theorem kids_cells {S:Nat → Prop} {w:World} {A:Option Addr}:∀ {ks:List Tr} {i:Nat},KsF S w A i ks → ∃ L:List (List Value),L.length = ks.length ∧ (∀ C ∈ L,C.length = 3 ∧ ∀ u ∈ C,u.oneCell' = true) ∧ (∀ (i:Nat) (x:Tr) (C:List Value),ks[i]? = some x → L[i]? = some C → TrF S w x (.agg C.toArray)) ∧ ∀ g o,A = some ⟨g,o,none⟩ → w.rangeAt g (o + i * 3) (cat3 L)
 | [],i,_ => ⟨[],rfl,by simp,by simp,fun g o _ j v hv => by simp [cat3] at hv⟩
 | x :: xs,i,h => by
  unfold KsF at h
  obtain ⟨⟨g,o,cs,rfl,hS,hr,hT⟩,h2⟩:=h
  obtain ⟨L,l1,l2,l3,l4⟩:=kids_cells h2
  have hc:=trf_len hT
  refine ⟨cs :: L,by simp [l1],fun C hC => ?_,fun j y C hy hC => ?_,fun g' o' he => ?_⟩
  ·rcases List.mem_cons.1 hC with rfl | hC
   ·exact hc
   ·exact l2 C hC
  ·cases j with
   | zero => simp at hy hC;subst hy hC;exact hT
   | succ j => exact l3 j y C (by simpa using hy) (by simpa using hC)
  ·cases he
   intro j v hv
   unfold cat3 at hv
   rw [List.flatten_cons] at hv
   by_cases hj:j < 3
   ·rw [List.getElem?_append_left (by omega)] at hv
    exact hr j v hv
   ·rw [List.getElem?_append_right (by omega),hc.1] at hv
    have:=l4 g o rfl (j - 3) v hv
    rwa [show o + (i + 1) * 3 + (j - 3) = o + i * 3 + j by omega] at this
theorem cat3_len:∀ (L:List (List Value)),(∀ C ∈ L,C.length = 3) → (cat3 L).length = L.length * 3
 | [],_ => rfl
 | C :: L,h => by
  have h1:=h C (by simp)
  have h2:=cat3_len L (fun D hD => h D (by simp [hD]))
  unfold cat3 at h2 ⊢
  rw [List.flatten_cons,List.length_append,h1,h2,List.length_cons];omega
theorem cat3_cell {L:List (List Value)} (h:∀ C ∈ L,∀ u ∈ C,u.oneCell' = true):∀ u ∈ cat3 L,u.oneCell' = true:=by
 intro u hu
 unfold cat3 at hu
 obtain ⟨C,hC,hu⟩:=List.mem_flatten.1 hu
 exact h C hC u hu
theorem wpList_copyK {S:Nat → Prop} {w:World} {B m c:Nat} {A:Option Addr} {ks:List Tr} {ops:Array Oper} {rest:List Oper} {o:Oper} {a:Act} {Q:Exit → Act → World → Prop}
  (hk:KsF S w A 0 ks) (hm:m = ks.length) (hl:ks.length ≤ 1000000) (hB:w.heap.size = B) (hgd:o.guard = none) (x y:Operand) (ho:o.op = .call { callee:=.builtin .append,args:=#[x,y],argTypes:=#[51,51] })
  (hs:a.eval x = .slice none 0 0) (hy:a.eval y = .slice A m c)
  (h:∀ v' w',KRow S w' B v' ks → Below B w w' → wpList Tryd.prog ops Q rest (a.put o.dst v') w') :
  wpList Tryd.prog ops Q (o :: rest) a w:=by
 subst hm
 obtain ⟨i0,hi0,hz0,hz1,hz2⟩:=info_parts info_val3
 obtain ⟨L,l1,l2,l3,l4⟩:=kids_cells hk
 rcases A with _ | ad
 ·have hn:ks = []:=by
   cases ks with
   | nil => rfl
   | cons x xs => unfold KsF at hk;obtain ⟨⟨g,o,cs,e,_⟩,_⟩:=hk;cases e
  subst hn
  have hrun:=run_append_nil_src (P:=Tryd.prog) w B _ o.type _ i0 3 Tryd.underlying51 hi0 (.slice none 0 0) 0 [] (World.ownsRow_nil w B _ 3) c
  refine wpList_plain hgd fun K hK => ?_
  unfold Oper.wp execOp
  simp only [ho,resolve,invoke,builtin,Sem.run_bind,Sem.run_pure,Result.andThen_ok,List.map_toArray,List.map_cons,List.map_nil,hs,hy,List.length_nil,hrun]
  exact hK _ _ (h _ w ⟨[],World.ownsRow_nil w B _ 3,rfl,by simp,by simp⟩ (Below.refl _ _))
 ·refine wpList_append_own _ hgd x y _ ho B _ i0 _ 3 40 Tryd.underlying51 hi0 hz0 hz1 hz2 rfl (by decide) (.slice none 0 0) 0 [] hs (World.ownsRow_nil w B _ 3) ad ks.length c (cat3 L) hy (by rw [cat3_len L (fun C hC => (l2 C hC).1),l1]) ?_ (cat3_cell fun C hC => (l2 C hC).2) (by simp only [maxLen];omega) (by omega) (by omega) ?_
  ·intro j u hu
   cases ks with
   | nil =>
    have:L = []:=List.eq_nil_of_length_eq_zero (by simpa using l1)
    subst this;simp [cat3] at hu
   | cons z zs =>
    unfold KsF at hk
    obtain ⟨⟨g,o,cs,e,_⟩,_⟩:=hk
    cases e
    have h2:=l4 g o rfl j u hu
    have ha:(⟨g,o,none⟩:Addr).add j = ⟨g,o + 0 * 3 + j,none⟩:=by unfold Addr.add;split <;> simp_all
    rw [ha];exact h2
  ·intro v' w' h1 hg _
   have hb:Below B w w':=(Below.refl B w).grown hg (by omega) (fun k hk => by simp [Value.ownBlock] at hk)
   refine h v' w' ⟨L,by simpa using h1,l1,fun C hC => (l2 C hC).1,fun i x C hx hC => (l3 i x C hx hC).keep (fun _ h => h) (fun g _ hl => hb.block g (by omega))⟩ hb
theorem KRow.shape {S:Nat → Prop} {w:World} {B:Nat} {v:Value} {ks:List Tr} (h:KRow S w B v ks):∃ A n cap,v = .slice A n cap ∧ Hid (n = ks.length ∧ n ≤ cap ∧ cap ≤ maxLen):=by
 obtain ⟨L,h1,_⟩:=h
 obtain ⟨A,cap,hv,h2,h3,_⟩:=own_shape h1
 exact ⟨A,_,cap,hv,Lib.hid ⟨rfl,h2,h3⟩⟩
theorem KRow.keep {S S':Nat → Prop} {w w':World} {B:Nat} {v:Value} {ks:List Tr} (h:KRow S w B v ks) (hS:∀ g,S g → S' g) (he:∀ g,S g → g < w.heap.size → w'.heap[g]? = w.heap[g]?) (hr:∀ g,v.ownBlock = some g → g < w.heap.size → w'.heap[g]? = w.heap[g]?):KRow S' w' B v ks:=by
 obtain ⟨L,h1,h2,h3,h4⟩:=h
 refine ⟨L,⟨h1.1,?_⟩,h2,h3,fun i x C hx hC => (h4 i x C hx hC).keep hS he⟩
 rcases h1.2 with h5 | ⟨g,cap,cur,hv,hg,hh,r⟩
 ·exact .inl h5
 ·refine .inr ⟨g,cap,cur,hv,hg,?_,r⟩
  rw [hr g (by rw [hv];rfl) (Array.getElem?_eq_some_iff.1 hh).1]
  exact hh
theorem KRow.tree {S:Nat → Prop} {w:World} {B:Nat} {A:Option Addr} {len cap:Nat} {ks:List Tr} (h:KRow S w B (.slice A len cap) ks) (k n:Int) (hk:i64r k) (hn:i64r n):TrF (fun g => S g ∨ B ≤ g) w (.node k n ks) (.agg (c3 k n A len cap).toArray):=by
 obtain ⟨A',n',cap',hv,hh⟩:=h.shape
 cases hv
 obtain ⟨rfl,h5,h6⟩:=hh.out
 unfold TrF
 refine ⟨A,cap,rfl,⟨h5,h6,hk,hn⟩,KsF.of fun j x hx => ?_⟩
 obtain ⟨L,h1,h2,h3,h4⟩:=h
 have hj:=(List.getElem?_eq_some_iff.1 hx).1
 obtain ⟨g,cap2,hv,hg,_,_⟩:=own_some h1 (by omega)
 cases hv
 have hC:L[j]? = some (L[j]'(by omega)):=List.getElem?_eq_getElem (by omega)
 refine ⟨g,0,_,rfl,.inr hg,fun p v hv => ?_,(h4 j x _ hx hC).mono fun g h => .inl h⟩
 have hp:=(List.getElem?_eq_some_iff.1 hv).1
 have hc:=h1.cells (g:=g) rfl _ _ (cat3_get L h3 j _ hC p v hv)
 have ha:(⟨g,0,none⟩:Addr).add (j * 3 + p) = ⟨g,0 + (0 + j) * 3 + p,none⟩:=by unfold Addr.add;split <;> simp_all
 rwa [ha] at hc
theorem cat3_set (L:List (List Value)) (h:∀ C ∈ L,C.length = 3) (C:List Value) (hC:C.length = 3):∀ (i:Nat),i < L.length → setAll (cat3 L) (i * 3) C = cat3 (L.set i C):=by
 intro i hi
 have hl:=cat3_len L h
 rw [setAll_eq C (cat3 L) (i * 3) (by rw [hl,hC];omega)]
 induction L generalizing i with
 | nil => simp at hi
 | cons D L ih =>
  have hD:=h D (by simp)
  have h':∀ C ∈ L,C.length = 3:=fun E hE => h E (by simp [hE])
  cases i with
  | zero =>
   unfold cat3
   rw [List.set_cons_zero,List.flatten_cons,List.flatten_cons]
   simp only [Nat.zero_mul,List.take_zero,List.nil_append,Nat.zero_add]
   rw [hC,← hD,List.drop_left]
  | succ i =>
   have:=ih h' i (by simpa using hi) (cat3_len L h')
   unfold cat3 at this ⊢
   rw [List.set_cons_succ,List.flatten_cons,List.flatten_cons,← this]
   rw [show (i + 1) * 3 = D.length + i * 3 by rw [hD];omega,List.take_append,List.take_of_length_le (by omega),show D.length + i * 3 - D.length = i * 3 by omega,show D.length + i * 3 + C.length = D.length + (i * 3 + C.length) by omega,List.drop_append,List.drop_of_length_le (by omega),show D.length + (i * 3 + C.length) - D.length = i * 3 + C.length by omega]
   simp
theorem KRow.set_ {S S':Nat → Prop} {w:World} {B g len cap i:Nat} {ks:List Tr} {y:Tr} {C:List Value} (h:KRow S w B (.slice (some ⟨g,0,none⟩) len cap) ks) (hi:i < ks.length) (hy:TrF S' w y (.agg C.toArray)) (hS:∀ k,S k → k ≠ g) (hS':∀ k,S' k → k ≠ g) :
  KRow (fun k => S k ∨ S' k) (w.setCells g (i * 3) C) B (.slice (some ⟨g,0,none⟩) len cap) (ks.set i y):=by
 obtain ⟨L,h1,h2,h3,h4⟩:=h
 have hC:=(trf_len hy).1
 have hle:len = ks.length:=by obtain ⟨A',c',hv,_⟩:=own_shape h1;cases hv;rfl
 subst hle
 have h5:=own_setCells4 C h1 (o:=i * 3) (by rw [hC];omega)
 rw [cat3_set L h3 C hC i (by omega)] at h5
 have hO:=Only.setCells g (i * 3) C w
 refine ⟨L.set i C,by rw [List.length_set];exact h5,by simp [h2],fun D hD => ?_,fun j x D hx hD => ?_⟩
 ·rcases List.mem_or_eq_of_mem_set hD with hD | rfl
  ·exact h3 D hD
  ·exact hC
 ·by_cases hj:j = i
  ·subst hj
   rw [List.getElem?_set_self (by omega)] at hx hD
   cases hx;cases hD
   exact hy.keep (fun k hk => .inr hk) (fun k hk _ => hO.2 k (hS' k hk))
  ·rw [List.getElem?_set_ne (fun e => hj e.symm)] at hx hD
   exact (h4 j x D hx hD).keep (fun k hk => .inl hk) (fun k hk _ => hO.2 k (hS k hk))
theorem nodesL_set:∀ (ks:List Tr) (i:Nat) (x y:Tr) (d:Nat),ks[i]? = some x → y.nodes ≤ x.nodes + d → nodesL (ks.set i y) ≤ nodesL ks + d
 | [],i,x,y,d,h,_ => by simp at h
 | z :: ks,0,x,y,d,h,hy => by simp at h;subst h;rw [List.set_cons_zero,nodesL,nodesL];omega
 | z :: ks,i + 1,x,y,d,h,hy => by
  have:=nodesL_set ks i x y d (by simpa using h) hy
  rw [List.set_cons_succ,nodesL,nodesL];omega
end Go.Proofs.YtkpoiljioadfgaaDoor
namespace Go.Proofs.YtkpoiljioadfgaaDoor
open Go.RowKit
def dc31 (k kd:Int) (nm:ByteArray) (sv:Value):List Value:=[.int .i64 0,.int .i64 1,.int .i64 k,.int .i64 kd,.int .i64 0,.int .i64 0,.int .i64 0,.string nm,sv,.int .i64 0,.int .i64 0,.int .i64 0,.int .i64 0,.slice none 0 0,.int .i64 0,.int .i64 0,.int .i64 0,.int .i64 0,.int .i64 0,.int .i64 0,.int .i64 0,.int .i64 0,.int .i64 0,.int .i64 0,.int .i64 0,.int .i64 0,.slice none 0 0,.slice none 0 0,.slice none 0 0,.int .i64 0,.slice none 0 0]
set_option maxHeartbeats 4000000 in
set_option maxRecDepth 100000 in
theorem copyDef_plain (k kd:Int) (nm:ByteArray) (gs m cap:Nat) (w:World)
  (HCL:Hid (∀ W,Below w.heap.size w W → Calls Tryd.prog 75 #[.slice (some ⟨gs,0,none⟩) m cap,.func (.func 76) #[] #[]] W (fun e w' => ∃ h c',e = .returned (.slice (some ⟨h,0,none⟩) m c') ∧ (m ≤ c' ∧ c' ≤ maxLen) ∧ Below W.heap.size W w'))) :
  Calls Tryd.prog 50 #[.agg #[.int .i64 0,.int .i64 1,.int .i64 k,.int .i64 kd,.int .i64 0,.int .i64 0,.int .i64 0,.string nm,(.slice (some ⟨gs,0,none⟩) m cap),.int .i64 0,.int .i64 0,.int .i64 0,.int .i64 0,.slice none 0 0,.int .i64 0,.int .i64 0,.int .i64 0,.int .i64 0,.int .i64 0,.int .i64 0,.int .i64 0,.int .i64 0,.int .i64 0,.int .i64 0,.int .i64 0,.int .i64 0,.slice none 0 0,.slice none 0 0,.slice none 0 0,.int .i64 0,.slice none 0 0]] w (fun e w' => ∃ h c',e = .returned (.agg (dc31 k kd nm (.slice (some ⟨h,0,none⟩) m c')).toArray) ∧ Below w.heap.size w w'):=by
 have P0:Arr (w.alloc (.cells #[.int .i64 0,.int .i64 1,.int .i64 k,.int .i64 kd,.int .i64 0,.int .i64 0,.int .i64 0,.string nm,(.slice (some ⟨gs,0,none⟩) m cap),.int .i64 0,.int .i64 0,.int .i64 0,.int .i64 0,.slice none 0 0,.int .i64 0,.int .i64 0,.int .i64 0,.int .i64 0,.int .i64 0,.int .i64 0,.int .i64 0,.int .i64 0,.int .i64 0,.int .i64 0,.int .i64 0,.int .i64 0,.slice none 0 0,.slice none 0 0,.slice none 0 0,.int .i64 0,.slice none 0 0] 46)) w.heap.size 31 46 (dc31 k kd nm (.slice (some ⟨gs,0,none⟩) m cap)):=Arr.new' w _ _ 31 _ rfl rfl (by decide)
 have V0:=new_later w (.cells #[.int .i64 0,.int .i64 1,.int .i64 k,.int .i64 kd,.int .i64 0,.int .i64 0,.int .i64 0,.string nm,(.slice (some ⟨gs,0,none⟩) m cap),.int .i64 0,.int .i64 0,.int .i64 0,.int .i64 0,.slice none 0 0,.int .i64 0,.int .i64 0,.int .i64 0,.int .i64 0,.int .i64 0,.int .i64 0,.int .i64 0,.int .i64 0,.int .i64 0,.int .i64 0,.int .i64 0,.int .i64 0,.slice none 0 0,.slice none 0 0,.slice none 0 0,.int .i64 0,.slice none 0 0] 46)
 have b2:=new_later (w.alloc (.cells #[.int .i64 0,.int .i64 1,.int .i64 k,.int .i64 kd,.int .i64 0,.int .i64 0,.int .i64 0,.string nm,(.slice (some ⟨gs,0,none⟩) m cap),.int .i64 0,.int .i64 0,.int .i64 0,.int .i64 0,.slice none 0 0,.int .i64 0,.int .i64 0,.int .i64 0,.int .i64 0,.int .i64 0,.int .i64 0,.int .i64 0,.int .i64 0,.int .i64 0,.int .i64 0,.int .i64 0,.int .i64 0,.slice none 0 0,.slice none 0 0,.slice none 0 0,.int .i64 0,.slice none 0 0] 46)) (.cells z31.toArray 46)
 have R0:=z31_new (w.alloc (.cells #[.int .i64 0,.int .i64 1,.int .i64 k,.int .i64 kd,.int .i64 0,.int .i64 0,.int .i64 0,.string nm,(.slice (some ⟨gs,0,none⟩) m cap),.int .i64 0,.int .i64 0,.int .i64 0,.int .i64 0,.slice none 0 0,.int .i64 0,.int .i64 0,.int .i64 0,.int .i64 0,.int .i64 0,.int .i64 0,.int .i64 0,.int .i64 0,.int .i64 0,.int .i64 0,.int .i64 0,.int .i64 0,.slice none 0 0,.slice none 0 0,.slice none 0 0,.int .i64 0,.slice none 0 0] 46))
 rw [World.size_alloc] at R0
 have P1:=P0.later b2
 have V1:=later V0 b2
 have hzd:=zero_def
 have hz31:z31.toArray = #[.int .i64 0,.int .i64 0,.int .i64 0,.int .i64 0,.int .i64 0,.int .i64 0,.int .i64 0,.string ⟨#[]⟩,.slice none 0 0,.int .i64 0,.int .i64 0,.int .i64 0,.int .i64 0,.slice none 0 0,.int .i64 0,.int .i64 0,.int .i64 0,.int .i64 0,.int .i64 0,.int .i64 0,.int .i64 0,.int .i64 0,.int .i64 0,.int .i64 0,.int .i64 0,.int .i64 0,.slice none 0 0,.slice none 0 0,.slice none 0 0,.int .i64 0,.slice none 0 0]:=rfl
 rw [hz31] at P1 V1 R0 b2 hzd
 generalize hW:(w.alloc (.cells #[.int .i64 0,.int .i64 1,.int .i64 k,.int .i64 kd,.int .i64 0,.int .i64 0,.int .i64 0,.string nm,(.slice (some ⟨gs,0,none⟩) m cap),.int .i64 0,.int .i64 0,.int .i64 0,.int .i64 0,.slice none 0 0,.int .i64 0,.int .i64 0,.int .i64 0,.int .i64 0,.int .i64 0,.int .i64 0,.int .i64 0,.int .i64 0,.int .i64 0,.int .i64 0,.int .i64 0,.int .i64 0,.slice none 0 0,.slice none 0 0,.slice none 0 0,.int .i64 0,.slice none 0 0] 46)).alloc (.cells #[.int .i64 0,.int .i64 0,.int .i64 0,.int .i64 0,.int .i64 0,.int .i64 0,.int .i64 0,.string ⟨#[]⟩,.slice none 0 0,.int .i64 0,.int .i64 0,.int .i64 0,.int .i64 0,.slice none 0 0,.int .i64 0,.int .i64 0,.int .i64 0,.int .i64 0,.int .i64 0,.int .i64 0,.int .i64 0,.int .i64 0,.int .i64 0,.int .i64 0,.int .i64 0,.int .i64 0,.slice none 0 0,.slice none 0 0,.slice none 0 0,.int .i64 0,.slice none 0 0] 46) = wa at P1 V1 R0
 have HR:=Lib.hid R0
 have HP:=Lib.hid P1
 have HV:=Lib.hid V1
 have c8:=P1.cell (j:=8) (v:=(.slice (some ⟨gs,0,none⟩) m cap)) rfl
 have HT:Hid (∀ W,Calls Tryd.prog 77 #[.agg #[.int .i64 0,.int .i64 0,.int .i64 0,.int .i64 0,.slice none 0 0]] W (fun e w' => e = .returned (.agg #[.int .i64 0,.int .i64 0,.int .i64 0,.int .i64 0,.slice none 0 0]) ∧ Below W.heap.size W w')):=Lib.hid fun W => copyType_leaf 0 0 0 0 W
 have HE:Hid (∀ W,Calls Tryd.prog 78 #[.agg #[.int .i64 0,.int .i64 0,.int .i64 0,.int .i64 0,.int .i64 0,.int .i64 0,.int .i64 0,.int .i64 0,.int .i64 0,.int .i64 0,.int .i64 0,.int .i64 0,.slice none 0 0,.slice none 0 0,.slice none 0 0]] W (fun e w' => e = .returned (.agg #[.int .i64 0,.int .i64 0,.int .i64 0,.int .i64 0,.int .i64 0,.int .i64 0,.int .i64 0,.int .i64 0,.int .i64 0,.int .i64 0,.int .i64 0,.int .i64 0,.slice none 0 0,.slice none 0 0,.slice none 0 0]) ∧ Below W.heap.size W w')):=Lib.hid fun W => copyExpr_zero W
 have HN:Hid (∀ W,Calls Tryd.prog 79 #[.slice none 0 0] W (fun e w' => e = .returned (.slice none 0 0) ∧ w' = W)):=Lib.hid fun W => clonenil_strs W
 clear P0 V0 b2 R0 P1 V1 hz31
 go_enter Tryd.func50,Tryd.ntmps50
 go_upto_region 1 with fail
 clear hW hzd
 go_upto_region 2 with (go_at_call 75;(with_reducible refine (HCL.out _ HV.out).mono ?_);rintro e w2 ⟨h,c2,rfl,hcc,hb2⟩;have P2:=HP.out.later hb2;have d8:=P2.cell (j:=8) (v:=(.slice (some ⟨gs,0,none⟩) m cap)) rfl;have f8:=P2.free 8;have HP2:=Lib.hid P2;have HR2:=Lib.hid (HR.out.later hb2);have HV2:=Lib.hid (later HV.out hb2);clear P2 hb2 hcc)
 have P3:Arr (w2.setCell ⟨w.heap.size,8,none⟩ (.slice (some ⟨h,0,none⟩) m c2)) w.heap.size 31 46 (dc31 k kd nm (.slice (some ⟨h,0,none⟩) m c2)):=HP2.out.set_ 8 (.slice (some ⟨h,0,none⟩) m c2)
 have o3:Only w.heap.size w2 (w2.setCell ⟨w.heap.size,8,none⟩ (.slice (some ⟨h,0,none⟩) m c2)):=Only.setCells w.heap.size 8 [(.slice (some ⟨h,0,none⟩) m c2)] w2
 have R3:=HR2.out.only o3 (by omega)
 have V3:Below w.heap.size w (w2.setCell ⟨w.heap.size,8,none⟩ (.slice (some ⟨h,0,none⟩) m c2)):=HV2.out.trans (o3.bel.mono (Nat.le_refl _))
 generalize w2.setCell ⟨w.heap.size,8,none⟩ (.slice (some ⟨h,0,none⟩) m c2) = w3 at P3 R3 V3 ⊢
 have HP3:=Lib.hid P3
 have HR3:=Lib.hid R3
 have HV3:=Lib.hid V3
 have HG3:Hid (w3.rangeAt w.heap.size 9 [.int .i64 0,.int .i64 0,.int .i64 0,.int .i64 0,.slice none 0 0]):=Lib.hid (Arr.mid (a:=[.int .i64 0,.int .i64 1,.int .i64 k,.int .i64 kd,.int .i64 0,.int .i64 0,.int .i64 0,.string nm,(.slice (some ⟨h,0,none⟩) m c2)]) (x:=[.int .i64 0,.int .i64 0,.int .i64 0,.int .i64 0,.slice none 0 0]) (b:=[.int .i64 0,.int .i64 0,.int .i64 0,.int .i64 0,.int .i64 0,.int .i64 0,.int .i64 0,.int .i64 0,.int .i64 0,.int .i64 0,.int .i64 0,.int .i64 0,.slice none 0 0,.slice none 0 0,.slice none 0 0,.int .i64 0,.slice none 0 0]) P3 rfl)
 have HI5:Hid ((Tryd.prog.info? 31).map (·.size) = some ([.int .i64 0,.int .i64 0,.int .i64 0,.int .i64 0,.slice none 0 0]:List Value).length):=Lib.hid info_typesz
 have HI15:Hid ((Tryd.prog.info? 44).map (·.size) = some ([.int .i64 0,.int .i64 0,.int .i64 0,.int .i64 0,.int .i64 0,.int .i64 0,.int .i64 0,.int .i64 0,.int .i64 0,.int .i64 0,.int .i64 0,.int .i64 0,.slice none 0 0,.slice none 0 0,.slice none 0 0]:List Value).length):=Lib.hid info_exprsz
 clear P3 o3 R3 V3 d8 f8 HP2 HR2 HV2 HP HR HV HCL c8
 go_upto_region 3 with (first
  | (with_reducible refine wpList_load_mid rfl _ (.tmp 7) rfl w.heap.size 9 rfl [.int .i64 0,.int .i64 0,.int .i64 0,.int .i64 0,.slice none 0 0] _ HG3.out Tryd.underlying31 rfl HI5.out ?_)
  | (go_at_call 77;(with_reducible refine (HT.out _).mono ?_);rintro e w4 ⟨rfl,hb4⟩;have HP4:=Lib.hid (HP3.out.later hb4);have HR4:=Lib.hid (HR3.out.later hb4);have HV4:=Lib.hid (later HV3.out hb4);clear hb4)
  | (refine wpList_store_arr rfl _ (.tmp 10) (.tmp 9) rfl w.heap.size 9 31 46 _ [.int .i64 0,.int .i64 0,.int .i64 0,.int .i64 0,.slice none 0 0] (dc31 k kd nm (.slice (some ⟨h,0,none⟩) m c2)) rfl rfl rfl HP4.out (show 9 + 5 ≤ 31 by omega) info_typesz (List.all_eq_true.mp (by rfl)) ?_;intro w5 f5 o5;have HP5:Hid (Arr w5 w.heap.size 31 46 (dc31 k kd nm (.slice (some ⟨h,0,none⟩) m c2))):=Lib.hid f5;have HR5:=Lib.hid (HR4.out.only o5 (by omega));have HV5:=Lib.hid (HV4.out.trans (o5.bel.mono (Nat.le_refl _)));clear f5 o5))
 have HG5:Hid (w5.rangeAt w.heap.size 14 [.int .i64 0,.int .i64 0,.int .i64 0,.int .i64 0,.int .i64 0,.int .i64 0,.int .i64 0,.int .i64 0,.int .i64 0,.int .i64 0,.int .i64 0,.int .i64 0,.slice none 0 0,.slice none 0 0,.slice none 0 0]):=Lib.hid (Arr.mid (a:=[.int .i64 0,.int .i64 1,.int .i64 k,.int .i64 kd,.int .i64 0,.int .i64 0,.int .i64 0,.string nm,(.slice (some ⟨h,0,none⟩) m c2),.int .i64 0,.int .i64 0,.int .i64 0,.int .i64 0,.slice none 0 0]) (x:=[.int .i64 0,.int .i64 0,.int .i64 0,.int .i64 0,.int .i64 0,.int .i64 0,.int .i64 0,.int .i64 0,.int .i64 0,.int .i64 0,.int .i64 0,.int .i64 0,.slice none 0 0,.slice none 0 0,.slice none 0 0]) (b:=[.int .i64 0,.slice none 0 0]) HP5.out rfl)
 clear HP3 HR3 HV3 HG3 HP4 HR4 HV4
 go_upto_region 4 with (first
  | (with_reducible refine wpList_load_mid rfl _ (.tmp 11) rfl w.heap.size 14 rfl [.int .i64 0,.int .i64 0,.int .i64 0,.int .i64 0,.int .i64 0,.int .i64 0,.int .i64 0,.int .i64 0,.int .i64 0,.int .i64 0,.int .i64 0,.int .i64 0,.slice none 0 0,.slice none 0 0,.slice none 0 0] _ HG5.out Tryd.underlying44 rfl HI15.out ?_)
  | (go_at_call 78;(with_reducible refine (HE.out _).mono ?_);rintro e w6 ⟨rfl,hb6⟩;have HP6:=Lib.hid (HP5.out.later hb6);have HR6:=Lib.hid (HR5.out.later hb6);have HV6:=Lib.hid (later HV5.out hb6);clear hb6)
  | (refine wpList_store_arr rfl _ (.tmp 14) (.tmp 13) rfl w.heap.size 14 31 46 _ [.int .i64 0,.int .i64 0,.int .i64 0,.int .i64 0,.int .i64 0,.int .i64 0,.int .i64 0,.int .i64 0,.int .i64 0,.int .i64 0,.int .i64 0,.int .i64 0,.slice none 0 0,.slice none 0 0,.slice none 0 0] (dc31 k kd nm (.slice (some ⟨h,0,none⟩) m c2)) rfl rfl rfl HP6.out (show 14 + 15 ≤ 31 by omega) info_exprsz (List.all_eq_true.mp (by rfl)) ?_;intro w7 f7 o7;have HP7:Hid (Arr w7 w.heap.size 31 46 (dc31 k kd nm (.slice (some ⟨h,0,none⟩) m c2))):=Lib.hid f7;have HR7:=Lib.hid (HR6.out.only o7 (by omega));have HV7:=Lib.hid (HV6.out.trans (o7.bel.mono (Nat.le_refl _)));clear f7 o7))
 have c30:=HP7.out.cell (j:=30) (v:=.slice none 0 0) rfl
 have f30:=HP7.out.free 30
 clear HP5 HR5 HV5 HG5 HP6 HR6 HV6
 go_upto_region 5 with (go_at_call 79;(with_reducible refine (HN.out _).mono ?_);rintro e w8 ⟨rfl,hw8⟩;rw [hw8];clear hw8)
 have P8:Arr (w7.setCell ⟨w.heap.size,30,none⟩ (.slice none 0 0)) w.heap.size 31 46 (dc31 k kd nm (.slice (some ⟨h,0,none⟩) m c2)):=HP7.out.set_ 30 (.slice none 0 0)
 have o8:Only w.heap.size w7 (w7.setCell ⟨w.heap.size,30,none⟩ (.slice none 0 0)):=Only.setCells w.heap.size 30 [.slice none 0 0] w7
 have R8:=HR7.out.only o8 (by omega)
 have V8:Below w.heap.size w (w7.setCell ⟨w.heap.size,30,none⟩ (.slice none 0 0)):=HV7.out.trans (o8.bel.mono (Nat.le_refl _))
 generalize w7.setCell ⟨w.heap.size,30,none⟩ (.slice none 0 0) = w9 at P8 R8 V8 ⊢
 have HG9:Hid (w9.rangeAt w.heap.size 0 (dc31 k kd nm (.slice (some ⟨h,0,none⟩) m c2))):=Lib.hid P8.range
 have HI31:Hid ((Tryd.prog.info? 46).map (·.size) = some (dc31 k kd nm (.slice (some ⟨h,0,none⟩) m c2)).length):=Lib.hid info_def
 have HR8:=Lib.hid R8
 have HV8:=Lib.hid V8
 clear P8 o8 R8 V8 c30 f30 HP7 HR7 HV7
 go_wp2_with (first
  | (with_reducible refine wpList_load_mid rfl _ (.tmp 1) rfl w.heap.size 0 rfl (dc31 k kd nm (.slice (some ⟨h,0,none⟩) m c2)) _ HG9.out Tryd.underlying46 rfl HI31.out ?_)
  | (refine wpList_store_arr rfl _ (.tmp 2) (.tmp 19) rfl (w.heap.size + 1) 0 31 46 _ (dc31 k kd nm (.slice (some ⟨h,0,none⟩) m c2)) z31 rfl rfl rfl HR8.out (show 0 + 31 ≤ 31 by omega) info_def (List.all_eq_true.mp (by rfl)) ?_;intro w10 f10 o10))
 rw [setAll_all z31 (dc31 k kd nm (.slice (some ⟨h,0,none⟩) m c2)) rfl] at f10
 exact bodyPost_ret (results_one rfl _ _ (w.heap.size + 1) (dc31 k kd nm (.slice (some ⟨h,0,none⟩) m c2)) _ rfl f10.range Tryd.underlying46 rfl info_def) rfl ⟨h,c2,rfl,HV8.out.trans (o10.bel.mono (by omega))⟩
end Go.Proofs.YtkpoiljioadfgaaDoor
namespace Go.Proofs.YtkpoiljioadfgaaDoor
open Go.RowKit
theorem ex_fnd:fndI pEx 0 1 2 = 1:=by decide
theorem two_elems {D C A B:List Value} {j:Nat} (hj:j < 2) (hl:D.length = 11) (hA:A.length = 11) (hB:B.length = 11) (hC:C = A ++ B) (h:∀ t v,D[t]? = some v → C[j * 11 + t]? = some v):D = if j = 0 then A else B:=by
 subst hC
 apply List.ext_getElem?
 intro t
 by_cases ht:t < 11
 ·have h1:=h t _ (List.getElem?_eq_getElem (by omega))
  rw [List.getElem?_eq_getElem (by omega),← h1]
  match j,hj with
  | 0,_ => rw [if_pos rfl,List.getElem?_append_left (by omega)];congr 1;omega
  | 1,_ => rw [if_neg (by decide),List.getElem?_append_right (by omega)];congr 1;omega
 ·rw [List.getElem?_eq_none (by omega)]
  symm
  apply List.getElem?_eq_none
  split <;> omega
theorem ex_slots {w:World} {g g1 g2:Nat} (h:ExR w g g1 g2):Hid (∀ W,Below w.heap.size w W → Calls Tryd.prog 75 #[.slice (some ⟨g2,0,none⟩) 2 2,.func (.func 76) #[] #[]] W (fun e w' => ∃ h c',e = .returned (.slice (some ⟨h,0,none⟩) 2 c') ∧ (2 ≤ c' ∧ c' ≤ maxLen) ∧ Below W.heap.size W w')):=Lib.hid fun W hb => by
 refine copylist_slots W g2 0 2 2 ([.int .i64 0,.int .i64 1,.int .i64 5,.string ⟨#[68,111,116]⟩,.int .i64 0,.int .i64 0,.int .i64 0,.int .i64 0,.slice none 0 0,.int .i64 0,.int .i64 0] ++ [.int .i64 0,.int .i64 1,.int .i64 6,.string ⟨#[66,111,120]⟩,.int .i64 3,.int .i64 0,.int .i64 1,.int .i64 1,.slice none 0 0,.int .i64 0,.int .i64 0]) rfl (range_below h.2.2 hb) (List.all_eq_true.mp (by rfl)) (by decide) ⟨by decide,by simp [maxLen]⟩ (by decide) (Lib.hid fun j D W' hj hl hD hb' => ?_)
 have hD':=two_elems (A:=[.int .i64 0,.int .i64 1,.int .i64 5,.string ⟨#[68,111,116]⟩,.int .i64 0,.int .i64 0,.int .i64 0,.int .i64 0,.slice none 0 0,.int .i64 0,.int .i64 0]) (B:=[.int .i64 0,.int .i64 1,.int .i64 6,.string ⟨#[66,111,120]⟩,.int .i64 3,.int .i64 0,.int .i64 1,.int .i64 1,.slice none 0 0,.int .i64 0,.int .i64 0]) hj hl rfl rfl rfl hD
 match j,hj,hD' with
 | 0,_,hD' =>
  rw [if_pos rfl] at hD'
  subst hD'
  refine (copySlot_leaf 0 1 5 0 0 0 0 0 0 ⟨#[68,111,116]⟩ W').mono ?_
  rintro e w' ⟨rfl,hb⟩
  exact ⟨_,rfl,⟨rfl,List.all_eq_true.mp (by rfl)⟩,hb⟩
 | 1,_,hD' =>
  rw [if_neg (by decide)] at hD'
  subst hD'
  refine (copySlot_leaf 0 1 6 3 0 1 1 0 0 ⟨#[66,111,120]⟩ W').mono ?_
  rintro e w' ⟨rfl,hb⟩
  exact ⟨_,rfl,⟨rfl,List.all_eq_true.mp (by rfl)⟩,hb⟩
set_option maxHeartbeats 2000000 in
set_option maxRecDepth 100000 in
theorem Def_ex (w:World) (g g1 g2:Nat) (h:ExR w g g1 g2) :
  Calls Tryd.prog 20 #[.agg #[.slice none 0 0,.slice (some ⟨g,0,none⟩) 2 2],.agg #[.int .i64 0,.int .i64 1,.int .i64 2]] w (fun e w' => ∃ hh c2,e = .returned (.tuple #[.agg (dc31 2 1 ⟨#[83,104,97,112,101]⟩ (.slice (some ⟨hh,0,none⟩) 2 c2)).toArray,.bool true]) ∧ Below w.heap.size w w'):=by
 have P0:=p2_new w (.slice none 0 0) (.slice (some ⟨g,0,none⟩) 2 2)
 have V0:=new_later w (.cells #[.slice none 0 0,.slice (some ⟨g,0,none⟩) 2 2] 26)
 have Q0:=i3_new (w.alloc (.cells #[.slice none 0 0,.slice (some ⟨g,0,none⟩) 2 2] 26)) 0 1 2
 have b1:=new_later (w.alloc (.cells #[.slice none 0 0,.slice (some ⟨g,0,none⟩) 2 2] 26)) (.cells #[.int .i64 0,.int .i64 1,.int .i64 2] 28)
 have R0:=z31_new ((w.alloc (.cells #[.slice none 0 0,.slice (some ⟨g,0,none⟩) 2 2] 26)).alloc (.cells #[.int .i64 0,.int .i64 1,.int .i64 2] 28))
 have b2:=new_later ((w.alloc (.cells #[.slice none 0 0,.slice (some ⟨g,0,none⟩) 2 2] 26)).alloc (.cells #[.int .i64 0,.int .i64 1,.int .i64 2] 28)) (.cells z31.toArray 46)
 have hzd:=zero_def
 have hz31:z31.toArray = #[.int .i64 0,.int .i64 0,.int .i64 0,.int .i64 0,.int .i64 0,.int .i64 0,.int .i64 0,.string ⟨#[]⟩,.slice none 0 0,.int .i64 0,.int .i64 0,.int .i64 0,.int .i64 0,.slice none 0 0,.int .i64 0,.int .i64 0,.int .i64 0,.int .i64 0,.int .i64 0,.int .i64 0,.int .i64 0,.int .i64 0,.int .i64 0,.int .i64 0,.int .i64 0,.int .i64 0,.slice none 0 0,.slice none 0 0,.slice none 0 0,.int .i64 0,.slice none 0 0]:=rfl
 rw [hz31] at R0 b2 hzd
 replace P0:=(P0.later b1).later b2
 replace Q0:=Q0.later b2
 have V1:=later (later V0 b1) b2
 rw [World.size_alloc] at Q0
 rw [World.size_alloc,World.size_alloc] at R0
 clear V0 b1 b2
 generalize hW:((w.alloc (.cells #[.slice none 0 0,.slice (some ⟨g,0,none⟩) 2 2] 26)).alloc (.cells #[.int .i64 0,.int .i64 1,.int .i64 2] 28)).alloc (.cells #[.int .i64 0,.int .i64 0,.int .i64 0,.int .i64 0,.int .i64 0,.int .i64 0,.int .i64 0,.string ⟨#[]⟩,.slice none 0 0,.int .i64 0,.int .i64 0,.int .i64 0,.int .i64 0,.slice none 0 0,.int .i64 0,.int .i64 0,.int .i64 0,.int .i64 0,.int .i64 0,.int .i64 0,.int .i64 0,.int .i64 0,.int .i64 0,.int .i64 0,.int .i64 0,.int .i64 0,.slice none 0 0,.slice none 0 0,.slice none 0 0,.int .i64 0,.slice none 0 0] 46) = wa at P0 Q0 R0 V1
 have y0:=Q0.cell (j:=0) (v:=.int .i64 0) rfl
 have y1:=Q0.cell (j:=1) (v:=.int .i64 1) rfl
 have y2:=Q0.cell (j:=2) (v:=.int .i64 2) rfl
 have p0:=P0.cell (j:=0) (v:=.slice none 0 0) rfl
 have p1:=P0.cell (j:=1) (v:=.slice (some ⟨g,0,none⟩) 2 2) rfl
 have HX:=Lib.hid (h.later V1)
 have HP:=Lib.hid P0
 have HR:=Lib.hid R0
 have HV:=Lib.hid V1
 have HFI:Hid (Calls Tryd.prog 49 #[.agg #[.slice none 0 0,.slice (some ⟨g,0,none⟩) 2 2],.agg #[.int .i64 0,.int .i64 1,.int .i64 2]] wa fun e w' => e = .returned (.int .i64 1) ∧ Below wa.heap.size wa w'):=Lib.hid (by
  have:=find_any pEx 0 1 2 wa _ HX.out.pr
  rwa [ex_fnd] at this)
 clear P0 Q0 R0 V1 hz31 h
 go_enter Tryd.func20,Tryd.ntmps20
 go_upto_region 1 with fail
 clear hW hzd
 go_upto_region 4 with (go_at_call 49;(with_reducible refine HFI.out.mono ?_);rintro e w2 ⟨rfl,hb2⟩;have HX2:=Lib.hid (HX.out.later hb2);have HR2:=Lib.hid (HR.out.later hb2);have HV2:=Lib.hid (later HV.out hb2);have p1':=(HP.out.later hb2).cell (j:=1) (v:=.slice (some ⟨g,0,none⟩) 2 2) rfl;clear hb2)
 have HRG:Hid (w2.rangeAt g 31 ([.int .i64 0,.int .i64 1,.int .i64 2,.int .i64 1,.int .i64 0,.int .i64 0,.int .i64 0,.string ⟨#[83,104,97,112,101]⟩,(.slice (some ⟨g2,0,none⟩) 2 2),.int .i64 0,.int .i64 0,.int .i64 0,.int .i64 0,.slice none 0 0,.int .i64 0,.int .i64 0,.int .i64 0,.int .i64 0,.int .i64 0,.int .i64 0,.int .i64 0,.int .i64 0,.int .i64 0,.int .i64 0,.int .i64 0,.int .i64 0,.slice none 0 0,.slice none 0 0,.slice none 0 0,.int .i64 0,.slice none 0 0])):=Lib.hid (by
  have h:=range_right (xs:=[.int .i64 0,.int .i64 1,.int .i64 1,.int .i64 0,.int .i64 0,.int .i64 0,.int .i64 0,.string ⟨#[80,111,105,110,116]⟩,(.slice (some ⟨g1,0,none⟩) 2 2),.int .i64 0,.int .i64 0,.int .i64 0,.int .i64 0,.slice none 0 0,.int .i64 0,.int .i64 0,.int .i64 0,.int .i64 0,.int .i64 0,.int .i64 0,.int .i64 0,.int .i64 0,.int .i64 0,.int .i64 0,.int .i64 0,.int .i64 0,.slice none 0 0,.slice none 0 0,.slice none 0 0,.int .i64 0,.slice none 0 0]) (ys:=[.int .i64 0,.int .i64 1,.int .i64 2,.int .i64 1,.int .i64 0,.int .i64 0,.int .i64 0,.string ⟨#[83,104,97,112,101]⟩,(.slice (some ⟨g2,0,none⟩) 2 2),.int .i64 0,.int .i64 0,.int .i64 0,.int .i64 0,.slice none 0 0,.int .i64 0,.int .i64 0,.int .i64 0,.int .i64 0,.int .i64 0,.int .i64 0,.int .i64 0,.int .i64 0,.int .i64 0,.int .i64 0,.int .i64 0,.int .i64 0,.slice none 0 0,.slice none 0 0,.slice none 0 0,.int .i64 0,.slice none 0 0]) HX2.out.1
  simpa using h)
 have HI31:Hid ((Tryd.prog.info? 46).map (·.size) = some ([.int .i64 0,.int .i64 1,.int .i64 2,.int .i64 1,.int .i64 0,.int .i64 0,.int .i64 0,.string ⟨#[83,104,97,112,101]⟩,(.slice (some ⟨g2,0,none⟩) 2 2),.int .i64 0,.int .i64 0,.int .i64 0,.int .i64 0,.slice none 0 0,.int .i64 0,.int .i64 0,.int .i64 0,.int .i64 0,.int .i64 0,.int .i64 0,.int .i64 0,.int .i64 0,.int .i64 0,.int .i64 0,.int .i64 0,.int .i64 0,.slice none 0 0,.slice none 0 0,.slice none 0 0,.int .i64 0,.slice none 0 0]:List Value).length):=Lib.hid info_def
 have HCD:Hid (∀ W,Below w2.heap.size w2 W → Calls Tryd.prog 50 #[.agg #[.int .i64 0,.int .i64 1,.int .i64 2,.int .i64 1,.int .i64 0,.int .i64 0,.int .i64 0,.string ⟨#[83,104,97,112,101]⟩,(.slice (some ⟨g2,0,none⟩) 2 2),.int .i64 0,.int .i64 0,.int .i64 0,.int .i64 0,.slice none 0 0,.int .i64 0,.int .i64 0,.int .i64 0,.int .i64 0,.int .i64 0,.int .i64 0,.int .i64 0,.int .i64 0,.int .i64 0,.int .i64 0,.int .i64 0,.int .i64 0,.slice none 0 0,.slice none 0 0,.slice none 0 0,.int .i64 0,.slice none 0 0]] W (fun e w' => ∃ h c',e = .returned (.agg (dc31 2 1 ⟨#[83,104,97,112,101]⟩ (.slice (some ⟨h,0,none⟩) 2 c')).toArray) ∧ Below W.heap.size W w')):=Lib.hid fun W hb => copyDef_plain 2 1 ⟨#[83,104,97,112,101]⟩ g2 2 2 W (ex_slots (HX2.out.later hb))
 go_wp2_with (first
  | (with_reducible refine wpList_load_mid rfl _ (.tmp 16) rfl g 31 rfl ([.int .i64 0,.int .i64 1,.int .i64 2,.int .i64 1,.int .i64 0,.int .i64 0,.int .i64 0,.string ⟨#[83,104,97,112,101]⟩,(.slice (some ⟨g2,0,none⟩) 2 2),.int .i64 0,.int .i64 0,.int .i64 0,.int .i64 0,.slice none 0 0,.int .i64 0,.int .i64 0,.int .i64 0,.int .i64 0,.int .i64 0,.int .i64 0,.int .i64 0,.int .i64 0,.int .i64 0,.int .i64 0,.int .i64 0,.int .i64 0,.slice none 0 0,.slice none 0 0,.slice none 0 0,.int .i64 0,.slice none 0 0]) _ HRG.out Tryd.underlying46 rfl HI31.out ?_)
  | (go_at_call 50;(with_reducible refine (HCD.out _ (Below.refl _ _)).mono ?_);rintro e w3 ⟨hh,c2,rfl,hb3⟩;have HR3:=Lib.hid (HR2.out.later hb3);have HV3:=Lib.hid (later HV2.out hb3);clear hb3)
  | (refine wpList_store_arr rfl _ (.tmp 4) (.tmp 18) rfl (w.heap.size + 1 + 1) 0 31 46 _ (dc31 2 1 ⟨#[83,104,97,112,101]⟩ (.slice (some ⟨hh,0,none⟩) 2 c2)) z31 rfl rfl rfl HR3.out (show 0 + 31 ≤ 31 by omega) info_def (List.all_eq_true.mp (by rfl)) ?_;intro w4 f4 o4))
 rw [setAll_all z31 (dc31 2 1 ⟨#[83,104,97,112,101]⟩ (.slice (some ⟨hh,0,none⟩) 2 c2)) rfl] at f4
 exact bodyPost_ret (results_cellB rfl _ _ (w.heap.size + 1 + 1) (dc31 2 1 ⟨#[83,104,97,112,101]⟩ (.slice (some ⟨hh,0,none⟩) 2 c2)) _ rfl f4.range Tryd.underlying46 rfl info_def) rfl ⟨hh,c2,rfl,HV3.out.trans (o4.bel.mono (by omega))⟩
end Go.Proofs.YtkpoiljioadfgaaDoor
namespace Go.Proofs.YtkpoiljioadfgaaDoor
open Go.RowKit
theorem ready_mem {md:Region.Mode} {ops:Array Oper} {listed:Array Bool} {i:Nat} (h:i ∈ Region.ready md ops listed):i < ops.size ∧ listed.getD i true = false ∧ ∃ o,ops[i]? = some o ∧ ∀ e ∈ o.after,Region.binds md e = true → listed.getD e.on false = true:=by
 unfold Region.ready at h
 rw [List.mem_filter] at h
 obtain ⟨h1,h2⟩:=h
 rw [Bool.and_eq_true] at h2
 obtain ⟨h2,h3⟩:=h2
 refine ⟨List.mem_range.1 h1,by simpa using h2,?_⟩
 cases ho:ops[i]? with
 | none => rw [ho] at h3;simp at h3
 | some o =>
  rw [ho] at h3
  refine ⟨o,rfl,fun e he hb => ?_⟩
  have h4:o.after.all (fun e => !Region.binds md e || listed.getD e.on false) = true:=by simpa using h3
  have h5:=Array.all_eq_true'.1 h4 e he
  rw [hb] at h5
  simpa using h5
theorem wpAny_inv {P:Program} {md:Region.Mode} {ops:Array Oper} {Q:Exit → Act → World → Prop} (I:Array Bool → Act → World → Prop)
  (hd:∀ listed a w,I listed a w → Region.ready md ops listed = [] → Q .normal a w)
  (hs:∀ listed a w i,I listed a w → i ∈ Region.ready md ops listed → wpOp P ops Q i (fun a' w' => I (listed.setIfInBounds i true) a' w') a w) :
  ∀ (fuel:Nat) (L:List Nat) (listed:Array Bool) (a:Act) (w:World),(∀ i,i < ops.size → listed.getD i true = false → i ∈ L) → L.length ≤ fuel → I listed a w → wpAny P md ops Q fuel listed a w
 | 0,L,listed,a,w,hL,hl,hI => by
  have hr:Region.ready md ops listed = []:=by
   rw [List.eq_nil_iff_forall_not_mem]
   intro i hi
   obtain ⟨h1,h2,_⟩:=ready_mem hi
   have:=hL i h1 h2
   have h0:L = []:=List.length_eq_zero_iff.1 (by omega)
   rw [h0] at this
   exact absurd this (by simp)
  exact ⟨hr,hd _ _ _ hI hr⟩
 | fuel + 1,L,listed,a,w,hL,hl,hI => by
  refine ⟨hd _ _ _ hI,fun i hi => wpOp_mono (fun a' w' h' => ?_) (hs _ _ _ i hI hi)⟩
  obtain ⟨h1,h2,_⟩:=ready_mem hi
  have hm:=hL i h1 h2
  refine wpAny_inv I hd hs fuel (L.erase i) _ a' w' (fun k hk hk2 => ?_) (by rw [List.length_erase_of_mem hm];omega) h'
  by_cases e:k = i
  ·subst e
   exfalso
   by_cases hb:k < listed.size
   ·rw [Array.getD_eq_getD_getElem?,Array.getElem?_setIfInBounds_self_of_lt hb] at hk2
    simp at hk2
   ·rw [Array.getD_eq_getD_getElem?,Array.getElem?_eq_none (by omega)] at h2
    simp at h2
  ·rw [Array.getD_eq_getD_getElem?,Array.getElem?_setIfInBounds_ne (by omega),← Array.getD_eq_getD_getElem?] at hk2
   exact (List.mem_erase_of_ne e).2 (hL k hk hk2)
theorem wp_region_inv {P:Program} {ops:Array Oper} {Q:Exit → Act → World → Prop} {id:Nat} {a:Act} {w:World} (I:Array Bool → Act → World → Prop) (hm:P.follows .mixedOrders = true)
  (h0:I (Array.replicate ops.size false) a w.drew)
  (hd:∀ listed a w,I listed a w → Region.ready .any ops listed = [] → Q .normal a w)
  (hs:∀ listed a w i,I listed a w → i ∈ Region.ready .any ops listed → wpOp P ops Q i (fun a' w' => I (listed.setIfInBounds i true) a' w') a w):(Code.region id ops true).wp P Q a w :=
 wp_region_any hm (wpAny_inv I hd hs ops.size (List.range ops.size) _ a _ (fun i hi _ => List.mem_range.2 hi) (by simp) h0)
end Go.Proofs.YtkpoiljioadfgaaDoor
