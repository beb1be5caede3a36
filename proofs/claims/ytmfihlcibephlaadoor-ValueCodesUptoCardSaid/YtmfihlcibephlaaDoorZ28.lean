import Derived.Test.YtmfihlcibephlaaDoorZ15
import Derived.Test.YtmfihlcibephlaaDoorZ27
import Derived.Orders
import Derived.Deep.AppendLies
set_option linter.unusedVariables false
set_option linter.unusedSimpArgs false
namespace Go.Proofs.YtmfihlcibephlaaDoor
open Go.RowKit
theorem ready_mem {md:Region.Mode} {ops:Array Oper} {listed:Array Bool} {i:Nat} (h:i ∈ Region.ready md ops listed):i < ops.size ∧ listed.getD i true = false ∧ ∃ o,ops[i]? = some o ∧ ∀ e ∈ o.after,Region.binds md e = true → listed.getD e.on false = true:=by
 unfold Region.ready at h
 rw [List.mem_filter] at h
 obtain ⟨h1,h2⟩:=h
 rw [Bool.and_eq_true] at h2
 obtain ⟨h2,h3⟩:=h2
 refine ⟨List.mem_range.1 h1,by simpa using h2,?_⟩
 cases ho:ops[i]? with
 | none => rw [ho] at h3;simp at h3
 | some o =>
  rw [ho] at h3
  refine ⟨o,rfl,fun e he hb => ?_⟩
  have h4:o.after.all (fun e => !Region.binds md e || listed.getD e.on false) = true:=by simpa using h3
  have h5:=Array.all_eq_true'.1 h4 e he
  rw [hb] at h5
  simpa using h5
theorem wpAny_inv {P:Program} {md:Region.Mode} {ops:Array Oper} {Q:Exit → Act → World → Prop} (I:Array Bool → Act → World → Prop)
  (hd:∀ listed a w,I listed a w → Region.ready md ops listed = [] → Q .normal a w)
  (hs:∀ listed a w i,I listed a w → i ∈ Region.ready md ops listed → wpOp P ops Q i (fun a' w' => I (listed.setIfInBounds i true) a' w') a w) :
  ∀ (fuel:Nat) (L:List Nat) (listed:Array Bool) (a:Act) (w:World),(∀ i,i < ops.size → listed.getD i true = false → i ∈ L) → L.length ≤ fuel → I listed a w → wpAny P md ops Q fuel listed a w
 | 0,L,listed,a,w,hL,hl,hI => by
  have hr:Region.ready md ops listed = []:=by
   rw [List.eq_nil_iff_forall_not_mem]
   intro i hi
   obtain ⟨h1,h2,_⟩:=ready_mem hi
   have:=hL i h1 h2
   have h0:L = []:=List.length_eq_zero_iff.1 (by omega)
   rw [h0] at this
   exact absurd this (by simp)
  exact ⟨hr,hd _ _ _ hI hr⟩
 | fuel + 1,L,listed,a,w,hL,hl,hI => by
  refine ⟨hd _ _ _ hI,fun i hi => wpOp_mono (fun a' w' h' => ?_) (hs _ _ _ i hI hi)⟩
  obtain ⟨h1,h2,_⟩:=ready_mem hi
  have hm:=hL i h1 h2
  refine wpAny_inv I hd hs fuel (L.erase i) _ a' w' (fun k hk hk2 => ?_) (by rw [List.length_erase_of_mem hm];omega) h'
  by_cases e:k = i
  ·subst e
   exfalso
   by_cases hb:k < listed.size
   ·rw [Array.getD_eq_getD_getElem?,Array.getElem?_setIfInBounds_self_of_lt hb] at hk2
    simp at hk2
   ·rw [Array.getD_eq_getD_getElem?,Array.getElem?_eq_none (by omega)] at h2
    simp at h2
  ·rw [Array.getD_eq_getD_getElem?,Array.getElem?_setIfInBounds_ne (by omega),← Array.getD_eq_getD_getElem?] at hk2
   exact (List.mem_erase_of_ne e).2 (hL k hk hk2)
theorem wp_region_inv {P:Program} {ops:Array Oper} {Q:Exit → Act → World → Prop} {id:Nat} {a:Act} {w:World} (I:Array Bool → Act → World → Prop) (hm:P.follows .mixedOrders = true)
  (h0:I (Array.replicate ops.size false) a w.drew)
  (hd:∀ listed a w,I listed a w → Region.ready .any ops listed = [] → Q .normal a w)
  (hs:∀ listed a w i,I listed a w → i ∈ Region.ready .any ops listed → wpOp P ops Q i (fun a' w' => I (listed.setIfInBounds i true) a' w') a w):(Code.region id ops true).wp P Q a w :=
 wp_region_any hm (wpAny_inv I hd hs ops.size (List.range ops.size) _ a _ (fun i hi _ => List.mem_range.2 hi) (by simp) h0)
end Go.Proofs.YtmfihlcibephlaaDoor
namespace Go.Proofs.YtmfihlcibephlaaDoor
open Go.RowKit
def ag (a:Act) (s:Nat):Value:=a.tmps.getD s undef
theorem eval_tmp (a:Act) (s:Nat):a.eval (.tmp s) = ag a s:=rfl
theorem ag_put {a:Act} {s:Nat} {v:Value} (h:s < a.tmps.size):ag (a.put (some s) v) s = v:=by
 simp only [ag,Act.put,Array.getD_eq_getD_getElem?,Array.getElem?_setIfInBounds_self_of_lt h,Option.getD_some]
theorem ag_ne {a:Act} {s t:Nat} {v:Value} (h:s ≠ t):ag (a.put (some s) v) t = ag a t:=by
 simp only [ag,Act.put,Array.getD_eq_getD_getElem?,Array.getElem?_setIfInBounds_ne h]
structure Off (D:List Nat) (a a':Act):Prop where
 size:a'.tmps.size = a.tmps.size
 defers:a'.defers = a.defers
 off:∀ s,s ∉ D → ag a' s = ag a s
theorem Off.refl (D:List Nat) (a:Act):Off D a a:=⟨rfl,rfl,fun _ _ => rfl⟩
theorem Off.put {D:List Nat} {a a':Act} {s:Nat} {v:Value} (h:Off D a a') (hs:s ∈ D):Off D a (a'.put (some s) v) :=
 ⟨by simp [Act.put,h.size],h.defers,fun t ht => by rw [ag_ne (fun e => ht (by rw [← e];exact hs)),h.off t ht]⟩
theorem act_ext {a b:Act} (h1:a.tmps.size = b.tmps.size) (h2:a.defers = b.defers) (h3:∀ s,ag a s = ag b s):a = b:=by
 obtain ⟨ta,da⟩:=a
 obtain ⟨tb,db⟩:=b
 have:ta = tb:=by
  apply Array.ext h1
  intro i hi hi'
  have:=h3 i
  simp only [ag,Array.getD_eq_getD_getElem?] at this
  rw [Array.getElem?_eq_getElem hi,Array.getElem?_eq_getElem hi'] at this
  simpa using this
 subst this
 simp only at h2
 subst h2
 rfl
theorem fold_size (f:Nat → Value):∀ (D:List Nat) (a:Act),(D.foldl (fun b s => b.put (some s) (f s)) a).tmps.size = a.tmps.size ∧ (D.foldl (fun b s => b.put (some s) (f s)) a).defers = a.defers
 | [],a => ⟨rfl,rfl⟩
 | s :: D,a => by
  obtain ⟨h1,h2⟩:=fold_size f D (a.put (some s) (f s))
  rw [List.foldl_cons,h1,h2];exact ⟨by simp [Act.put],rfl⟩
theorem fold_ag (f:Nat → Value):∀ (D:List Nat) (a:Act) (t:Nat),(∀ s ∈ D,s < a.tmps.size) → ag (D.foldl (fun b s => b.put (some s) (f s)) a) t = if t ∈ D then f t else ag a t
 | [],a,t,_ => by simp
 | s :: D,a,t,h => by
  rw [List.foldl_cons,fold_ag f D _ t (fun u hu => by simp [Act.put];exact h u (by simp [hu]))]
  by_cases h1:t ∈ D
  ·simp [h1]
  ·by_cases h2:t = s
   ·subst h2;rw [if_neg h1,if_pos (by simp),ag_put (h t (by simp))]
   ·rw [if_neg h1,if_neg (by simp [h1,h2]),ag_ne (fun e => h2 e.symm)]
theorem Off.eq {D:List Nat} {a a':Act} (h:Off D a a') (hD:∀ s ∈ D,s < a.tmps.size):a' = D.foldl (fun b s => b.put (some s) (ag a' s)) a:=by
 obtain ⟨h1,h2⟩:=fold_size (fun s => ag a' s) D a
 refine act_ext (by rw [h1,h.size]) (by rw [h2,h.defers]) fun t => ?_
 rw [fold_ag (fun s => ag a' s) D a t hD]
 split
 ·rfl
 ·exact h.off t ‹_›
def sig (o:Oper):Option Tmp × Op × TypeId × Option (Nat × Bool):=(o.dst,o.op,o.type,o.guard)
theorem wpOp_of {P:Program} {ops:Array Oper} {Q:Exit → Act → World → Prop} {i:Nat} {K:Act → World → Prop} {a:Act} {w:World} {d:Option Tmp} {op:Op} {ty:TypeId}
  (hs:(ops[i]?).map sig = some (d,op,ty,none)) (h:∀ o:Oper,o.dst = d → o.op = op → o.type = ty → o.guard = none → o.wp P a w K Q):wpOp P ops Q i K a w:=by
 unfold wpOp
 cases ho:ops[i]? with
 | none => rw [ho] at hs;simp at hs
 | some o =>
  rw [ho] at hs
  simp only [Option.map_some,sig,Option.some.injEq,Prod.mk.injEq] at hs
  obtain ⟨h1,h2,h3,h4⟩:=hs
  simp only [Region.wanted,h4,if_true]
  exact .inl (h o h1 h2 h3 h4)
theorem execOp_sig {ρ:Operand → Value} {o:Oper} {op:Op} {ty:TypeId} (h1:o.op = op) (h2:o.type = ty):execOp ρ o = execOp ρ ⟨none,op,ty, "",#[],none⟩:=by
 obtain ⟨d,op',ty',pos,af,gd⟩:=o
 simp only at h1 h2
 subst h1 h2
 rfl
theorem op_val {P:Program} {ops:Array Oper} {Q:Exit → Act → World → Prop} {i:Nat} {K:Act → World → Prop} {a:Act} {w w':World} {d:Option Tmp} {op:Op} {ty:TypeId} {v:Value}
  (hs:(ops[i]?).map sig = some (d,op,ty,none)) (hr:(execOp a.eval ⟨none,op,ty, "",#[],none⟩).run P w = .ok (.value v) w') (hK:K (a.put d v) w'):wpOp P ops Q i K a w :=
 wpOp_of hs fun o h1 h2 h3 _ => by unfold Oper.wp;rw [execOp_sig h2 h3,hr];subst h1;exact hK
theorem op_call {P:Program} {ops:Array Oper} {Q:Exit → Act → World → Prop} {i:Nat} {K:Act → World → Prop} {a:Act} {w w':World} {d:Option Tmp} {op:Op} {ty:TypeId} {f:FuncId} {args:Array Value}
  (hs:(ops[i]?).map sig = some (d,op,ty,none)) (hr:(execOp a.eval ⟨none,op,ty, "",#[],none⟩).run P w = .ok (.enter f args) w') (hc:Calls P f args w' fun e w'' => ∃ v,e = .returned v ∧ K (a.put d v) w''):wpOp P ops Q i K a w :=
 wpOp_of hs fun o h1 h2 h3 _ => by
  unfold Oper.wp;rw [execOp_sig h2 h3,hr,Oper.upon_enter]
  refine hc.mono ?_
  rintro e w'' ⟨v,rfl,hK⟩
  subst h1;exact hK
theorem op_skip {P:Program} {ops:Array Oper} {Q:Exit → Act → World → Prop} {i:Nat} {K:Act → World → Prop} {a:Act} {w w':World} {d:Option Tmp} {op:Op} {ty:TypeId}
  (hs:(ops[i]?).map sig = some (d,op,ty,none)) (hr:(execOp a.eval ⟨none,op,ty, "",#[],none⟩).run P w = .ok .skip w') (hK:K (a.put d undef) w'):wpOp P ops Q i K a w :=
 wpOp_of hs fun o h1 h2 h3 _ => by unfold Oper.wp;rw [execOp_sig h2 h3,hr];subst h1;exact hK
theorem wp_putG {P:Program} {α:Type} {e t:TypeId} {sz bytes:Nat} {z:Value} {Φ:α → List Value → World → Prop} {w:World} {B:Nat} {v:Value} {acc:List α} {x:α} {C:List Value} {o:Oper} {a:Act} {K:Act → World → Prop} {Q:Exit → Act → World → Prop} {gn c:Nat}
  (hG:GrowG e sz Φ w B v acc) (hC:C.length = sz) (hx:Foot (fun g => B ≤ g ∧ v.ownBlock ≠ some g) (Φ x C) w) (hB:B ≤ w.heap.size) (hacc:(acc.length + 1) * bytes ≤ 140737488355328 ∧ acc.length + 1 ≤ maxLen)
  (ht:P.underlying t = some (.slice e)) (hi:(P.info? e).map (fun i => (i.zero,i.size,i.bytes)) = some (some z,sz,bytes)) (hzs:z.cells.size = sz) (hsz:0 < sz) (h1c:∀ u ∈ C,u.oneCell' = true)
  (s y:Operand) (ho:o.op = .call { callee:=.builtin .append,args:=#[s,y],argTypes:=#[t,t] })
  (hs:a.eval s = v) (hy:a.eval y = .slice (some ⟨gn,0,none⟩) 1 c) (hr:w.rangeAt gn 0 C)
  (h:∀ g cap w',GrowG e sz Φ w' B (.slice (some ⟨g,0,none⟩) (acc.length + 1) cap) (acc ++ [x]) → Below B w w' → (∀ k,k < w.heap.size → v.ownBlock ≠ some k → w'.heap[k]? = w.heap[k]?) → (v.ownBlock = some g ∨ w.heap.size ≤ g) → K (a.put o.dst (.slice (some ⟨g,0,none⟩) (acc.length + 1) cap)) w') :
  o.wp P a w K Q:=by
 obtain ⟨L,h1,h2,h3,h4⟩:=hG
 obtain ⟨i0,hi0,hz0,hz1,hz2⟩:=info_parts hi
 refine wp_append_lies w s y t ho B e i0 z sz bytes ht hi0 hz0 hz1 hz2 hzs hsz v acc.length L.flatten hs h1 ⟨gn,0,none⟩ 1 c C hy (by rw [hC,Nat.one_mul]) (fun j u hu => by rw [show (⟨gn,0,none⟩:Addr).add j = ⟨gn,0 + j,none⟩ by unfold Addr.add;split <;> simp_all];exact hr j u hu) h1c (by decide) hacc.2 hacc.1 hB w.heap.size rfl ?_
 intro g cap w' hown hg hat hlt
 obtain ⟨a1,a2,a3⟩:=GrowG.grown h1 h2 h3 h4 hC hx hB (Below.refl _ w) hown hg (hat.imp id (fun e => by omega))
 exact h g cap w' a1 a2 a3 (hat.imp id (fun e => by omega))
def Ext (S:Nat) (w w':World):Prop:=Below 0 w w' ∧ ∀ g,S ≤ g → g < w.heap.size → w'.heap[g]? = w.heap[g]?
theorem Ext.refl (S:Nat) (w:World):Ext S w w:=⟨Below.refl _ _,fun _ _ _ => rfl⟩
theorem Ext.of {S:Nat} {w w':World} (h:Below w.heap.size w w'):Ext S w w':=⟨h.mono (Nat.zero_le _),fun g _ hg => h.block g hg⟩
def depB (ops:Array Oper) (i k:Nat):Bool:=((ops[i]?).map (fun o => o.after.any fun e => Region.binds .any e && e.on == k)).getD false
def acyB (ops:Array Oper):Bool:=(List.range ops.size).all fun i => ((ops[i]?).map (fun o => o.after.all fun e => decide (e.on < i))).getD true
def needB (ops:Array Oper) (last:Nat):Bool:=(List.range last).all fun k => (List.range (last + 1)).any fun j => decide (k < j) && depB ops j k
theorem ready_dep {ops:Array Oper} {listed:Array Bool} {i k:Nat} (h:i ∈ Region.ready .any ops listed) (hd:depB ops i k = true):listed.getD k false = true:=by
 obtain ⟨_,_,o,ho,h3⟩:=ready_mem h
 unfold depB at hd
 rw [ho] at hd
 simp only [Option.map_some,Option.getD_some,Array.any_eq_true'] at hd
 obtain ⟨e,he,hb⟩:=hd
 rw [Bool.and_eq_true] at hb
 have:=h3 e he hb.1
 have e2:e.on = k:=by simpa using hb.2
 rwa [e2] at this
theorem ready_of {ops:Array Oper} {listed:Array Bool} {i:Nat} (hi:i < ops.size) (h0:listed.getD i true = false) (h:∀ k,k < i → listed.getD k false = true) (ha:acyB ops = true):i ∈ Region.ready .any ops listed:=by
 unfold Region.ready
 rw [List.mem_filter]
 refine ⟨List.mem_range.2 hi,?_⟩
 unfold acyB at ha
 have:=List.all_eq_true.1 ha i (List.mem_range.2 hi)
 rw [Array.getElem?_eq_getElem hi] at this ⊢
 simp only [Option.map_some,Option.getD_some] at this ⊢
 rw [h0,Bool.not_false,Bool.true_and,Array.all_eq_true']
 intro e he
 have:=Array.all_eq_true'.1 this e he
 rw [h e.on (by simpa using this),Bool.or_true]
theorem getD_set {l:Array Bool} {i k:Nat} {d:Bool} (hi:i < l.size):(l.setIfInBounds i true).getD k d = if k = i then true else l.getD k d:=by
 simp only [Array.getD_eq_getD_getElem?,Array.getElem?_setIfInBounds]
 by_cases h:i = k
 ·subst h;simp [hi]
 ·rw [if_neg h,if_neg (fun e => h e.symm)]
theorem getD_in {l:Array Bool} {k:Nat} (h:k < l.size) (d d':Bool):l.getD k d = l.getD k d':=by
 simp [Array.getD_eq_getD_getElem?,Array.getElem?_eq_getElem h]
theorem wp_region_facts {P:Program} {ops:Array Oper} {Q:Exit → Act → World → Prop} {id:Nat} {a0:Act} {w0:World} (last p:Nat) (D:List Nat) (ds:Nat → Nat) (F:Nat → Value → World → Prop) (G:Bool → World → Prop) (B S:Nat)
  (hm:P.follows .mixedOrders = true) (hsz:ops.size = last + 1) (hac:acyB ops = true) (hnd:needB ops last = true)
  (hD:∀ k,k < last → ds k ∈ D) (hlt:∀ k,k < last → ds k < a0.tmps.size) (hinj:∀ i k,i < last → k < last → ds i = ds k → i = k)
  (hF:∀ k v w w' E,k < last → (E = B ∨ (E = S ∧ k ≠ p)) → Ext E w w' → F k v w → F k v w') (h0:G false w0.drew)
  (hs:∀ i a w c,i < last → (i = p → c = false) → Off D a0 a → G c w → (∀ k,k < last → depB ops i k = true → F k (ag a (ds k)) w) →
   wpOp P ops Q i (fun a' w' => ∃ v,a' = a.put (some (ds i)) v ∧ Ext (if i = p then S else B) w w' ∧ F i v w' ∧ G (if i = p then true else c) w') a w)
  (hl:∀ a w c,Off D a0 a → (p < last → c = true) → G c w → (∀ k,k < last → F k (ag a (ds k)) w) → wpOp P ops Q last (fun a' w' => Q .normal a' w') a w) :
  (Code.region id ops true).wp P Q a0 w0:=by
 refine wp_region_inv (fun listed a w => listed.size = last + 1 ∧ ((listed.getD last false = true ∧ (∀ k,k < last + 1 → listed.getD k false = true) ∧ Q .normal a w) ∨ (listed.getD last false = false ∧ (∀ i k,i < last → listed.getD i false = true → depB ops i k = true → listed.getD k false = true) ∧ Off D a0 a ∧ G (decide (p < last) && listed.getD p false) w ∧ ∀ k,k < last → listed.getD k false = true → F k (ag a (ds k)) w))) hm ?_ ?_ ?_
 ·have hz:∀ k,(Array.replicate ops.size false).getD k false = false:=fun k => by
   simp only [Array.getD_eq_getD_getElem?,Array.getElem?_replicate];split <;> rfl
  refine ⟨by simp [hsz],.inr ⟨hz _,fun i k _ h => absurd h (by rw [hz];simp),Off.refl _ _,by rw [hz,Bool.and_false];exact h0,fun k _ h => absurd h (by rw [hz];simp)⟩⟩
 ·rintro listed a w ⟨hls,h | ⟨h1,_⟩⟩ hr
  ·exact h.2.2
  ·exfalso
   have hall:∀ k,k ≤ last → listed.getD k false = true:=by
    intro k
    induction k using Nat.strongRecOn with
    | _ k ih =>
     intro hk
     cases hb:listed.getD k false with
     | true => rfl
     | false =>
      have:=ready_of (ops:=ops) (listed:=listed) (i:=k) (by omega) (by rw [← hb];exact getD_in (by omega) _ _) (fun j hj => ih j hj (by omega)) hac
      rw [hr] at this
      cases this
   rw [hall last (Nat.le_refl _)] at h1
   cases h1
 ·rintro listed a w i ⟨hls,h⟩ hi
  obtain ⟨hi1,hi2,_⟩:=ready_mem hi
  have hi3:listed.getD i false = false:=by rw [← hi2];exact getD_in (by omega) _ _
  rcases h with ⟨_,h,_⟩ | ⟨h1,hcl,ho,hg,hf⟩
  ·rw [h i (by omega)] at hi3;cases hi3
  ·by_cases hil:i = last
   ·subst hil
    have hall:∀ n k,k < i → i ≤ k + n → listed.getD k false = true:=by
     intro n
     induction n with
     | zero => intro k h1 h2;omega
     | succ n ih =>
      intro k hk hn
      have hx:=List.all_eq_true.1 hnd k (List.mem_range.2 hk)
      obtain ⟨j,hj,hx⟩:=List.any_eq_true.1 hx
      rw [Bool.and_eq_true,decide_eq_true_eq] at hx
      have hj:=List.mem_range.1 hj
      by_cases hji:j = i
      ·rw [hji] at hx;exact ready_dep hi hx.2
      ·exact hcl j k (by omega) (ih j (by omega) (by omega)) hx.2
    have hall2:∀ k,k < i → listed.getD k false = true:=fun k hk => hall i k hk (by omega)
    refine wpOp_mono (fun a' w' hq => ?_) (hl a w _ ho (fun hp => by rw [hall2 p hp];simp [hp]) hg (fun k hk => hf k hk (hall2 k hk)))
    refine ⟨by simp [hls],.inl ⟨?_,?_,hq⟩⟩
    ·rw [getD_set (by omega),if_pos rfl]
    ·intro k hk
     rw [getD_set (by omega)]
     split
     ·rfl
     ·exact hall2 k (by omega)
   ·have hil':i < last:=by omega
    refine wpOp_mono ?_ (hs i a w _ hil' (fun e => by rw [← e,hi3,Bool.and_false]) ho hg (fun k hk hd => hf k hk (ready_dep hi hd)))
    rintro a' w' ⟨v,rfl,he,hv,hg'⟩
    refine ⟨by simp [hls],.inr ⟨?_,?_,ho.put (hD i hil'),?_,?_⟩⟩
    ·rw [getD_set (by omega),if_neg (by omega)];exact h1
    ·intro j k hj hjl hd
     rw [getD_set (by omega)] at hjl ⊢
     split
     ·rfl
     ·by_cases hji:j = i
      ·rw [hji] at hd;exact ready_dep hi hd
      ·rw [if_neg hji] at hjl;exact hcl j k hj hjl hd
    ·rw [getD_set (by omega)]
     by_cases hip:i = p
     ·rw [if_pos hip] at hg'
      rw [if_pos hip.symm,Bool.and_true,decide_eq_true (by omega)];exact hg'
     ·rw [if_neg hip] at hg'
      rw [if_neg (fun e => hip e.symm)];exact hg'
    ·intro k hk hkl
     by_cases hki:k = i
     ·subst hki
      rw [ag_put (by rw [ho.size];exact hlt k hk)];exact hv
     ·rw [getD_set (by omega),if_neg hki] at hkl
      rw [ag_ne (fun e => hki (hinj i k hil' hk e).symm)]
      refine hF k _ w w' (if i = p then S else B) hk ?_ he (hf k hk hkl)
      by_cases hip:i = p
      ·exact .inr ⟨if_pos hip,fun e => hki (e.trans hip.symm)⟩
      ·exact .inl (if_neg hip)
end Go.Proofs.YtmfihlcibephlaaDoor
namespace Go.Proofs.YtmfihlcibephlaaDoor
open Go.RowKit
def opsOf (k:Nat):Code → Option (Array Oper)
 | .region id ops _ => if id = k then some ops else none
 | .seq a b => match opsOf k a with | some x => some x | none => opsOf k b
 | .cond _ a b => match opsOf k a with | some x => some x | none => opsOf k b
 | .block _ b => opsOf k b
 | .loop b => opsOf k b
 | .scope b => opsOf k b
 | _ => none
theorem Arr.ext {S:Nat} {W W':World} {g n:Nat} {e:TypeId} {xs:List Value} (h:Arr W g n e xs) (he:Ext S W W') (hS:S ≤ g):Arr W' g n e xs:=by
 have hlt:=h.lt
 refine ⟨h.1,?_⟩
 rcases h.2 with h2 | ⟨g',cap,cur,hv,hg,hh,r⟩
 ·exact .inl h2
 ·refine .inr ⟨g',cap,cur,hv,hg,?_,r⟩
  cases hv
  rw [he.2 _ hS hlt]
  exact hh
def nm4:List Value:=[.string ⟨#[80,111,105,110,116]⟩,.string ⟨#[83,104,97,112,101]⟩,.string ⟨#[83,116,97,116,101]⟩,.string ⟨#[69,118,101,110,116]⟩]
def nm4b:List ByteArray:=[⟨#[80,111,105,110,116]⟩,⟨#[83,104,97,112,101]⟩,⟨#[83,116,97,116,101]⟩,⟨#[69,118,101,110,116]⟩]
def df31 (k kd:Int) (nm:ByteArray) (sv:Value):List Value:=[.int .i64 0,.int .i64 1,.int .i64 k,.int .i64 kd,.int .i64 0,.int .i64 1,.int .i64 0,.string nm,sv,.int .i64 0,.int .i64 0,.int .i64 0,.int .i64 0,.slice none 0 0,.int .i64 0,.int .i64 0,.int .i64 0,.int .i64 0,.int .i64 0,.int .i64 0,.int .i64 0,.int .i64 0,.int .i64 0,.int .i64 0,.int .i64 0,.int .i64 0,.slice none 0 0,.slice none 0 0,.slice none 0 0,.int .i64 0,.slice none 0 0]
theorem df31_build (k kd:Int) (nm:ByteArray) (W:World):(Instr.build 46 #[(0,.agg #[.int .i64 0,.int .i64 1,.int .i64 k]),(1,.int .i64 kd),(2,.agg #[.int .i64 0,.int .i64 1,.int .i64 0]),(3,.string nm)]).run Tryd.prog W = .ok (.agg (df31 k kd nm (.slice none 0 0)).toArray) W :=
 run_build W _ _ _ (by kernel_rfl)
def nmB (i:Nat):ByteArray:=nm4b.getD i ⟨#[]⟩
theorem nm4_get (i:Nat) (h:i < 4):nm4[i]? = some (.string (nmB i)):=by
 match i,h with
 | 0,_ => rfl
 | 1,_ => rfl
 | 2,_ => rfl
 | 3,_ => rfl
def fc8 (i X S:Nat):Nat → Value → World → Prop
 | 0,v,_ => v = .int .i64 (i:Int)
 | 1,v,_ => v = .int .i64 ((i + 1:Nat):Int)
 | 2,v,_ => v = .agg #[.int .i64 0,.int .i64 1,.int .i64 ((i + 1:Nat):Int)]
 | 3,v,_ => v = .int .i64 (X:Int)
 | 4,v,_ => v = .int .i64 ((X % 2:Nat):Int)
 | 5,v,_ => v = .agg #[.int .i64 0,.int .i64 1,.int .i64 0]
 | 6,v,w => ∃ g,v = .slice (some ⟨g,0,none⟩) 4 4 ∧ S ≤ g ∧ Arr w g 4 9 nm4
 | 7,v,_ => v = .int .i64 (i:Int)
 | 8,v,w => ∃ g,v = .pointer (some ⟨g,i,none⟩) ∧ S ≤ g ∧ Arr w g 4 9 nm4
 | 9,v,_ => v = .string (nmB i)
 | 10,v,_ => v = .agg (df31 ((i + 1:Nat):Int) ((X % 2:Nat):Int) (nmB i) (.slice none 0 0)).toArray
 | 11,v,w => ∃ g,v = .pointer (some ⟨g,0,none⟩) ∧ S ≤ g ∧ Arr w g 31 46 z31
 | _,_,_ => True
theorem fc8_ext (i X S:Nat):∀ k v w w',k < 12 → Ext S w w' → fc8 i X S k v w → fc8 i X S k v w':=by
 intro k v w w' hk he h
 match k,hk,h with
 | 0,_,h => exact h
 | 1,_,h => exact h
 | 2,_,h => exact h
 | 3,_,h => exact h
 | 4,_,h => exact h
 | 5,_,h => exact h
 | 6,_,⟨g,h1,h2,h3⟩ => exact ⟨g,h1,h2,h3.ext he h2⟩
 | 7,_,h => exact h
 | 8,_,⟨g,h1,h2,h3⟩ => exact ⟨g,h1,h2,h3.ext he h2⟩
 | 9,_,h => exact h
 | 10,_,h => exact h
 | 11,_,⟨g,h1,h2,h3⟩ => exact ⟨g,h1,h2,h3.ext he h2⟩
def ds8 (k:Nat):Nat:=[29,30,31,32,33,34,35,36,37,38,39,8].getD k 0
theorem ds8_lt:∀ k,k < 12 → ds8 k < 92 ∧ ds8 k ∈ [29,30,31,32,33,34,35,36,37,38,39,8]:=by decide
theorem ds8_inj:∀ i k,i < 12 → k < 12 → ds8 i = ds8 k → i = k:=by
 have h:∀ i,i < 12 → ∀ k,k < 12 → ds8 i = ds8 k → i = k:=by decide
 exact fun i k hi hk => h i hi k hk
set_option maxHeartbeats 1000000 in
set_option maxRecDepth 100000 in
theorem reg8 {Q:Exit → Act → World → Prop} {id:Nat} {ops:Array Oper} (hops:ops = ((Tryd.f10.body).bind (opsOf 8)).getD #[]) (a0:Act) (w0:World) (i X:Nat) (hi:i < 4) (hX:X < 65536) (hsz:92 ≤ a0.tmps.size) (h6:ag a0 6 = .int .i64 (i:Int)) (h7:ag a0 7 = .int .i64 (X:Int))
  (hQ:∀ (vs:Nat → Value) (g:Nat) (w':World),vs 8 = .pointer (some ⟨g,0,none⟩) → w0.heap.size ≤ g → Arr w' g 31 46 (df31 ((i + 1:Nat):Int) ((X % 2:Nat):Int) (nmB i) (.slice none 0 0)) → Below w0.heap.size w0 w' → ∀ a',a' = [29,30,31,32,33,34,35,36,37,38,39,8].foldl (fun b s => b.put (some s) (vs s)) a0 → Q .normal a' w') :
  (Code.region id ops true).wp Tryd.prog Q a0 w0:=by
 have hi0:(0:Int) ≤ (i:Int):=by omega
 have hi4:(i:Int) < 4:=by omega
 have hX0:(0:Int) ≤ (X:Int):=by omega
 have hX1:(X:Int) < 65536:=by omega
 have hg0:Below w0.heap.size w0 w0.drew:=below_drewN (Below.refl _ _) 1
 refine wp_region_facts 12 12 [29,30,31,32,33,34,35,36,37,38,39,8] ds8 (fc8 i X w0.heap.size) (fun _ w => Below w0.heap.size w0 w) w0.heap.size w0.heap.size (by kernel_rfl) (by subst hops;kernel_rfl) (by subst hops;kernel_rfl) (by subst hops;kernel_rfl) (fun k hk => (ds8_lt k hk).2) (fun k hk => by have:=(ds8_lt k hk).1;omega) ds8_inj (fun k v w w' E hk hE he => fc8_ext i X w0.heap.size k v w w' hk (hE.elim (fun e => e ▸ he) (fun e => e.1 ▸ he))) hg0 ?_ ?_
 ·intro k a w c hk _ ho hg hd
  have hgs:=hg.size
  match k,hk,hd with
  | 0,hk,hd =>
   have s:(ops[0]?).map sig = some (some 29,.move (.tmp 6),3,none):=by subst hops;kernel_rfl
   refine op_val s (w':=w) (v:=ag a 6) ?_ ⟨_,rfl,?_,?_,?_⟩
   ·rfl
   ·exact Ext.refl _ _
   ·show ag a 6 = _;rw [ho.off 6 (by decide)];exact h6
   ·exact hg
  | 1,hk,hd =>
   have s:(ops[1]?).map sig = some (some 30,.binOp .add 3 (.const (.int .i64 1)) (.tmp 29) 3,3,none):=by subst hops;kernel_rfl
   have d0:=hd 0 (by decide) (by subst hops;kernel_rfl)
   refine op_val s (w':=w) (v:=.int .i64 ((i + 1:Nat):Int)) ?_ ⟨_,rfl,?_,?_,?_⟩
   ·have e:ag a 29 = .int .i64 (i:Int):=d0
    simp only [execOp,eval_tmp,e]
    go_simp
    rw [IntWalk.i64_in _ (by omega)]
    omega
   ·exact Ext.refl _ _
   ·rfl
   ·exact hg
  | 2,hk,hd =>
   have s:(ops[2]?).map sig = some (some 31,.call { callee:=.value (.func 15),args:=#[.tmp 30],argTypes:=#[3] },28,none):=by subst hops;kernel_rfl
   have d1:=hd 1 (by decide) (by subst hops;kernel_rfl)
   refine op_call s (w':=w) (f:=15) (args:=#[.int .i64 ((i + 1:Nat):Int)]) ?_ ?_
   ·have e:ag a 30 = .int .i64 ((i + 1:Nat):Int):=d1
    simp only [execOp]
    go_simp
    simpa [ag] using e
   ·refine (ID_any (i + 1) (by omega) w).mono ?_
    rintro e w' ⟨rfl,hb⟩
    exact ⟨_,rfl,_,rfl,Ext.of hb,rfl,later hg hb⟩
  | 3,hk,hd =>
   have s:(ops[3]?).map sig = some (some 32,.move (.tmp 7),3,none):=by subst hops;kernel_rfl
   refine op_val s (w':=w) (v:=ag a 7) ?_ ⟨_,rfl,?_,?_,?_⟩
   ·rfl
   ·exact Ext.refl _ _
   ·show ag a 7 = _;rw [ho.off 7 (by decide)];exact h7
   ·exact hg
  | 4,hk,hd =>
   have s:(ops[4]?).map sig = some (some 33,.binOp .rem 3 (.tmp 32) (.const (.int .i64 2)) 3,3,none):=by subst hops;kernel_rfl
   have d3:=hd 3 (by decide) (by subst hops;kernel_rfl)
   refine op_val s (w':=w) (v:=.int .i64 ((X % 2:Nat):Int)) ?_ ⟨_,rfl,?_,?_,?_⟩
   ·have e:ag a 32 = .int .i64 (X:Int):=d3
    simp only [execOp,eval_tmp,e]
    go_simp
    rw [Int.tmod_eq_emod_of_nonneg hX0]
   ·exact Ext.refl _ _
   ·rfl
   ·exact hg
  | 5,hk,hd =>
   have s:(ops[5]?).map sig = some (some 34,.call { callee:=.value (.func 15),args:=#[.const (.int .i64 0)],argTypes:=#[3] },28,none):=by subst hops;kernel_rfl
   refine op_call s (w':=w) (f:=15) (args:=#[.int .i64 0]) ?_ ?_
   ·simp only [execOp]
    go_simp
   ·refine (ID_any 0 (by omega) w).mono ?_
    rintro e w' ⟨rfl,hb⟩
    exact ⟨_,rfl,_,rfl,Ext.of hb,rfl,later hg hb⟩
  | 6,hk,hd =>
   have s:(ops[6]?).map sig = some (some 35,.buildSlice 42 4 #[(0,.const (.string ⟨#[80,111,105,110,116]⟩)),(1,.const (.string ⟨#[83,104,97,112,101]⟩)),(2,.const (.string ⟨#[83,116,97,116,101]⟩)),(3,.const (.string ⟨#[69,118,101,110,116]⟩))],42,none):=by subst hops;kernel_rfl
   refine op_val s (w':=w.alloc (.cells nm4.toArray 9)) (v:=.slice (some ⟨w.heap.size,0,none⟩) 4 4) ?_ ⟨_,rfl,?_,?_,?_⟩
   ·simp only [execOp]
    go_simp
    rfl
   ·exact Ext.of (new_later w (.cells nm4.toArray 9))
   ·exact ⟨_,rfl,hgs,Arr.new' w _ _ 4 _ rfl rfl (by decide)⟩
   ·exact later hg (new_later w _)
  | 7,hk,hd =>
   have s:(ops[7]?).map sig = some (some 36,.move (.tmp 6),3,none):=by subst hops;kernel_rfl
   refine op_val s (w':=w) (v:=ag a 6) ?_ ⟨_,rfl,?_,?_,?_⟩
   ·rfl
   ·exact Ext.refl _ _
   ·show ag a 6 = _;rw [ho.off 6 (by decide)];exact h6
   ·exact hg
  | 8,hk,hd =>
   have s:(ops[8]?).map sig = some (some 37,.indexAddr 42 (.tmp 35) (.tmp 36),0,none):=by subst hops;kernel_rfl
   have d6:=hd 6 (by decide) (by subst hops;kernel_rfl)
   have d7:=hd 7 (by decide) (by subst hops;kernel_rfl)
   obtain ⟨gn,e6,hS6,hA6⟩:=d6
   have e6:ag a 35 = _:=e6
   refine op_val s (w':=w) (v:=.pointer (some ⟨gn,i,none⟩)) ?_ ⟨_,rfl,?_,?_,?_⟩
   ·have e:ag a 36 = .int .i64 (i:Int):=d7
    simp only [execOp,eval_tmp,e6,e]
    go_simp
   ·exact Ext.refl _ _
   ·exact ⟨gn,rfl,hS6,hA6⟩
   ·exact hg
  | 9,hk,hd =>
   have s:(ops[9]?).map sig = some (some 38,.load 9 (.tmp 37),9,none):=by subst hops;kernel_rfl
   have d8:=hd 8 (by decide) (by subst hops;kernel_rfl)
   obtain ⟨gn,e8,hS8,hA8⟩:=d8
   have e8:ag a 37 = _:=e8
   refine op_val s (w':=w) (v:=.string (nmB i)) ?_ ⟨_,rfl,?_,?_,?_⟩
   ·have hc:=hA8.cell (nm4_get i hi)
    simp only [execOp,eval_tmp,e8]
    go_simp
   ·exact Ext.refl _ _
   ·rfl
   ·exact hg
  | 10,hk,hd =>
   have s:(ops[10]?).map sig = some (some 39,.build 46 #[(0,.tmp 31),(1,.tmp 33),(2,.tmp 34),(3,.tmp 38)],46,none):=by subst hops;kernel_rfl
   have d2:=hd 2 (by decide) (by subst hops;kernel_rfl)
   have d4:=hd 4 (by decide) (by subst hops;kernel_rfl)
   have d5:=hd 5 (by decide) (by subst hops;kernel_rfl)
   have d9:=hd 9 (by decide) (by subst hops;kernel_rfl)
   refine op_val s (w':=w) (v:=.agg (df31 ((i + 1:Nat):Int) ((X % 2:Nat):Int) (nmB i) (.slice none 0 0)).toArray) ?_ ⟨_,rfl,?_,?_,?_⟩
   ·have hb:=df31_build ((i + 1:Nat):Int) ((X % 2:Nat):Int) (nmB i) w
    have e2:ag a 31 = _:=d2
    have e4:ag a 33 = _:=d4
    have e5:ag a 34 = _:=d5
    have e9:ag a 38 = _:=d9
    simp only [execOp,List.map_toArray,List.map_cons,List.map_nil,eval_tmp,e2,e4,e5,e9,Sem.run_bind,hb]
    rfl
   ·exact Ext.refl _ _
   ·rfl
   ·exact hg
  | 11,hk,hd =>
   have s:(ops[11]?).map sig = some (some 8,.alloc 46,0,none):=by subst hops;kernel_rfl
   refine op_val s (w':=w.alloc (.cells z31.toArray 46)) (v:=.pointer (some ⟨w.heap.size,0,none⟩)) ?_ ⟨_,rfl,?_,?_,?_⟩
   ·simp only [execOp]
    go_simp
    rfl
   ·exact Ext.of (new_later w (.cells z31.toArray 46))
   ·exact ⟨_,rfl,hgs,z31_new w⟩
   ·exact later hg (new_later w _)
 ·intro a w c ho _ hg hf
  have hgs:=hg.size
  obtain ⟨g,e8,hgS,hA⟩:=hf 11 (by decide)
  have e39:=hf 10 (by decide)
  have s:(ops[12]?).map sig = some (none,.store 46 (.tmp 8) (.tmp 39),0,none):=by subst hops;kernel_rfl
  refine wpOp_of s fun o h1 h2 h3 h4 => ?_
  refine wp_store_mid _ _ _ h2 g 0 (df31 ((i + 1:Nat):Int) ((X % 2:Nat):Int) (nmB i) (.slice none 0 0)).toArray e8 e39 (hA.thereAt (Nat.le_refl 31)) info_def (all_oneCell_toArray (List.all_eq_true.mp (by rfl))) ?_
  rw [h1]
  have hA2:=hA.setCells (o:=0) (df31 ((i + 1:Nat):Int) ((X % 2:Nat):Int) (nmB i) (.slice none 0 0))
  rw [setAll_all z31 (df31 ((i + 1:Nat):Int) ((X % 2:Nat):Int) (nmB i) (.slice none 0 0)) rfl] at hA2
  exact hQ (ag a) g _ e8 hgS hA2 (hg.trans ((Only.setCells g 0 _ w).bel.mono hgS)) _ (ho.eq (fun s hs => Nat.lt_of_lt_of_le ((by decide:∀ s ∈ [29,30,31,32,33,34,35,36,37,38,39,8],s < 92) s hs) hsz))
end Go.Proofs.YtmfihlcibephlaaDoor
