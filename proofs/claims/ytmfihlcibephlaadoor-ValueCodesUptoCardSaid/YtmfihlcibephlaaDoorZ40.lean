import Derived.Test.YtmfihlcibephlaaDoorZ38
import Derived.Test.YtmfihlcibephlaaDoorZ39
import Derived.Laws.Append
set_option linter.unusedVariables false
set_option linter.unusedSimpArgs false
namespace Go.Proofs.YtmfihlcibephlaaDoor
open Go.RowKit
theorem wp_region_factsH {P:Program} {ops:Array Oper} {Q:Exit → Act → World → Prop} {id:Nat} {a0:Act} {w0:World} (last pa ps:Nat) (D:List Nat) (ds:Nat → Nat) (F:Option Nat → Nat → Value → World → Prop) (G:Option Nat → World → Prop) (B:Nat) (Ea:Nat → World → World → Prop) (Ep:Option Nat → World → World → Prop) (rk:Nat → Nat)
  (hm:P.follows .mixedOrders = true) (hsz:ops.size = last + 1) (hac:acyR ops rk = true) (hnd:needB ops last = true) (hpal:pa < last)
  (hF:∀ γ k v w w',k < last → (Ext B w w' ∨ (k ≠ ps ∧ depB ops k ps = false ∧ Ep γ w w')) → F γ k v w → F γ k v w') (hA:∀ g k v w w',k < last → k ≠ pa → depB ops k pa = false → Ea g w w' → F none k v w → F (some g) k v w') (h0:G none w0.drew)
  (hs:∀ γ i a w,i < last → i ≠ pa → Off D a0 a → G γ w → (∀ k,k < last → depB ops i k = true → F γ k (ag a (ds k)) w) →
   wpOp P ops Q i (PostE ops D ds last a0 a i (F γ) (fun w' => Ext B w w' ∨ (i = ps ∧ Ep γ w w')) (G γ)) a w)
  (hpa:∀ a w,Off D a0 a → G none w → (∀ k,k < last → depB ops pa k = true → F none k (ag a (ds k)) w) → wpOp P ops Q pa (fun a' w' => ∃ g,PostE ops D ds last a0 a pa (F (some g)) (fun w' => Ea g w w') (G (some g)) a' w') a w)
  (hl:∀ γ a w,Off D a0 a → G γ w → (∀ k,k < last → F γ k (ag a (ds k)) w) → wpOp P ops Q last (fun a' w' => Q .normal a' w') a w) :
  (Code.region id ops true).wp P Q a0 w0:=by
 refine wp_region_inv (fun listed a w => listed.size = last + 1 ∧ ((listed.getD last false = true ∧ (∀ k,k < last + 1 → listed.getD k false = true) ∧ Q .normal a w) ∨ (listed.getD last false = false ∧ (∀ i k,i < last → listed.getD i false = true → depB ops i k = true → listed.getD k false = true) ∧ Off D a0 a ∧ ∃ γ,G γ w ∧ (listed.getD pa false = false → γ = none) ∧ ∀ k,k < last → listed.getD k false = true → F γ k (ag a (ds k)) w))) hm ?_ ?_ ?_
 ·have hz:∀ k,(Array.replicate ops.size false).getD k false = false:=fun k => by
   simp only [Array.getD_eq_getD_getElem?,Array.getElem?_replicate];split <;> rfl
  refine ⟨by simp [hsz],.inr ⟨hz _,fun i k _ h => absurd h (by rw [hz];simp),Off.refl _ _,none,h0,fun _ => rfl,fun k _ h => absurd h (by rw [hz];simp)⟩⟩
 ·rintro listed a w ⟨hls,h | ⟨h1,_⟩⟩ hr
  ·exact h.2.2
  ·exfalso
   have hall:∀ n k,rk k ≤ n → k ≤ last → listed.getD k false = true:=by
    intro n
    induction n using Nat.strongRecOn with
    | _ n ih =>
     intro k hkn hk
     cases hb:listed.getD k false with
     | true => rfl
     | false =>
      have:=ready_ofR (ops:=ops) (listed:=listed) (rk:=rk) (i:=k) (by omega) (by rw [← hb];exact getD_in (by omega) _ _) (fun j hj hr => ih (rk j) (by omega) j (Nat.le_refl _) (by omega)) hac
      rw [hr] at this
      cases this
   rw [hall (rk last) last (Nat.le_refl _) (Nat.le_refl _)] at h1
   cases h1
 ·rintro listed a w i ⟨hls,h⟩ hi
  obtain ⟨hi1,hi2,_⟩:=ready_mem hi
  have hi3:listed.getD i false = false:=by rw [← hi2];exact getD_in (by omega) _ _
  rcases h with ⟨_,h,_⟩ | ⟨h1,hcl,ho,γ,hg,hγ,hf⟩
  ·rw [h i (by omega)] at hi3;cases hi3
  ·by_cases hil:i = last
   ·subst hil
    have hall:∀ n k,k < i → i ≤ k + n → listed.getD k false = true:=by
     intro n
     induction n with
     | zero => intro k h1 h2;omega
     | succ n ih =>
      intro k hk hn
      have hx:=List.all_eq_true.1 hnd k (List.mem_range.2 hk)
      obtain ⟨j,hj,hx⟩:=List.any_eq_true.1 hx
      rw [Bool.and_eq_true,decide_eq_true_eq] at hx
      have hj:=List.mem_range.1 hj
      by_cases hji:j = i
      ·rw [hji] at hx;exact ready_dep hi hx.2
      ·exact hcl j k (by omega) (ih j (by omega) (by omega)) hx.2
    have hall2:∀ k,k < i → listed.getD k false = true:=fun k hk => hall i k hk (by omega)
    refine wpOp_mono (fun a' w' hq => ?_) (hl γ a w ho hg (fun k hk => hf k hk (hall2 k hk)))
    refine ⟨by simp [hls],.inl ⟨?_,?_,hq⟩⟩
    ·rw [getD_set (by omega),if_pos rfl]
    ·intro k hk
     rw [getD_set (by omega)]
     split
     ·rfl
     ·exact hall2 k (by omega)
   ·have hil':i < last:=by omega
    have hcl':∀ j k,j < last → (listed.setIfInBounds i true).getD j false = true → depB ops j k = true → (listed.setIfInBounds i true).getD k false = true:=by
     intro j k hj hjl hd
     rw [getD_set (by omega)] at hjl ⊢
     split
     ·rfl
     ·by_cases hji:j = i
      ·rw [hji] at hd;exact ready_dep hi hd
      ·rw [if_neg hji] at hjl;exact hcl j k hj hjl hd
    have hno:∀ k,k < last → listed.getD k false = true → depB ops k i = false:=by
     intro k hk hkl
     cases hb:depB ops k i with
     | false => rfl
     | true => have:=hcl k i hk hkl hb;rw [hi3] at this;cases this
    by_cases hip:i = pa
    ·subst hip
     obtain rfl:=hγ hi3
     refine wpOp_mono ?_ (hpa a w ho hg (fun k hk hd => hf k hk (ready_dep hi hd)))
     rintro a' w' ⟨g,ho',hk',he,hv,hg'⟩
     refine ⟨by simp [hls],.inr ⟨?_,hcl',ho',some g,hg',?_,?_⟩⟩
     ·rw [getD_set (by omega),if_neg (by omega)];exact h1
     ·intro h;rw [getD_set (by omega),if_pos rfl] at h;cases h
     ·intro k hk hkl
      by_cases hki:k = i
      ·subst hki;exact hv
      ·rw [getD_set (by omega),if_neg hki] at hkl
       rw [hk' k hk hki (hno k hk hkl)]
       exact hA g k _ w w' hk hki (hno k hk hkl) he (hf k hk hkl)
    ·refine wpOp_mono ?_ (hs γ i a w hil' hip ho hg (fun k hk hd => hf k hk (ready_dep hi hd)))
     rintro a' w' ⟨ho',hk',he,hv,hg'⟩
     refine ⟨by simp [hls],.inr ⟨?_,hcl',ho',γ,hg',?_,?_⟩⟩
     ·rw [getD_set (by omega),if_neg (by omega)];exact h1
     ·intro h;rw [getD_set (by omega),if_neg (fun e => hip e.symm)] at h;exact hγ h
     ·intro k hk hkl
      by_cases hki:k = i
      ·subst hki;exact hv
      ·rw [getD_set (by omega),if_neg hki] at hkl
       rw [hk' k hk hki (hno k hk hkl)]
       exact hF γ k _ w w' hk (he.imp (fun h => h) (fun h => ⟨fun e => hki (e.trans h.1.symm),by have:=hno k hk hkl;rwa [h.1] at this,h.2⟩)) (hf k hk hkl)
theorem run_app_new (w:World) (ty:TypeId) (h gc oc m c:Nat) (E:List Nat) (hm:E.length = m) (h0:0 < m) (hl:m ≤ 100000000000000) (hc:∀ (j:Nat) u,(bs E)[j]? = some u → w.cell? ⟨gc,oc + j,none⟩ = some u) :
  ∃ (cap:Nat) (xs:Array Value) (w':World),(Builtin.append_ #[69,69] ty #[.slice (some ⟨h,0,none⟩) 0 0,.slice (some ⟨gc,oc,none⟩) m c]).run Tryd.prog w = .ok (.slice (some ⟨w.heap.size,0,none⟩) m cap) w' ∧
   w' = w.drew.alloc (.cells xs 5) ∧ OwnB w' w.heap.size (.slice (some ⟨w.heap.size,0,none⟩) m cap) E:=by
 subst hm
 obtain ⟨i0,hi0,hz0,hz1,hz2⟩:=info_parts info_u8
 have hadd:∀ j,(⟨gc,oc,none⟩:Addr).add j = ⟨gc,oc + j,none⟩:=fun j => by unfold Addr.add;split <;> simp_all
 have hr:=run_append_grow (P:=Tryd.prog) w 69 ty 5 i0 (.int .u8 0) Tryd.underlying69 hi0 hz0 ⟨h,0,none⟩ 0 0 [] (by simp) (fun j v e => by simp at e) ⟨gc,oc,none⟩ E.length c (bs E) (by rw [hz1,bs_len,Nat.mul_one]) (fun j v e => by rw [hadd];exact hc j v e) (by omega) (by omega) (growslice_fits (by omega) (by rw [hz2];omega))
 have hge:=grownCap_ge w (0 + E.length) 0 5
 have hcm:grownCap w (0 + E.length) 0 5 ≤ maxLen:=grownCap_le_maxLen w (0 + E.length) 0 5 (by simp only [maxLen];omega)
 simp only [Nat.zero_add] at hr hge hcm
 refine ⟨_,_,_,hr,rfl,?_⟩
 unfold OwnB
 refine ⟨by rw [bs_len,Nat.mul_one],.inr ⟨w.heap.size,_,_,rfl,Nat.le_refl _,heap_alloc_new w.drew _,hge,hcm,?_,?_⟩⟩
 ·simp only [Array.size_append,List.size_toArray,size_zeroCells,List.length_nil,bs_len,Nat.zero_add]
  have hcz:(Value.int .u8 0).cells.size = 1:=rfl
  rw [hcz]
  omega
 ·simp only [Array.toList_append,List.nil_append,Nat.mul_one]
  rw [← bs_len E]
  exact List.take_left
theorem run_app_one (w:World) (ty:TypeId) (S g g1 m cap x:Nat) (E:List Nat) (hm:E.length = m) (hS:S ≤ w.heap.size) (hl:m ≤ 100000000000000) (ho:OwnB w S (.slice (some ⟨g,0,none⟩) m cap) E) (hc:Arr w g1 1 5 [.int .u8 (x:Int)]) :
  ∃ (v':Value) (w':World),(Builtin.append_ #[69,69] ty #[.slice (some ⟨g,0,none⟩) m cap,.slice (some ⟨g1,0,none⟩) 1 1]).run Tryd.prog w = .ok v' w' ∧ OwnB w' S v' (E ++ [x]) ∧ w.grownBy w' (some g) ∧ OwnB w' S (.slice (some ⟨g,0,none⟩) m cap) E:=by
 subst hm
 obtain ⟨i0,hi0,hz0,hz1,hz2⟩:=info_parts info_u8
 have hadd:∀ j,(⟨g1,0,none⟩:Addr).add j = ⟨g1,0 + j,none⟩:=fun j => by unfold Addr.add;split <;> simp_all
 have hn:∀ (j:Nat) u,([Value.int .u8 (x:Int)]:List Value)[j]? = some u → w.cell? ((⟨g1,0,none⟩:Addr).add j) = some u:=fun j u e => by rw [hadd];exact hc.range j u e
 have h1:∀ u ∈ ([Value.int .u8 (x:Int)]:List Value),u.oneCell' = true:=by intro u hu;simp at hu;subst hu;rfl
 have ho':w.ownsRow S 5 1 (.slice (some ⟨g,0,none⟩) E.length cap) E.length (bs E):=ho
 obtain ⟨v',w',hr,h2,h3,_⟩:=run_append_own (P:=Tryd.prog) w S 69 ty 5 i0 (.int .u8 0) 1 1 Tryd.underlying69 hi0 hz0 hz1 hz2 rfl (by decide) _ E.length (bs E) ho' ⟨g1,0,none⟩ 1 1 [.int .u8 (x:Int)] rfl hn h1 (by simp only [maxLen];omega) (by omega) hS
 refine ⟨v',w',hr,?_,h3,?_⟩
 ·unfold OwnB
  rw [bs_app,bs_one,List.length_append]
  exact h2
 ·obtain ⟨he,hx | ⟨g',cap',cur,hv,hbg,hg,hnc,hcm,hcs,htake⟩⟩:=ho'
  ·cases hx.1
  ·cases hv
   by_cases hroom:E.length + 1 ≤ cap
   ·have hfit:E.length * i0.size + ([Value.int .u8 (x:Int)]:List Value).length ≤ cur.size:=by rw [hz1,hcs];simp;omega
    have hr2:=run_append_room (P:=Tryd.prog) w 69 ty 5 i0 Tryd.underlying69 hi0 g E.length cap cur hg ⟨g1,0,none⟩ 1 1 [.int .u8 (x:Int)] (by rw [hz1];rfl) hn h1 hroom hfit
    rw [hr] at hr2
    injection hr2 with e1 e2
    subst e2
    unfold OwnB
    refine ⟨he,.inr ⟨g,cap,_,rfl,hbg,setRow_heap w g cur _ 5 _ hg,hnc,hcm,?_,?_⟩⟩
    ·simp only [List.size_toArray,List.length_append,List.length_take,List.length_drop,Array.length_toList,hz1,List.length_cons,List.length_nil]
     rw [hcs]
     omega
    ·rw [hz1,htake,List.append_assoc,← he]
     exact List.take_left
   ·have hr2:=run_append_grow (P:=Tryd.prog) w 69 ty 5 i0 (.int .u8 0) Tryd.underlying69 hi0 hz0 ⟨g,0,none⟩ E.length cap (bs E) (by rw [he,hz1]) (fun j v e => World.ownsRow.cells (w:=w) (base:=S) ⟨he,.inr ⟨g,cap,cur,rfl,hbg,hg,hnc,hcm,hcs,htake⟩⟩ (g:=g) rfl j v e) ⟨g1,0,none⟩ 1 1 [.int .u8 (x:Int)] (by rw [hz1];rfl) hn (by omega) (by omega) (growslice_fits (by omega) (by rw [hz2];omega))
    rw [hr] at hr2
    injection hr2 with e1 e2
    subst e2
    unfold OwnB
    exact ⟨he,.inr ⟨g,cap,cur,rfl,hbg,by rw [← hg];exact (new_later w.drew _).block g (Array.getElem?_eq_some_iff.1 hg).1,hnc,hcm,hcs,htake⟩⟩
theorem OwnB.grownB {w w':World} {S:Nat} {v:Value} {zs:List Nat} {row:Option Nat} (h:OwnB w S v zs) (hg:w.grownBy w' row) (hne:v.ownBlock = none ∨ v.ownBlock ≠ row):OwnB w' S v zs:=World.ownsRow.kept h hg hne
theorem OwnB.fresh {w:World} {S:Nat} {v:Value} {zs:List Nat} (h:OwnB w S v zs) {g:Nat} (hg:g = w.heap.size):v.ownBlock = none ∨ v.ownBlock ≠ some g:=by
 rcases hb:v.ownBlock with _ | k
 ·exact .inl rfl
 ·have:=(World.ownsRow.lt h k hb).2
  exact .inr (fun e => by cases e;omega)
theorem own_same {w w':World} {S g lc cap cap2:Nat} {E:List Nat} (h5:OwnB w S (.slice (some ⟨g,0,none⟩) lc cap2) E) (hO:OwnB w S (.slice (some ⟨g,0,none⟩) lc cap) E) (h4:OwnB w' S (.slice (some ⟨g,0,none⟩) lc cap) E):OwnB w' S (.slice (some ⟨g,0,none⟩) lc cap2) E:=by
 obtain ⟨_,h | ⟨g1,k1,c1,hv1,_,hg1,_,_,hs1,_⟩⟩:=h5
 ·cases h.1
 obtain ⟨_,h | ⟨g2,k2,c2,hv2,_,hg2,_,_,hs2,_⟩⟩:=hO
 ·cases h.1
 cases hv1
 cases hv2
 rw [hg1] at hg2
 have e:=Option.some.inj hg2
 injection e with e1
 subst e1
 have:cap2 = cap:=by omega
 subst this
 exact h4
def vccf19 (gc oc lc cc k ld cd l5 c5 x g20 g22:Nat) (Ad A5:Option Addr) (E F60 EN EM:List Nat) (tn tm:Tr) (C20 C22:List Value) (S:Nat):Option Nat → Nat → Value → World → Prop
 | γ,0,v,w => v = .slice (some ⟨gc,oc,none⟩) lc cc
 | γ,1,v,w => v = .slice Ad ld cd
 | γ,2,v,w => v = .slice (some ⟨gc,oc,none⟩) lc cc
 | γ,3,v,w => v = .int .i64 (k:Int)
 | γ,4,v,w => v = .slice (some ⟨gc,oc,none⟩) k cc
 | γ,5,v,w => ∃ h:Nat,v = .slice (some ⟨h,0,none⟩) 0 0
 | γ,6,v,w => v = .slice (some ⟨gc,oc,none⟩) lc cc
 | γ,7,v,w => ∃ g cap:Nat,γ = some g ∧ v = .slice (some ⟨g,0,none⟩) lc cap ∧ S ≤ g ∧ OwnB w S v E
 | γ,8,v,w => v = .int .u8 (x:Int)
 | γ,9,v,w => ∃ g1:Nat,v = .slice (some ⟨g1,0,none⟩) 1 1 ∧ S ≤ g1 ∧ γ ≠ some g1 ∧ Arr w g1 1 5 [.int .u8 (x:Int)]
 | γ,10,v,w => OwnB w S v (E ++ [x])
 | γ,11,v,w => v = .slice A5 l5 c5
 | γ,12,v,w => OwnB w S v F60 ∧ (v.ownBlock = none ∨ v.ownBlock ≠ γ)
 | γ,13,v,w => v = .agg C20.toArray
 | γ,14,v,w => OwnB w S v EN ∧ (v.ownBlock = none ∨ v.ownBlock ≠ γ)
 | γ,15,v,w => v = .agg C22.toArray
 | γ,16,v,w => OwnB w S v EM ∧ (v.ownBlock = none ∨ v.ownBlock ≠ γ)
 | γ,17,v,w => ∃ (g:Nat) (x1 x2 x3 x4:Value),v = .slice (some ⟨g,0,none⟩) 7 7 ∧ S ≤ g ∧ Arr w g 7 69 [.slice (some ⟨gc,oc,none⟩) lc cc,.slice Ad ld cd,.slice (some ⟨gc,oc,none⟩) k cc,x1,x2,x3,x4] ∧ OwnB w S x1 (E ++ [x]) ∧ OwnB w S x2 F60 ∧ OwnB w S x3 EN ∧ OwnB w S x4 EM
 | _,_,_,_ => True
def vccEp19 (lc:Nat) (E:List Nat) (S:Nat) (γ:Option Nat) (w w':World):Prop:=∃ g:Nat,γ = some g ∧ w.grownBy w' (some g) ∧ ∀ cap:Nat,OwnB w S (.slice (some ⟨g,0,none⟩) lc cap) E → OwnB w' S (.slice (some ⟨g,0,none⟩) lc cap) E
def vccEa19 (g:Nat) (w w':World):Prop:=∃ xs:Array Value,g = w.heap.size ∧ w' = w.drew.alloc (.cells xs 5)
theorem vccEa19_below {g:Nat} {w w':World} (h:vccEa19 g w w'):Below w.heap.size w w':=by
 obtain ⟨xs,rfl,rfl⟩:=h
 exact later (below_drewN (Below.refl _ _) 1) (new_later w.drew _)
theorem vccf19_ext {ops:Array Oper} (hops:ops = ((Tryd.f7.body).bind (opsOf 19)).getD #[]) (gc oc lc cc k ld cd l5 c5 x g20 g22:Nat) (Ad A5:Option Addr) (E F60 EN EM:List Nat) (tn tm:Tr) (C20 C22:List Value) (S:Nat):∀ γ j v w w',j < 18 → (Ext S w w' ∨ (j ≠ 10 ∧ depB ops j 10 = false ∧ vccEp19 lc E S γ w w')) → vccf19 gc oc lc cc k ld cd l5 c5 x g20 g22 Ad A5 E F60 EN EM tn tm C20 C22 S γ j v w → vccf19 gc oc lc cc k ld cd l5 c5 x g20 g22 Ad A5 E F60 EN EM tn tm C20 C22 S γ j v w':=by
 intro γ j v w w' hj he h
 match j,hj,he,h with
 | 0,_,he,h => exact h
 | 1,_,he,h => exact h
 | 2,_,he,h => exact h
 | 3,_,he,h => exact h
 | 4,_,he,h => exact h
 | 5,_,he,h => exact h
 | 6,_,he,h => exact h
 | 7,_,he,h => obtain ⟨g,cap,e0,e1,e2,e3⟩:=h;exact he.elim (fun q => ⟨g,cap,e0,e1,e2,OwnB.extc e3 q⟩) (fun q => by obtain ⟨g',eg,_,q4⟩:=q.2.2;obtain rfl:g = g':=Option.some.inj (e0.symm.trans eg);exact ⟨g,cap,e0,e1,e2,by rw [e1] at e3 ⊢;exact q4 cap e3⟩)
 | 8,_,he,h => exact h
 | 9,_,he,h => obtain ⟨g1,e0,e1,e2,e3⟩:=h;exact he.elim (fun q => ⟨g1,e0,e1,e2,e3.ext q e1⟩) (fun q => by obtain ⟨g,eg,q3,_⟩:=q.2.2;exact ⟨g1,e0,e1,e2,World.ownsRow.kept e3 q3 (.inr (fun e => e2 (by rw [eg];exact e.symm)))⟩)
 | 10,_,he,h => exact he.elim (fun q => OwnB.extc h q) (fun q => absurd rfl q.1)
 | 11,_,he,h => exact h
 | 12,_,he,h => exact he.elim (fun q => ⟨OwnB.extc h.1 q,h.2⟩) (fun q => by obtain ⟨g,eg,q3,_⟩:=q.2.2;exact ⟨h.1.grownB q3 (by rw [← eg];exact h.2),h.2⟩)
 | 13,_,he,h => exact h
 | 14,_,he,h => exact he.elim (fun q => ⟨OwnB.extc h.1 q,h.2⟩) (fun q => by obtain ⟨g,eg,q3,_⟩:=q.2.2;exact ⟨h.1.grownB q3 (by rw [← eg];exact h.2),h.2⟩)
 | 15,_,he,h => exact h
 | 16,_,he,h => exact he.elim (fun q => ⟨OwnB.extc h.1 q,h.2⟩) (fun q => by obtain ⟨g,eg,q3,_⟩:=q.2.2;exact ⟨h.1.grownB q3 (by rw [← eg];exact h.2),h.2⟩)
 | 17,_,he,h => obtain ⟨g,x1,x2,x3,x4,e0,e1,e2,e3,e4,e5,e6⟩:=h;exact he.elim (fun q => ⟨g,x1,x2,x3,x4,e0,e1,e2.ext q e1,OwnB.extc e3 q,OwnB.extc e4 q,OwnB.extc e5 q,OwnB.extc e6 q⟩) (fun q => absurd q.2.1 (by rw [show depB ops 17 10 = true by subst hops;kernel_rfl];decide))
 | n + 18,hn,_,_ => exact absurd hn (by omega)
theorem vccf19_new {ops:Array Oper} (hops:ops = ((Tryd.f7.body).bind (opsOf 19)).getD #[]) (gc oc lc cc k ld cd l5 c5 x g20 g22:Nat) (Ad A5:Option Addr) (E F60 EN EM:List Nat) (tn tm:Tr) (C20 C22:List Value) (S:Nat):∀ g j v w w',j < 18 → j ≠ 7 → depB ops j 7 = false → vccEa19 g w w' → vccf19 gc oc lc cc k ld cd l5 c5 x g20 g22 Ad A5 E F60 EN EM tn tm C20 C22 S none j v w → vccf19 gc oc lc cc k ld cd l5 c5 x g20 g22 Ad A5 E F60 EN EM tn tm C20 C22 S (some g) j v w':=by
 intro g j v w w' hj hjp hdp he h
 have hb:=vccEa19_below he
 have hgg:g = w.heap.size:=he.elim fun _ h => h.1
 match j,hj,hjp,hdp,h with
 | 0,_,hjp,hdp,h => exact h
 | 1,_,hjp,hdp,h => exact h
 | 2,_,hjp,hdp,h => exact h
 | 3,_,hjp,hdp,h => exact h
 | 4,_,hjp,hdp,h => exact h
 | 5,_,hjp,hdp,h => exact h
 | 6,_,hjp,hdp,h => exact h
 | 7,_,hjp,hdp,h => exact absurd rfl hjp
 | 8,_,hjp,hdp,h => exact h
 | 9,_,hjp,hdp,h => obtain ⟨g1,e0,e1,e2,e3⟩:=h;exact ⟨g1,e0,e1,fun e => by have:=Option.some.inj e;have:=e3.lt;omega,e3.later hb⟩
 | 10,_,hjp,hdp,h => exact h.below hb
 | 11,_,hjp,hdp,h => exact h
 | 12,_,hjp,hdp,h => exact ⟨h.1.below hb,h.1.fresh hgg⟩
 | 13,_,hjp,hdp,h => exact h
 | 14,_,hjp,hdp,h => exact ⟨h.1.below hb,h.1.fresh hgg⟩
 | 15,_,hjp,hdp,h => exact h
 | 16,_,hjp,hdp,h => exact ⟨h.1.below hb,h.1.fresh hgg⟩
 | 17,_,hjp,hdp,h => obtain ⟨g2,x1,x2,x3,x4,e0,e1,e2,e3,e4,e5,e6⟩:=h;exact ⟨g2,x1,x2,x3,x4,e0,e1,e2.later hb,e3.below hb,e4.below hb,e5.below hb,e6.below hb⟩
 | n + 18,hn,_,_,_ => exact absurd hn (by omega)
def vccD19:List Nat:=[101,102,103,104,105,106,107,108,109,110,111,112,113,114,115,116,117,118]
def vccd19 (k:Nat):Nat:=[101,102,103,104,105,106,107,108,109,110,111,112,113,114,115,116,117,118].getD k 0
theorem vccd19_mem:∀ k,k < 18 → vccd19 k < 158 ∧ vccd19 k ∈ vccD19:=by decide
theorem vccd19_inj:∀ i,i < 18 → ∀ k,k < 18 → k ≠ i → vccd19 i ≠ vccd19 k:=by decide
set_option maxHeartbeats 4000000 in
set_option maxRecDepth 100000 in
theorem vccreg19 {Q:Exit → Act → World → Prop} {id:Nat} {ops:Array Oper} (hops:ops = ((Tryd.f7.body).bind (opsOf 19)).getD #[]) (a0:Act) (w0:World) (gc oc lc cc k ld cd l5 c5 x g20 g22:Nat) (Ad A5:Option Addr) (E F60 EN EM:List Nat) (tn tm:Tr) (C20 C22:List Value) (hsz:a0.tmps.size = 158)
  (h17:ag a0 17 = .slice (some ⟨gc,oc,none⟩) lc cc) (h19:ag a0 19 = .slice Ad ld cd) (h18:ag a0 18 = .int .i64 (k:Int)) (h4:ag a0 4 = .int .u8 (x:Int)) (h5:ag a0 5 = .slice A5 l5 c5) (h20:ag a0 20 = .pointer (some ⟨g20,0,none⟩)) (h22:ag a0 22 = .pointer (some ⟨g22,0,none⟩)) (v20:VarAt w0 g20 tn C20) (v22:VarAt w0 g22 tm C22) (hE:E.length = lc) (hlc:lc ≤ 100000000000000) (hlc0:0 < lc) (hcc:∀ (j:Nat) u,(bs E)[j]? = some u → w0.cell? ⟨gc,oc + j,none⟩ = some u) (hgc:gc < w0.heap.size) (hkl:(k:Int) ≤ (cc:Int)) (hk0:(0:Int) ≤ (k:Int)) (hkc:k ≤ cc) (hfw:∀ W,Below w0.heap.size w0 W → Calls Tryd.prog 39 #[.slice A5 l5 c5,.int .i64 60] W fun e w' => ∃ v',e = .returned v' ∧ OwnB w' W.heap.size v' F60 ∧ Below W.heap.size W w') (hen:∀ W,Below w0.heap.size w0 W → Calls Tryd.prog 37 #[.agg C20.toArray] W fun e w' => ∃ v',e = .returned v' ∧ OwnB w' W.heap.size v' EN ∧ Below W.heap.size W w') (hem:∀ W,Below w0.heap.size w0 W → Calls Tryd.prog 37 #[.agg C22.toArray] W fun e w' => ∃ v',e = .returned v' ∧ OwnB w' W.heap.size v' EM ∧ Below W.heap.size W w')
  (hQ:∀ (vs:Nat → Value) (w':World) (g:Nat) (x1 x2 x3 x4:Value),vs 24 = .slice (some ⟨g,0,none⟩) 7 7 → w0.heap.size ≤ g → Arr w' g 7 69 [.slice (some ⟨gc,oc,none⟩) lc cc,.slice Ad ld cd,.slice (some ⟨gc,oc,none⟩) k cc,x1,x2,x3,x4] → OwnB w' w0.heap.size x1 (E ++ [x]) → OwnB w' w0.heap.size x2 F60 → OwnB w' w0.heap.size x3 EN → OwnB w' w0.heap.size x4 EM → Below w0.heap.size w0 w' → ∀ a',a' = (vccD19 ++ [24]).foldl (fun b s => b.put (some s) (vs s)) a0 → Q .normal a' w') :
  (Code.region id ops true).wp Tryd.prog Q a0 w0:=by
 have hg0:Below w0.heap.size w0 w0.drew:=below_drewN (Below.refl _ _) 1
 have hlt:∀ k,k < 18 → vccd19 k < a0.tmps.size:=fun k hk => by have:=(vccd19_mem k hk).1;omega
 refine wp_region_factsH 18 7 10 vccD19 vccd19 (vccf19 gc oc lc cc k ld cd l5 c5 x g20 g22 Ad A5 E F60 EN EM tn tm C20 C22 w0.heap.size) (fun γ w => Below w0.heap.size w0 w ∧ ∀ g,γ = some g → g < w.heap.size) w0.heap.size vccEa19 (vccEp19 lc E w0.heap.size) (fun k => k) (by kernel_rfl) (by subst hops;kernel_rfl) (by subst hops;kernel_rfl) (by subst hops;kernel_rfl) (by decide) (vccf19_ext hops gc oc lc cc k ld cd l5 c5 x g20 g22 Ad A5 E F60 EN EM tn tm C20 C22 w0.heap.size) (vccf19_new hops gc oc lc cc k ld cd l5 c5 x g20 g22 Ad A5 E F60 EN EM tn tm C20 C22 w0.heap.size) ⟨hg0,fun _ h => by cases h⟩ ?_ ?_ ?_
 ·intro γ j a w hj hjp ho hG hd
  have hg:=hG.1
  have hgs:=hg.size
  match j,hj,hjp,hd with
  | 0,hk,hjp,hd =>
   have s:(ops[0]?).map sig = some (some 101,.move (.tmp 17),69,none):=by subst hops;kernel_rfl
   have hgd:GdOk ops a none:=trivial
   have e0:ag a 17 = .slice (some ⟨gc,oc,none⟩) lc cc:=(ho.off 17 (by decide)).trans h17
   refine op_valg s hgd (w':=w) (v:=.slice (some ⟨gc,oc,none⟩) lc cc) ?_ ?_
   ·exact congrArg (fun x => Result.ok (Next.value x) w) e0
   ·exact PostE.put (i:=0) ho (vccd19_mem 0 hk).2 (hlt 0 hk) (fun k hk2 hne _ => vccd19_inj 0 hk k hk2 hne) (.inl (Ext.refl _ _)) rfl hG
  | 1,hk,hjp,hd =>
   have s:(ops[1]?).map sig = some (some 102,.move (.tmp 19),69,none):=by subst hops;kernel_rfl
   have hgd:GdOk ops a none:=trivial
   have e0:ag a 19 = .slice Ad ld cd:=(ho.off 19 (by decide)).trans h19
   refine op_valg s hgd (w':=w) (v:=.slice Ad ld cd) ?_ ?_
   ·exact congrArg (fun x => Result.ok (Next.value x) w) e0
   ·exact PostE.put (i:=1) ho (vccd19_mem 1 hk).2 (hlt 1 hk) (fun k hk2 hne _ => vccd19_inj 1 hk k hk2 hne) (.inl (Ext.refl _ _)) rfl hG
  | 2,hk,hjp,hd =>
   have s:(ops[2]?).map sig = some (some 103,.move (.tmp 17),69,none):=by subst hops;kernel_rfl
   have hgd:GdOk ops a none:=trivial
   have e0:ag a 17 = .slice (some ⟨gc,oc,none⟩) lc cc:=(ho.off 17 (by decide)).trans h17
   refine op_valg s hgd (w':=w) (v:=.slice (some ⟨gc,oc,none⟩) lc cc) ?_ ?_
   ·exact congrArg (fun x => Result.ok (Next.value x) w) e0
   ·exact PostE.put (i:=2) ho (vccd19_mem 2 hk).2 (hlt 2 hk) (fun k hk2 hne _ => vccd19_inj 2 hk k hk2 hne) (.inl (Ext.refl _ _)) rfl hG
  | 3,hk,hjp,hd =>
   have s:(ops[3]?).map sig = some (some 104,.move (.tmp 18),3,none):=by subst hops;kernel_rfl
   have hgd:GdOk ops a none:=trivial
   have e0:ag a 18 = .int .i64 (k:Int):=(ho.off 18 (by decide)).trans h18
   refine op_valg s hgd (w':=w) (v:=.int .i64 (k:Int)) ?_ ?_
   ·exact congrArg (fun x => Result.ok (Next.value x) w) e0
   ·exact PostE.put (i:=3) ho (vccd19_mem 3 hk).2 (hlt 3 hk) (fun k hk2 hne _ => vccd19_inj 3 hk k hk2 hne) (.inl (Ext.refl _ _)) rfl hG
  | 4,hk,hjp,hd =>
   have s:(ops[4]?).map sig = some (some 105,.slice 69 (.tmp 103) none (some (.tmp 104)) none,69,none):=by subst hops;kernel_rfl
   have hgd:GdOk ops a none:=trivial
   have d2:=hd 2 (by decide) (by subst hops;kernel_rfl)
   have d3:=hd 3 (by decide) (by subst hops;kernel_rfl)
   have e0:ag a 103 = .slice (some ⟨gc,oc,none⟩) lc cc:=d2
   have e1:ag a 104 = .int .i64 (k:Int):=d3
   refine op_valg s hgd (w':=w) (v:=.slice (some ⟨gc,oc,none⟩) k cc) ?_ ?_
   ·simp only [execOp]
    go_simp
    rw [show a.tmps[103]?.getD undef = (.slice (some ⟨gc,oc,none⟩) lc cc) by simpa [ag] using e0]
    rw [show a.tmps[104]?.getD undef = (.int .i64 (k:Int)) by simpa [ag] using e1]
    go_simp
   ·exact PostE.put (i:=4) ho (vccd19_mem 4 hk).2 (hlt 4 hk) (fun k hk2 hne _ => vccd19_inj 4 hk k hk2 hne) (.inl (Ext.refl _ _)) rfl hG
  | 5,hk,hjp,hd =>
   have s:(ops[5]?).map sig = some (some 106,.buildSlice 69 0 #[],69,none):=by subst hops;kernel_rfl
   have hgd:GdOk ops a none:=trivial
   refine op_valg s hgd (w':=w.alloc (.cells #[] 5)) (v:=.slice (some ⟨w.heap.size,0,none⟩) 0 0) ?_ ?_
   ·simp only [execOp,List.map_toArray,List.map_nil]
    go_simp
   ·exact PostE.put (i:=5) ho (vccd19_mem 5 hk).2 (hlt 5 hk) (fun k hk2 hne _ => vccd19_inj 5 hk k hk2 hne) (.inl (Ext.of (new_later w _))) ⟨_,rfl⟩ ⟨later hg (new_later w _),fun g h => Nat.lt_of_lt_of_le (hG.2 g h) (new_later w _).size⟩
  | 6,hk,hjp,hd =>
   have s:(ops[6]?).map sig = some (some 107,.move (.tmp 17),69,none):=by subst hops;kernel_rfl
   have hgd:GdOk ops a none:=trivial
   have e0:ag a 17 = .slice (some ⟨gc,oc,none⟩) lc cc:=(ho.off 17 (by decide)).trans h17
   refine op_valg s hgd (w':=w) (v:=.slice (some ⟨gc,oc,none⟩) lc cc) ?_ ?_
   ·exact congrArg (fun x => Result.ok (Next.value x) w) e0
   ·exact PostE.put (i:=6) ho (vccd19_mem 6 hk).2 (hlt 6 hk) (fun k hk2 hne _ => vccd19_inj 6 hk k hk2 hne) (.inl (Ext.refl _ _)) rfl hG
  | 7,hk,hjp,hd =>
   have s:(ops[7]?).map sig = some (some 108,.call { callee:=.builtin .append,args:=#[.tmp 106,.tmp 107],argTypes:=#[69,69] },69,none):=by subst hops;kernel_rfl
   have hgd:GdOk ops a none:=trivial
   have d5:=hd 5 (by decide) (by subst hops;kernel_rfl)
   have d6:=hd 6 (by decide) (by subst hops;kernel_rfl)
   exact absurd rfl hjp
  | 8,hk,hjp,hd =>
   have s:(ops[8]?).map sig = some (some 109,.move (.tmp 4),5,none):=by subst hops;kernel_rfl
   have hgd:GdOk ops a none:=trivial
   have e0:ag a 4 = .int .u8 (x:Int):=(ho.off 4 (by decide)).trans h4
   refine op_valg s hgd (w':=w) (v:=.int .u8 (x:Int)) ?_ ?_
   ·exact congrArg (fun x => Result.ok (Next.value x) w) e0
   ·exact PostE.put (i:=8) ho (vccd19_mem 8 hk).2 (hlt 8 hk) (fun k hk2 hne _ => vccd19_inj 8 hk k hk2 hne) (.inl (Ext.refl _ _)) rfl hG
  | 9,hk,hjp,hd =>
   have s:(ops[9]?).map sig = some (some 110,.buildSlice 69 1 #[(0,.tmp 109)],69,none):=by subst hops;kernel_rfl
   have hgd:GdOk ops a none:=trivial
   have d8:=hd 8 (by decide) (by subst hops;kernel_rfl)
   have e0:ag a 109 = .int .u8 (x:Int):=d8
   refine op_valg s hgd (w':=w.alloc (.cells #[.int .u8 (x:Int)] 5)) (v:=.slice (some ⟨w.heap.size,0,none⟩) 1 1) ?_ ?_
   ·simp only [execOp,List.map_toArray,List.map_cons,List.map_nil,eval_tmp,e0]
    go_simp
   ·exact PostE.put (i:=9) ho (vccd19_mem 9 hk).2 (hlt 9 hk) (fun k hk2 hne _ => vccd19_inj 9 hk k hk2 hne) (.inl (Ext.of (new_later w _))) ⟨_,rfl,hgs,fun e => by have:=hG.2 _ e;omega,Arr.new' w _ _ 1 _ rfl rfl (by decide)⟩ ⟨later hg (new_later w _),fun g h => Nat.lt_of_lt_of_le (hG.2 g h) (new_later w _).size⟩
  | 10,hk,hjp,hd =>
   have s:(ops[10]?).map sig = some (some 111,.call { callee:=.builtin .append,args:=#[.tmp 108,.tmp 110],argTypes:=#[69,69] },69,none):=by subst hops;kernel_rfl
   have hgd:GdOk ops a none:=trivial
   have d7:=hd 7 (by decide) (by subst hops;kernel_rfl)
   have d9:=hd 9 (by decide) (by subst hops;kernel_rfl)
   obtain ⟨g,cap,eg,e0,hgS,hO⟩:=d7
   obtain ⟨g1,e1,hg1S,hne1,hA1⟩:=d9
   rw [e0] at hO
   have e0:a.eval (.tmp 108) = .slice (some ⟨g,0,none⟩) lc cap:=e0
   have e1:a.eval (.tmp 110) = .slice (some ⟨g1,0,none⟩) 1 1:=e1
   obtain ⟨v',w',hr,h2,h3,h4⟩:=run_app_one w 69 w0.heap.size g g1 lc cap x E hE hgs hlc hO hA1
   have hb:Below w0.heap.size w w':=(Below.refl _ _).grown h3 hgs (fun k hk => by cases hk;exact hgS)
   refine op_valg s hgd (w':=w') (v:=v') ?_ ?_
   ·simp only [execOp,resolve,invoke,builtin,Sem.run_bind,Sem.run_pure,Result.andThen_ok,List.map_toArray,List.map_cons,List.map_nil,e0,e1,hr]
   ·exact ⟨ho.put (vccd19_mem 10 hk).2,fun k hk2 hne _ => ag_ne (vccd19_inj 10 hk k hk2 hne),.inr ⟨rfl,g,eg,h3,fun cap2 h5 => own_same h5 hO h4⟩,by rw [show vccd19 10 = 111 from rfl,ag_put (by rw [ho.size,hsz];decide)];exact h2,hg.trans hb,fun g' h => Nat.lt_of_lt_of_le (hG.2 g' h) h3.size⟩
  | 11,hk,hjp,hd =>
   have s:(ops[11]?).map sig = some (some 112,.move (.tmp 5),69,none):=by subst hops;kernel_rfl
   have hgd:GdOk ops a none:=trivial
   have e0:ag a 5 = .slice A5 l5 c5:=(ho.off 5 (by decide)).trans h5
   refine op_valg s hgd (w':=w) (v:=.slice A5 l5 c5) ?_ ?_
   ·exact congrArg (fun x => Result.ok (Next.value x) w) e0
   ·exact PostE.put (i:=11) ho (vccd19_mem 11 hk).2 (hlt 11 hk) (fun k hk2 hne _ => vccd19_inj 11 hk k hk2 hne) (.inl (Ext.refl _ _)) rfl hG
  | 12,hk,hjp,hd =>
   have s:(ops[12]?).map sig = some (some 113,.call { callee:=.value (.func 39),args:=#[.tmp 112,.const (.int .i64 60)],argTypes:=#[69,3] },69,none):=by subst hops;kernel_rfl
   have hgd:GdOk ops a none:=trivial
   have d11:=hd 11 (by decide) (by subst hops;kernel_rfl)
   have e0:ag a 112 = .slice A5 l5 c5:=d11
   refine op_callg s hgd (w':=w) (f:=39) (args:=#[.slice A5 l5 c5,.int .i64 60]) ?_ ?_
   ·simp only [execOp]
    go_simp
    simpa [ag] using e0
   ·refine (hfw w hg).mono ?_
    rintro e w' ⟨v',rfl,ho2,hb⟩
    exact ⟨_,rfl,PostE.put (i:=12) ho (vccd19_mem 12 hk).2 (hlt 12 hk) (fun k hk2 hne _ => vccd19_inj 12 hk k hk2 hne) (.inl (Ext.of hb)) ⟨ho2.less hgs,by rcases hq:v'.ownBlock with _ | kk;exact .inl rfl;exact .inr (fun e => by have h5:=(World.ownsRow.lt ho2 kk hq).1;have h6:=hG.2 kk e.symm;omega)⟩ ⟨later hg hb,fun g h => Nat.lt_of_lt_of_le (hG.2 g h) hb.size⟩⟩
  | 13,hk,hjp,hd =>
   have s:(ops[13]?).map sig = some (some 114,.load 53 (.tmp 20),53,none):=by subst hops;kernel_rfl
   have hgd:GdOk ops a none:=trivial
   have e0:ag a 20 = .pointer (some ⟨g20,0,none⟩):=(ho.off 20 (by decide)).trans h20
   refine op_loadg s hgd g20 0 e0 C20 _ (range_below v20.rg hg) Tryd.underlying53 rfl (by rw [v20.ln];exact info_val) ?_
   exact PostE.put (i:=13) ho (vccd19_mem 13 hk).2 (hlt 13 hk) (fun k hk2 hne _ => vccd19_inj 13 hk k hk2 hne) (.inl (Ext.refl _ _)) rfl hG
  | 14,hk,hjp,hd =>
   have s:(ops[14]?).map sig = some (some 115,.call { callee:=.value (.func 37),args:=#[.tmp 114],argTypes:=#[53] },69,none):=by subst hops;kernel_rfl
   have hgd:GdOk ops a none:=trivial
   have d13:=hd 13 (by decide) (by subst hops;kernel_rfl)
   have e0:ag a 114 = .agg C20.toArray:=d13
   refine op_callg s hgd (w':=w) (f:=37) (args:=#[.agg C20.toArray]) ?_ ?_
   ·simp only [execOp]
    go_simp
    simpa [ag] using e0
   ·refine (hen w hg).mono ?_
    rintro e w' ⟨v',rfl,ho2,hb⟩
    exact ⟨_,rfl,PostE.put (i:=14) ho (vccd19_mem 14 hk).2 (hlt 14 hk) (fun k hk2 hne _ => vccd19_inj 14 hk k hk2 hne) (.inl (Ext.of hb)) ⟨ho2.less hgs,by rcases hq:v'.ownBlock with _ | kk;exact .inl rfl;exact .inr (fun e => by have h5:=(World.ownsRow.lt ho2 kk hq).1;have h6:=hG.2 kk e.symm;omega)⟩ ⟨later hg hb,fun g h => Nat.lt_of_lt_of_le (hG.2 g h) hb.size⟩⟩
  | 15,hk,hjp,hd =>
   have s:(ops[15]?).map sig = some (some 116,.load 53 (.tmp 22),53,none):=by subst hops;kernel_rfl
   have hgd:GdOk ops a none:=trivial
   have e0:ag a 22 = .pointer (some ⟨g22,0,none⟩):=(ho.off 22 (by decide)).trans h22
   refine op_loadg s hgd g22 0 e0 C22 _ (range_below v22.rg hg) Tryd.underlying53 rfl (by rw [v22.ln];exact info_val) ?_
   exact PostE.put (i:=15) ho (vccd19_mem 15 hk).2 (hlt 15 hk) (fun k hk2 hne _ => vccd19_inj 15 hk k hk2 hne) (.inl (Ext.refl _ _)) rfl hG
  | 16,hk,hjp,hd =>
   have s:(ops[16]?).map sig = some (some 117,.call { callee:=.value (.func 37),args:=#[.tmp 116],argTypes:=#[53] },69,none):=by subst hops;kernel_rfl
   have hgd:GdOk ops a none:=trivial
   have d15:=hd 15 (by decide) (by subst hops;kernel_rfl)
   have e0:ag a 116 = .agg C22.toArray:=d15
   refine op_callg s hgd (w':=w) (f:=37) (args:=#[.agg C22.toArray]) ?_ ?_
   ·simp only [execOp]
    go_simp
    simpa [ag] using e0
   ·refine (hem w hg).mono ?_
    rintro e w' ⟨v',rfl,ho2,hb⟩
    exact ⟨_,rfl,PostE.put (i:=16) ho (vccd19_mem 16 hk).2 (hlt 16 hk) (fun k hk2 hne _ => vccd19_inj 16 hk k hk2 hne) (.inl (Ext.of hb)) ⟨ho2.less hgs,by rcases hq:v'.ownBlock with _ | kk;exact .inl rfl;exact .inr (fun e => by have h5:=(World.ownsRow.lt ho2 kk hq).1;have h6:=hG.2 kk e.symm;omega)⟩ ⟨later hg hb,fun g h => Nat.lt_of_lt_of_le (hG.2 g h) hb.size⟩⟩
  | 17,hk,hjp,hd =>
   have s:(ops[17]?).map sig = some (some 118,.buildSlice 72 7 #[(0,.tmp 101),(1,.tmp 102),(2,.tmp 105),(3,.tmp 111),(4,.tmp 113),(5,.tmp 115),(6,.tmp 117)],72,none):=by subst hops;kernel_rfl
   have hgd:GdOk ops a none:=trivial
   have d0:=hd 0 (by decide) (by subst hops;kernel_rfl)
   have d1:=hd 1 (by decide) (by subst hops;kernel_rfl)
   have d4:=hd 4 (by decide) (by subst hops;kernel_rfl)
   have d10:=hd 10 (by decide) (by subst hops;kernel_rfl)
   have d12:=hd 12 (by decide) (by subst hops;kernel_rfl)
   have d14:=hd 14 (by decide) (by subst hops;kernel_rfl)
   have d16:=hd 16 (by decide) (by subst hops;kernel_rfl)
   have hw1:OwnB w w0.heap.size (ag a 111) (E ++ [x]):=d10
   have hw2:OwnB w w0.heap.size (ag a 113) F60:=d12.1
   have hw3:OwnB w w0.heap.size (ag a 115) EN:=d14.1
   have hw4:OwnB w w0.heap.size (ag a 117) EM:=d16.1
   obtain ⟨A1,k1,hv1,_⟩:=hw1.shape
   obtain ⟨A2,k2,hv2,_⟩:=hw2.shape
   obtain ⟨A3,k3,hv3,_⟩:=hw3.shape
   obtain ⟨A4,k4,hv4,_⟩:=hw4.shape
   rw [hv1] at hw1
   rw [hv2] at hw2
   rw [hv3] at hw3
   rw [hv4] at hw4
   generalize (E ++ [x]).length = n1 at hv1 hw1
   generalize F60.length = n2 at hv2 hw2
   generalize EN.length = n3 at hv3 hw3
   generalize EM.length = n4 at hv4 hw4
   have q0:a.eval (.tmp 101) = .slice (some ⟨gc,oc,none⟩) lc cc:=d0
   have q1:a.eval (.tmp 102) = .slice Ad ld cd:=d1
   have q2:a.eval (.tmp 105) = .slice (some ⟨gc,oc,none⟩) k cc:=d4
   have q3:a.eval (.tmp 111) = .slice A1 n1 k1:=hv1
   have q4:a.eval (.tmp 113) = .slice A2 n2 k2:=hv2
   have q5:a.eval (.tmp 115) = .slice A3 n3 k3:=hv3
   have q6:a.eval (.tmp 117) = .slice A4 n4 k4:=hv4
   have hnl:=new_later w (.cells #[.slice (some ⟨gc,oc,none⟩) lc cc,.slice Ad ld cd,.slice (some ⟨gc,oc,none⟩) k cc,.slice A1 n1 k1,.slice A2 n2 k2,.slice A3 n3 k3,.slice A4 n4 k4] 69)
   refine op_valg s hgd (w':=w.alloc (.cells #[.slice (some ⟨gc,oc,none⟩) lc cc,.slice Ad ld cd,.slice (some ⟨gc,oc,none⟩) k cc,.slice A1 n1 k1,.slice A2 n2 k2,.slice A3 n3 k3,.slice A4 n4 k4] 69)) (v:=.slice (some ⟨w.heap.size,0,none⟩) 7 7) ?_ ?_
   ·simp only [execOp,List.map_toArray,List.map_cons,List.map_nil,q0,q1,q2,q3,q4,q5,q6]
    go_simp
   ·exact PostE.put (i:=17) ho (vccd19_mem 17 hk).2 (hlt 17 hk) (fun k hk2 hne _ => vccd19_inj 17 hk k hk2 hne) (.inl (Ext.of hnl)) ⟨_,_,_,_,_,rfl,hgs,Arr.new' w _ _ 7 _ rfl rfl (by decide),hw1.below hnl,hw2.below hnl,hw3.below hnl,hw4.below hnl⟩ ⟨later hg hnl,fun g h => Nat.lt_of_lt_of_le (hG.2 g h) hnl.size⟩
  | n + 18,hn,_,_ => exact absurd hn (by omega)
 ·intro a w ho hG hd
  have hg:=hG.1
  have hgs:=hg.size
  have s:(ops[7]?).map sig = some (some 108,.call { callee:=.builtin .append,args:=#[.tmp 106,.tmp 107],argTypes:=#[69,69] },69,none):=by subst hops;kernel_rfl
  have hgd:GdOk ops a none:=trivial
  obtain ⟨h,e0⟩:=hd 5 (by decide) (by subst hops;kernel_rfl)
  have d6:=hd 6 (by decide) (by subst hops;kernel_rfl)
  have e0:a.eval (.tmp 106) = .slice (some ⟨h,0,none⟩) 0 0:=e0
  have e1:a.eval (.tmp 107) = .slice (some ⟨gc,oc,none⟩) lc cc:=d6
  obtain ⟨cap,xs,w',hr,hw',hO⟩:=run_app_new w 69 h gc oc lc cc E hE hlc0 hlc (fun j u hu => by rw [← hcc j u hu];exact hg.cell (p:=⟨gc,oc + j,none⟩) hgc)
  have hEa:vccEa19 w.heap.size w w':=⟨xs,rfl,hw'⟩
  have hb:=vccEa19_below hEa
  refine op_valg s hgd (w':=w') (v:=.slice (some ⟨w.heap.size,0,none⟩) lc cap) ?_ ?_
  ·simp only [execOp,resolve,invoke,builtin,Sem.run_bind,Sem.run_pure,Result.andThen_ok,List.map_toArray,List.map_cons,List.map_nil,e0,e1,hr]
  ·exact ⟨w.heap.size,PostE.put (i:=7) ho (vccd19_mem 7 (by decide)).2 (hlt 7 (by decide)) (fun k hk2 hne _ => vccd19_inj 7 (by decide) k hk2 hne) hEa ⟨w.heap.size,cap,rfl,rfl,hgs,hO.less hgs⟩ ⟨later hg hb,fun g h => by cases h;rw [hw'];simp⟩⟩
 ·intro γ a w ho hG hf
  have hg:=hG.1
  have s:(ops[18]?).map sig = some (some 24,.assign (.tmp 118),72,none):=by subst hops;kernel_rfl
  have hgd:GdOk ops a none:=trivial
  obtain ⟨g,x1,x2,x3,x4,e0,e1,e2,e3,e4,e5,e6⟩:=hf 17 (by decide)
  have e0:ag a 118 = .slice (some ⟨g,0,none⟩) 7 7:=e0
  refine op_valg s hgd (w':=w) (v:=.slice (some ⟨g,0,none⟩) 7 7) ?_ ?_
  ·exact congrArg (fun x => Result.ok (Next.value x) w) e0
  ·have ho2:Off (vccD19 ++ [24]) a0 (a.put (some 24) (.slice (some ⟨g,0,none⟩) 7 7)):=(ho.mono (fun s hs => List.mem_append_left _ hs)).put (by decide)
   exact hQ (ag (a.put (some 24) (.slice (some ⟨g,0,none⟩) 7 7))) w g x1 x2 x3 x4 (ag_put (by rw [ho.size,hsz];decide)) e1 e2 e3 e4 e5 e6 hg _ (ho2.eq (fun s hs => by rw [hsz];revert s;decide))
end Go.Proofs.YtmfihlcibephlaaDoor
