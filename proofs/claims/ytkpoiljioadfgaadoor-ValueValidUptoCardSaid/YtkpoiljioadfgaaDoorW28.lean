import Derived.Test.YtkpoiljioadfgaaDoorW27
set_option linter.unusedVariables false
set_option linter.unusedSimpArgs false
namespace Go.Proofs.YtkpoiljioadfgaaDoor
open Go.RowKit
def GrowF {α:Type} (e:TypeId) (sz:Nat) (Φ:α → List Value → World → Prop) (w:World) (B:Nat) (F:Nat → Prop) (v:Value) (acc:List α):Prop:=∃ L:List (List Value),w.ownsRow B e sz v acc.length L.flatten ∧ L.length = acc.length ∧ (∀ C ∈ L,C.length = sz) ∧
 ∀ (i:Nat) (x:α) (C:List Value),acc[i]? = some x → L[i]? = some C → Foot (fun g => F g ∧ v.ownBlock ≠ some g) (Φ x C) w
section
variable {α:Type} {e:TypeId} {sz:Nat} {Φ:α → List Value → World → Prop} {w w':World} {B:Nat} {F:Nat → Prop} {v:Value} {acc:List α}
theorem GrowF.nil (w:World) (B:Nat) (F:Nat → Prop):GrowF e sz Φ w B F (.slice none 0 0) []:=⟨[],World.ownsRow_nil w B _ sz,rfl,by simp,by simp⟩
theorem GrowF.mono {F':Nat → Prop} (h:GrowF e sz Φ w B F v acc) (hF:∀ g,F g → g < w.heap.size → F' g):GrowF e sz Φ w B F' v acc:=by
 obtain ⟨L,h1,h2,h3,h4⟩:=h
 exact ⟨L,h1,h2,h3,fun i x C hx hC => (h4 i x C hx hC).keep (fun g hg hl => ⟨hF g hg.1 hl,hg.2⟩) (Below.refl _ _) (fun _ _ _ => rfl)⟩
theorem GrowF.keep (h:GrowF e sz Φ w B F v acc) (hb:Below 0 w w') (he:∀ g,(F g ∨ v.ownBlock = some g) → g < w.heap.size → w'.heap[g]? = w.heap[g]?):GrowF e sz Φ w' B F v acc:=by
 obtain ⟨L,h1,h2,h3,h4⟩:=h
 refine ⟨L,?_,h2,h3,fun i x C hx hC => (h4 i x C hx hC).keep (fun g hg _ => hg) hb (fun g hg hl => he g (.inl hg.1) hl)⟩
 have hlt:=h1.lt
 refine ⟨h1.1,?_⟩
 rcases h1.2 with h5 | ⟨g,cap,cur,hv,hg,hh,r⟩
 ·exact .inl h5
 ·refine .inr ⟨g,cap,cur,hv,hg,?_,r⟩
  rw [he g (.inr (by rw [hv];rfl)) (hlt g (by rw [hv];rfl)).2]
  exact hh
theorem GrowF.lt (h:GrowF e sz Φ w B F v acc):∀ g,v.ownBlock = some g → B ≤ g ∧ g < w.heap.size:=by
 obtain ⟨L,h1,_⟩:=h
 exact h1.lt
theorem GrowF.shape (h:GrowF e sz Φ w B F v acc):∃ A cap,v = .slice A acc.length cap ∧ acc.length ≤ cap ∧ cap ≤ maxLen:=by
 obtain ⟨L,h1,_⟩:=h
 obtain ⟨A,cap,hv,h2,h3,_⟩:=own_shape h1
 exact ⟨A,cap,hv,h2,h3⟩
theorem GrowF.get {A:Option Addr} {len cap:Nat} (h:GrowF e sz Φ w B F (.slice A len cap) acc):len = acc.length ∧ ∀ (j:Nat) (x:α),acc[j]? = some x → ∃ g o C,A = some ⟨g,o,none⟩ ∧ w.rangeAt g (o + j * sz) C ∧ C.length = sz ∧ Φ x C w:=by
 obtain ⟨A',cap',hv,h5,h6⟩:=h.shape
 cases hv
 refine ⟨rfl,fun j x hx => ?_⟩
 obtain ⟨L,h1,h2,h3,h4⟩:=h
 have hj:=(List.getElem?_eq_some_iff.1 hx).1
 obtain ⟨g,cap2,hv,hg,_,_⟩:=own_some h1 (by omega)
 cases hv
 have hC:L[j]? = some (L[j]'(by omega)):=List.getElem?_eq_getElem (by omega)
 refine ⟨g,0,_,rfl,?_,h3 _ (List.getElem_mem _),(h4 j x _ hx hC).now⟩
 intro p u hu
 have hc:=h1.cells (g:=g) rfl _ _ (flat_at sz L h3 j _ hC p u hu)
 have ha:(⟨g,0,none⟩:Addr).add (j * sz + p) = ⟨g,0 + j * sz + p,none⟩:=by unfold Addr.add;split <;> simp_all
 rwa [ha] at hc
end
theorem GrowF.grown {α:Type} {e:TypeId} {sz:Nat} {Φ:α → List Value → World → Prop} {w wm w':World} {B:Nat} {F:Nat → Prop} {v:Value} {acc:List α} {x:α} {C:List Value} {L:List (List Value)} {g cap:Nat}
  (h1:w.ownsRow B e sz v acc.length L.flatten) (h2:L.length = acc.length) (h3:∀ C ∈ L,C.length = sz)
  (h4:∀ (i:Nat) (x:α) (C:List Value),acc[i]? = some x → L[i]? = some C → Foot (fun g => F g ∧ v.ownBlock ≠ some g) (Φ x C) w)
  (hC:C.length = sz) (hx:Foot (fun g => F g ∧ v.ownBlock ≠ some g) (Φ x C) w) (hB:B ≤ w.heap.size) (hwm:Below w.heap.size w wm)
  (hown:w'.ownsRow B e sz (.slice (some ⟨g,0,none⟩) (acc.length + 1) cap) (acc.length + 1) (L.flatten ++ C)) (hg:wm.grownBy w' v.ownBlock) (hat:v.ownBlock = some g ∨ w.heap.size ≤ g) :
  GrowF e sz Φ w' B F (.slice (some ⟨g,0,none⟩) (acc.length + 1) cap) (acc ++ [x]) ∧ Below B w w' ∧ (∀ k,k < w.heap.size → v.ownBlock ≠ some k → w'.heap[k]? = w.heap[k]?):=by
 have hsame:∀ k,k < w.heap.size → v.ownBlock ≠ some k → w'.heap[k]? = w.heap[k]?:=fun k hk hne => by
  rw [hg.block k (Nat.lt_of_lt_of_le hk hwm.size) (fun e => hne e.symm)]
  exact hwm.block k hk
 have hb:Below B w w':=(hwm.mono hB).grown hg (Nat.le_trans hB hwm.size) (fun k hk => (h1.lt k hk).1)
 refine ⟨⟨L ++ [C],by rw [List.length_append,List.length_singleton,List.flatten_append];simpa using hown,by simp [h2],?_,?_⟩,hb,hsame⟩
 ·intro D hD
  rcases List.mem_append.1 hD with hD | hD
  ·exact h3 D hD
  ·simp at hD;rw [hD];exact hC
 ·intro i y D hy hD
  have hmv:∀ (y:α) (D:List Value),Foot (fun g => F g ∧ v.ownBlock ≠ some g) (Φ y D) w → Foot (fun g' => F g' ∧ (Value.slice (some ⟨g,0,none⟩) (acc.length + 1) cap).ownBlock ≠ some g') (Φ y D) w':=by
   intro y D hT
   refine hT.keep ?_ (hb.mono (Nat.zero_le _)) (fun k hk hl => hsame k hl hk.2)
   rintro k ⟨hk1,hk2⟩ hk3
   refine ⟨hk1,fun e => ?_⟩
   have hgk:g = k:=by simpa [Value.ownBlock] using e
   rcases hat with hat | hat
   ·exact hk2 (by rw [hat,hgk])
   ·omega
  by_cases hi:i < acc.length
  ·rw [List.getElem?_append_left hi] at hy
   rw [List.getElem?_append_left (by omega)] at hD
   exact hmv _ _ (h4 i y D hy hD)
  ·have hie:i = acc.length:=by
    have:=(List.getElem?_eq_some_iff.1 hy).1
    simp at this;omega
   subst hie
   rw [List.getElem?_append_right (Nat.le_refl _),Nat.sub_self] at hy
   rw [List.getElem?_append_right (by omega),h2,Nat.sub_self] at hD
   simp at hy hD
   subst hy;subst hD
   exact hmv _ _ hx
theorem wp_putF {P:Program} {α:Type} {e t:TypeId} {sz bytes:Nat} {z:Value} {Φ:α → List Value → World → Prop} {w:World} {B:Nat} {F:Nat → Prop} {v:Value} {acc:List α} {x:α} {C:List Value} {o:Oper} {a:Act} {K:Act → World → Prop} {Q:Exit → Act → World → Prop} {gn c:Nat}
  (hG:GrowF e sz Φ w B F v acc) (hC:C.length = sz) (hx:Foot (fun g => F g ∧ v.ownBlock ≠ some g) (Φ x C) w) (hB:B ≤ w.heap.size) (hacc:(acc.length + 1) * bytes ≤ 140737488355328 ∧ acc.length + 1 ≤ maxLen)
  (ht:P.underlying t = some (.slice e)) (hi:(P.info? e).map (fun i => (i.zero,i.size,i.bytes)) = some (some z,sz,bytes)) (hzs:z.cells.size = sz) (hsz:0 < sz) (h1c:∀ u ∈ C,u.oneCell' = true)
  (s y:Operand) (ho:o.op = .call { callee:=.builtin .append,args:=#[s,y],argTypes:=#[t,t] })
  (hs:a.eval s = v) (hy:a.eval y = .slice (some ⟨gn,0,none⟩) 1 c) (hr:w.rangeAt gn 0 C)
  (h:∀ g cap w',GrowF e sz Φ w' B F (.slice (some ⟨g,0,none⟩) (acc.length + 1) cap) (acc ++ [x]) → Below B w w' → (∀ k,k < w.heap.size → v.ownBlock ≠ some k → w'.heap[k]? = w.heap[k]?) → (v.ownBlock = some g ∨ w.heap.size ≤ g) → K (a.put o.dst (.slice (some ⟨g,0,none⟩) (acc.length + 1) cap)) w') :
  o.wp P a w K Q:=by
 obtain ⟨L,h1,h2,h3,h4⟩:=hG
 obtain ⟨i0,hi0,hz0,hz1,hz2⟩:=info_parts hi
 refine wp_append_lies w s y t ho B e i0 z sz bytes ht hi0 hz0 hz1 hz2 hzs hsz v acc.length L.flatten hs h1 ⟨gn,0,none⟩ 1 c C hy (by rw [hC,Nat.one_mul]) (fun j u hu => by rw [show (⟨gn,0,none⟩:Addr).add j = ⟨gn,0 + j,none⟩ by unfold Addr.add;split <;> simp_all];exact hr j u hu) h1c (by decide) hacc.2 hacc.1 hB w.heap.size rfl ?_
 intro g cap w' hown hg hat hlt
 obtain ⟨a1,a2,a3⟩:=GrowF.grown h1 h2 h3 h4 hC hx hB (Below.refl _ w) hown hg (hat.imp id (fun e => by omega))
 exact h g cap w' a1 a2 a3 (hat.imp id (fun e => by omega))
theorem arr_same {W W':World} {g n:Nat} {e:TypeId} {xs:List Value} (h:Arr W g n e xs) (he:W'.heap[g]? = W.heap[g]?):Arr W' g n e xs:=by
 refine ⟨h.1,?_⟩
 rcases h.2 with h2 | ⟨g',cap,cur,hv,hg,hh,r⟩
 ·exact .inl h2
 ·refine .inr ⟨g',cap,cur,hv,hg,?_,r⟩
  cases hv
  rw [he]
  exact hh
theorem info_id3:(Tryd.prog.info? 28).map (fun i => (i.zero,i.size,i.bytes)) = some (some (.agg #[.int .i64 0,.int .i64 0,.int .i64 0]),3,24):=by kernel_rfl
def md6 (nm:Value) (mdv:Value):List Value:=[.int .i64 0,.int .i64 1,.int .i64 0,nm,.slice none 0 0,mdv]
def PU (_:Unit) (_:List Value) (_:World):Prop:=True
def fc16 (gp gm gd:Nat) (K:Int) (mdv:Value) (B S:Nat) (acc:List Unit):Nat → Value → World → Prop
 | 0,v,_ => v = .pointer (some ⟨gp,0,none⟩)
 | 1,v,_ => v = .slice (some ⟨gm,0,none⟩) 1 1
 | 2,v,_ => v = .pointer (some ⟨gp,0,none⟩)
 | 3,v,_ => v = .slice (some ⟨gm,0,none⟩) 1 1
 | 4,v,_ => v = .pointer (some ⟨gm,0,none⟩)
 | 5,v,_ => v = .pointer (some ⟨gm,5,none⟩)
 | 6,v,_ => v = mdv
 | 7,v,_ => v = .pointer (some ⟨gd,0,none⟩)
 | 8,v,_ => v = .agg #[.int .i64 0,.int .i64 1,.int .i64 K]
 | 9,v,w => ∃ g,v = .slice (some ⟨g,0,none⟩) 1 1 ∧ S ≤ g ∧ Arr w g 3 28 [.int .i64 0,.int .i64 1,.int .i64 K]
 | 10,v,w => GrowG 28 3 PU w B v (acc ++ [()]) ∧ ∀ g,v.ownBlock = some g → mdv.ownBlock = some g ∨ S ≤ g
 | 11,v,_ => v = .pointer (some ⟨gm,0,none⟩)
 | 12,v,_ => v = .pointer (some ⟨gm,5,none⟩)
 | _,_,_ => True
theorem fc16_ext (gp gm gd:Nat) (K:Int) (mdv:Value) (B S:Nat) (acc:List Unit) (hBS:B ≤ S):∀ j v w w' E,j < 13 → (E = B ∨ (E = S ∧ j ≠ 10)) → Ext E w w' → fc16 gp gm gd K mdv B S acc j v w → fc16 gp gm gd K mdv B S acc j v w':=by
 intro j v w w' E hj hE he h
 have hES:E ≤ S:=by omega
 match j,hj,h with
 | 0,_,h => exact h
 | 1,_,h => exact h
 | 2,_,h => exact h
 | 3,_,h => exact h
 | 4,_,h => exact h
 | 5,_,h => exact h
 | 6,_,h => exact h
 | 7,_,h => exact h
 | 8,_,h => exact h
 | 9,_,⟨g,h1,h2,h3⟩ => exact ⟨g,h1,h2,h3.ext he (by omega)⟩
 | 10,_,⟨h1,h2⟩ =>
  have:E = B:=by omega
  subst this
  exact ⟨h1.keep he.1 he.2,h2⟩
 | 11,_,h => exact h
 | 12,_,h => exact h
 | n + 13,hn,_ => exact absurd hn (by omega)
def D16:List Nat:=[78,79,80,81,82,83,84,85,86,87,88,89,90]
def ds16 (k:Nat):Nat:=78 + k
theorem ds16_mem:∀ k,k < 13 → ds16 k < 92 ∧ ds16 k ∈ D16:=by decide
structure GC16 (gp gm gd:Nat) (K kd:Int) (nmD:ByteArray) (sv dv nmM mdv:Value) (B S:Nat) (w0:World) (acc:List Unit) (c:Bool) (w:World):Prop where
 old:∀ g,g < S → mdv.ownBlock ≠ some g → w.heap[g]? = w0.heap[g]?
 bel:Below 0 w0 w
 sz:S ≤ w.heap.size
 ap:Arr w gp 2 26 [.slice (some ⟨gm,0,none⟩) 1 1,dv]
 am:Arr w gm 6 84 (md6 nmM mdv)
 ad:Arr w gd 31 46 (df31 K kd nmD sv)
 gr:c = false → GrowG 28 3 PU w B mdv acc
theorem GC16.later {gp gm gd:Nat} {K kd:Int} {nmD:ByteArray} {sv dv nmM mdv:Value} {B S:Nat} {w0:World} {acc:List Unit} {c:Bool} {w w':World} (h:GC16 gp gm gd K kd nmD sv dv nmM mdv B S w0 acc c w) (hb:Below w.heap.size w w'):GC16 gp gm gd K kd nmD sv dv nmM mdv B S w0 acc c w' :=
 ⟨fun g hg hn => (hb.block g (Nat.lt_of_lt_of_le hg h.sz)).trans (h.old g hg hn),h.bel.trans (hb.mono (Nat.zero_le _)),Nat.le_trans h.sz hb.size,h.ap.later hb,h.am.later hb,h.ad.later hb,fun hc => (h.gr hc).keep (hb.mono (Nat.zero_le _)) (fun g _ hg => hb.block g hg)⟩
set_option maxHeartbeats 1000000 in
set_option maxRecDepth 100000 in
theorem reg16 {Q:Exit → Act → World → Prop} {id:Nat} {ops:Array Oper} (hops:ops = ((Tryd.f10.body).bind (opsOf 16)).getD #[]) (a0:Act) (w0:World) (gp gm gd B:Nat) (sv dv nmM mdv:Value) (K kd:Int) (nmD:ByteArray) (acc:List Unit) (hac:acc.length ≤ 4) (hsz:92 ≤ a0.tmps.size)
  (h3:ag a0 3 = .pointer (some ⟨gp,0,none⟩)) (h8:ag a0 8 = .pointer (some ⟨gd,0,none⟩)) (hgp:gp < B) (hgm:gm < B) (hB:B ≤ w0.heap.size) (hgd:mdv.ownBlock ≠ some gd)
  (hAp:Arr w0 gp 2 26 [.slice (some ⟨gm,0,none⟩) 1 1,dv]) (hAm:Arr w0 gm 6 84 (md6 nmM mdv)) (hAd:Arr w0 gd 31 46 (df31 K kd nmD sv)) (hG:GrowG 28 3 PU w0 B mdv acc)
  (hQ:∀ (vs:Nat → Value) (mdv':Value) (w':World),GrowG 28 3 PU w' B mdv' (acc ++ [()]) → (∀ g,mdv'.ownBlock = some g → mdv.ownBlock = some g ∨ w0.heap.size ≤ g) → Arr w' gm 6 84 (md6 nmM mdv') → Below 0 w0 w' → (∀ g,g < w0.heap.size → g ≠ gm → mdv.ownBlock ≠ some g → w'.heap[g]? = w0.heap[g]?) → ∀ a',a' = D16.foldl (fun b s => b.put (some s) (vs s)) a0 → Q .normal a' w') :
  (Code.region id ops true).wp Tryd.prog Q a0 w0:=by
 have hown:∀ g,mdv.ownBlock = some g → B ≤ g ∧ g < w0.heap.size:=hG.lt
 have hg0:GC16 gp gm gd K kd nmD sv dv nmM mdv B w0.heap.size w0 acc false w0.drew:=GC16.later ⟨fun _ _ _ => rfl,Below.refl _ _,Nat.le_refl _,hAp,hAm,hAd,fun _ => hG⟩ (below_drewN (Below.refl _ _) 1)
 have hin:∀ (a:Nat) (k:Nat),a < 13 → k < 13 → ds16 a = ds16 k → a = k:=fun a k _ _ h => by unfold ds16 at h;omega
 refine wp_region_facts 13 10 D16 ds16 (fc16 gp gm gd K mdv B w0.heap.size acc) (GC16 gp gm gd K kd nmD sv dv nmM mdv B w0.heap.size w0 acc) B w0.heap.size (by kernel_rfl) (by subst hops;kernel_rfl) (by subst hops;kernel_rfl) (by subst hops;kernel_rfl) (fun k hk => (ds16_mem k hk).2) (fun k hk => by have:=(ds16_mem k hk).1;omega) hin (fc16_ext gp gm gd K mdv B w0.heap.size acc hB) hg0 ?_ ?_
 ·intro j a w c hj hip ho hg hd
  have hgs:=hg.sz
  match j,hj,hd with
  | 0,hk,hd =>
   have s:(ops[0]?).map sig = some (some 78,.fieldAddr 26 (.tmp 3) 0,0,none):=by subst hops;kernel_rfl
   refine op_val s (w':=w) (v:=.pointer (some ⟨gp,0,none⟩)) ?_ ⟨_,rfl,?_,?_,?_⟩
   ·have e:ag a 3 = _:=(ho.off 3 (by decide)).trans h3
    simp only [execOp,eval_tmp,e]
    go_simp
   ·exact Ext.refl _ _
   ·rfl
   ·exact hg
  | 1,hk,hd =>
   have s:(ops[1]?).map sig = some (some 79,.load 23 (.tmp 78),23,none):=by subst hops;kernel_rfl
   have d0:=hd 0 (by decide) (by subst hops;kernel_rfl)
   refine op_val s (w':=w) (v:=.slice (some ⟨gm,0,none⟩) 1 1) ?_ ⟨_,rfl,?_,?_,?_⟩
   ·have e:ag a 78 = _:=d0
    have hc:=hg.ap.cell (j:=0) (v:=.slice (some ⟨gm,0,none⟩) 1 1) rfl
    simp only [execOp,eval_tmp,e]
    go_simp
   ·exact Ext.refl _ _
   ·rfl
   ·exact hg
  | 2,hk,hd =>
   have s:(ops[2]?).map sig = some (some 80,.fieldAddr 26 (.tmp 3) 0,0,none):=by subst hops;kernel_rfl
   refine op_val s (w':=w) (v:=.pointer (some ⟨gp,0,none⟩)) ?_ ⟨_,rfl,?_,?_,?_⟩
   ·have e:ag a 3 = _:=(ho.off 3 (by decide)).trans h3
    simp only [execOp,eval_tmp,e]
    go_simp
   ·exact Ext.refl _ _
   ·rfl
   ·exact hg
  | 3,hk,hd =>
   have s:(ops[3]?).map sig = some (some 81,.load 23 (.tmp 80),23,none):=by subst hops;kernel_rfl
   have d2:=hd 2 (by decide) (by subst hops;kernel_rfl)
   refine op_val s (w':=w) (v:=.slice (some ⟨gm,0,none⟩) 1 1) ?_ ⟨_,rfl,?_,?_,?_⟩
   ·have e:ag a 80 = _:=d2
    have hc:=hg.ap.cell (j:=0) (v:=.slice (some ⟨gm,0,none⟩) 1 1) rfl
    simp only [execOp,eval_tmp,e]
    go_simp
   ·exact Ext.refl _ _
   ·rfl
   ·exact hg
  | 4,hk,hd =>
   have s:(ops[4]?).map sig = some (some 82,.indexAddr 23 (.tmp 81) (.const (.int .i64 0)),0,none):=by subst hops;kernel_rfl
   have d3:=hd 3 (by decide) (by subst hops;kernel_rfl)
   refine op_val s (w':=w) (v:=.pointer (some ⟨gm,0,none⟩)) ?_ ⟨_,rfl,?_,?_,?_⟩
   ·have e:ag a 81 = _:=d3
    simp only [execOp,eval_tmp,e]
    go_simp
   ·exact Ext.refl _ _
   ·rfl
   ·exact hg
  | 5,hk,hd =>
   have s:(ops[5]?).map sig = some (some 83,.fieldAddr 84 (.tmp 82) 3,0,none):=by subst hops;kernel_rfl
   have d4:=hd 4 (by decide) (by subst hops;kernel_rfl)
   refine op_val s (w':=w) (v:=.pointer (some ⟨gm,5,none⟩)) ?_ ⟨_,rfl,?_,?_,?_⟩
   ·have e:ag a 82 = _:=d4
    simp only [execOp,eval_tmp,e]
    go_simp
   ·exact Ext.refl _ _
   ·rfl
   ·exact hg
  | 6,hk,hd =>
   have s:(ops[6]?).map sig = some (some 84,.load 82 (.tmp 83),82,none):=by subst hops;kernel_rfl
   have d5:=hd 5 (by decide) (by subst hops;kernel_rfl)
   refine op_val s (w':=w) (v:=mdv) ?_ ⟨_,rfl,?_,?_,?_⟩
   ·have e:ag a 83 = _:=d5
    have hc:=hg.am.cell (j:=5) (v:=mdv) rfl
    simp only [execOp,eval_tmp,e]
    go_simp
   ·exact Ext.refl _ _
   ·rfl
   ·exact hg
  | 7,hk,hd =>
   have s:(ops[7]?).map sig = some (some 85,.fieldAddr 46 (.tmp 8) 0,0,none):=by subst hops;kernel_rfl
   refine op_val s (w':=w) (v:=.pointer (some ⟨gd,0,none⟩)) ?_ ⟨_,rfl,?_,?_,?_⟩
   ·have e:ag a 8 = _:=(ho.off 8 (by decide)).trans h8
    simp only [execOp,eval_tmp,e]
    go_simp
   ·exact Ext.refl _ _
   ·rfl
   ·exact hg
  | 8,hk,hd =>
   have s:(ops[8]?).map sig = some (some 86,.load 28 (.tmp 85),28,none):=by subst hops;kernel_rfl
   have d7:=hd 7 (by decide) (by subst hops;kernel_rfl)
   have e:ag a 85 = _:=d7
   refine wpOp_of s fun o h1 h2 h3 h4 => ?_
   refine wp_load_mid _ _ h2 gd 0 e [.int .i64 0,.int .i64 1,.int .i64 K] _ (range_left (xs:=[.int .i64 0,.int .i64 1,.int .i64 K]) (ys:=(df31 K kd nmD sv).drop 3) hg.ad.range) Tryd.underlying28 rfl info_id ?_
   rw [h1]
   exact ⟨_,rfl,Ext.refl _ _,rfl,hg⟩
  | 9,hk,hd =>
   have s:(ops[9]?).map sig = some (some 87,.buildSlice 82 1 #[(0,.tmp 86)],82,none):=by subst hops;kernel_rfl
   have d8:=hd 8 (by decide) (by subst hops;kernel_rfl)
   refine op_val s (w':=w.alloc (.cells #[.int .i64 0,.int .i64 1,.int .i64 K] 28)) (v:=.slice (some ⟨w.heap.size,0,none⟩) 1 1) ?_ ⟨_,rfl,?_,?_,?_⟩
   ·have e:ag a 86 = _:=d8
    simp only [execOp,List.map_toArray,List.map_cons,List.map_nil,eval_tmp,e]
    go_simp
   ·exact Ext.of (new_later w _)
   ·exact ⟨_,rfl,hgs,Arr.new' w _ _ 3 _ rfl rfl (by decide)⟩
   ·exact GC16.later hg (new_later w _)
  | 10,hk,hd =>
   have s:(ops[10]?).map sig = some (some 88,.call { callee:=.builtin .append,args:=#[.tmp 84,.tmp 87],argTypes:=#[82,82] },82,none):=by subst hops;kernel_rfl
   have d6:=hd 6 (by decide) (by subst hops;kernel_rfl)
   have d9:=hd 9 (by decide) (by subst hops;kernel_rfl)
   obtain ⟨gn,e9,hgn,hAn⟩:=d9
   have e9:ag a 87 = _:=e9
   have e6:ag a 84 = mdv:=d6
   have hG1:=hg.gr (hip rfl)
   refine wpOp_of s fun o h1 h2 h3 h4 => ?_
   refine wp_putG (x:=()) (C:=[.int .i64 0,.int .i64 1,.int .i64 K]) hG1 rfl (Foot.const trivial) (Nat.le_trans hB hgs) ⟨by omega,by simp only [maxLen];omega⟩ Tryd.underlying82 info_id3 rfl (by decide) (List.all_eq_true.mp (by rfl)) (.tmp 84) (.tmp 87) h2 e6 e9 hAn.range ?_
   intro g cap w' hG2 hb2 hk2 hn2
   rw [h1]
   have hm:∀ k,k < B → w'.heap[k]? = w.heap[k]?:=fun k hk => hk2 k (by omega) (fun e => by have:=(hown k e).1;omega)
   refine ⟨_,rfl,⟨hb2.mono (Nat.zero_le _),fun g hg1 hg2 => hk2 g hg2 (fun e => ?_)⟩,⟨hG2,fun g' e => ?_⟩,?_⟩
   ·have:=(hown g e).2
    simp only [if_pos] at hg1
    omega
   ·have:g = g':=by simpa [Value.ownBlock] using e
    subst this
    exact hn2.imp (fun h => h) (fun h => by omega)
   ·refine ⟨fun k hk hn => (hk2 k (by omega) hn).trans (hg.old k hk hn),hg.bel.trans (hb2.mono (Nat.zero_le _)),Nat.le_trans hgs hb2.size,hg.ap.below hb2 hgp,hg.am.below hb2 hgm,?_,fun h => by cases h⟩
    exact arr_same hg.ad (hk2 gd hg.ad.lt hgd)
  | 11,hk,hd =>
   have s:(ops[11]?).map sig = some (some 89,.indexAddr 23 (.tmp 79) (.const (.int .i64 0)),0,none):=by subst hops;kernel_rfl
   have d1:=hd 1 (by decide) (by subst hops;kernel_rfl)
   refine op_val s (w':=w) (v:=.pointer (some ⟨gm,0,none⟩)) ?_ ⟨_,rfl,?_,?_,?_⟩
   ·have e:ag a 79 = _:=d1
    simp only [execOp,eval_tmp,e]
    go_simp
   ·exact Ext.refl _ _
   ·rfl
   ·exact hg
  | 12,hk,hd =>
   have s:(ops[12]?).map sig = some (some 90,.fieldAddr 84 (.tmp 89) 3,0,none):=by subst hops;kernel_rfl
   have d11:=hd 11 (by decide) (by subst hops;kernel_rfl)
   refine op_val s (w':=w) (v:=.pointer (some ⟨gm,5,none⟩)) ?_ ⟨_,rfl,?_,?_,?_⟩
   ·have e:ag a 89 = _:=d11
    simp only [execOp,eval_tmp,e]
    go_simp
   ·exact Ext.refl _ _
   ·rfl
   ·exact hg
  | n + 13,hn,_ => exact absurd hn (by omega)
 ·intro a w c ho _ hg hf
  have e90:ag a 90 = _:=hf 12 (by decide)
  obtain ⟨hG',hnew⟩:=hf 10 (by decide)
  obtain ⟨A',cap',hsh,_⟩:=hG'.shape
  have e88:ag a 88 = _:=hsh
  have hc:=hg.am.cell (j:=5) (v:=mdv) rfl
  have hfz:=hg.am.free 5
  have s:(ops[13]?).map sig = some (none,.store 82 (.tmp 90) (.tmp 88),0,none):=by subst hops;kernel_rfl
  refine op_skip s (w':=w.setCell ⟨gm,5,none⟩ (ag a 88)) ?_ ?_
  ·rw [e88]
   simp only [execOp,eval_tmp,e90,e88]
   go_simp
  ·have hO:=Only.setCells gm 5 [ag a 88] w
   have hA2:=hg.am.set_ 5 (ag a 88)
   exact hQ (ag a) (ag a 88) (w.setCell ⟨gm,5,none⟩ (ag a 88)) (hG'.keep (hO.bel.mono (Nat.zero_le _)) (fun g hgB _ => hO.2 g (by omega))) hnew hA2 (hg.bel.trans (hO.bel.mono (Nat.zero_le _))) (fun g hg1 hg2 hg3 => (hO.2 g hg2).trans (hg.old g hg1 hg3)) _ (ho.eq (fun s hs => Nat.lt_of_lt_of_le ((by decide:∀ s ∈ D16,s < 92) s hs) hsz))
end Go.Proofs.YtkpoiljioadfgaaDoor
namespace Go.Proofs.YtkpoiljioadfgaaDoor
open Go.RowKit
theorem wp_region_seq {P:Program} {ops:Array Oper} {Q:Exit → Act → World → Prop} {id:Nat} {a0:Act} {w0:World} (last p:Nat) (D:List Nat) (ds:Nat → Nat) (F:Nat → Value → World → Prop) (G:Bool → World → Prop) (B S:Nat)
  (hsz:ops.size = last + 1) (hac:acyB ops = true)
  (hD:∀ k,k < last → ds k ∈ D) (hlt:∀ k,k < last → ds k < a0.tmps.size) (hinj:∀ i k,i < last → k < last → ds i = ds k → i = k)
  (hF:∀ k v w w' E,k < last → (E = B ∨ (E = S ∧ k ≠ p)) → Ext E w w' → F k v w → F k v w') (h0:G false w0)
  (hs:∀ i a w c,i < last → (i = p → c = false) → Off D a0 a → G c w → (∀ k,k < last → depB ops i k = true → F k (ag a (ds k)) w) →
   wpOp P ops Q i (fun a' w' => ∃ v,a' = a.put (some (ds i)) v ∧ Ext (if i = p then S else B) w w' ∧ F i v w' ∧ G (if i = p then true else c) w') a w)
  (hl:∀ a w c,Off D a0 a → (p < last → c = true) → G c w → (∀ k,k < last → F k (ag a (ds k)) w) → wpOp P ops Q last (fun a' w' => Q .normal a' w') a w) :
  (Code.region id ops false).wp P Q a0 w0:=by
 refine wp_region ?_
 have key:∀ n i a w,i + n = last → Off D a0 a → G (decide (p < i)) w → (∀ k,k < i → F k (ag a (ds k)) w) → wpOps P ops Q (List.range' i (n + 1)) a w:=by
  intro n
  induction n with
  | zero =>
   intro i a w hi ho hg hf
   have hi:i = last:=by omega
   subst hi
   rw [show List.range' i (0 + 1) = [i] from rfl,wpOps_cons]
   refine wpOp_mono (fun a' w' h => ?_) (hl a w _ ho (fun h => decide_eq_true h) hg hf)
   simpa [wpOps] using h
  | succ n ih =>
   intro i a w hi ho hg hf
   rw [List.range'_succ,wpOps_cons]
   have hdk:∀ k,depB ops i k = true → k < i:=by
    intro k hk
    have h1:=List.all_eq_true.1 hac i (List.mem_range.2 (by omega))
    unfold depB at hk
    rw [Array.getElem?_eq_getElem (by omega)] at h1 hk
    simp only [Option.map_some,Option.getD_some] at h1 hk
    obtain ⟨e,he,hb⟩:=Array.any_eq_true'.1 hk
    have:=Array.all_eq_true'.1 h1 e he
    rw [Bool.and_eq_true] at hb
    have e2:e.on = k:=by simpa using hb.2
    rw [← e2];simpa using this
   refine wpOp_mono ?_ (hs i a w _ (by omega) (fun e => by rw [e];simp) ho hg (fun k hk hd => hf k (hdk k hd)))
   rintro a' w' ⟨v,rfl,he,hv,hg'⟩
   refine ih (i + 1) _ w' (by omega) (ho.put (hD i (by omega))) ?_ ?_
   ·by_cases hip:i = p
    ·rw [if_pos hip] at hg'
     rw [decide_eq_true (by omega)];exact hg'
    ·rw [if_neg hip] at hg'
     rw [show decide (p < i + 1) = decide (p < i) from decide_eq_decide.2 (by omega)];exact hg'
   ·intro k hk
    by_cases hki:k = i
    ·subst hki
     rw [ag_put (by rw [ho.size];exact hlt k (by omega))];exact hv
    ·rw [ag_ne (fun e => hki (hinj i k (by omega) (by omega) e).symm)]
     refine hF k _ w w' (if i = p then S else B) (by omega) ?_ he (hf k (by omega))
     by_cases hip:i = p
     ·exact .inr ⟨if_pos hip,fun e => hki (e.trans hip.symm)⟩
     ·exact .inl (if_neg hip)
 have h:=key last 0 a0 w0 (by omega) (Off.refl _ _) (by rw [show decide (p < 0) = false from decide_eq_false (by omega)];exact h0) (fun k hk => absurd hk (by omega))
 rw [List.range_eq_range',hsz]
 exact h
theorem info_def3:(Tryd.prog.info? 46).map (fun i => (i.zero,i.size,i.bytes)) = some (some (.agg z31.toArray),31,352):=by kernel_rfl
def PD (d:Df) (C:List Value) (W:World):Prop:=DfAt W d C
def fc15 (gp:Nat) (M:Nat → Prop) (dv:Value) (C:List Value) (B S:Nat) (P:List Df) (d:Df):Nat → Value → World → Prop
 | 0,v,_ => v = .pointer (some ⟨gp,1,none⟩)
 | 1,v,_ => v = dv
 | 2,v,_ => v = .agg C.toArray
 | 3,v,w => ∃ g,v = .slice (some ⟨g,0,none⟩) 1 1 ∧ S ≤ g ∧ Arr w g 31 46 C
 | 4,v,w => GrowF 46 31 PD w B M v (P ++ [d]) ∧ ∀ g,v.ownBlock = some g → dv.ownBlock = some g ∨ S ≤ g
 | 5,v,_ => v = .pointer (some ⟨gp,1,none⟩)
 | _,_,_ => True
theorem fc15_ext (gp:Nat) (M:Nat → Prop) (dv:Value) (C:List Value) (B S:Nat) (P:List Df) (d:Df) (hBS:B ≤ S) (hM:∀ g,M g → B ≤ g):∀ j v w w' E,j < 6 → (E = B ∨ (E = S ∧ j ≠ 4)) → Ext E w w' → fc15 gp M dv C B S P d j v w → fc15 gp M dv C B S P d j v w':=by
 intro j v w w' E hj hE he h
 have hES:E ≤ S:=by omega
 match j,hj,h with
 | 0,_,h => exact h
 | 1,_,h => exact h
 | 2,_,h => exact h
 | 3,_,⟨g,h1,h2,h3⟩ => exact ⟨g,h1,h2,h3.ext he (by omega)⟩
 | 4,_,⟨h1,h2⟩ =>
  have:E = B:=by omega
  subst this
  exact ⟨h1.keep he.1 (fun g hg hl => he.2 g (hg.elim (hM g) (fun e => (h1.lt g e).1)) hl),h2⟩
 | 5,_,h => exact h
def D15:List Nat:=[72,73,74,75,76,77]
def ds15 (k:Nat):Nat:=72 + k
theorem ds15_mem:∀ k,k < 6 → ds15 k < 92 ∧ ds15 k ∈ D15:=by decide
structure GC15 (gp gd:Nat) (M:Nat → Prop) (mv dv:Value) (C:List Value) (B S:Nat) (w0:World) (P:List Df) (d:Df) (c:Bool) (w:World):Prop where
 old:∀ g,g < S → dv.ownBlock ≠ some g → w.heap[g]? = w0.heap[g]?
 bel:Below 0 w0 w
 sz:S ≤ w.heap.size
 ap:Arr w gp 2 26 [mv,dv]
 ad:Arr w gd 31 46 C
 gr:c = false → GrowF 46 31 PD w B M dv P ∧ Foot (fun g => M g ∧ dv.ownBlock ≠ some g) (PD d C) w
theorem GC15.later {gp gd:Nat} {M:Nat → Prop} {mv dv:Value} {C:List Value} {B S:Nat} {w0:World} {P:List Df} {d:Df} {c:Bool} {w w':World} (h:GC15 gp gd M mv dv C B S w0 P d c w) (hb:Below w.heap.size w w'):GC15 gp gd M mv dv C B S w0 P d c w' :=
 ⟨fun g hg hn => (hb.block g (Nat.lt_of_lt_of_le hg h.sz)).trans (h.old g hg hn),h.bel.trans (hb.mono (Nat.zero_le _)),Nat.le_trans h.sz hb.size,h.ap.later hb,h.ad.later hb,fun hc => ⟨(h.gr hc).1.keep (hb.mono (Nat.zero_le _)) (fun g _ hg => hb.block g hg),(h.gr hc).2.keep (fun g hg _ => hg) (hb.mono (Nat.zero_le _)) (fun g _ hg => hb.block g hg)⟩⟩
set_option maxHeartbeats 1000000 in
set_option maxRecDepth 100000 in
theorem reg15 {Q:Exit → Act → World → Prop} {id:Nat} {ops:Array Oper} (hops:ops = ((Tryd.f10.body).bind (opsOf 15)).getD #[]) (a0:Act) (w0:World) (gp gd B:Nat) (M:Nat → Prop) (mv dv:Value) (C:List Value) (P:List Df) (d:Df) (hP:P.length ≤ 4) (hgd:dv.ownBlock ≠ some gd) (K kd:Int) (nmD:ByteArray) (sv:Value) (hCe:C = df31 K kd nmD sv) (hsz:92 ≤ a0.tmps.size)
  (h3:ag a0 3 = .pointer (some ⟨gp,0,none⟩)) (h8:ag a0 8 = .pointer (some ⟨gd,0,none⟩)) (hgp:gp < B) (hB:B ≤ w0.heap.size) (hM:∀ g,M g → B ≤ g) (hC:C.length = 31) (hC1:∀ u ∈ C,u.oneCell' = true)
  (hAp:Arr w0 gp 2 26 [mv,dv]) (hAd:Arr w0 gd 31 46 C) (hG:GrowF 46 31 PD w0 B M dv P) (hx:Foot (fun g => M g ∧ dv.ownBlock ≠ some g) (PD d C) w0)
  (hQ:∀ (vs:Nat → Value) (dv':Value) (w':World),GrowF 46 31 PD w' B M dv' (P ++ [d]) → (∀ g,dv'.ownBlock = some g → dv.ownBlock = some g ∨ w0.heap.size ≤ g) → Arr w' gp 2 26 [mv,dv'] → Below 0 w0 w' → (∀ g,g < w0.heap.size → g ≠ gp → dv.ownBlock ≠ some g → w'.heap[g]? = w0.heap[g]?) → ∀ a',a' = D15.foldl (fun b s => b.put (some s) (vs s)) a0 → Q .normal a' w') :
  (Code.region id ops false).wp Tryd.prog Q a0 w0:=by
 have hown:∀ g,dv.ownBlock = some g → B ≤ g ∧ g < w0.heap.size:=hG.lt
 have hg0:GC15 gp gd M mv dv C B w0.heap.size w0 P d false w0:=⟨fun _ _ _ => rfl,Below.refl _ _,Nat.le_refl _,hAp,hAd,fun _ => ⟨hG,hx⟩⟩
 have hin:∀ (a:Nat) (k:Nat),a < 6 → k < 6 → ds15 a = ds15 k → a = k:=fun a k _ _ h => by unfold ds15 at h;omega
 have hID:(Tryd.prog.info? 46).map (·.size) = some C.length:=by rw [hC];exact info_def
 refine wp_region_seq 6 4 D15 ds15 (fc15 gp M dv C B w0.heap.size P d) (GC15 gp gd M mv dv C B w0.heap.size w0 P d) B w0.heap.size (by subst hops;kernel_rfl) (by subst hops;kernel_rfl) (fun k hk => (ds15_mem k hk).2) (fun k hk => by have:=(ds15_mem k hk).1;omega) hin (fc15_ext gp M dv C B w0.heap.size P d hB hM) hg0 ?_ ?_
 ·intro j a w c hj hip ho hg hd
  have hgs:=hg.sz
  match j,hj,hd with
  | 0,hk,hd =>
   have s:(ops[0]?).map sig = some (some 72,.fieldAddr 26 (.tmp 3) 1,0,none):=by subst hops;kernel_rfl
   refine op_val s (w':=w) (v:=.pointer (some ⟨gp,1,none⟩)) ?_ ⟨_,rfl,?_,?_,?_⟩
   ·have e:ag a 3 = _:=(ho.off 3 (by decide)).trans h3
    simp only [execOp,eval_tmp,e]
    go_simp
   ·exact Ext.refl _ _
   ·rfl
   ·exact hg
  | 1,hk,hd =>
   have s:(ops[1]?).map sig = some (some 73,.load 24 (.tmp 72),24,none):=by subst hops;kernel_rfl
   have d0:=hd 0 (by decide) (by subst hops;kernel_rfl)
   refine op_val s (w':=w) (v:=dv) ?_ ⟨_,rfl,?_,?_,?_⟩
   ·have e:ag a 72 = _:=d0
    have hc:=hg.ap.cell (j:=1) (v:=dv) rfl
    simp only [execOp,eval_tmp,e]
    go_simp
   ·exact Ext.refl _ _
   ·rfl
   ·exact hg
  | 2,hk,hd =>
   have s:(ops[2]?).map sig = some (some 74,.load 46 (.tmp 8),46,none):=by subst hops;kernel_rfl
   have e:ag a 8 = _:=(ho.off 8 (by decide)).trans h8
   refine wpOp_of s fun o h1 h2 h3 h4 => ?_
   refine wp_load_mid _ _ h2 gd 0 e C _ hg.ad.range Tryd.underlying46 rfl hID ?_
   rw [h1]
   exact ⟨_,rfl,Ext.refl _ _,rfl,hg⟩
  | 3,hk,hd =>
   have s:(ops[3]?).map sig = some (some 75,.buildSlice 24 1 #[(0,.tmp 74)],24,none):=by subst hops;kernel_rfl
   have d2:=hd 2 (by decide) (by subst hops;kernel_rfl)
   refine op_val s (w':=w.alloc (.cells C.toArray 46)) (v:=.slice (some ⟨w.heap.size,0,none⟩) 1 1) ?_ ⟨_,rfl,?_,?_,?_⟩
   ·have e:ag a 74 = _:=d2
    simp only [execOp,List.map_toArray,List.map_cons,List.map_nil,eval_tmp,e,hCe]
    unfold df31
    go_simp
   ·exact Ext.of (new_later w _)
   ·exact ⟨_,rfl,hgs,Arr.new' w _ _ 31 _ (by simp) hC (by decide)⟩
   ·exact GC15.later hg (new_later w _)
  | 4,hk,hd =>
   have s:(ops[4]?).map sig = some (some 76,.call { callee:=.builtin .append,args:=#[.tmp 73,.tmp 75],argTypes:=#[24,24] },24,none):=by subst hops;kernel_rfl
   have d1:=hd 1 (by decide) (by subst hops;kernel_rfl)
   have d3:=hd 3 (by decide) (by subst hops;kernel_rfl)
   obtain ⟨gn,e3,hgn,hAn⟩:=d3
   have e3:ag a 75 = _:=e3
   have e1:ag a 73 = dv:=d1
   obtain ⟨hG1,hx1⟩:=hg.gr (hip rfl)
   refine wpOp_of s fun o h1 h2 h3 h4 => ?_
   refine wp_putF (x:=d) (C:=C) hG1 hC hx1 (Nat.le_trans hB hgs) ⟨by omega,by simp only [maxLen];omega⟩ Tryd.underlying24 info_def3 rfl (by decide) hC1 (.tmp 73) (.tmp 75) h2 e1 e3 hAn.range ?_
   intro g cap w' hG2 hb2 hk2 hn2
   rw [h1]
   refine ⟨_,rfl,⟨hb2.mono (Nat.zero_le _),fun g hg1 hg2 => hk2 g hg2 (fun e => ?_)⟩,⟨hG2,fun g' e => ?_⟩,?_⟩
   ·have:=(hown g e).2
    simp only [if_pos] at hg1
    omega
   ·have:g = g':=by simpa [Value.ownBlock] using e
    subst this
    exact hn2.imp (fun h => h) (fun h => by omega)
   ·exact ⟨fun k hk hn => (hk2 k (by omega) hn).trans (hg.old k hk hn),hg.bel.trans (hb2.mono (Nat.zero_le _)),Nat.le_trans hgs hb2.size,hg.ap.below hb2 hgp,arr_same hg.ad (hk2 gd hg.ad.lt hgd),fun h => (by cases h)⟩
  | 5,hk,hd =>
   have s:(ops[5]?).map sig = some (some 77,.fieldAddr 26 (.tmp 3) 1,0,none):=by subst hops;kernel_rfl
   refine op_val s (w':=w) (v:=.pointer (some ⟨gp,1,none⟩)) ?_ ⟨_,rfl,?_,?_,?_⟩
   ·have e:ag a 3 = _:=(ho.off 3 (by decide)).trans h3
    simp only [execOp,eval_tmp,e]
    go_simp
   ·exact Ext.refl _ _
   ·rfl
   ·exact hg
 ·intro a w c ho _ hg hf
  have e77:ag a 77 = _:=hf 5 (by decide)
  obtain ⟨hG',hnew⟩:=hf 4 (by decide)
  obtain ⟨A',cap',hsh,_⟩:=hG'.shape
  have e76:ag a 76 = _:=hsh
  have hc:=hg.ap.cell (j:=1) (v:=dv) rfl
  have hfz:=hg.ap.free 1
  have s:(ops[6]?).map sig = some (none,.store 24 (.tmp 77) (.tmp 76),0,none):=by subst hops;kernel_rfl
  refine op_skip s (w':=w.setCell ⟨gp,1,none⟩ (ag a 76)) ?_ ?_
  ·rw [e76]
   simp only [execOp,eval_tmp,e77,e76]
   go_simp
  ·have hO:=Only.setCells gp 1 [ag a 76] w
   have hA2:=hg.ap.set_ 1 (ag a 76)
   exact hQ (ag a) (ag a 76) (w.setCell ⟨gp,1,none⟩ (ag a 76)) (hG'.keep (hO.bel.mono (Nat.zero_le _)) (fun g hgB _ => hO.2 g (Nat.ne_of_gt (Nat.lt_of_lt_of_le hgp (hgB.elim (hM g) (fun e => (hG'.lt g e).1)))))) hnew hA2 (hg.bel.trans (hO.bel.mono (Nat.zero_le _))) (fun g hg1 hg2 hg3 => (hO.2 g hg2).trans (hg.old g hg1 hg3)) _ (ho.eq (fun s hs => Nat.lt_of_lt_of_le ((by decide:∀ s ∈ D15,s < 92) s hs) hsz))
end Go.Proofs.YtkpoiljioadfgaaDoor
