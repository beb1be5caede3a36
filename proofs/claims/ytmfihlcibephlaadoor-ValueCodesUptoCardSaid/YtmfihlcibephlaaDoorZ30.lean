import Derived.Test.YtmfihlcibephlaaDoorZ06
import Derived.Test.YtmfihlcibephlaaDoorZ13
import Derived.Test.YtmfihlcibephlaaDoorZ27
import Derived.Test.YtmfihlcibephlaaDoorZ29
import Derived.Deep.AppendLies
set_option linter.unusedVariables false
set_option linter.unusedSimpArgs false
namespace Go.Proofs.YtmfihlcibephlaaDoor
open Go.RowKit
def GrowF {α:Type} (e:TypeId) (sz:Nat) (Φ:α → List Value → World → Prop) (w:World) (B:Nat) (F:Nat → Prop) (v:Value) (acc:List α):Prop:=∃ L:List (List Value),w.ownsRow B e sz v acc.length L.flatten ∧ L.length = acc.length ∧ (∀ C ∈ L,C.length = sz) ∧
 ∀ (i:Nat) (x:α) (C:List Value),acc[i]? = some x → L[i]? = some C → Foot (fun g => F g ∧ v.ownBlock ≠ some g) (Φ x C) w
section
variable {α:Type} {e:TypeId} {sz:Nat} {Φ:α → List Value → World → Prop} {w w':World} {B:Nat} {F:Nat → Prop} {v:Value} {acc:List α}
theorem GrowF.nil (w:World) (B:Nat) (F:Nat → Prop):GrowF e sz Φ w B F (.slice none 0 0) []:=⟨[],World.ownsRow_nil w B _ sz,rfl,by simp,by simp⟩
theorem GrowF.mono {F':Nat → Prop} (h:GrowF e sz Φ w B F v acc) (hF:∀ g,F g → g < w.heap.size → F' g):GrowF e sz Φ w B F' v acc:=by
 obtain ⟨L,h1,h2,h3,h4⟩:=h
 exact ⟨L,h1,h2,h3,fun i x C hx hC => (h4 i x C hx hC).keep (fun g hg hl => ⟨hF g hg.1 hl,hg.2⟩) (Below.refl _ _) (fun _ _ _ => rfl)⟩
theorem GrowF.keep (h:GrowF e sz Φ w B F v acc) (hb:Below 0 w w') (he:∀ g,(F g ∨ v.ownBlock = some g) → g < w.heap.size → w'.heap[g]? = w.heap[g]?):GrowF e sz Φ w' B F v acc:=by
 obtain ⟨L,h1,h2,h3,h4⟩:=h
 refine ⟨L,?_,h2,h3,fun i x C hx hC => (h4 i x C hx hC).keep (fun g hg _ => hg) hb (fun g hg hl => he g (.inl hg.1) hl)⟩
 have hlt:=h1.lt
 refine ⟨h1.1,?_⟩
 rcases h1.2 with h5 | ⟨g,cap,cur,hv,hg,hh,r⟩
 ·exact .inl h5
 ·refine .inr ⟨g,cap,cur,hv,hg,?_,r⟩
  rw [he g (.inr (by rw [hv];rfl)) (hlt g (by rw [hv];rfl)).2]
  exact hh
theorem GrowF.lt (h:GrowF e sz Φ w B F v acc):∀ g,v.ownBlock = some g → B ≤ g ∧ g < w.heap.size:=by
 obtain ⟨L,h1,_⟩:=h
 exact h1.lt
theorem GrowF.shape (h:GrowF e sz Φ w B F v acc):∃ A cap,v = .slice A acc.length cap ∧ acc.length ≤ cap ∧ cap ≤ maxLen:=by
 obtain ⟨L,h1,_⟩:=h
 obtain ⟨A,cap,hv,h2,h3,_⟩:=own_shape h1
 exact ⟨A,cap,hv,h2,h3⟩
theorem GrowF.get {A:Option Addr} {len cap:Nat} (h:GrowF e sz Φ w B F (.slice A len cap) acc):len = acc.length ∧ ∀ (j:Nat) (x:α),acc[j]? = some x → ∃ g o C,A = some ⟨g,o,none⟩ ∧ w.rangeAt g (o + j * sz) C ∧ C.length = sz ∧ Φ x C w:=by
 obtain ⟨A',cap',hv,h5,h6⟩:=h.shape
 cases hv
 refine ⟨rfl,fun j x hx => ?_⟩
 obtain ⟨L,h1,h2,h3,h4⟩:=h
 have hj:=(List.getElem?_eq_some_iff.1 hx).1
 obtain ⟨g,cap2,hv,hg,_,_⟩:=own_some h1 (by omega)
 cases hv
 have hC:L[j]? = some (L[j]'(by omega)):=List.getElem?_eq_getElem (by omega)
 refine ⟨g,0,_,rfl,?_,h3 _ (List.getElem_mem _),(h4 j x _ hx hC).now⟩
 intro p u hu
 have hc:=h1.cells (g:=g) rfl _ _ (flat_at sz L h3 j _ hC p u hu)
 have ha:(⟨g,0,none⟩:Addr).add (j * sz + p) = ⟨g,0 + j * sz + p,none⟩:=by unfold Addr.add;split <;> simp_all
 rwa [ha] at hc
end
theorem GrowF.grown {α:Type} {e:TypeId} {sz:Nat} {Φ:α → List Value → World → Prop} {w wm w':World} {B:Nat} {F:Nat → Prop} {v:Value} {acc:List α} {x:α} {C:List Value} {L:List (List Value)} {g cap:Nat}
  (h1:w.ownsRow B e sz v acc.length L.flatten) (h2:L.length = acc.length) (h3:∀ C ∈ L,C.length = sz)
  (h4:∀ (i:Nat) (x:α) (C:List Value),acc[i]? = some x → L[i]? = some C → Foot (fun g => F g ∧ v.ownBlock ≠ some g) (Φ x C) w)
  (hC:C.length = sz) (hx:Foot (fun g => F g ∧ v.ownBlock ≠ some g) (Φ x C) w) (hB:B ≤ w.heap.size) (hwm:Below w.heap.size w wm)
  (hown:w'.ownsRow B e sz (.slice (some ⟨g,0,none⟩) (acc.length + 1) cap) (acc.length + 1) (L.flatten ++ C)) (hg:wm.grownBy w' v.ownBlock) (hat:v.ownBlock = some g ∨ w.heap.size ≤ g) :
  GrowF e sz Φ w' B F (.slice (some ⟨g,0,none⟩) (acc.length + 1) cap) (acc ++ [x]) ∧ Below B w w' ∧ (∀ k,k < w.heap.size → v.ownBlock ≠ some k → w'.heap[k]? = w.heap[k]?):=by
 have hsame:∀ k,k < w.heap.size → v.ownBlock ≠ some k → w'.heap[k]? = w.heap[k]?:=fun k hk hne => by
  rw [hg.block k (Nat.lt_of_lt_of_le hk hwm.size) (fun e => hne e.symm)]
  exact hwm.block k hk
 have hb:Below B w w':=(hwm.mono hB).grown hg (Nat.le_trans hB hwm.size) (fun k hk => (h1.lt k hk).1)
 refine ⟨⟨L ++ [C],by rw [List.length_append,List.length_singleton,List.flatten_append];simpa using hown,by simp [h2],?_,?_⟩,hb,hsame⟩
 ·intro D hD
  rcases List.mem_append.1 hD with hD | hD
  ·exact h3 D hD
  ·simp at hD;rw [hD];exact hC
 ·intro i y D hy hD
  have hmv:∀ (y:α) (D:List Value),Foot (fun g => F g ∧ v.ownBlock ≠ some g) (Φ y D) w → Foot (fun g' => F g' ∧ (Value.slice (some ⟨g,0,none⟩) (acc.length + 1) cap).ownBlock ≠ some g') (Φ y D) w':=by
   intro y D hT
   refine hT.keep ?_ (hb.mono (Nat.zero_le _)) (fun k hk hl => hsame k hl hk.2)
   rintro k ⟨hk1,hk2⟩ hk3
   refine ⟨hk1,fun e => ?_⟩
   have hgk:g = k:=by simpa [Value.ownBlock] using e
   rcases hat with hat | hat
   ·exact hk2 (by rw [hat,hgk])
   ·omega
  by_cases hi:i < acc.length
  ·rw [List.getElem?_append_left hi] at hy
   rw [List.getElem?_append_left (by omega)] at hD
   exact hmv _ _ (h4 i y D hy hD)
  ·have hie:i = acc.length:=by
    have:=(List.getElem?_eq_some_iff.1 hy).1
    simp at this;omega
   subst hie
   rw [List.getElem?_append_right (Nat.le_refl _),Nat.sub_self] at hy
   rw [List.getElem?_append_right (by omega),h2,Nat.sub_self] at hD
   simp at hy hD
   subst hy;subst hD
   exact hmv _ _ hx
theorem wp_putF {P:Program} {α:Type} {e t:TypeId} {sz bytes:Nat} {z:Value} {Φ:α → List Value → World → Prop} {w:World} {B:Nat} {F:Nat → Prop} {v:Value} {acc:List α} {x:α} {C:List Value} {o:Oper} {a:Act} {K:Act → World → Prop} {Q:Exit → Act → World → Prop} {gn c:Nat}
  (hG:GrowF e sz Φ w B F v acc) (hC:C.length = sz) (hx:Foot (fun g => F g ∧ v.ownBlock ≠ some g) (Φ x C) w) (hB:B ≤ w.heap.size) (hacc:(acc.length + 1) * bytes ≤ 140737488355328 ∧ acc.length + 1 ≤ maxLen)
  (ht:P.underlying t = some (.slice e)) (hi:(P.info? e).map (fun i => (i.zero,i.size,i.bytes)) = some (some z,sz,bytes)) (hzs:z.cells.size = sz) (hsz:0 < sz) (h1c:∀ u ∈ C,u.oneCell' = true)
  (s y:Operand) (ho:o.op = .call { callee:=.builtin .append,args:=#[s,y],argTypes:=#[t,t] })
  (hs:a.eval s = v) (hy:a.eval y = .slice (some ⟨gn,0,none⟩) 1 c) (hr:w.rangeAt gn 0 C)
  (h:∀ g cap w',GrowF e sz Φ w' B F (.slice (some ⟨g,0,none⟩) (acc.length + 1) cap) (acc ++ [x]) → Below B w w' → (∀ k,k < w.heap.size → v.ownBlock ≠ some k → w'.heap[k]? = w.heap[k]?) → (v.ownBlock = some g ∨ w.heap.size ≤ g) → K (a.put o.dst (.slice (some ⟨g,0,none⟩) (acc.length + 1) cap)) w') :
  o.wp P a w K Q:=by
 obtain ⟨L,h1,h2,h3,h4⟩:=hG
 obtain ⟨i0,hi0,hz0,hz1,hz2⟩:=info_parts hi
 refine wp_append_lies w s y t ho B e i0 z sz bytes ht hi0 hz0 hz1 hz2 hzs hsz v acc.length L.flatten hs h1 ⟨gn,0,none⟩ 1 c C hy (by rw [hC,Nat.one_mul]) (fun j u hu => by rw [show (⟨gn,0,none⟩:Addr).add j = ⟨gn,0 + j,none⟩ by unfold Addr.add;split <;> simp_all];exact hr j u hu) h1c (by decide) hacc.2 hacc.1 hB w.heap.size rfl ?_
 intro g cap w' hown hg hat hlt
 obtain ⟨a1,a2,a3⟩:=GrowF.grown h1 h2 h3 h4 hC hx hB (Below.refl _ w) hown hg (hat.imp id (fun e => by omega))
 exact h g cap w' a1 a2 a3 (hat.imp id (fun e => by omega))
theorem arr_same {W W':World} {g n:Nat} {e:TypeId} {xs:List Value} (h:Arr W g n e xs) (he:W'.heap[g]? = W.heap[g]?):Arr W' g n e xs:=by
 refine ⟨h.1,?_⟩
 rcases h.2 with h2 | ⟨g',cap,cur,hv,hg,hh,r⟩
 ·exact .inl h2
 ·refine .inr ⟨g',cap,cur,hv,hg,?_,r⟩
  cases hv
  rw [he]
  exact hh
theorem info_id3:(Tryd.prog.info? 28).map (fun i => (i.zero,i.size,i.bytes)) = some (some (.agg #[.int .i64 0,.int .i64 0,.int .i64 0]),3,24):=by kernel_rfl
def md6 (nm:Value) (mdv:Value):List Value:=[.int .i64 0,.int .i64 1,.int .i64 0,nm,.slice none 0 0,mdv]
def PU (_:Unit) (_:List Value) (_:World):Prop:=True
def fc16 (gp gm gd:Nat) (K:Int) (mdv:Value) (B S:Nat) (acc:List Unit):Nat → Value → World → Prop
 | 0,v,_ => v = .pointer (some ⟨gp,0,none⟩)
 | 1,v,_ => v = .slice (some ⟨gm,0,none⟩) 1 1
 | 2,v,_ => v = .pointer (some ⟨gp,0,none⟩)
 | 3,v,_ => v = .slice (some ⟨gm,0,none⟩) 1 1
 | 4,v,_ => v = .pointer (some ⟨gm,0,none⟩)
 | 5,v,_ => v = .pointer (some ⟨gm,5,none⟩)
 | 6,v,_ => v = mdv
 | 7,v,_ => v = .pointer (some ⟨gd,0,none⟩)
 | 8,v,_ => v = .agg #[.int .i64 0,.int .i64 1,.int .i64 K]
 | 9,v,w => ∃ g,v = .slice (some ⟨g,0,none⟩) 1 1 ∧ S ≤ g ∧ Arr w g 3 28 [.int .i64 0,.int .i64 1,.int .i64 K]
 | 10,v,w => GrowG 28 3 PU w B v (acc ++ [()]) ∧ ∀ g,v.ownBlock = some g → mdv.ownBlock = some g ∨ S ≤ g
 | 11,v,_ => v = .pointer (some ⟨gm,0,none⟩)
 | 12,v,_ => v = .pointer (some ⟨gm,5,none⟩)
 | _,_,_ => True
theorem fc16_ext (gp gm gd:Nat) (K:Int) (mdv:Value) (B S:Nat) (acc:List Unit) (hBS:B ≤ S):∀ j v w w' E,j < 13 → (E = B ∨ (E = S ∧ j ≠ 10)) → Ext E w w' → fc16 gp gm gd K mdv B S acc j v w → fc16 gp gm gd K mdv B S acc j v w':=by
 intro j v w w' E hj hE he h
 have hES:E ≤ S:=by omega
 match j,hj,h with
 | 0,_,h => exact h
 | 1,_,h => exact h
 | 2,_,h => exact h
 | 3,_,h => exact h
 | 4,_,h => exact h
 | 5,_,h => exact h
 | 6,_,h => exact h
 | 7,_,h => exact h
 | 8,_,h => exact h
 | 9,_,⟨g,h1,h2,h3⟩ => exact ⟨g,h1,h2,h3.ext he (by omega)⟩
 | 10,_,⟨h1,h2⟩ =>
  have:E = B:=by omega
  subst this
  exact ⟨h1.keep he.1 he.2,h2⟩
 | 11,_,h => exact h
 | 12,_,h => exact h
 | n + 13,hn,_ => exact absurd hn (by omega)
def D16:List Nat:=[78,79,80,81,82,83,84,85,86,87,88,89,90]
def ds16 (k:Nat):Nat:=78 + k
theorem ds16_mem:∀ k,k < 13 → ds16 k < 92 ∧ ds16 k ∈ D16:=by decide
structure GC16 (gp gm gd:Nat) (K kd:Int) (nmD:ByteArray) (sv dv nmM mdv:Value) (B S:Nat) (w0:World) (acc:List Unit) (c:Bool) (w:World):Prop where
 old:∀ g,g < S → mdv.ownBlock ≠ some g → w.heap[g]? = w0.heap[g]?
 bel:Below 0 w0 w
 sz:S ≤ w.heap.size
 ap:Arr w gp 2 26 [.slice (some ⟨gm,0,none⟩) 1 1,dv]
 am:Arr w gm 6 84 (md6 nmM mdv)
 ad:Arr w gd 31 46 (df31 K kd nmD sv)
 gr:c = false → GrowG 28 3 PU w B mdv acc
theorem GC16.later {gp gm gd:Nat} {K kd:Int} {nmD:ByteArray} {sv dv nmM mdv:Value} {B S:Nat} {w0:World} {acc:List Unit} {c:Bool} {w w':World} (h:GC16 gp gm gd K kd nmD sv dv nmM mdv B S w0 acc c w) (hb:Below w.heap.size w w'):GC16 gp gm gd K kd nmD sv dv nmM mdv B S w0 acc c w' :=
 ⟨fun g hg hn => (hb.block g (Nat.lt_of_lt_of_le hg h.sz)).trans (h.old g hg hn),h.bel.trans (hb.mono (Nat.zero_le _)),Nat.le_trans h.sz hb.size,h.ap.later hb,h.am.later hb,h.ad.later hb,fun hc => (h.gr hc).keep (hb.mono (Nat.zero_le _)) (fun g _ hg => hb.block g hg)⟩
set_option maxHeartbeats 1000000 in
set_option maxRecDepth 100000 in
theorem reg16 {Q:Exit → Act → World → Prop} {id:Nat} {ops:Array Oper} (hops:ops = ((Tryd.f10.body).bind (opsOf 16)).getD #[]) (a0:Act) (w0:World) (gp gm gd B:Nat) (sv dv nmM mdv:Value) (K kd:Int) (nmD:ByteArray) (acc:List Unit) (hac:acc.length ≤ 4) (hsz:92 ≤ a0.tmps.size)
  (h3:ag a0 3 = .pointer (some ⟨gp,0,none⟩)) (h8:ag a0 8 = .pointer (some ⟨gd,0,none⟩)) (hgp:gp < B) (hgm:gm < B) (hB:B ≤ w0.heap.size) (hgd:mdv.ownBlock ≠ some gd)
  (hAp:Arr w0 gp 2 26 [.slice (some ⟨gm,0,none⟩) 1 1,dv]) (hAm:Arr w0 gm 6 84 (md6 nmM mdv)) (hAd:Arr w0 gd 31 46 (df31 K kd nmD sv)) (hG:GrowG 28 3 PU w0 B mdv acc)
  (hQ:∀ (vs:Nat → Value) (mdv':Value) (w':World),GrowG 28 3 PU w' B mdv' (acc ++ [()]) → (∀ g,mdv'.ownBlock = some g → mdv.ownBlock = some g ∨ w0.heap.size ≤ g) → Arr w' gm 6 84 (md6 nmM mdv') → Below 0 w0 w' → (∀ g,g < w0.heap.size → g ≠ gm → mdv.ownBlock ≠ some g → w'.heap[g]? = w0.heap[g]?) → ∀ a',a' = D16.foldl (fun b s => b.put (some s) (vs s)) a0 → Q .normal a' w') :
  (Code.region id ops true).wp Tryd.prog Q a0 w0:=by
 have hown:∀ g,mdv.ownBlock = some g → B ≤ g ∧ g < w0.heap.size:=hG.lt
 have hg0:GC16 gp gm gd K kd nmD sv dv nmM mdv B w0.heap.size w0 acc false w0.drew:=GC16.later ⟨fun _ _ _ => rfl,Below.refl _ _,Nat.le_refl _,hAp,hAm,hAd,fun _ => hG⟩ (below_drewN (Below.refl _ _) 1)
 have hin:∀ (a:Nat) (k:Nat),a < 13 → k < 13 → ds16 a = ds16 k → a = k:=fun a k _ _ h => by unfold ds16 at h;omega
 refine wp_region_facts 13 10 D16 ds16 (fc16 gp gm gd K mdv B w0.heap.size acc) (GC16 gp gm gd K kd nmD sv dv nmM mdv B w0.heap.size w0 acc) B w0.heap.size (by kernel_rfl) (by subst hops;kernel_rfl) (by subst hops;kernel_rfl) (by subst hops;kernel_rfl) (fun k hk => (ds16_mem k hk).2) (fun k hk => by have:=(ds16_mem k hk).1;omega) hin (fc16_ext gp gm gd K mdv B w0.heap.size acc hB) hg0 ?_ ?_
 ·intro j a w c hj hip ho hg hd
  have hgs:=hg.sz
  match j,hj,hd with
  | 0,hk,hd =>
   have s:(ops[0]?).map sig = some (some 78,.fieldAddr 26 (.tmp 3) 0,0,none):=by subst hops;kernel_rfl
   refine op_val s (w':=w) (v:=.pointer (some ⟨gp,0,none⟩)) ?_ ⟨_,rfl,?_,?_,?_⟩
   ·have e:ag a 3 = _:=(ho.off 3 (by decide)).trans h3
    simp only [execOp,eval_tmp,e]
    go_simp
   ·exact Ext.refl _ _
   ·rfl
   ·exact hg
  | 1,hk,hd =>
   have s:(ops[1]?).map sig = some (some 79,.load 23 (.tmp 78),23,none):=by subst hops;kernel_rfl
   have d0:=hd 0 (by decide) (by subst hops;kernel_rfl)
   refine op_val s (w':=w) (v:=.slice (some ⟨gm,0,none⟩) 1 1) ?_ ⟨_,rfl,?_,?_,?_⟩
   ·have e:ag a 78 = _:=d0
    have hc:=hg.ap.cell (j:=0) (v:=.slice (some ⟨gm,0,none⟩) 1 1) rfl
    simp only [execOp,eval_tmp,e]
    go_simp
   ·exact Ext.refl _ _
   ·rfl
   ·exact hg
  | 2,hk,hd =>
   have s:(ops[2]?).map sig = some (some 80,.fieldAddr 26 (.tmp 3) 0,0,none):=by subst hops;kernel_rfl
   refine op_val s (w':=w) (v:=.pointer (some ⟨gp,0,none⟩)) ?_ ⟨_,rfl,?_,?_,?_⟩
   ·have e:ag a 3 = _:=(ho.off 3 (by decide)).trans h3
    simp only [execOp,eval_tmp,e]
    go_simp
   ·exact Ext.refl _ _
   ·rfl
   ·exact hg
  | 3,hk,hd =>
   have s:(ops[3]?).map sig = some (some 81,.load 23 (.tmp 80),23,none):=by subst hops;kernel_rfl
   have d2:=hd 2 (by decide) (by subst hops;kernel_rfl)
   refine op_val s (w':=w) (v:=.slice (some ⟨gm,0,none⟩) 1 1) ?_ ⟨_,rfl,?_,?_,?_⟩
   ·have e:ag a 80 = _:=d2
    have hc:=hg.ap.cell (j:=0) (v:=.slice (some ⟨gm,0,none⟩) 1 1) rfl
    simp only [execOp,eval_tmp,e]
    go_simp
   ·exact Ext.refl _ _
   ·rfl
   ·exact hg
  | 4,hk,hd =>
   have s:(ops[4]?).map sig = some (some 82,.indexAddr 23 (.tmp 81) (.const (.int .i64 0)),0,none):=by subst hops;kernel_rfl
   have d3:=hd 3 (by decide) (by subst hops;kernel_rfl)
   refine op_val s (w':=w) (v:=.pointer (some ⟨gm,0,none⟩)) ?_ ⟨_,rfl,?_,?_,?_⟩
   ·have e:ag a 81 = _:=d3
    simp only [execOp,eval_tmp,e]
    go_simp
   ·exact Ext.refl _ _
   ·rfl
   ·exact hg
  | 5,hk,hd =>
   have s:(ops[5]?).map sig = some (some 83,.fieldAddr 84 (.tmp 82) 3,0,none):=by subst hops;kernel_rfl
   have d4:=hd 4 (by decide) (by subst hops;kernel_rfl)
   refine op_val s (w':=w) (v:=.pointer (some ⟨gm,5,none⟩)) ?_ ⟨_,rfl,?_,?_,?_⟩
   ·have e:ag a 82 = _:=d4
    simp only [execOp,eval_tmp,e]
    go_simp
   ·exact Ext.refl _ _
   ·rfl
   ·exact hg
  | 6,hk,hd =>
   have s:(ops[6]?).map sig = some (some 84,.load 82 (.tmp 83),82,none):=by subst hops;kernel_rfl
   have d5:=hd 5 (by decide) (by subst hops;kernel_rfl)
   refine op_val s (w':=w) (v:=mdv) ?_ ⟨_,rfl,?_,?_,?_⟩
   ·have e:ag a 83 = _:=d5
    have hc:=hg.am.cell (j:=5) (v:=mdv) rfl
    simp only [execOp,eval_tmp,e]
    go_simp
   ·exact Ext.refl _ _
   ·rfl
   ·exact hg
  | 7,hk,hd =>
   have s:(ops[7]?).map sig = some (some 85,.fieldAddr 46 (.tmp 8) 0,0,none):=by subst hops;kernel_rfl
   refine op_val s (w':=w) (v:=.pointer (some ⟨gd,0,none⟩)) ?_ ⟨_,rfl,?_,?_,?_⟩
   ·have e:ag a 8 = _:=(ho.off 8 (by decide)).trans h8
    simp only [execOp,eval_tmp,e]
    go_simp
   ·exact Ext.refl _ _
   ·rfl
   ·exact hg
  | 8,hk,hd =>
   have s:(ops[8]?).map sig = some (some 86,.load 28 (.tmp 85),28,none):=by subst hops;kernel_rfl
   have d7:=hd 7 (by decide) (by subst hops;kernel_rfl)
   have e:ag a 85 = _:=d7
   refine wpOp_of s fun o h1 h2 h3 h4 => ?_
   refine wp_load_mid _ _ h2 gd 0 e [.int .i64 0,.int .i64 1,.int .i64 K] _ (range_left (xs:=[.int .i64 0,.int .i64 1,.int .i64 K]) (ys:=(df31 K kd nmD sv).drop 3) hg.ad.range) Tryd.underlying28 rfl info_id ?_
   rw [h1]
   exact ⟨_,rfl,Ext.refl _ _,rfl,hg⟩
  | 9,hk,hd =>
   have s:(ops[9]?).map sig = some (some 87,.buildSlice 82 1 #[(0,.tmp 86)],82,none):=by subst hops;kernel_rfl
   have d8:=hd 8 (by decide) (by subst hops;kernel_rfl)
   refine op_val s (w':=w.alloc (.cells #[.int .i64 0,.int .i64 1,.int .i64 K] 28)) (v:=.slice (some ⟨w.heap.size,0,none⟩) 1 1) ?_ ⟨_,rfl,?_,?_,?_⟩
   ·have e:ag a 86 = _:=d8
    simp only [execOp,List.map_toArray,List.map_cons,List.map_nil,eval_tmp,e]
    go_simp
   ·exact Ext.of (new_later w _)
   ·exact ⟨_,rfl,hgs,Arr.new' w _ _ 3 _ rfl rfl (by decide)⟩
   ·exact GC16.later hg (new_later w _)
  | 10,hk,hd =>
   have s:(ops[10]?).map sig = some (some 88,.call { callee:=.builtin .append,args:=#[.tmp 84,.tmp 87],argTypes:=#[82,82] },82,none):=by subst hops;kernel_rfl
   have d6:=hd 6 (by decide) (by subst hops;kernel_rfl)
   have d9:=hd 9 (by decide) (by subst hops;kernel_rfl)
   obtain ⟨gn,e9,hgn,hAn⟩:=d9
   have e9:ag a 87 = _:=e9
   have e6:ag a 84 = mdv:=d6
   have hG1:=hg.gr (hip rfl)
   refine wpOp_of s fun o h1 h2 h3 h4 => ?_
   refine wp_putG (x:=()) (C:=[.int .i64 0,.int .i64 1,.int .i64 K]) hG1 rfl (Foot.const trivial) (Nat.le_trans hB hgs) ⟨by omega,by simp only [maxLen];omega⟩ Tryd.underlying82 info_id3 rfl (by decide) (List.all_eq_true.mp (by rfl)) (.tmp 84) (.tmp 87) h2 e6 e9 hAn.range ?_
   intro g cap w' hG2 hb2 hk2 hn2
   rw [h1]
   have hm:∀ k,k < B → w'.heap[k]? = w.heap[k]?:=fun k hk => hk2 k (by omega) (fun e => by have:=(hown k e).1;omega)
   refine ⟨_,rfl,⟨hb2.mono (Nat.zero_le _),fun g hg1 hg2 => hk2 g hg2 (fun e => ?_)⟩,⟨hG2,fun g' e => ?_⟩,?_⟩
   ·have:=(hown g e).2
    simp only [if_pos] at hg1
    omega
   ·have:g = g':=by simpa [Value.ownBlock] using e
    subst this
    exact hn2.imp (fun h => h) (fun h => by omega)
   ·refine ⟨fun k hk hn => (hk2 k (by omega) hn).trans (hg.old k hk hn),hg.bel.trans (hb2.mono (Nat.zero_le _)),Nat.le_trans hgs hb2.size,hg.ap.below hb2 hgp,hg.am.below hb2 hgm,?_,fun h => by cases h⟩
    exact arr_same hg.ad (hk2 gd hg.ad.lt hgd)
  | 11,hk,hd =>
   have s:(ops[11]?).map sig = some (some 89,.indexAddr 23 (.tmp 79) (.const (.int .i64 0)),0,none):=by subst hops;kernel_rfl
   have d1:=hd 1 (by decide) (by subst hops;kernel_rfl)
   refine op_val s (w':=w) (v:=.pointer (some ⟨gm,0,none⟩)) ?_ ⟨_,rfl,?_,?_,?_⟩
   ·have e:ag a 79 = _:=d1
    simp only [execOp,eval_tmp,e]
    go_simp
   ·exact Ext.refl _ _
   ·rfl
   ·exact hg
  | 12,hk,hd =>
   have s:(ops[12]?).map sig = some (some 90,.fieldAddr 84 (.tmp 89) 3,0,none):=by subst hops;kernel_rfl
   have d11:=hd 11 (by decide) (by subst hops;kernel_rfl)
   refine op_val s (w':=w) (v:=.pointer (some ⟨gm,5,none⟩)) ?_ ⟨_,rfl,?_,?_,?_⟩
   ·have e:ag a 89 = _:=d11
    simp only [execOp,eval_tmp,e]
    go_simp
   ·exact Ext.refl _ _
   ·rfl
   ·exact hg
  | n + 13,hn,_ => exact absurd hn (by omega)
 ·intro a w c ho _ hg hf
  have e90:ag a 90 = _:=hf 12 (by decide)
  obtain ⟨hG',hnew⟩:=hf 10 (by decide)
  obtain ⟨A',cap',hsh,_⟩:=hG'.shape
  have e88:ag a 88 = _:=hsh
  have hc:=hg.am.cell (j:=5) (v:=mdv) rfl
  have hfz:=hg.am.free 5
  have s:(ops[13]?).map sig = some (none,.store 82 (.tmp 90) (.tmp 88),0,none):=by subst hops;kernel_rfl
  refine op_skip s (w':=w.setCell ⟨gm,5,none⟩ (ag a 88)) ?_ ?_
  ·rw [e88]
   simp only [execOp,eval_tmp,e90,e88]
   go_simp
  ·have hO:=Only.setCells gm 5 [ag a 88] w
   have hA2:=hg.am.set_ 5 (ag a 88)
   exact hQ (ag a) (ag a 88) (w.setCell ⟨gm,5,none⟩ (ag a 88)) (hG'.keep (hO.bel.mono (Nat.zero_le _)) (fun g hgB _ => hO.2 g (by omega))) hnew hA2 (hg.bel.trans (hO.bel.mono (Nat.zero_le _))) (fun g hg1 hg2 hg3 => (hO.2 g hg2).trans (hg.old g hg1 hg3)) _ (ho.eq (fun s hs => Nat.lt_of_lt_of_le ((by decide:∀ s ∈ D16,s < 92) s hs) hsz))
end Go.Proofs.YtmfihlcibephlaaDoor
namespace Go.Proofs.YtmfihlcibephlaaDoor
open Go.RowKit
def PC (x C:List Value) (_:World):Prop:=C = x
structure GK (gB:Nat) (x0 x1 kv:Value) (B S:Nat) (w0:World) (acc:List (List Value)) (c:Bool) (w:World):Prop where
 old:∀ g,g < S → kv.ownBlock ≠ some g → w.heap[g]? = w0.heap[g]?
 bel:Below 0 w0 w
 sz:S ≤ w.heap.size
 ab:Arr w gB 3 53 [x0,x1,kv]
 gr:c = false → GrowG 53 3 PC w B kv acc
theorem GK.later {gB:Nat} {x0 x1 kv:Value} {B S:Nat} {w0:World} {acc:List (List Value)} {c:Bool} {w w':World} (h:GK gB x0 x1 kv B S w0 acc c w) (hb:Below w.heap.size w w'):GK gB x0 x1 kv B S w0 acc c w' :=
 ⟨fun g hg hn => (hb.block g (Nat.lt_of_lt_of_le hg h.sz)).trans (h.old g hg hn),h.bel.trans (hb.mono (Nat.zero_le _)),Nat.le_trans h.sz hb.size,h.ab.later hb,fun hc => (h.gr hc).keep (hb.mono (Nat.zero_le _)) (fun g _ hg => hb.block g hg)⟩
end Go.Proofs.YtmfihlcibephlaaDoor
namespace Go.Proofs.YtmfihlcibephlaaDoor
open Go.RowKit
def kcf18c (gB:Nat) (kv:Value) (B S:Nat) (acc:List (List Value)) (ii:Nat):Nat → Value → World → Prop
 | 0,v,_ => v = .pointer (some ⟨gB,2,none⟩)
 | 1,v,_ => v = kv
 | 2,v,_ => v = .int .i64 (ii:Int)
 | 3,v,_ => v = .agg #[.int .i64 0,.int .i64 (ii:Int),.slice none 0 0]
 | 4,v,w => ∃ g,v = .slice (some ⟨g,0,none⟩) 1 1 ∧ S ≤ g ∧ Arr w g 3 53 [.int .i64 0,.int .i64 (ii:Int),.slice none 0 0]
 | 5,v,w => GrowG 53 3 PC w B v (acc ++ [[.int .i64 0,.int .i64 (ii:Int),.slice none 0 0]]) ∧ ∀ g,v.ownBlock = some g → kv.ownBlock = some g ∨ S ≤ g
 | 6,v,_ => v = .pointer (some ⟨gB,2,none⟩)
 | _,_,_ => True
theorem kcf18c_ext (gB:Nat) (kv:Value) (B S:Nat) (acc:List (List Value)) (ii:Nat) (hBS:B ≤ S):∀ j v w w' E,j < 7 → (E = B ∨ (E = S ∧ j ≠ 5)) → Ext E w w' → kcf18c gB kv B S acc ii j v w → kcf18c gB kv B S acc ii j v w':=by
 intro j v w w' E hj hE he h
 have hES:E ≤ S:=by omega
 match j,hj,h with
 | 0,_,h => exact h
 | 1,_,h => exact h
 | 2,_,h => exact h
 | 3,_,h => exact h
 | 4,_,⟨g,h1,h2,h3⟩ => exact ⟨g,h1,h2,h3.ext he (by omega)⟩
 | 5,_,⟨h1,h2⟩ =>
  have:E = B:=by omega
  subst this
  exact ⟨h1.keep he.1 he.2,h2⟩
 | 6,_,h => exact h
 | n + 7,hn,_ => exact absurd hn (by omega)
def kcD18c:List Nat:=[94,95,96,97,98,99,100]
def kcd18c (k:Nat):Nat:=94 + k
theorem kcd18c_mem:∀ k,k < 7 → kcd18c k < 158 ∧ kcd18c k ∈ kcD18c:=by decide
set_option maxHeartbeats 1000000 in
set_option maxRecDepth 100000 in
theorem kcreg18c {Q:Exit → Act → World → Prop} {id:Nat} {ops:Array Oper} (hops:ops = ((Tryd.f7.body).bind (opsOf 18)).getD #[]) (a0:Act) (w0:World) (gB:Nat) (kv:Value) (B:Nat) (acc:List (List Value)) (x0 x1:Value) (ii:Nat) (hac:acc.length ≤ 1000000) (hsz:a0.tmps.size = 158)
  (hbx:ag a0 22 = .pointer (some ⟨gB,0,none⟩)) (h22:ag a0 23 = .int .i64 (ii:Int)) (hgB:gB < B) (hB:B ≤ w0.heap.size) (hAb:Arr w0 gB 3 53 [x0,x1,kv]) (hG:GrowG 53 3 PC w0 B kv acc)
  (hQ:∀ (vs:Nat → Value) (kv':Value) (w':World),GrowG 53 3 PC w' B kv' (acc ++ [[.int .i64 0,.int .i64 (ii:Int),.slice none 0 0]]) → (∀ g,kv'.ownBlock = some g → kv.ownBlock = some g ∨ w0.heap.size ≤ g) → Arr w' gB 3 53 [x0,x1,kv'] → Below 0 w0 w' → (∀ g,g < w0.heap.size → g ≠ gB → kv.ownBlock ≠ some g → w'.heap[g]? = w0.heap[g]?) → ∀ a',a' = kcD18c.foldl (fun b s => b.put (some s) (vs s)) a0 → Q .normal a' w') :
  (Code.region id ops true).wp Tryd.prog Q a0 w0:=by
 have hown:∀ g,kv.ownBlock = some g → B ≤ g ∧ g < w0.heap.size:=hG.lt
 have hg0:GK gB x0 x1 kv B w0.heap.size w0 acc false w0.drew:=GK.later ⟨fun _ _ _ => rfl,Below.refl _ _,Nat.le_refl _,hAb,fun _ => hG⟩ (below_drewN (Below.refl _ _) 1)
 have hin:∀ (a:Nat) (k:Nat),a < 7 → k < 7 → kcd18c a = kcd18c k → a = k:=fun a k _ _ h => by unfold kcd18c at h;omega
 refine wp_region_facts 7 5 kcD18c kcd18c (kcf18c gB kv B w0.heap.size acc ii) (GK gB x0 x1 kv B w0.heap.size w0 acc) B w0.heap.size (by kernel_rfl) (by subst hops;kernel_rfl) (by subst hops;kernel_rfl) (by subst hops;kernel_rfl) (fun k hk => (kcd18c_mem k hk).2) (fun k hk => by have:=(kcd18c_mem k hk).1;omega) hin (kcf18c_ext gB kv B w0.heap.size acc ii hB) hg0 ?_ ?_
 ·intro j a w c hj hip ho hg hd
  have hgs:=hg.sz
  match j,hj,hd with
  | 0,hk,hd =>
   have s:(ops[0]?).map sig = some (some 94,.fieldAddr 53 (.tmp 22) 2,0,none):=by subst hops;kernel_rfl
   refine op_val s (w':=w) (v:=.pointer (some ⟨gB,2,none⟩)) ?_ ⟨_,rfl,?_,?_,?_⟩
   ·have e0:ag a 22 = .pointer (some ⟨gB,0,none⟩):=(ho.off 22 (by decide)).trans hbx
    simp only [execOp,eval_tmp,e0]
    go_simp
   ·exact Ext.refl _ _
   ·rfl
   ·exact hg
  | 1,hk,hd =>
   have s:(ops[1]?).map sig = some (some 95,.load 51 (.tmp 94),51,none):=by subst hops;kernel_rfl
   have d0:=hd 0 (by decide) (by subst hops;kernel_rfl)
   refine op_val s (w':=w) (v:=kv) ?_ ⟨_,rfl,?_,?_,?_⟩
   ·have e0:ag a 94 = .pointer (some ⟨gB,2,none⟩):=d0
    have hc:=hg.ab.cell (j:=2) (v:=kv) rfl
    simp only [execOp,eval_tmp,e0]
    go_simp
   ·exact Ext.refl _ _
   ·rfl
   ·exact hg
  | 2,hk,hd =>
   have s:(ops[2]?).map sig = some (some 96,.move (.tmp 23),3,none):=by subst hops;kernel_rfl
   refine op_val s (w':=w) (v:=.int .i64 (ii:Int)) ?_ ⟨_,rfl,?_,?_,?_⟩
   ·have e0:ag a 23 = .int .i64 (ii:Int):=(ho.off 23 (by decide)).trans h22
    exact congrArg (fun x => Result.ok (Next.value x) w) e0
   ·exact Ext.refl _ _
   ·rfl
   ·exact hg
  | 3,hk,hd =>
   have s:(ops[3]?).map sig = some (some 97,.call { callee:=.value (.func 27),args:=#[.tmp 96],argTypes:=#[3] },53,none):=by subst hops;kernel_rfl
   have d2:=hd 2 (by decide) (by subst hops;kernel_rfl)
   have e0:ag a 96 = .int .i64 (ii:Int):=d2
   refine op_call s (w':=w) (f:=27) (args:=#[.int .i64 (ii:Int)]) ?_ ?_
   ·simp only [execOp]
    go_simp
    simpa [ag] using e0
   ·refine (num_any (ii:Int) w).mono ?_
    rintro e w' ⟨rfl,hb⟩
    exact ⟨_,rfl,_,rfl,Ext.of hb,rfl,GK.later hg hb⟩
  | 4,hk,hd =>
   have s:(ops[4]?).map sig = some (some 98,.buildSlice 51 1 #[(0,.tmp 97)],51,none):=by subst hops;kernel_rfl
   have d3:=hd 3 (by decide) (by subst hops;kernel_rfl)
   have e0:ag a 97 = .agg #[.int .i64 0,.int .i64 (ii:Int),.slice none 0 0]:=d3
   refine op_val s (w':=w.alloc (.cells #[.int .i64 0,.int .i64 (ii:Int),.slice none 0 0] 53)) (v:=.slice (some ⟨w.heap.size,0,none⟩) 1 1) ?_ ⟨_,rfl,?_,?_,?_⟩
   ·simp only [execOp,List.map_toArray,List.map_cons,List.map_nil,eval_tmp,e0]
    go_simp
   ·exact Ext.of (new_later w _)
   ·exact ⟨_,rfl,hgs,Arr.new' w _ _ 3 _ rfl rfl (by decide)⟩
   ·exact GK.later hg (new_later w _)
  | 5,hk,hd =>
   have s:(ops[5]?).map sig = some (some 99,.call { callee:=.builtin .append,args:=#[.tmp 95,.tmp 98],argTypes:=#[51,51] },51,none):=by subst hops;kernel_rfl
   have d1:=hd 1 (by decide) (by subst hops;kernel_rfl)
   have d4:=hd 4 (by decide) (by subst hops;kernel_rfl)
   obtain ⟨gn,e9,hgn,hAn⟩:=d4
   have e9:ag a 98 = _:=e9
   have e6:ag a 95 = kv:=d1
   have hG1:=hg.gr (hip rfl)
   refine wpOp_of s fun o h1 h2 h3 h4 => ?_
   refine wp_putG (x:=[.int .i64 0,.int .i64 (ii:Int),.slice none 0 0]) (C:=[.int .i64 0,.int .i64 (ii:Int),.slice none 0 0]) hG1 rfl (Foot.const rfl) (Nat.le_trans hB hgs) ⟨by omega,by simp only [maxLen];omega⟩ Tryd.underlying51 info_val3 rfl (by decide) (List.all_eq_true.mp (by rfl)) (.tmp 95) (.tmp 98) h2 e6 e9 hAn.range ?_
   intro g cap w' hG2 hb2 hk2 hn2
   rw [h1]
   have hm:∀ k,k < B → w'.heap[k]? = w.heap[k]?:=fun k hk => hk2 k (by omega) (fun e => by have:=(hown k e).1;omega)
   refine ⟨_,rfl,⟨hb2.mono (Nat.zero_le _),fun g hg1 hg2 => hk2 g hg2 (fun e => ?_)⟩,⟨hG2,fun g' e => ?_⟩,?_⟩
   ·have:=(hown g e).2
    simp only [if_pos] at hg1
    omega
   ·have:g = g':=by simpa [Value.ownBlock] using e
    subst this
    exact hn2.imp (fun h => h) (fun h => by omega)
   ·exact ⟨fun k hk hn => (hk2 k (by omega) hn).trans (hg.old k hk hn),hg.bel.trans (hb2.mono (Nat.zero_le _)),Nat.le_trans hgs hb2.size,hg.ab.below hb2 hgB,fun h => by cases h⟩
  | 6,hk,hd =>
   have s:(ops[6]?).map sig = some (some 100,.fieldAddr 53 (.tmp 22) 2,0,none):=by subst hops;kernel_rfl
   refine op_val s (w':=w) (v:=.pointer (some ⟨gB,2,none⟩)) ?_ ⟨_,rfl,?_,?_,?_⟩
   ·have e0:ag a 22 = .pointer (some ⟨gB,0,none⟩):=(ho.off 22 (by decide)).trans hbx
    simp only [execOp,eval_tmp,e0]
    go_simp
   ·exact Ext.refl _ _
   ·rfl
   ·exact hg
  | n + 7,hn,_ => exact absurd hn (by omega)
 ·intro a w c ho _ hg hf
  have e90:ag a 100 = _:=hf 6 (by decide)
  obtain ⟨hG',hnew⟩:=hf 5 (by decide)
  obtain ⟨A',cap',hsh,_⟩:=hG'.shape
  have e88:ag a 99 = _:=hsh
  have hc:=hg.ab.cell (j:=2) (v:=kv) rfl
  have hfz:=hg.ab.free 2
  have s:(ops[7]?).map sig = some (none,.store 51 (.tmp 100) (.tmp 99),0,none):=by subst hops;kernel_rfl
  refine op_skip s (w':=w.setCell ⟨gB,2,none⟩ (ag a 99)) ?_ ?_
  ·rw [e88]
   simp only [execOp,eval_tmp,e90,e88]
   go_simp
  ·have hO:=Only.setCells gB 2 [ag a 99] w
   have hA2:=hg.ab.set_ 2 (ag a 99)
   exact hQ (ag a) (ag a 99) (w.setCell ⟨gB,2,none⟩ (ag a 99)) (hG'.keep (hO.bel.mono (Nat.zero_le _)) (fun g hgB _ => hO.2 g (by omega))) hnew hA2 (hg.bel.trans (hO.bel.mono (Nat.zero_le _))) (fun g hg1 hg2 hg3 => (hO.2 g hg2).trans (hg.old g hg1 hg3)) _ (ho.eq (fun s hs => by rw [hsz];revert s;decide))
end Go.Proofs.YtmfihlcibephlaaDoor
namespace Go.Proofs.YtmfihlcibephlaaDoor
open Go.RowKit
theorem info_slots3:(Tryd.prog.info? 66).map (fun i => (i.zero,i.size,i.bytes)) = some (some (.agg #[.int .i64 0,.int .i64 0,.int .i64 0,.string ⟨#[]⟩,.int .i64 0,.int .i64 0,.int .i64 0,.int .i64 0,.slice none 0 0,.int .i64 0,.int .i64 0]),11,112):=by kernel_rfl
set_option maxHeartbeats 400000 in
set_option maxRecDepth 100000 in
theorem clone_slots (w:World) (g o m cap:Nat) (C:List Value) (hC:C.length = m * 11) (hr:w.rangeAt g o C) (h1:∀ u ∈ C,u.oneCell' = true) (hm:0 < m) (hmc:m ≤ cap ∧ cap ≤ maxLen) (hb:m * 112 ≤ 140737488355328) :
  Calls Tryd.prog 87 #[.slice (some ⟨g,o,none⟩) m cap] w (fun e w' => ∃ h c',e = .returned (.slice (some ⟨h,0,none⟩) m c') ∧ w'.ownsRow w.heap.size 66 11 (.slice (some ⟨h,0,none⟩) m c') m C ∧ Below w.heap.size w w'):=by
 have heq:∀ W,(binOp BinOp.eql 40 (.slice (some ⟨g,o,none⟩) m cap) (.slice none 0 0)).run Tryd.prog W = .ok (.bool false) W:=fun W => by kernel_rfl
 have HNW:Hid (∀ j u,C[j]? = some u → (w.alloc (.cells #[] 66)).cell? ((⟨g,o,none⟩:Addr).add j) = some u):=Lib.hid fun j u hu => by
  have h:=range_below hr (new_later w (.cells #[] 66)) j u hu
  have ha:(⟨g,o,none⟩:Addr).add j = ⟨g,o + j,none⟩:=by unfold Addr.add;split <;> simp_all
  rw [ha];exact h
 have HOW:Hid ((w.alloc (.cells #[] 66)).ownsRow w.heap.size 66 11 (.slice (some ⟨w.heap.size,0,none⟩) 0 0) 0 []):=Lib.hid (World.ownsRow_made w #[] 0 (Nat.le_refl _) (by simp [maxLen]) rfl)
 obtain ⟨i0,hi0,hz0,hz1,hz2⟩:=info_parts info_slots3
 have HI:=Lib.hid (And.intro hi0 (And.intro hz0 (And.intro hz1 hz2)))
 have HH:=Lib.hid (And.intro hC (And.intro h1 (And.intro hm (And.intro hmc hb))))
 clear hr hC h1 hm hmc hb hi0 hz0 hz1 hz2
 go_enter Tryd.func87,Tryd.ntmps87
 go_wp2_with (at_builtin;refine wpList_append_lies _ rfl _ _ _ rfl w.heap.size 66 i0 (.agg #[.int .i64 0,.int .i64 0,.int .i64 0,.string ⟨#[]⟩,.int .i64 0,.int .i64 0,.int .i64 0,.int .i64 0,.slice none 0 0,.int .i64 0,.int .i64 0]) 11 112 rfl HI.out.1 HI.out.2.1 HI.out.2.2.1 HI.out.2.2.2 rfl (by omega) (.slice (some ⟨w.heap.size,0,none⟩) 0 0) 0 [] rfl HOW.out ⟨g,o,none⟩ m cap C rfl HH.out.1 HNW.out HH.out.2.1 HH.out.2.2.1 (by have:=HH.out.2.2.2.1;omega) (by have:=HH.out.2.2.2.2;omega) (by simp) (w.heap.size + 1) (by simp) ?_;intro h c' w' hown hgr hat hlt;have HO:=Lib.hid hown;have HG:=Lib.hid hgr;clear hown hgr hat hlt)
 go_ret
 refine ⟨h,c',by simp,?_,?_⟩
 ·have:=HO.out;simpa using this
 ·exact ((new_later w (.cells #[] 66)).mono (Nat.le_refl _)).grown HG.out (by simp) (fun k hk => by simp [Value.ownBlock] at hk;omega)
end Go.Proofs.YtmfihlcibephlaaDoor
namespace Go.Proofs.YtmfihlcibephlaaDoor
open Go.RowKit
set_option maxHeartbeats 400000 in
set_option maxRecDepth 100000 in
theorem clonenil_types (w:World):Calls Tryd.prog 92 #[.slice none 0 0] w (fun e w' => e = .returned (.slice none 0 0) ∧ w' = w):=by
 have heq:∀ W,(binOp BinOp.eql 29 (.slice none 0 0) (.slice none 0 0)).run Tryd.prog W = .ok (.bool true) W:=fun W => by kernel_rfl
 go_enter Tryd.func92,Tryd.ntmps92
 go_wp2_with fail
 go_ret
 exact ⟨by simp,by simp⟩
set_option maxHeartbeats 400000 in
set_option maxRecDepth 100000 in
theorem copynil_types (f:Value) (w:World):Calls Tryd.prog 88 #[.slice none 0 0,f] w (fun e w' => e = .returned (.slice none 0 0) ∧ w' = w):=by
 have HC:=Lib.hid (clonenil_types w)
 go_enter Tryd.func88,Tryd.ntmps88
 go_wp2_with (go_at_call 92;(with_reducible refine HC.out.mono ?_);rintro e w2 ⟨rfl,hw2⟩;rw [hw2];clear hw2)
 go_loopw [11] (fun i W => i = .int .i64 0 ∧ W = w) (fun _ _ => 0)
 case atStart => exact ⟨rfl,rfl⟩
 case round =>
  obtain ⟨rfl,hw⟩:=hrel
  subst hw
  go_wp2_with fail
  go_ret
  exact ⟨by simp,by simp⟩
set_option maxHeartbeats 400000 in
set_option maxRecDepth 100000 in
theorem clonenil_exprs (w:World):Calls Tryd.prog 93 #[.slice none 0 0] w (fun e w' => e = .returned (.slice none 0 0) ∧ w' = w):=by
 have heq:∀ W,(binOp BinOp.eql 41 (.slice none 0 0) (.slice none 0 0)).run Tryd.prog W = .ok (.bool true) W:=fun W => by kernel_rfl
 go_enter Tryd.func93,Tryd.ntmps93
 go_wp2_with fail
 go_ret
 exact ⟨by simp,by simp⟩
set_option maxHeartbeats 400000 in
set_option maxRecDepth 100000 in
theorem copynil_exprs (f:Value) (w:World):Calls Tryd.prog 89 #[.slice none 0 0,f] w (fun e w' => e = .returned (.slice none 0 0) ∧ w' = w):=by
 have HC:=Lib.hid (clonenil_exprs w)
 go_enter Tryd.func89,Tryd.ntmps89
 go_wp2_with (go_at_call 93;(with_reducible refine HC.out.mono ?_);rintro e w2 ⟨rfl,hw2⟩;rw [hw2];clear hw2)
 go_loopw [11] (fun i W => i = .int .i64 0 ∧ W = w) (fun _ _ => 0)
 case atStart => exact ⟨rfl,rfl⟩
 case round =>
  obtain ⟨rfl,hw⟩:=hrel
  subst hw
  go_wp2_with fail
  go_ret
  exact ⟨by simp,by simp⟩
set_option maxHeartbeats 400000 in
set_option maxRecDepth 100000 in
theorem clonenil_strs (w:World):Calls Tryd.prog 79 #[.slice none 0 0] w (fun e w' => e = .returned (.slice none 0 0) ∧ w' = w):=by
 have heq:∀ W,(binOp BinOp.eql 42 (.slice none 0 0) (.slice none 0 0)).run Tryd.prog W = .ok (.bool true) W:=fun W => by kernel_rfl
 go_enter Tryd.func79,Tryd.ntmps79
 go_wp2_with fail
 go_ret
 exact ⟨by simp,by simp⟩
end Go.Proofs.YtmfihlcibephlaaDoor
