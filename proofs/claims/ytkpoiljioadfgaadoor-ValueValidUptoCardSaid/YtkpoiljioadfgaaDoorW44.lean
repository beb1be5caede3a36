import Derived.Test.YtkpoiljioadfgaaDoorW23
import Derived.Test.YtkpoiljioadfgaaDoorW29
import Derived.Test.YtkpoiljioadfgaaDoorW32
import Derived.Test.YtkpoiljioadfgaaDoorW33
import Derived.Test.YtkpoiljioadfgaaDoorW36
import Derived.Test.YtkpoiljioadfgaaDoorW37
import Derived.Test.YtkpoiljioadfgaaDoorW38
import Derived.Test.YtkpoiljioadfgaaDoorW39
import Derived.Test.YtkpoiljioadfgaaDoorW43
set_option linter.unusedVariables false
set_option linter.unusedSimpArgs false
namespace Go.Proofs.YtkpoiljioadfgaaDoor
open Go.RowKit
theorem wp_region_factsG {P:Program} {ops:Array Oper} {Q:Exit → Act → World → Prop} {id:Nat} {a0:Act} {w0:World} (last pa ps:Nat) (D:List Nat) (ds:Nat → Nat) (F:Option Nat → Nat → Value → World → Prop) (G:Option Nat → World → Prop) (B:Nat) (Ea:Nat → World → World → Prop) (Ep:Option Nat → World → World → Prop) (rk:Nat → Nat)
  (hm:P.follows .mixedOrders = true) (hsz:ops.size = last + 1) (hac:acyR ops rk = true) (hnd:needB ops last = true) (hpal:pa < last)
  (hF:∀ γ k v w w',k < last → (Ext B w w' ∨ (k ≠ ps ∧ Ep γ w w')) → F γ k v w → F γ k v w') (hA:∀ g k v w w',k < last → k ≠ pa → Ea g w w' → F none k v w → F (some g) k v w') (h0:G none w0.drew)
  (hs:∀ γ i a w,i < last → i ≠ pa → Off D a0 a → G γ w → (∀ k,k < last → depB ops i k = true → F γ k (ag a (ds k)) w) →
   wpOp P ops Q i (PostE ops D ds last a0 a i (F γ) (fun w' => Ext B w w' ∨ (i = ps ∧ Ep γ w w')) (G γ)) a w)
  (hpa:∀ a w,Off D a0 a → G none w → (∀ k,k < last → depB ops pa k = true → F none k (ag a (ds k)) w) → wpOp P ops Q pa (fun a' w' => ∃ g,PostE ops D ds last a0 a pa (F (some g)) (fun w' => Ea g w w') (G (some g)) a' w') a w)
  (hl:∀ γ a w,Off D a0 a → G γ w → (∀ k,k < last → F γ k (ag a (ds k)) w) → wpOp P ops Q last (fun a' w' => Q .normal a' w') a w) :
  (Code.region id ops true).wp P Q a0 w0:=by
 refine wp_region_inv (fun listed a w => listed.size = last + 1 ∧ ((listed.getD last false = true ∧ (∀ k,k < last + 1 → listed.getD k false = true) ∧ Q .normal a w) ∨ (listed.getD last false = false ∧ (∀ i k,i < last → listed.getD i false = true → depB ops i k = true → listed.getD k false = true) ∧ Off D a0 a ∧ ∃ γ,G γ w ∧ (listed.getD pa false = false → γ = none) ∧ ∀ k,k < last → listed.getD k false = true → F γ k (ag a (ds k)) w))) hm ?_ ?_ ?_
 ·have hz:∀ k,(Array.replicate ops.size false).getD k false = false:=fun k => by
   simp only [Array.getD_eq_getD_getElem?,Array.getElem?_replicate];split <;> rfl
  refine ⟨by simp [hsz],.inr ⟨hz _,fun i k _ h => absurd h (by rw [hz];simp),Off.refl _ _,none,h0,fun _ => rfl,fun k _ h => absurd h (by rw [hz];simp)⟩⟩
 ·rintro listed a w ⟨hls,h | ⟨h1,_⟩⟩ hr
  ·exact h.2.2
  ·exfalso
   have hall:∀ n k,rk k ≤ n → k ≤ last → listed.getD k false = true:=by
    intro n
    induction n using Nat.strongRecOn with
    | _ n ih =>
     intro k hkn hk
     cases hb:listed.getD k false with
     | true => rfl
     | false =>
      have:=ready_ofR (ops:=ops) (listed:=listed) (rk:=rk) (i:=k) (by omega) (by rw [← hb];exact getD_in (by omega) _ _) (fun j hj hr => ih (rk j) (by omega) j (Nat.le_refl _) (by omega)) hac
      rw [hr] at this
      cases this
   rw [hall (rk last) last (Nat.le_refl _) (Nat.le_refl _)] at h1
   cases h1
 ·rintro listed a w i ⟨hls,h⟩ hi
  obtain ⟨hi1,hi2,_⟩:=ready_mem hi
  have hi3:listed.getD i false = false:=by rw [← hi2];exact getD_in (by omega) _ _
  rcases h with ⟨_,h,_⟩ | ⟨h1,hcl,ho,γ,hg,hγ,hf⟩
  ·rw [h i (by omega)] at hi3;cases hi3
  ·by_cases hil:i = last
   ·subst hil
    have hall:∀ n k,k < i → i ≤ k + n → listed.getD k false = true:=by
     intro n
     induction n with
     | zero => intro k h1 h2;omega
     | succ n ih =>
      intro k hk hn
      have hx:=List.all_eq_true.1 hnd k (List.mem_range.2 hk)
      obtain ⟨j,hj,hx⟩:=List.any_eq_true.1 hx
      rw [Bool.and_eq_true,decide_eq_true_eq] at hx
      have hj:=List.mem_range.1 hj
      by_cases hji:j = i
      ·rw [hji] at hx;exact ready_dep hi hx.2
      ·exact hcl j k (by omega) (ih j (by omega) (by omega)) hx.2
    have hall2:∀ k,k < i → listed.getD k false = true:=fun k hk => hall i k hk (by omega)
    refine wpOp_mono (fun a' w' hq => ?_) (hl γ a w ho hg (fun k hk => hf k hk (hall2 k hk)))
    refine ⟨by simp [hls],.inl ⟨?_,?_,hq⟩⟩
    ·rw [getD_set (by omega),if_pos rfl]
    ·intro k hk
     rw [getD_set (by omega)]
     split
     ·rfl
     ·exact hall2 k (by omega)
   ·have hil':i < last:=by omega
    have hcl':∀ j k,j < last → (listed.setIfInBounds i true).getD j false = true → depB ops j k = true → (listed.setIfInBounds i true).getD k false = true:=by
     intro j k hj hjl hd
     rw [getD_set (by omega)] at hjl ⊢
     split
     ·rfl
     ·by_cases hji:j = i
      ·rw [hji] at hd;exact ready_dep hi hd
      ·rw [if_neg hji] at hjl;exact hcl j k hj hjl hd
    have hno:∀ k,k < last → listed.getD k false = true → depB ops k i = false:=by
     intro k hk hkl
     cases hb:depB ops k i with
     | false => rfl
     | true => have:=hcl k i hk hkl hb;rw [hi3] at this;cases this
    by_cases hip:i = pa
    ·subst hip
     obtain rfl:=hγ hi3
     refine wpOp_mono ?_ (hpa a w ho hg (fun k hk hd => hf k hk (ready_dep hi hd)))
     rintro a' w' ⟨g,ho',hk',he,hv,hg'⟩
     refine ⟨by simp [hls],.inr ⟨?_,hcl',ho',some g,hg',?_,?_⟩⟩
     ·rw [getD_set (by omega),if_neg (by omega)];exact h1
     ·intro h;rw [getD_set (by omega),if_pos rfl] at h;cases h
     ·intro k hk hkl
      by_cases hki:k = i
      ·subst hki;exact hv
      ·rw [getD_set (by omega),if_neg hki] at hkl
       rw [hk' k hk hki (hno k hk hkl)]
       exact hA g k _ w w' hk hki he (hf k hk hkl)
    ·refine wpOp_mono ?_ (hs γ i a w hil' hip ho hg (fun k hk hd => hf k hk (ready_dep hi hd)))
     rintro a' w' ⟨ho',hk',he,hv,hg'⟩
     refine ⟨by simp [hls],.inr ⟨?_,hcl',ho',γ,hg',?_,?_⟩⟩
     ·rw [getD_set (by omega),if_neg (by omega)];exact h1
     ·intro h;rw [getD_set (by omega),if_neg (fun e => hip e.symm)] at h;exact hγ h
     ·intro k hk hkl
      by_cases hki:k = i
      ·subst hki;exact hv
      ·rw [getD_set (by omega),if_neg hki] at hkl
       rw [hk' k hk hki (hno k hk hkl)]
       exact hF γ k _ w w' hk (he.imp (fun h => h) (fun h => ⟨fun e => hki (e.trans h.1.symm),h.2⟩)) (hf k hk hkl)
end Go.Proofs.YtkpoiljioadfgaaDoor
namespace Go.Proofs.YtkpoiljioadfgaaDoor
open Go.RowKit
def TypPr (w:World) (e:Ending) (w':World):Prop:=∃ (P:List Df) (mv:Value) (gd0 o n cap:Nat),n = P.length ∧ e = .returned (.agg #[mv,.slice (some ⟨gd0,o,none⟩) n cap]) ∧ PrAt w' P (.agg #[mv,.slice (some ⟨gd0,o,none⟩) n cap]) ∧ mv.oneCell' = true ∧ Snd P ∧ (∀ d:Df,P[0]? = some d → d.name = ⟨#[80,111,105,110,116]⟩) ∧ Below w.heap.size w w'
theorem Types_pr (ls:List Int) (LA:Option Addr) (ln lc:Nat) (w:World) (hN:Nums w ls LA ln) :
  Calls Tryd.prog 10 #[.slice LA ln lc] w (TypPr w):=by
 refine (Types_any ls LA ln lc w hN).mono ?_
 rintro e w' ⟨P,gm,B,M,dv,rfl,hG,_,hS,hn,hb⟩
 have hP:=pr_of hG (show (Value.slice (some ⟨gm,0,none⟩) 1 1).oneCell' = true from rfl)
 have hP2:=hP
 obtain ⟨mv,A,cap,he,hm,hd⟩:=hP
 have h0:0 < P.length:=hS.len.1
 obtain ⟨g,o,C,rfl,_⟩:=hd 0 _ (List.getElem?_eq_getElem h0)
 have e1:dv = .slice (some ⟨g,o,none⟩) P.length cap:=by simp at he;exact he.2
 subst e1
 exact ⟨P,_,g,o,_,cap,rfl,rfl,hP2,rfl,hS,hn,hb⟩
structure VPs (W:World) (P:List Df) (mv dv:Value) (gP gD gv:Nat) (d:Df) (C:List Value) (x:Tr) (xk xn:Int) (xA:Option Addr) (xl xc:Nat):Prop where
 hp:Arr W gP 2 26 [mv,dv]
 hpr:PrAt W P (.agg #[mv,dv])
 hk:Kv W
 hd:Arr W gD 31 46 C
 hdf:DfAt W d C
 hv:Arr W gv 3 53 [.int .i64 xk,.int .i64 xn,.slice xA xl xc]
 ht:TrAt W x (.agg #[.int .i64 xk,.int .i64 xn,.slice xA xl xc])
end Go.Proofs.YtkpoiljioadfgaaDoor
namespace Go.Proofs.YtkpoiljioadfgaaDoor
open Go.RowKit
theorem sp_every (how by_:Int) (hh:i64r how) (hb:i64r by_):∀ (N:Nat) (x:Tr),x.nodes ≤ N → x.nodes ≤ 256 → ∀ (F:Nat → Prop) (w:World) (v:Value) (at_:Int),(∀ g,F g → g < w.heap.size) → i64r at_ → TrF F w x v →
  Calls Tryd.prog 24 #[v,.int .i64 at_,.int .i64 how,.int .i64 by_] w (SpR F x w)
 | 0,x,hN,_,_,_,_,_,_,_,_ => absurd hN (by have:=x.nodes_pos;omega)
 | N + 1,.node k n ks,hN,h256,F,w,v,at_,hF,ha,h => by
  unfold TrF at h
  obtain ⟨A,cap,rfl,hm,hk⟩:=h
  rw [nodes_node] at hN h256
  have ih:Hid (∀ (j:Nat) (x:Tr),ks[j]? = some x → ∀ (F':Nat → Prop) (W:World) (v:Value) (a':Int),(∀ g,F' g → g < W.heap.size) → i64r a' → TrF F' W x v → Calls Tryd.prog 24 #[v,.int .i64 a',.int .i64 how,.int .i64 by_] W (SpR F' x W)):=Lib.hid fun j x hx F' W v' a' h1 h2 h3 => sp_every how by_ hh hb N x (by have:=(kid_nodes hx).1;omega) (by have:=(kid_nodes hx).1;omega) F' W v' a' h1 h2 h3
  have hlt:=ar_lt how 5 (by decide)
  by_cases q0:ar how 5 = 0
  ·exact sp_step0 k n ks A ks.length cap F w rfl hk hF (Lib.hid hm) (by omega) at_ how by_ ha hh hb q0 ih
  by_cases q1:ar how 5 = 1
  ·exact sp_step1 k n ks A ks.length cap F w rfl hk hF (Lib.hid hm) (by omega) at_ how by_ ha hh hb q1 ih
  by_cases q2:ar how 5 = 2
  ·exact sp_step k n ks A ks.length cap F w rfl hk hF (Lib.hid hm) (by omega) at_ how by_ ha hh hb q2 ih
  by_cases q3:ar how 5 = 3
  ·exact sp_step3 k n ks A ks.length cap F w rfl hk hF (Lib.hid hm) (by omega) at_ how by_ ha hh hb q3 ih
  ·exact sp_step4 k n ks A ks.length cap F w rfl hk hF (Lib.hid hm) (by omega) at_ how by_ ha hh hb (by omega) ih
def vsf4 (gx:Nat) (at_ how by_:Int) (x:Tr) (xk xn:Int) (xA:Option Addr) (xl xc:Nat) (H0:Nat → Option Obj) (S:Nat):Option Nat → Nat → Value → World → Prop
 | γ,0,v,w => v = .agg #[.int .i64 xk,.int .i64 xn,.slice xA xl xc]
 | γ,1,v,w => v = .int .i64 at_
 | γ,2,v,w => v = .int .i64 ((ar at_ 12:Nat):Int)
 | γ,3,v,w => v = .int .i64 how
 | γ,4,v,w => v = .int .i64 by_
 | γ,5,v,w => ∃ (y:Tr) (yk yn:Int) (yA:Option Addr) (yl yc:Nat),v = .agg #[.int .i64 yk,.int .i64 yn,.slice yA yl yc] ∧ (∀ W:World,(∀ b,b < S → W.heap[b]? = H0 b) → (∀ b,S ≤ b → b < w.heap.size → γ ≠ some b → W.heap[b]? = w.heap[b]?) → Below 0 w W → TrAt W y (.agg #[.int .i64 yk,.int .i64 yn,.slice yA yl yc])) ∧ y.nodes ≤ x.nodes + 1
 | γ,6,v,w => ∃ g:Nat,γ = some g ∧ v = .pointer (some ⟨g,0,none⟩) ∧ S ≤ g ∧ Arr w g 3 53 zc3
 | _,_,_,_ => True
def vsEa4 (g:Nat) (w w':World):Prop:=∃ xs:Array Value,g = w.heap.size ∧ w' = w.alloc (.cells xs 53)
theorem vsf4_ext (gx:Nat) (at_ how by_:Int) (x:Tr) (xk xn:Int) (xA:Option Addr) (xl xc:Nat) (H0:Nat → Option Obj) (S:Nat):∀ γ j v w w',j < 7 → (Ext S w w' ∨ (j ≠ 999 ∧ Never w w')) → vsf4 gx at_ how by_ x xk xn xA xl xc H0 S γ j v w → vsf4 gx at_ how by_ x xk xn xA xl xc H0 S γ j v w':=by
 intro γ j v w w' hj he h
 match j,hj,he,h with
 | 0,_,he,h => exact h
 | 1,_,he,h => exact h
 | 2,_,he,h => exact h
 | 3,_,he,h => exact h
 | 4,_,he,h => exact h
 | 5,_,he,h => obtain ⟨y,yk,yn,yA,yl,yc,e1,e2,e3⟩:=h;exact he.elim (fun q => ⟨y,yk,yn,yA,yl,yc,e1,fun W h1 h2 h3 => e2 W h1 (fun b hb hl hn => (h2 b hb (Nat.lt_of_lt_of_le hl q.1.size) hn).trans (q.2 b hb hl)) (q.1.trans h3),e3⟩) (fun q => absurd q.2 id)
 | 6,_,he,h => obtain ⟨g,e0,e1,e2,e4⟩:=h;exact he.elim (fun q => ⟨g,e0,e1,e2,e4.ext q e2⟩) (fun q => absurd q.2 id)
 | n + 7,hn,_,_ => exact absurd hn (by omega)
theorem vsf4_new (gx:Nat) (at_ how by_:Int) (x:Tr) (xk xn:Int) (xA:Option Addr) (xl xc:Nat) (H0:Nat → Option Obj) (S:Nat):∀ g j v w w',j < 7 → j ≠ 6 → vsEa4 g w w' → vsf4 gx at_ how by_ x xk xn xA xl xc H0 S none j v w → vsf4 gx at_ how by_ x xk xn xA xl xc H0 S (some g) j v w':=by
 intro g j v w w' hj hjp he h
 match j,hj,hjp,h with
 | 0,_,hjp,h => exact h
 | 1,_,hjp,h => exact h
 | 2,_,hjp,h => exact h
 | 3,_,hjp,h => exact h
 | 4,_,hjp,h => exact h
 | 5,_,hjp,h => obtain ⟨y,yk,yn,yA,yl,yc,e1,e2,e3⟩:=h;obtain ⟨xs,rfl,rfl⟩:=he;exact ⟨y,yk,yn,yA,yl,yc,e1,fun W h1 h2 h3 => e2 W h1 (fun b hb hl _ => (h2 b hb (by simp;omega) (fun e => by have:=Option.some.inj e;omega)).trans ((new_later w _).block b hl)) (((new_later w _).mono (Nat.zero_le _)).trans h3),e3⟩
 | 6,_,hjp,h => exact absurd rfl hjp
 | n + 7,hn,_,_ => exact absurd hn (by omega)
def vsD4:List Nat:=[41,42,43,44,45,46,20]
def vsd4 (k:Nat):Nat:=[41,42,43,44,45,46,20].getD k 0
theorem vsd4_mem:∀ k,k < 7 → vsd4 k < 150 ∧ vsd4 k ∈ vsD4:=by decide
theorem vsd4_inj:∀ i,i < 7 → ∀ k,k < 7 → k ≠ i → vsd4 i ≠ vsd4 k:=by decide
set_option maxHeartbeats 4000000 in
set_option maxRecDepth 100000 in
theorem vsreg4 {Q:Exit → Act → World → Prop} {id:Nat} {ops:Array Oper} (hops:ops = ((Tryd.f4.body).bind (opsOf 4)).getD #[]) (a0:Act) (w0:World) (gx:Nat) (at_ how by_:Int) (x:Tr) (xk xn:Int) (xA:Option Addr) (xl xc:Nat) (H0:Nat → Option Obj) (hsz:a0.tmps.size = 150)
  (h19:ag a0 19 = .pointer (some ⟨gx,0,none⟩)) (h3:ag a0 3 = .int .i64 at_) (h4:ag a0 4 = .int .i64 how) (h5:ag a0 5 = .int .i64 by_) (hx:Arr w0 gx 3 53 [.int .i64 xk,.int .i64 xn,.slice xA xl xc]) (hxt:TrAt w0 x (.agg #[.int .i64 xk,.int .i64 xn,.slice xA xl xc])) (hN:x.nodes ≤ 256) (ha:i64r at_) (hh:i64r how) (hb:i64r by_) (hH0:∀ b,b < w0.heap.size → w0.heap[b]? = H0 b)
  (hQ:∀ (vs:Nat → Value) (w':World) (g:Nat) (y:Tr) (yk yn:Int) (yA:Option Addr) (yl yc:Nat),vs 20 = .pointer (some ⟨g,0,none⟩) → w0.heap.size ≤ g → Arr w' g 3 53 [.int .i64 yk,.int .i64 yn,.slice yA yl yc] → TrAt w' y (.agg #[.int .i64 yk,.int .i64 yn,.slice yA yl yc]) → y.nodes ≤ x.nodes + 1 → Below w0.heap.size w0 w' → ∀ a',a' = vsD4.foldl (fun b s => b.put (some s) (vs s)) a0 → Q .normal a' w') :
  (Code.region id ops true).wp Tryd.prog Q a0 w0:=by
 have hg0:Below w0.heap.size w0 w0.drew:=below_drewN (Below.refl _ _) 1
 have hlt:∀ k,k < 7 → vsd4 k < a0.tmps.size:=fun k hk => by have:=(vsd4_mem k hk).1;omega
 refine wp_region_factsG 7 6 999 vsD4 vsd4 (vsf4 gx at_ how by_ x xk xn xA xl xc H0 w0.heap.size) (fun γ w => Below w0.heap.size w0 w ∧ ∀ g,γ = some g → g < w.heap.size) w0.heap.size vsEa4 (fun _ => Never) (fun k => k) (by kernel_rfl) (by subst hops;kernel_rfl) (by subst hops;kernel_rfl) (by subst hops;kernel_rfl) (by decide) (vsf4_ext gx at_ how by_ x xk xn xA xl xc H0 w0.heap.size) (vsf4_new gx at_ how by_ x xk xn xA xl xc H0 w0.heap.size) ⟨hg0,fun _ h => by cases h⟩ ?_ ?_ ?_
 ·intro γ j a w hj hjp ho hG hd
  have hg:=hG.1
  have hgs:=hg.size
  match j,hj,hjp,hd with
  | 0,hk,hjp,hd =>
   have s:(ops[0]?).map sig = some (some 41,.load 53 (.tmp 19),53,none):=by subst hops;kernel_rfl
   have hgd:GdOk ops a none:=trivial
   have e0:ag a 19 = .pointer (some ⟨gx,0,none⟩):=(ho.off 19 (by decide)).trans h19
   refine op_loadg s hgd gx 0 e0 [.int .i64 xk,.int .i64 xn,.slice xA xl xc] _ ((hx.later hg).range) Tryd.underlying53 rfl info_val ?_
   exact PostE.put (i:=0) ho (vsd4_mem 0 hk).2 (hlt 0 hk) (fun k hk2 hne _ => vsd4_inj 0 hk k hk2 hne) (.inl (Ext.refl _ _)) rfl hG
  | 1,hk,hjp,hd =>
   have s:(ops[1]?).map sig = some (some 42,.move (.tmp 3),3,none):=by subst hops;kernel_rfl
   have hgd:GdOk ops a none:=trivial
   have e0:ag a 3 = .int .i64 at_:=(ho.off 3 (by decide)).trans h3
   refine op_valg s hgd (w':=w) (v:=.int .i64 at_) ?_ ?_
   ·exact congrArg (fun x => Result.ok (Next.value x) w) e0
   ·exact PostE.put (i:=1) ho (vsd4_mem 1 hk).2 (hlt 1 hk) (fun k hk2 hne _ => vsd4_inj 1 hk k hk2 hne) (.inl (Ext.refl _ _)) rfl hG
  | 2,hk,hjp,hd =>
   have s:(ops[2]?).map sig = some (some 43,.call { callee:=.value (.func 12),args:=#[.tmp 42,.const (.int .i64 12)],argTypes:=#[3,3] },3,none):=by subst hops;kernel_rfl
   have hgd:GdOk ops a none:=trivial
   have d1:=hd 1 (by decide) (by subst hops;kernel_rfl)
   have e0:ag a 42 = .int .i64 at_:=d1
   refine op_callg s hgd (w':=w) (f:=12) (args:=#[.int .i64 at_,.int .i64 12]) ?_ ?_
   ·simp only [execOp]
    go_simp
    simpa [ag] using e0
   ·refine ((show Calls Tryd.prog _ #[.int .i64 at_,.int .i64 12] w (fun e w' => e = .returned (.int .i64 ((ar at_ 12:Nat):Int)) ∧ Below w.heap.size w w') from (Around_any at_ 12 (by decide) (by decide) ha w).mono (by rintro e w' ⟨rfl,rfl⟩;exact ⟨rfl,Below.refl _ _⟩))).mono ?_
    rintro e w' ⟨rfl,hb⟩
    exact ⟨_,rfl,PostE.put (i:=2) ho (vsd4_mem 2 hk).2 (hlt 2 hk) (fun k hk2 hne _ => vsd4_inj 2 hk k hk2 hne) (.inl (Ext.of hb)) rfl ⟨later hg hb,fun g h => Nat.lt_of_lt_of_le (hG.2 g h) hb.size⟩⟩
  | 3,hk,hjp,hd =>
   have s:(ops[3]?).map sig = some (some 44,.move (.tmp 4),3,none):=by subst hops;kernel_rfl
   have hgd:GdOk ops a none:=trivial
   have e0:ag a 4 = .int .i64 how:=(ho.off 4 (by decide)).trans h4
   refine op_valg s hgd (w':=w) (v:=.int .i64 how) ?_ ?_
   ·exact congrArg (fun x => Result.ok (Next.value x) w) e0
   ·exact PostE.put (i:=3) ho (vsd4_mem 3 hk).2 (hlt 3 hk) (fun k hk2 hne _ => vsd4_inj 3 hk k hk2 hne) (.inl (Ext.refl _ _)) rfl hG
  | 4,hk,hjp,hd =>
   have s:(ops[4]?).map sig = some (some 45,.move (.tmp 5),3,none):=by subst hops;kernel_rfl
   have hgd:GdOk ops a none:=trivial
   have e0:ag a 5 = .int .i64 by_:=(ho.off 5 (by decide)).trans h5
   refine op_valg s hgd (w':=w) (v:=.int .i64 by_) ?_ ?_
   ·exact congrArg (fun x => Result.ok (Next.value x) w) e0
   ·exact PostE.put (i:=4) ho (vsd4_mem 4 hk).2 (hlt 4 hk) (fun k hk2 hne _ => vsd4_inj 4 hk k hk2 hne) (.inl (Ext.refl _ _)) rfl hG
  | 5,hk,hjp,hd =>
   have s:(ops[5]?).map sig = some (some 46,.call { callee:=.value (.func 24),args:=#[.tmp 41,.tmp 43,.tmp 44,.tmp 45],argTypes:=#[53,3,3,3] },53,none):=by subst hops;kernel_rfl
   have hgd:GdOk ops a none:=trivial
   have d0:=hd 0 (by decide) (by subst hops;kernel_rfl)
   have d2:=hd 2 (by decide) (by subst hops;kernel_rfl)
   have d3:=hd 3 (by decide) (by subst hops;kernel_rfl)
   have d4:=hd 4 (by decide) (by subst hops;kernel_rfl)
   have e0:ag a 41 = .agg #[.int .i64 xk,.int .i64 xn,.slice xA xl xc]:=d0
   have e1:ag a 43 = .int .i64 ((ar at_ 12:Nat):Int):=d2
   have e2:ag a 44 = .int .i64 how:=d3
   have e3:ag a 45 = .int .i64 by_:=d4
   refine op_callg s hgd (w':=w) (f:=24) (args:=#[.agg #[.int .i64 xk,.int .i64 xn,.slice xA xl xc],.int .i64 ((ar at_ 12:Nat):Int),.int .i64 how,.int .i64 by_]) ?_ ?_
   ·simp only [execOp]
    go_simp
    refine ⟨by simpa [ag] using e0,by simpa [ag] using e1,by simpa [ag] using e2,by simpa [ag] using e3⟩
   ·have hxo:TrF (· < w0.heap.size) w x (.agg #[.int .i64 xk,.int .i64 xn,.slice xA xl xc]):=hxt.old.keep (fun _ h => h) (fun b hb _ => hg.block b hb)
    refine (sp_every how by_ hh hb x.nodes x (Nat.le_refl _) hN (· < w0.heap.size) w _ _ (fun b hb => Nat.lt_of_lt_of_le hb hgs) (by unfold i64r;have:=ar_lt at_ 12 (by decide);omega) hxo).mono ?_
    rintro e w' ⟨y,yk,yn,yA,yl,yc,rfl,hT,hNy,hb2⟩
    refine ⟨_,rfl,PostE.put (i:=5) ho (vsd4_mem 5 hk).2 (hlt 5 hk) (fun k hk2 hne _ => vsd4_inj 5 hk k hk2 hne) (.inl (Ext.of hb2)) ⟨y,yk,yn,yA,yl,yc,rfl,fun W h1 h2 h3 => (hT.keep (S':=fun _ => True) (fun _ _ => trivial) (fun b hb hl => ?_)).at_,hNy⟩ ⟨later hg hb2,fun g h => Nat.lt_of_lt_of_le (hG.2 g h) hb2.size⟩⟩
    rcases hb with hb | hb
    ·rw [h1 b hb,← hH0 b hb]
     exact ((later hg hb2).block b hb).symm
    ·exact h2 b (Nat.le_trans hgs hb) hl (fun e => by have:=hG.2 b e;omega)
  | 6,hk,hjp,hd =>
   have s:(ops[6]?).map sig = some (some 20,.alloc 53,0,none):=by subst hops;kernel_rfl
   have hgd:GdOk ops a none:=trivial
   exact absurd rfl hjp
  | n + 7,hn,_,_ => exact absurd hn (by omega)
 ·intro a w ho hG hd
  have hg:=hG.1
  have hgs:=hg.size
  have s:(ops[6]?).map sig = some (some 20,.alloc 53,0,none):=by subst hops;kernel_rfl
  have hgd:GdOk ops a none:=trivial
  have hb:=new_later w (.cells zc3.toArray 53)
  refine op_valg s hgd (w':=w.alloc (.cells zc3.toArray 53)) (v:=.pointer (some ⟨w.heap.size,0,none⟩)) ?_ ?_
  ·simp only [execOp]
   go_simp
   first | done | rfl
  ·exact ⟨w.heap.size,PostE.put (i:=6) ho (vsd4_mem 6 (by decide)).2 (hlt 6 (by decide)) (fun k hk2 hne _ => vsd4_inj 6 (by decide) k hk2 hne) ⟨_,rfl,rfl⟩ ⟨w.heap.size,rfl,rfl,hgs,Arr.new' w _ _ 3 zc3 rfl rfl (by decide)⟩ ⟨later hg hb,fun g h => by cases h;simp⟩⟩
 ·intro γ a w ho hG hf
  have hg:=hG.1
  have s:(ops[7]?).map sig = some (none,.store 53 (.tmp 20) (.tmp 46),0,none):=by subst hops;kernel_rfl
  have hgd:GdOk ops a none:=trivial
  obtain ⟨g,eg,e1,hgS,hA⟩:=hf 6 (by decide)
  have e1:ag a 20 = .pointer (some ⟨g,0,none⟩):=e1
  obtain ⟨y,yk,yn,yA,yl,yc,e2,hT,hNy⟩:=hf 5 (by decide)
  have e2:ag a 46 = .agg #[.int .i64 yk,.int .i64 yn,.slice yA yl yc]:=e2
  refine wpOp_ofg s hgd fun o h1 h2 h3 => ?_
  refine wp_store_mid _ _ _ h2 g 0 #[.int .i64 yk,.int .i64 yn,.slice yA yl yc] e1 e2 (hA.thereAt (Nat.le_refl 3)) info_val (all_oneCell_toArray (cs:=[.int .i64 yk,.int .i64 yn,.slice yA yl yc]) (List.all_eq_true.mp (by rfl))) ?_
  rw [h1]
  have hA2:=hA.setCells (o:=0) [.int .i64 yk,.int .i64 yn,.slice yA yl yc]
  rw [setAll_all zc3 [.int .i64 yk,.int .i64 yn,.slice yA yl yc] rfl] at hA2
  have hO:=Only.setCells g 0 [.int .i64 yk,.int .i64 yn,.slice yA yl yc] w
  have hb:=below_setCells [.int .i64 yk,.int .i64 yn,.slice yA yl yc] 0 w hg hgS
  have hT2:=hT (w.setCells g 0 [.int .i64 yk,.int .i64 yn,.slice yA yl yc]) (fun b hb2 => (hO.2 b (by omega)).trans ((hg.block b hb2).trans (hH0 b hb2))) (fun b _ _ hn => hO.2 b (fun e => hn (by rw [eg,e]))) (hO.bel.mono (Nat.zero_le _))
  exact hQ (ag a) (w.setCells g 0 [.int .i64 yk,.int .i64 yn,.slice yA yl yc]) g y yk yn yA yl yc e1 hgS hA2 hT2 hNy hb _ (ho.eq (fun s hs => by rw [hsz];revert s;decide))
end Go.Proofs.YtkpoiljioadfgaaDoor
