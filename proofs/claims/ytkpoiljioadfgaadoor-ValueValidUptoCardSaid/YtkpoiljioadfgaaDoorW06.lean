import Derived.Test.YtkpoiljioadfgaaDoorW03
import Derived.Test.YtkpoiljioadfgaaDoorW04
import Derived.Test.YtkpoiljioadfgaaDoorW05
import Derived.Laws.Tables
set_option linter.unusedVariables false
set_option linter.unusedSimpArgs false
namespace Go.Proofs.YtkpoiljioadfgaaDoor
open Go.RowKit
def tI:Ty:=.node 0 0 0 0 []
def tB:Ty:=.node 1 0 0 0 []
def tD (j:Nat):Ty:=.node 3 0 1 (1 + (j:Int)) []
def tL (t:Ty):Ty:=.node 2 0 0 0 [t]
def Gd (j:Nat) (t:Ty):Prop:=t = tI ∨ t = tB ∨ t = tL tI ∨ ∃ i,i < j ∧ (t = tD i ∨ t = tL (tD i))
structure Snd (P:List Df):Prop where
 len:1 ≤ P.length ∧ P.length ≤ 4
 ids:∀ (i:Nat) (d:Df),P[i]? = some d → d.a = 0 ∧ d.b = 1 ∧ d.c = 1 + (i:Int)
 knd:∀ (i:Nat) (d:Df),P[i]? = some d → d.kind = 0 ∨ d.kind = 1
 slt:∀ (i:Nat) (d:Df),P[i]? = some d → 1 ≤ d.slots.length ∧ d.slots.length ≤ 3 ∧ ∀ (j:Nat) (s:Sl),d.slots[j]? = some s → Gd i s.ty
section
variable {P:List Df}
theorem Snd.fnd_ (h:Snd P) {i:Nat} (hi:i < P.length):fnd P 0 1 (1 + (i:Int)) = i:=by
 refine fnd_at hi ?_ ?_
 ·obtain ⟨a,b,c⟩:=h.ids i _ (List.getElem?_eq_getElem hi)
  unfold Df.has;rw [a,b,c];simp
 ·intro j hj
  obtain ⟨a,b,c⟩:=h.ids j _ (List.getElem?_eq_getElem (by omega))
  unfold Df.has;rw [a,b,c]
  have:¬ (1 + (j:Int) = 1 + (i:Int)):=by omega
  simp;omega
theorem Snd.get (h:Snd P) {i:Nat} (hi:i < P.length):P[fnd P 0 1 (1 + (i:Int))]? = some P[i]:=by
 rw [h.fnd_ hi];exact List.getElem?_eq_getElem hi
theorem Snd.isD_ (h:Snd P) {i:Nat} (hi:i < P.length):isD P 0 1 (1 + (i:Int)) = true:=by
 unfold isD
 rw [h.get hi]
 rcases h.knd i _ (List.getElem?_eq_getElem hi) with e | e <;> simp [e]
theorem vty_I (P:List Df) (f:Nat):vty P (f + 1) tI = true:=by simp [vty,tI]
theorem vty_B (P:List Df) (f:Nat):vty P (f + 1) tB = true:=by simp [vty,tB]
theorem Snd.vty_D (h:Snd P) {i:Nat} (hi:i < P.length) (f:Nat):vty P (f + 1) (tD i) = true:=by simp [vty,tD,h.isD_ hi]
theorem vty_L {t:Ty} {f:Nat} (h:vty P f t = true):vty P (f + 1) (tL t) = true:=by simp [vty,tL,h]
theorem shK_I (P:List Df):shK P tI = 0:=rfl
theorem shK_B (P:List Df):shK P tB = 1:=rfl
theorem shK_L (P:List Df) (t:Ty):shK P (tL t) = 4:=rfl
theorem shS_I (P:List Df):shS P tI = []:=rfl
theorem shS_B (P:List Df):shS P tB = []:=rfl
theorem shS_L (P:List Df) (t:Ty):shS P (tL t) = []:=rfl
theorem Snd.dfo_ (h:Snd P) {i:Nat} (hi:i < P.length):dfo P (tD i) = some P[i]:=h.get hi
theorem Snd.shK_ (h:Snd P) {i:Nat} (hi:i < P.length):shK P (tD i) = if P[i].kind = 0 then 2 else 3:=shK_def rfl (h.dfo_ hi)
theorem Snd.shS_ (h:Snd P) {i:Nat} (hi:i < P.length):shS P (tD i) = P[i].slots:=shS_def rfl (h.dfo_ hi)
end
theorem nodes_node (k n:Int) (ks:List Tr):(Tr.node k n ks).nodes = nodesL ks + 1:=by rw [Tr.nodes]
theorem dep_node (k n:Int) (ks:List Tr):(Tr.node k n ks).dep = depL ks + 1:=by rw [Tr.dep]
theorem nodesL_snoc:∀ (xs:List Tr) (x:Tr),nodesL (xs ++ [x]) = nodesL xs + x.nodes
 | [],x => by simp [nodesL]
 | y :: ys,x => by rw [List.cons_append,nodesL,nodesL,nodesL_snoc ys x,Nat.add_assoc]
theorem depL_snoc:∀ (xs:List Tr) (x:Tr),depL (xs ++ [x]) = max (depL xs) x.dep
 | [],x => by simp [depL]
 | y :: ys,x => by rw [List.cons_append,depL,depL,depL_snoc ys x,Nat.max_assoc]
theorem ftL_snoc (P:List Df) (T:Nat → Ty):∀ (xs:List Tr) (x:Tr) (i:Nat),ftL P (xs ++ [x]) T i = (ftL P xs T i && ft P x (T (i + xs.length)))
 | [],x,i => by simp [ftL]
 | y :: ys,x,i => by
  rw [List.cons_append,ftL,ftL,ftL_snoc P T ys x (i + 1),Bool.and_assoc,show i + 1 + ys.length = i + (y :: ys).length by simp;omega]
theorem ft_form (P:List Df) (k n:Int) (ks:List Tr) (t:Ty):ft P (.node k n ks) t = (vty P 24 t && (decide (k = shK P t) && (hfit k n ks.length (shS P t).length && ftL P ks (kty t (shS P t) k n) 0))):=by rw [ft]
theorem hfit_0 (n:Int) (h:-1099511627776 ≤ n ∧ n ≤ 1099511627776) (m:Nat):hfit 0 n 0 m = true:=by unfold hfit;rw [if_pos rfl];simp [h]
theorem hfit_1 (n:Int) (h:n = 0 ∨ n = 1) (m:Nat):hfit 1 n 0 m = true:=by unfold hfit;rw [if_neg (by decide),if_pos rfl];simpa using h
theorem hfit_2 (m:Nat):hfit 2 0 m m = true:=by unfold hfit;rw [if_neg (by decide),if_neg (by decide),if_pos rfl];simp
theorem hfit_3 (n m:Nat) (h:n < m):hfit 3 (n:Int) 1 m = true:=by unfold hfit;rw [if_neg (by decide),if_neg (by decide),if_neg (by decide),if_pos rfl];simp;omega
theorem hfit_4 (l m:Nat):hfit 4 0 l m = true:=by unfold hfit;rw [if_neg (by decide),if_neg (by decide),if_neg (by decide),if_neg (by decide)];rfl
theorem ft_I (P:List Df) (n:Int) (h:-1099511627776 ≤ n ∧ n ≤ 1099511627776):ft P (.node 0 n []) tI = true:=by
 rw [ft_form,vty_I P 23,shK_I,List.length_nil,hfit_0 n h];simp [ftL]
theorem ft_B (P:List Df) (n:Int) (h:n = 0 ∨ n = 1):ft P (.node 1 n []) tB = true:=by
 rw [ft_form,vty_B P 23,shK_B,List.length_nil,hfit_1 n h];simp [ftL]
theorem ft_L (P:List Df) (t:Ty) (ks:List Tr) (hv:vty P 23 t = true) (h:∀ x ∈ ks,ft P x t = true):ft P (.node 4 0 ks) (tL t) = true:=by
 rw [ft_form,vty_L hv,shK_L,hfit_4]
 have e:∀ i,kty (tL t) (shS P (tL t)) 4 0 i = t:=fun i => rfl
 have hl:∀ (xs:List Tr) (i:Nat),(∀ x ∈ xs,ft P x t = true) → ftL P xs (kty (tL t) (shS P (tL t)) 4 0) i = true:=by
  intro xs
  induction xs with
  | nil => intro i _;rw [ftL]
  | cons x xs ih => intro i hx;rw [ftL,e,hx x (by simp),ih (i + 1) (fun y hy => hx y (by simp [hy]))];rfl
 rw [hl ks 0 h];rfl
theorem Snd.ft_rec {P:List Df} (h:Snd P) {i:Nat} (hi:i < P.length) (hk:P[i].kind = 0) (ks:List Tr) (hl:ks.length = P[i].slots.length) (hf:ftL P ks (kty (tD i) P[i].slots 2 0) 0 = true):ft P (.node 2 0 ks) (tD i) = true:=by
 rw [ft_form,h.vty_D hi 23,h.shK_ hi,h.shS_ hi,if_pos hk,hl,hfit_2,hf];rfl
theorem Snd.ft_case {P:List Df} (h:Snd P) {i:Nat} (hi:i < P.length) (hk:P[i].kind ≠ 0) (n:Nat) (hn:n < P[i].slots.length) (x:Tr) (hx:ft P x (P[i].slots[n]).ty = true):ft P (.node 3 (n:Int) [x]) (tD i) = true:=by
 rw [ft_form,h.vty_D hi 23,h.shK_ hi,h.shS_ hi,if_neg hk,List.length_singleton,hfit_3 n _ hn]
 have e:kty (tD i) P[i].slots 3 (n:Int) 0 = (P[i].slots[n]).ty:=by unfold kty;rw [if_neg (by decide),if_pos rfl,Int.toNat_natCast,List.getElem?_eq_getElem hn];rfl
 rw [ftL,e,hx,ftL];rfl
def ZB:Nat → Nat
 | 0 => 4
 | i + 1 => 1 + 3 * ZB i
theorem ZB_pos (i:Nat):1 ≤ ZB i:=by cases i <;> simp [ZB]
theorem zr_I (P:List Df) (f c:Nat) (hc:c < 256):zr P (f + 1) tI c = (0,.node 0 0 [],c + 1):=by
 rw [zr_form,vty_I P 23,if_neg (by simp),if_neg (by omega),if_neg (by rw [shK_I];simp),shK_I,shS_I];rfl
theorem zr_B (P:List Df) (f c:Nat) (hc:c < 256):zr P (f + 1) tB c = (0,.node 1 0 [],c + 1):=by
 rw [zr_form,vty_B P 23,if_neg (by simp),if_neg (by omega),if_neg (by rw [shK_B];simp),shK_B,shS_B];rfl
theorem zr_L (P:List Df) (t:Ty) (f c:Nat) (hv:vty P 23 t = true) (hc:c < 256):zr P (f + 1) (tL t) c = (0,.node 4 0 [],c + 1):=by
 rw [zr_form,vty_L hv,if_neg (by simp),if_neg (by omega),if_neg (by rw [shK_L];simp),shK_L,shS_L];rfl
def ZOk (P:List Df) (t:Ty) (N D:Nat) (c:Nat) (r:Int × Tr × Nat):Prop:=r.1 = 0 ∧ ft P r.2.1 t = true ∧ r.2.1.nodes ≤ N ∧ r.2.1.dep ≤ D ∧ r.2.2 = c + r.2.1.nodes ∧ r.2.1.wt = 0
theorem wtL_zero:∀ (xs:List Tr),(∀ x ∈ xs,x.wt = 0) → wtL 0 xs = 0
 | [],_ => rfl
 | x :: xs,h => by rw [wtL,h x (by simp),show wrap64 (0 + 0) = 0 from by unfold wrap64;omega];exact wtL_zero xs (fun y hy => h y (by simp [hy]))
theorem zrL_ok {P:List Df} {g:Ty → Nat → Int × Tr × Nat} {k:Int} {N D:Nat} (T:Nat → Ty):∀ (sl:List Sl) (acc:List Tr) (c:Nat),c + sl.length * N ≤ 256 → (∀ s ∈ sl,∀ c,c + N ≤ 256 → ZOk P s.ty N D c (g s.ty c)) → (∀ j s,sl[j]? = some s → T (acc.length + j) = s.ty) →
  ∃ ks,(zrL g k sl acc c) = (0,.node k 0 (acc ++ ks),c + nodesL ks) ∧ ks.length = sl.length ∧ ftL P ks T acc.length = true ∧ nodesL ks ≤ sl.length * N ∧ depL ks ≤ D ∧ (∀ x ∈ ks,x.wt = 0)
 | [],acc,c,_,_,_ => ⟨[],by simp [zrL,nodesL],rfl,by rw [ftL],by simp [nodesL],by simp [depL],by simp⟩
 | s :: r,acc,c,hc,hg,hT => by
  have hN:(s :: r).length * N = r.length * N + N:=by rw [List.length_cons,Nat.succ_mul]
  obtain ⟨z1,z2,z3,z4,z5,z6⟩:=hg s (by simp) c (by omega)
  obtain ⟨ks,e1,e2,e3,e4,e5,e6⟩:=zrL_ok (P:=P) (g:=g) (k:=k) (N:=N) (D:=D) T r (acc ++ [(g s.ty c).2.1]) (g s.ty c).2.2 (by rw [z5];omega) (fun s' hs' => hg s' (by simp [hs'])) (fun j s' hs' => by
   have:=hT (j + 1) s' (by simpa using hs')
   rw [← this];congr 1;simp;omega)
  refine ⟨(g s.ty c).2.1 :: ks,?_,by simp [e2],?_,?_,?_,?_⟩
  ·rw [zrL,if_pos z1,e1,z5,nodesL,List.append_assoc];simp [Nat.add_assoc]
  ·have h0:T acc.length = s.ty:=by simpa using hT 0 s rfl
   rw [ftL,h0,z2,Bool.true_and]
   have:(acc ++ [(g s.ty c).2.1]).length = acc.length + 1:=by simp
   rw [this] at e3;exact e3
  ·rw [nodesL];omega
  ·rw [depL];omega
  ·intro x hx
   rcases List.mem_cons.1 hx with rfl | hx
   ·exact z6
   ·exact e6 x hx
theorem wtz_2 (ks:List Tr) (h:∀ x ∈ ks,x.wt = 0):(Tr.node 2 0 ks).wt = 0:=by rw [Tr.wt,wtL_zero ks h];rfl
theorem wtz_3 (ks:List Tr) (h:∀ x ∈ ks,x.wt = 0):(Tr.node 3 0 ks).wt = 0:=by rw [Tr.wt,wtL_zero ks h];simp [wtOf,wrap64]
theorem Snd.zero {P:List Df} (h:Snd P):∀ (i:Nat),i < P.length → ∀ (f c:Nat),i + 2 ≤ f → c + ZB i ≤ 256 → ZOk P (tD i) (ZB i) (i + 2) c (zr P f (tD i) c):=by
 intro i
 induction i using Nat.strongRecOn with
 | _ i IH =>
  intro hi f c hf hc
  obtain ⟨f,rfl⟩:∃ f',f = f' + 1:=⟨f - 1,by omega⟩
  obtain ⟨s1,s2,s3⟩:=h.slt i _ (List.getElem?_eq_getElem hi)
  have hzp:=ZB_pos i
  have hM:∃ M,(∀ t,Gd i t → ∀ c,c + M ≤ 256 → ZOk P t M (i + 1) c (zr P f t c)) ∧ 1 + 3 * M ≤ ZB i:=by
   have hw1:∀ (k:Int),(k = 0 ∨ k = 1 ∨ k = 4) → (Tr.node k 0 []).wt = 0:=by
    rintro k (rfl | rfl | rfl) <;> simp [Tr.wt,wtL,wtOf,wrap64]
   have hbase:∀ M,1 ≤ M → ∀ t,(t = tI ∨ t = tB ∨ t = tL tI) → ∀ c,c + M ≤ 256 → ZOk P t M (i + 1) c (zr P f t c):=by
    intro M hM t ht c hc
    obtain ⟨f',rfl⟩:∃ f',f = f' + 1:=⟨f - 1,by omega⟩
    rcases ht with rfl | rfl | rfl
    ·rw [zr_I P f' c (by omega)];exact ⟨rfl,ft_I P 0 (by omega),by simp [nodes_node,nodesL];omega,by simp [dep_node,depL],by simp [nodes_node,nodesL],hw1 0 (by simp)⟩
    ·rw [zr_B P f' c (by omega)];exact ⟨rfl,ft_B P 0 (by omega),by simp [nodes_node,nodesL];omega,by simp [dep_node,depL],by simp [nodes_node,nodesL],hw1 1 (by simp)⟩
    ·rw [zr_L P tI f' c (vty_I P 22) (by omega)];exact ⟨rfl,ft_L P tI [] (vty_I P 22) (by simp),by simp [nodes_node,nodesL];omega,by simp [dep_node,depL],by simp [nodes_node,nodesL],hw1 4 (by simp)⟩
   cases i with
   | zero =>
    refine ⟨1,fun t ht c hc => ?_,by simp [ZB]⟩
    rcases ht with e | e | e | ⟨j,hj,_⟩
    ·exact hbase 1 (by omega) t (.inl e) c hc
    ·exact hbase 1 (by omega) t (.inr (.inl e)) c hc
    ·exact hbase 1 (by omega) t (.inr (.inr e)) c hc
    ·omega
   | succ i =>
    refine ⟨ZB i,fun t ht c hc => ?_,by simp [ZB]⟩
    rcases ht with e | e | e | ⟨j,hj,e | e⟩
    ·exact hbase _ (ZB_pos i) t (.inl e) c hc
    ·exact hbase _ (ZB_pos i) t (.inr (.inl e)) c hc
    ·exact hbase _ (ZB_pos i) t (.inr (.inr e)) c hc
    ·subst e
     have hmono:∀ a b:Nat,a ≤ b → ZB a ≤ ZB b:=by
      intro a b hab
      induction hab with
      | refl => exact Nat.le_refl _
      | step _ ih => exact Nat.le_trans ih (by simp [ZB];omega)
     have hz:=hmono j i (by omega)
     obtain ⟨z1,z2,z3,z4,z5,z6⟩:=IH j hj (by omega) f c (by omega) (by omega)
     exact ⟨z1,z2,by omega,by omega,z5,z6⟩
    ·subst e
     obtain ⟨f',rfl⟩:∃ f',f = f' + 1:=⟨f - 1,by omega⟩
     have hv:vty P 23 (tD j) = true:=h.vty_D (by omega) 22
     rw [zr_L P (tD j) f' c hv (by have:=ZB_pos i;omega)]
     exact ⟨rfl,ft_L P (tD j) [] hv (by simp),by simp [nodes_node,nodesL];exact ZB_pos i,by simp [dep_node,depL],by simp [nodes_node,nodesL],hw1 4 (by simp)⟩
  obtain ⟨M,hM1,hM2⟩:=hM
  rw [zr_form,h.vty_D hi 23,if_neg (by simp),if_neg (by omega),h.shK_ hi,h.shS_ hi]
  by_cases hk:P[i].kind = 0
  ·rw [if_pos hk,if_neg (by simp),if_neg (by decide)]
   obtain ⟨ks,e1,e2,e3,e4,e5,e6⟩:=zrL_ok (P:=P) (g:=zr P f) (k:=2) (N:=M) (D:=i + 1) (kty (tD i) P[i].slots 2 0) P[i].slots [] (c + 1) (by
    have:P[i].slots.length * M ≤ 3 * M:=Nat.mul_le_mul_right _ s2
    omega) (fun s hs c' hc' => by
     obtain ⟨j,hj⟩:=List.getElem?_of_mem hs
     exact hM1 _ (s3 j s hj) c' hc') (fun j s hs => by unfold kty;rw [if_pos rfl];simp [hs])
   rw [e1]
   have h3:P[i].slots.length * M ≤ 3 * M:=Nat.mul_le_mul_right _ s2
   refine ⟨rfl,h.ft_rec hi hk _ (by simpa using e2) (by simpa using e3),?_,?_,?_,wtz_2 _ (by simpa using e6)⟩
   ·simp [nodes_node];omega
   ·simp [dep_node];omega
   ·simp [nodes_node];omega
  ·rw [if_neg hk,if_neg (by rintro ⟨_,h0⟩;omega),if_pos rfl]
   have h0:P[i].slots.take 1 = [P[i].slots[0]]:=by
    rw [show (1:Nat) = 0 + 1 from rfl,List.take_succ_eq_append_getElem (by omega)];simp
   rw [h0]
   have hs0:=s3 0 _ (List.getElem?_eq_getElem (by omega:0 < P[i].slots.length))
   obtain ⟨ks,e1,e2,e3,e4,e5,e6⟩:=zrL_ok (P:=P) (g:=zr P f) (k:=3) (N:=M) (D:=i + 1) (fun _ => (P[i].slots[0]).ty) [P[i].slots[0]] [] (c + 1) (by simp;omega) (fun s hs c' hc' => by
     simp at hs;subst hs
     exact hM1 _ hs0 c' hc') (fun j s hs => by
      match j,hs with
      | 0,hs => simp at hs;rw [← hs])
   rw [e1]
   match ks,e2 with
   | [x],_ =>
    rw [ftL] at e3
    have hx:ft P x (P[i].slots[0]).ty = true:=by simpa [ftL] using e3
    refine ⟨rfl,by simpa using h.ft_case hi hk 0 (by omega) x hx,?_,?_,?_,wtz_3 _ (by simpa using e6)⟩
    ·simp [nodes_node] at e4 ⊢;omega
    ·simp [dep_node];omega
    ·simp [nodes_node];omega
end Go.Proofs.YtkpoiljioadfgaaDoor
namespace Go.Proofs.YtkpoiljioadfgaaDoor
open Go.RowKit
theorem results_cellB {P:Program} {fn:Func} {p u:Tmp} {ty:TypeId} (h:fn.results = #[.cell p ty,.tmp u]) (tmps:Array Value) (w:World) (g:Nat) (cs:List Value) (d:TypeDesc)
  (hp:tmps.getD p undef = .pointer (some ⟨g,0,none⟩)) (hg:w.rangeAt g 0 cs)
  (hu:P.underlying ty = some d) (hd:d.isRow = true) (hi:(P.info? ty).map (·.size) = some cs.length) :
  (results fn tmps).run P w = .ok (.tuple #[.agg cs.toArray,tmps.getD u undef]) w:=by
 have hp':tmps[p]?.getD undef = .pointer (some ⟨g,0,none⟩):=by simpa using hp
 simp [results,h,hp',asAddr,run_loadVar_mid w g 0 ty cs d hg hu hd hi]
def z31:List Value:=[.int .i64 0,.int .i64 0,.int .i64 0,.int .i64 0,.int .i64 0,.int .i64 0,.int .i64 0,.string ⟨#[]⟩,.slice none 0 0,.int .i64 0,.int .i64 0,.int .i64 0,.int .i64 0,.slice none 0 0,
 .int .i64 0,.int .i64 0,.int .i64 0,.int .i64 0,.int .i64 0,.int .i64 0,.int .i64 0,.int .i64 0,.int .i64 0,.int .i64 0,.int .i64 0,.int .i64 0,.slice none 0 0,.slice none 0 0,.slice none 0 0,.int .i64 0,.slice none 0 0]
theorem z31_new (w:World):Arr (w.alloc (.cells z31.toArray 46)) w.heap.size 31 46 z31:=Arr.new' w _ _ 31 _ rfl rfl (by decide)
theorem zero_def (W:World):(zeroValue 46).run Tryd.prog W = .ok (.agg z31.toArray) W:=by kernel_rfl
theorem ExAt.cells {w:World} {x:Ex} {C:List Value} (h:ExAt w x C):∀ v ∈ C,v.oneCell' = true:=by
 cases x with
 | node a b c k n ra rb rc ty ks names =>
  unfold ExAt at h
  obtain ⟨T,A,cap,nv,rfl,_,hT,⟨A',cap',rfl,_⟩,_⟩:=h
  obtain ⟨k',s',q',i',B,len',cp,hsh⟩:=hT.shape
  have hT':T = t5 k' s' q' i' B len' cp:=by simpa using hsh
  subst hT'
  intro v hv
  simp [t5] at hv
  rcases hv with rfl | rfl | rfl | rfl | rfl | rfl | rfl | rfl | rfl | rfl | rfl | rfl | rfl | rfl | rfl <;> rfl
theorem DfAt.cells {w:World} {d:Df} {C:List Value} (h:DfAt w d C):∀ v ∈ C,v.oneCell' = true:=by
 obtain ⟨sv,T,E,lv,rfl,_,⟨A,cap,rfl,_⟩,hT,hE,⟨A',cap',rfl,_⟩⟩:=h
 obtain ⟨k',s',q',i',B,len',cp,hsh⟩:=hT.shape
 have hT':T = t5 k' s' q' i' B len' cp:=by simpa using hsh
 subst hT'
 have hEc:=hE.cells
 intro v hv
 simp only [List.mem_append,List.mem_cons,List.not_mem_nil,or_false,t5] at hv
 rcases hv with ((hv | hv) | hv) | hv
 ·rcases hv with rfl | rfl | rfl | rfl | rfl | rfl | rfl | rfl | rfl <;> rfl
 ·rcases hv with rfl | rfl | rfl | rfl | rfl <;> rfl
 ·exact hEc v hv
 ·rcases hv with rfl | rfl <;> rfl
def DefRes (P:List Df) (a b c:Int) (w:World) (e:Ending) (w':World):Prop:=Below w.heap.size w w' ∧
 ((∃ d C,P[fnd P a b c]? = some d ∧ e = .returned (.tuple #[.agg C.toArray,.bool true]) ∧ DfAt w d C) ∨ (P[fnd P a b c]? = none ∧ e = .returned (.tuple #[.agg z31.toArray,.bool false])))
set_option maxHeartbeats 4000000 in
set_option maxRecDepth 100000 in
theorem rdef_any (P:List Df) (a b c:Int) (w:World) (v:Value) (h:PrAt w P v) :
  Calls Tryd.prog 21 #[v,.agg #[.int .i64 a,.int .i64 b,.int .i64 c]] w (DefRes P a b c w):=by
 obtain ⟨mv,A,cap,rfl,hm,hP⟩:=h
 obtain ⟨n,hn⟩:∃ n,P.length = n:=⟨_,rfl⟩
 rw [hn] at hm ⊢
 have HP:=Lib.hid hP
 have HN:=Lib.hid hn
 have HM:=Lib.hid hm
 have hni:(n:Int) ≤ 9223372036854775807:=by have:=hm.2;simp only [maxLen] at this;omega
 have P0:=p2_new w mv (.slice A n cap)
 have V0':=new_later w (.cells #[mv,.slice A n cap] 26)
 have Q0:=i3_new (w.alloc (.cells #[mv,.slice A n cap] 26)) a b c
 have P1:=P0.later (new_later _ (.cells #[.int .i64 a,.int .i64 b,.int .i64 c] 28))
 have V1:=later V0' (new_later _ (.cells #[.int .i64 a,.int .i64 b,.int .i64 c] 28))
 rw [World.size_alloc] at Q0
 have R0:=z31_new ((w.alloc (.cells #[mv,.slice A n cap] 26)).alloc (.cells #[.int .i64 a,.int .i64 b,.int .i64 c] 28))
 rw [World.size_alloc,World.size_alloc] at R0
 have P1x:=P1
 have R1:=new_later ((w.alloc (.cells #[mv,.slice A n cap] 26)).alloc (.cells #[.int .i64 a,.int .i64 b,.int .i64 c] 28)) (.cells z31.toArray 46)
 replace P1:=P1.later R1
 replace Q0:=Q0.later R1
 replace V1:=later V1 R1
 clear P1x R1
 clear P0 V0'
 generalize hW:((w.alloc (.cells #[mv,.slice A n cap] 26)).alloc (.cells #[.int .i64 a,.int .i64 b,.int .i64 c] 28)).alloc (.cells z31.toArray 46) = wa at P1 V1 Q0 R0
 have hc1:=P1.cell (j:=1) (v:=.slice A n cap) rfl
 have HP1:=Lib.hid P1
 have HQ1:=Lib.hid Q0
 have HR1:=Lib.hid R0
 have HV1:=Lib.hid V1
 have hzd:=zero_def
 have HOZ:Hid (∀ v ∈ z31,v.oneCell' = true):=Lib.hid (by decide)
 clear hP hn hm P1 Q0 V1 R0
 go_enter Tryd.func21,Tryd.ntmps21
 go_upto_region 1 with fail
 clear hW
 go_wp2_with fail
 clear hc1
 go_loopw [6] (fun i W => ∃ j:Nat,j ≤ n ∧ i = .int .i64 (j:Int) ∧ Arr W w.heap.size 2 26 [mv,.slice A n cap] ∧ Arr W (w.heap.size + 1) 3 28 [.int .i64 a,.int .i64 b,.int .i64 c] ∧ Arr W (w.heap.size + 1 + 1) 31 46 z31 ∧ Below w.heap.size w W ∧ Hid (∀ i (hi:i < P.length),i < j → (P[i]'hi).has a b c = false)) (fun i _ => n - (intOf i).toNat)
 case atStart => exact ⟨0,by omega,rfl,HP1.out,HQ1.out,HR1.out,HV1.out,Lib.hid fun i _ h => absurd h (by omega)⟩
 case round =>
  obtain ⟨j,hj,rfl,P2,Q2,R2,V2,HNO⟩:=hrel
  have hj0:(0:Int) ≤ (j:Int):=by omega
  have hA0:=P2.cell (j:=1) (v:=.slice A n cap) rfl
  by_cases hlt:j < n
  ·have hji:(j:Int) < (n:Int):=by omega
   have hjl:j < P.length:=by rw [HN.out];exact hlt
   obtain ⟨g,o,C,rfl,hrg,hdf⟩:=HP.out j _ (List.getElem?_eq_getElem hjl)
   obtain ⟨d1,d2,d3,d4⟩:=df_head (range_below hrg V2) (hdf.later V2)
   have b1:=Q2.cell (j:=0) (v:=.int .i64 a) rfl
   have b2:=Q2.cell (j:=1) (v:=.int .i64 b) rfl
   have b3:=Q2.cell (j:=2) (v:=.int .i64 c) rfl
   have HNE:Hid ((P[j]).has a b c = true → P[fnd P a b c]? = some P[j]):=Lib.hid fun h => by
    have h2:=fnd_at hjl h (fun i hi => HNO.out i (by omega) hi)
    rw [h2];exact List.getElem?_eq_getElem hjl
   have HNX:Hid ((P[j]).has a b c = false → ∀ i (hi:i < P.length),i < j + 1 → (P[i]'hi).has a b c = false):=Lib.hid fun h i hi hij => by
    by_cases e:i = j
    ·subst e;exact h
    ·exact HNO.out i hi (by omega)
   have heq:=fun W => eq_id (P[j]).a (P[j]).b (P[j]).c a b c W
   obtain ⟨E,hE⟩:∃ E,(P[j]).has a b c = E:=⟨_,rfl⟩
   rw [hE] at HNE HNX
   rw [show (decide ((P[j]).a = a) && (decide ((P[j]).b = b) && decide ((P[j]).c = c))) = E from hE] at heq
   have HDF:=Lib.hid hdf
   generalize P[j] = d at heq d1 d2 d3 HDF HNE d4
   have hCl:=HDF.out.len
   have HCL:=Lib.hid hCl
   have HOC:Hid (∀ v ∈ C,v.oneCell' = true):=Lib.hid (DfAt.cells HDF.out)
   have HRG:Hid (∀ q,(wr.drewN q).rangeAt g (o + j * 31) C):=Lib.hid fun q => range_below hrg (below_drewN V2 q)
   have HIN:Hid ((Tryd.prog.info? 46).map (·.size) = some C.length):=Lib.hid (by rw [hCl];exact info_def)
   have HPP:=Lib.hid P2
   have HQQ:=Lib.hid Q2
   have HRR:=Lib.hid R2
   have HVV:=Lib.hid V2
   have HLT:=Lib.hid hlt
   clear d4 hE hrg hdf hjl P2 Q2 V2 R2 HNO hlt hCl
   cases E with
   | true =>
    have HZ:=Lib.hid (HNE.out rfl)
    go_wp2_with fail
    go_quiet (fail)
    go_wp2_with (first
     | (with_reducible refine wpList_load_mid rfl _ (.tmp 25) rfl g (o + j * 31) rfl C _ (HRG.out _) Tryd.underlying46 rfl HIN.out ?_)
     | (refine wpList_store_arr rfl _ (.tmp 4) (.tmp 26) rfl (w.heap.size + 1 + 1) 0 31 46 _ C z31 rfl rfl rfl (show Arr (wr.drewN _) _ _ _ _ from HRR.out) (by rw [HCL.out];omega) HIN.out HOC.out ?_;intro w7 f7 o7))
    rw [setAll_all _ _ (by rw [HCL.out];rfl)] at f7
    exact bodyPost_ret (results_cellB rfl _ _ (w.heap.size + 1 + 1) C _ rfl f7.range Tryd.underlying46 rfl HIN.out) rfl ⟨(below_drewN HVV.out _).trans (o7.bel.mono (by omega)),.inl ⟨d,C,HZ.out,rfl,HDF.out⟩⟩
   | false =>
    have HZ:=Lib.hid (HNX.out rfl)
    go_wp2_with fail
    go_quiet (fail)
    go_wp2_with fail
    refine ⟨⟨j + 1,by have:=HLT.out;omega,by go_num,HPP.out,HQQ.out,HRR.out,below_drewN HVV.out _,HZ⟩,by have:=HLT.out;simp [intOf];omega⟩
  ·obtain rfl:j = n:=by omega
   have HZ:Hid (P[fnd P a b c]? = none):=Lib.hid (by
    rw [fnd_none (fun i hi => HNO.out i hi (by rw [← HN.out];exact hi))]
    exact List.getElem?_eq_none (Nat.le_refl _))
   have HRR:=Lib.hid R2
   clear hlt HNO R2
   go_wp2_with (refine wpList_store_arr rfl _ (.tmp 4) (.tmp 27) rfl (w.heap.size + 1 + 1) 0 31 46 _ z31 z31 rfl rfl rfl HRR.out (by decide) (by exact info_def) HOZ.out ?_;intro w7 f7 o7)
   rw [setAll_all _ _ rfl] at f7
   exact bodyPost_ret (results_cellB rfl _ _ (w.heap.size + 1 + 1) z31 _ rfl f7.range Tryd.underlying46 rfl info_def) rfl ⟨V2.trans (o7.bel.mono (by omega)),.inr ⟨HZ.out,rfl⟩⟩
end Go.Proofs.YtkpoiljioadfgaaDoor
namespace Go.Proofs.YtkpoiljioadfgaaDoor
open Go.RowKit
theorem slot_build (k:Int) (nm:ByteArray) (W:World):(Instr.build 66 #[(0,.agg #[.int .i64 0,.int .i64 1,.int .i64 k]),(1,.string nm)]).run Tryd.prog W = .ok (.agg #[.int .i64 0,.int .i64 1,.int .i64 k,.string nm,.int .i64 0,.int .i64 0,.int .i64 0,.int .i64 0,.slice none 0 0,.int .i64 0,.int .i64 0]) W :=
 run_build W _ _ _ (by kernel_rfl)
theorem slot_build3 (k k2:Int) (nm:ByteArray) (W:World):(Instr.build 66 #[(0,.agg #[.int .i64 0,.int .i64 1,.int .i64 k]),(1,.string nm),(2,.agg #[.int .i64 3,.int .i64 0,.int .i64 1,.int .i64 k2,.slice none 0 0])]).run Tryd.prog W = .ok (.agg #[.int .i64 0,.int .i64 1,.int .i64 k,.string nm,.int .i64 3,.int .i64 0,.int .i64 1,.int .i64 k2,.slice none 0 0,.int .i64 0,.int .i64 0]) W :=
 run_build W _ _ _ (by kernel_rfl)
end Go.Proofs.YtkpoiljioadfgaaDoor
