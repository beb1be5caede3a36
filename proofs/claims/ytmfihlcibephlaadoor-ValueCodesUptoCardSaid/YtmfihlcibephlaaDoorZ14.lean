import Derived.Test.YtmfihlcibephlaaDoorZ04
import Derived.Test.YtmfihlcibephlaaDoorZ06
import Derived.Test.YtmfihlcibephlaaDoorZ13
import Derived.Laws.Tables
set_option linter.unusedVariables false
set_option linter.unusedSimpArgs false
namespace Go.Proofs.YtmfihlcibephlaaDoor
open Go.RowKit
def tI:Ty:=.node 0 0 0 0 []
def tB:Ty:=.node 1 0 0 0 []
def tD (j:Nat):Ty:=.node 3 0 1 (1 + (j:Int)) []
def tL (t:Ty):Ty:=.node 2 0 0 0 [t]
def Gd (j:Nat) (t:Ty):Prop:=t = tI ∨ t = tB ∨ t = tL tI ∨ ∃ i,i < j ∧ (t = tD i ∨ t = tL (tD i))
structure Snd (P:List Df):Prop where
 len:1 ≤ P.length ∧ P.length ≤ 4
 ids:∀ (i:Nat) (d:Df),P[i]? = some d → d.a = 0 ∧ d.b = 1 ∧ d.c = 1 + (i:Int)
 knd:∀ (i:Nat) (d:Df),P[i]? = some d → d.kind = 0 ∨ d.kind = 1
 slt:∀ (i:Nat) (d:Df),P[i]? = some d → 1 ≤ d.slots.length ∧ d.slots.length ≤ 3 ∧ ∀ (j:Nat) (s:Sl),d.slots[j]? = some s → Gd i s.ty
section
variable {P:List Df}
theorem Snd.fnd_ (h:Snd P) {i:Nat} (hi:i < P.length):fnd P 0 1 (1 + (i:Int)) = i:=by
 refine fnd_at hi ?_ ?_
 ·obtain ⟨a,b,c⟩:=h.ids i _ (List.getElem?_eq_getElem hi)
  unfold Df.has;rw [a,b,c];simp
 ·intro j hj
  obtain ⟨a,b,c⟩:=h.ids j _ (List.getElem?_eq_getElem (by omega))
  unfold Df.has;rw [a,b,c]
  have:¬ (1 + (j:Int) = 1 + (i:Int)):=by omega
  simp;omega
theorem Snd.get (h:Snd P) {i:Nat} (hi:i < P.length):P[fnd P 0 1 (1 + (i:Int))]? = some P[i]:=by
 rw [h.fnd_ hi];exact List.getElem?_eq_getElem hi
theorem Snd.isD_ (h:Snd P) {i:Nat} (hi:i < P.length):isD P 0 1 (1 + (i:Int)) = true:=by
 unfold isD
 rw [h.get hi]
 rcases h.knd i _ (List.getElem?_eq_getElem hi) with e | e <;> simp [e]
theorem vty_I (P:List Df) (f:Nat):vty P (f + 1) tI = true:=by simp [vty,tI]
theorem vty_B (P:List Df) (f:Nat):vty P (f + 1) tB = true:=by simp [vty,tB]
theorem Snd.vty_D (h:Snd P) {i:Nat} (hi:i < P.length) (f:Nat):vty P (f + 1) (tD i) = true:=by simp [vty,tD,h.isD_ hi]
theorem vty_L {t:Ty} {f:Nat} (h:vty P f t = true):vty P (f + 1) (tL t) = true:=by simp [vty,tL,h]
theorem shK_I (P:List Df):shK P tI = 0:=rfl
theorem shK_B (P:List Df):shK P tB = 1:=rfl
theorem shK_L (P:List Df) (t:Ty):shK P (tL t) = 4:=rfl
theorem shS_I (P:List Df):shS P tI = []:=rfl
theorem shS_B (P:List Df):shS P tB = []:=rfl
theorem shS_L (P:List Df) (t:Ty):shS P (tL t) = []:=rfl
theorem Snd.dfo_ (h:Snd P) {i:Nat} (hi:i < P.length):dfo P (tD i) = some P[i]:=h.get hi
theorem Snd.shK_ (h:Snd P) {i:Nat} (hi:i < P.length):shK P (tD i) = if P[i].kind = 0 then 2 else 3:=shK_def rfl (h.dfo_ hi)
theorem Snd.shS_ (h:Snd P) {i:Nat} (hi:i < P.length):shS P (tD i) = P[i].slots:=shS_def rfl (h.dfo_ hi)
end
theorem nodes_node (k n:Int) (ks:List Tr):(Tr.node k n ks).nodes = nodesL ks + 1:=by rw [Tr.nodes]
theorem dep_node (k n:Int) (ks:List Tr):(Tr.node k n ks).dep = depL ks + 1:=by rw [Tr.dep]
theorem nodesL_snoc:∀ (xs:List Tr) (x:Tr),nodesL (xs ++ [x]) = nodesL xs + x.nodes
 | [],x => by simp [nodesL]
 | y :: ys,x => by rw [List.cons_append,nodesL,nodesL,nodesL_snoc ys x,Nat.add_assoc]
theorem depL_snoc:∀ (xs:List Tr) (x:Tr),depL (xs ++ [x]) = max (depL xs) x.dep
 | [],x => by simp [depL]
 | y :: ys,x => by rw [List.cons_append,depL,depL,depL_snoc ys x,Nat.max_assoc]
theorem ftL_snoc (P:List Df) (T:Nat → Ty):∀ (xs:List Tr) (x:Tr) (i:Nat),ftL P (xs ++ [x]) T i = (ftL P xs T i && ft P x (T (i + xs.length)))
 | [],x,i => by simp [ftL]
 | y :: ys,x,i => by
  rw [List.cons_append,ftL,ftL,ftL_snoc P T ys x (i + 1),Bool.and_assoc,show i + 1 + ys.length = i + (y :: ys).length by simp;omega]
theorem ft_form (P:List Df) (k n:Int) (ks:List Tr) (t:Ty):ft P (.node k n ks) t = (vty P 24 t && (decide (k = shK P t) && (hfit k n ks.length (shS P t).length && ftL P ks (kty t (shS P t) k n) 0))):=by rw [ft]
theorem hfit_0 (n:Int) (h:-1099511627776 ≤ n ∧ n ≤ 1099511627776) (m:Nat):hfit 0 n 0 m = true:=by unfold hfit;rw [if_pos rfl];simp [h]
theorem hfit_1 (n:Int) (h:n = 0 ∨ n = 1) (m:Nat):hfit 1 n 0 m = true:=by unfold hfit;rw [if_neg (by decide),if_pos rfl];simpa using h
theorem hfit_2 (m:Nat):hfit 2 0 m m = true:=by unfold hfit;rw [if_neg (by decide),if_neg (by decide),if_pos rfl];simp
theorem hfit_3 (n m:Nat) (h:n < m):hfit 3 (n:Int) 1 m = true:=by unfold hfit;rw [if_neg (by decide),if_neg (by decide),if_neg (by decide),if_pos rfl];simp;omega
theorem hfit_4 (l m:Nat):hfit 4 0 l m = true:=by unfold hfit;rw [if_neg (by decide),if_neg (by decide),if_neg (by decide),if_neg (by decide)];rfl
theorem ft_I (P:List Df) (n:Int) (h:-1099511627776 ≤ n ∧ n ≤ 1099511627776):ft P (.node 0 n []) tI = true:=by
 rw [ft_form,vty_I P 23,shK_I,List.length_nil,hfit_0 n h];simp [ftL]
theorem ft_B (P:List Df) (n:Int) (h:n = 0 ∨ n = 1):ft P (.node 1 n []) tB = true:=by
 rw [ft_form,vty_B P 23,shK_B,List.length_nil,hfit_1 n h];simp [ftL]
theorem ft_L (P:List Df) (t:Ty) (ks:List Tr) (hv:vty P 23 t = true) (h:∀ x ∈ ks,ft P x t = true):ft P (.node 4 0 ks) (tL t) = true:=by
 rw [ft_form,vty_L hv,shK_L,hfit_4]
 have e:∀ i,kty (tL t) (shS P (tL t)) 4 0 i = t:=fun i => rfl
 have hl:∀ (xs:List Tr) (i:Nat),(∀ x ∈ xs,ft P x t = true) → ftL P xs (kty (tL t) (shS P (tL t)) 4 0) i = true:=by
  intro xs
  induction xs with
  | nil => intro i _;rw [ftL]
  | cons x xs ih => intro i hx;rw [ftL,e,hx x (by simp),ih (i + 1) (fun y hy => hx y (by simp [hy]))];rfl
 rw [hl ks 0 h];rfl
theorem Snd.ft_rec {P:List Df} (h:Snd P) {i:Nat} (hi:i < P.length) (hk:P[i].kind = 0) (ks:List Tr) (hl:ks.length = P[i].slots.length) (hf:ftL P ks (kty (tD i) P[i].slots 2 0) 0 = true):ft P (.node 2 0 ks) (tD i) = true:=by
 rw [ft_form,h.vty_D hi 23,h.shK_ hi,h.shS_ hi,if_pos hk,hl,hfit_2,hf];rfl
theorem Snd.ft_case {P:List Df} (h:Snd P) {i:Nat} (hi:i < P.length) (hk:P[i].kind ≠ 0) (n:Nat) (hn:n < P[i].slots.length) (x:Tr) (hx:ft P x (P[i].slots[n]).ty = true):ft P (.node 3 (n:Int) [x]) (tD i) = true:=by
 rw [ft_form,h.vty_D hi 23,h.shK_ hi,h.shS_ hi,if_neg hk,List.length_singleton,hfit_3 n _ hn]
 have e:kty (tD i) P[i].slots 3 (n:Int) 0 = (P[i].slots[n]).ty:=by unfold kty;rw [if_neg (by decide),if_pos rfl,Int.toNat_natCast,List.getElem?_eq_getElem hn];rfl
 rw [ftL,e,hx,ftL];rfl
def ZB:Nat → Nat
 | 0 => 4
 | i + 1 => 1 + 3 * ZB i
theorem ZB_pos (i:Nat):1 ≤ ZB i:=by cases i <;> simp [ZB]
theorem zr_I (P:List Df) (f c:Nat) (hc:c < 256):zr P (f + 1) tI c = (0,.node 0 0 [],c + 1):=by
 rw [zr_form,vty_I P 23,if_neg (by simp),if_neg (by omega),if_neg (by rw [shK_I];simp),shK_I,shS_I];rfl
theorem zr_B (P:List Df) (f c:Nat) (hc:c < 256):zr P (f + 1) tB c = (0,.node 1 0 [],c + 1):=by
 rw [zr_form,vty_B P 23,if_neg (by simp),if_neg (by omega),if_neg (by rw [shK_B];simp),shK_B,shS_B];rfl
theorem zr_L (P:List Df) (t:Ty) (f c:Nat) (hv:vty P 23 t = true) (hc:c < 256):zr P (f + 1) (tL t) c = (0,.node 4 0 [],c + 1):=by
 rw [zr_form,vty_L hv,if_neg (by simp),if_neg (by omega),if_neg (by rw [shK_L];simp),shK_L,shS_L];rfl
def ZOk (P:List Df) (t:Ty) (N D:Nat) (c:Nat) (r:Int × Tr × Nat):Prop:=r.1 = 0 ∧ ft P r.2.1 t = true ∧ r.2.1.nodes ≤ N ∧ r.2.1.dep ≤ D ∧ r.2.2 = c + r.2.1.nodes ∧ r.2.1.wt = 0
theorem wtL_zero:∀ (xs:List Tr),(∀ x ∈ xs,x.wt = 0) → wtL 0 xs = 0
 | [],_ => rfl
 | x :: xs,h => by rw [wtL,h x (by simp),show wrap64 (0 + 0) = 0 from by unfold wrap64;omega];exact wtL_zero xs (fun y hy => h y (by simp [hy]))
theorem zrL_ok {P:List Df} {g:Ty → Nat → Int × Tr × Nat} {k:Int} {N D:Nat} (T:Nat → Ty):∀ (sl:List Sl) (acc:List Tr) (c:Nat),c + sl.length * N ≤ 256 → (∀ s ∈ sl,∀ c,c + N ≤ 256 → ZOk P s.ty N D c (g s.ty c)) → (∀ j s,sl[j]? = some s → T (acc.length + j) = s.ty) →
  ∃ ks,(zrL g k sl acc c) = (0,.node k 0 (acc ++ ks),c + nodesL ks) ∧ ks.length = sl.length ∧ ftL P ks T acc.length = true ∧ nodesL ks ≤ sl.length * N ∧ depL ks ≤ D ∧ (∀ x ∈ ks,x.wt = 0)
 | [],acc,c,_,_,_ => ⟨[],by simp [zrL,nodesL],rfl,by rw [ftL],by simp [nodesL],by simp [depL],by simp⟩
 | s :: r,acc,c,hc,hg,hT => by
  have hN:(s :: r).length * N = r.length * N + N:=by rw [List.length_cons,Nat.succ_mul]
  obtain ⟨z1,z2,z3,z4,z5,z6⟩:=hg s (by simp) c (by omega)
  obtain ⟨ks,e1,e2,e3,e4,e5,e6⟩:=zrL_ok (P:=P) (g:=g) (k:=k) (N:=N) (D:=D) T r (acc ++ [(g s.ty c).2.1]) (g s.ty c).2.2 (by rw [z5];omega) (fun s' hs' => hg s' (by simp [hs'])) (fun j s' hs' => by
   have:=hT (j + 1) s' (by simpa using hs')
   rw [← this];congr 1;simp;omega)
  refine ⟨(g s.ty c).2.1 :: ks,?_,by simp [e2],?_,?_,?_,?_⟩
  ·rw [zrL,if_pos z1,e1,z5,nodesL,List.append_assoc];simp [Nat.add_assoc]
  ·have h0:T acc.length = s.ty:=by simpa using hT 0 s rfl
   rw [ftL,h0,z2,Bool.true_and]
   have:(acc ++ [(g s.ty c).2.1]).length = acc.length + 1:=by simp
   rw [this] at e3;exact e3
  ·rw [nodesL];omega
  ·rw [depL];omega
  ·intro x hx
   rcases List.mem_cons.1 hx with rfl | hx
   ·exact z6
   ·exact e6 x hx
theorem wtz_2 (ks:List Tr) (h:∀ x ∈ ks,x.wt = 0):(Tr.node 2 0 ks).wt = 0:=by rw [Tr.wt,wtL_zero ks h];rfl
theorem wtz_3 (ks:List Tr) (h:∀ x ∈ ks,x.wt = 0):(Tr.node 3 0 ks).wt = 0:=by rw [Tr.wt,wtL_zero ks h];simp [wtOf,wrap64]
theorem Snd.zero {P:List Df} (h:Snd P):∀ (i:Nat),i < P.length → ∀ (f c:Nat),i + 2 ≤ f → c + ZB i ≤ 256 → ZOk P (tD i) (ZB i) (i + 2) c (zr P f (tD i) c):=by
 intro i
 induction i using Nat.strongRecOn with
 | _ i IH =>
  intro hi f c hf hc
  obtain ⟨f,rfl⟩:∃ f',f = f' + 1:=⟨f - 1,by omega⟩
  obtain ⟨s1,s2,s3⟩:=h.slt i _ (List.getElem?_eq_getElem hi)
  have hzp:=ZB_pos i
  have hM:∃ M,(∀ t,Gd i t → ∀ c,c + M ≤ 256 → ZOk P t M (i + 1) c (zr P f t c)) ∧ 1 + 3 * M ≤ ZB i:=by
   have hw1:∀ (k:Int),(k = 0 ∨ k = 1 ∨ k = 4) → (Tr.node k 0 []).wt = 0:=by
    rintro k (rfl | rfl | rfl) <;> simp [Tr.wt,wtL,wtOf,wrap64]
   have hbase:∀ M,1 ≤ M → ∀ t,(t = tI ∨ t = tB ∨ t = tL tI) → ∀ c,c + M ≤ 256 → ZOk P t M (i + 1) c (zr P f t c):=by
    intro M hM t ht c hc
    obtain ⟨f',rfl⟩:∃ f',f = f' + 1:=⟨f - 1,by omega⟩
    rcases ht with rfl | rfl | rfl
    ·rw [zr_I P f' c (by omega)];exact ⟨rfl,ft_I P 0 (by omega),by simp [nodes_node,nodesL];omega,by simp [dep_node,depL],by simp [nodes_node,nodesL],hw1 0 (by simp)⟩
    ·rw [zr_B P f' c (by omega)];exact ⟨rfl,ft_B P 0 (by omega),by simp [nodes_node,nodesL];omega,by simp [dep_node,depL],by simp [nodes_node,nodesL],hw1 1 (by simp)⟩
    ·rw [zr_L P tI f' c (vty_I P 22) (by omega)];exact ⟨rfl,ft_L P tI [] (vty_I P 22) (by simp),by simp [nodes_node,nodesL];omega,by simp [dep_node,depL],by simp [nodes_node,nodesL],hw1 4 (by simp)⟩
   cases i with
   | zero =>
    refine ⟨1,fun t ht c hc => ?_,by simp [ZB]⟩
    rcases ht with e | e | e | ⟨j,hj,_⟩
    ·exact hbase 1 (by omega) t (.inl e) c hc
    ·exact hbase 1 (by omega) t (.inr (.inl e)) c hc
    ·exact hbase 1 (by omega) t (.inr (.inr e)) c hc
    ·omega
   | succ i =>
    refine ⟨ZB i,fun t ht c hc => ?_,by simp [ZB]⟩
    rcases ht with e | e | e | ⟨j,hj,e | e⟩
    ·exact hbase _ (ZB_pos i) t (.inl e) c hc
    ·exact hbase _ (ZB_pos i) t (.inr (.inl e)) c hc
    ·exact hbase _ (ZB_pos i) t (.inr (.inr e)) c hc
    ·subst e
     have hmono:∀ a b:Nat,a ≤ b → ZB a ≤ ZB b:=by
      intro a b hab
      induction hab with
      | refl => exact Nat.le_refl _
      | step _ ih => exact Nat.le_trans ih (by simp [ZB];omega)
     have hz:=hmono j i (by omega)
     obtain ⟨z1,z2,z3,z4,z5,z6⟩:=IH j hj (by omega) f c (by omega) (by omega)
     exact ⟨z1,z2,by omega,by omega,z5,z6⟩
    ·subst e
     obtain ⟨f',rfl⟩:∃ f',f = f' + 1:=⟨f - 1,by omega⟩
     have hv:vty P 23 (tD j) = true:=h.vty_D (by omega) 22
     rw [zr_L P (tD j) f' c hv (by have:=ZB_pos i;omega)]
     exact ⟨rfl,ft_L P (tD j) [] hv (by simp),by simp [nodes_node,nodesL];exact ZB_pos i,by simp [dep_node,depL],by simp [nodes_node,nodesL],hw1 4 (by simp)⟩
  obtain ⟨M,hM1,hM2⟩:=hM
  rw [zr_form,h.vty_D hi 23,if_neg (by simp),if_neg (by omega),h.shK_ hi,h.shS_ hi]
  by_cases hk:P[i].kind = 0
  ·rw [if_pos hk,if_neg (by simp),if_neg (by decide)]
   obtain ⟨ks,e1,e2,e3,e4,e5,e6⟩:=zrL_ok (P:=P) (g:=zr P f) (k:=2) (N:=M) (D:=i + 1) (kty (tD i) P[i].slots 2 0) P[i].slots [] (c + 1) (by
    have:P[i].slots.length * M ≤ 3 * M:=Nat.mul_le_mul_right _ s2
    omega) (fun s hs c' hc' => by
     obtain ⟨j,hj⟩:=List.getElem?_of_mem hs
     exact hM1 _ (s3 j s hj) c' hc') (fun j s hs => by unfold kty;rw [if_pos rfl];simp [hs])
   rw [e1]
   have h3:P[i].slots.length * M ≤ 3 * M:=Nat.mul_le_mul_right _ s2
   refine ⟨rfl,h.ft_rec hi hk _ (by simpa using e2) (by simpa using e3),?_,?_,?_,wtz_2 _ (by simpa using e6)⟩
   ·simp [nodes_node];omega
   ·simp [dep_node];omega
   ·simp [nodes_node];omega
  ·rw [if_neg hk,if_neg (by rintro ⟨_,h0⟩;omega),if_pos rfl]
   have h0:P[i].slots.take 1 = [P[i].slots[0]]:=by
    rw [show (1:Nat) = 0 + 1 from rfl,List.take_succ_eq_append_getElem (by omega)];simp
   rw [h0]
   have hs0:=s3 0 _ (List.getElem?_eq_getElem (by omega:0 < P[i].slots.length))
   obtain ⟨ks,e1,e2,e3,e4,e5,e6⟩:=zrL_ok (P:=P) (g:=zr P f) (k:=3) (N:=M) (D:=i + 1) (fun _ => (P[i].slots[0]).ty) [P[i].slots[0]] [] (c + 1) (by simp;omega) (fun s hs c' hc' => by
     simp at hs;subst hs
     exact hM1 _ hs0 c' hc') (fun j s hs => by
      match j,hs with
      | 0,hs => simp at hs;rw [← hs])
   rw [e1]
   match ks,e2 with
   | [x],_ =>
    rw [ftL] at e3
    have hx:ft P x (P[i].slots[0]).ty = true:=by simpa [ftL] using e3
    refine ⟨rfl,by simpa using h.ft_case hi hk 0 (by omega) x hx,?_,?_,?_,wtz_3 _ (by simpa using e6)⟩
    ·simp [nodes_node] at e4 ⊢;omega
    ·simp [dep_node];omega
    ·simp [nodes_node];omega
end Go.Proofs.YtmfihlcibephlaaDoor
namespace Go.Proofs.YtmfihlcibephlaaDoor
open Go.RowKit
theorem slot_build (k:Int) (nm:ByteArray) (W:World):(Instr.build 66 #[(0,.agg #[.int .i64 0,.int .i64 1,.int .i64 k]),(1,.string nm)]).run Tryd.prog W = .ok (.agg #[.int .i64 0,.int .i64 1,.int .i64 k,.string nm,.int .i64 0,.int .i64 0,.int .i64 0,.int .i64 0,.slice none 0 0,.int .i64 0,.int .i64 0]) W :=
 run_build W _ _ _ (by kernel_rfl)
theorem slot_build3 (k k2:Int) (nm:ByteArray) (W:World):(Instr.build 66 #[(0,.agg #[.int .i64 0,.int .i64 1,.int .i64 k]),(1,.string nm),(2,.agg #[.int .i64 3,.int .i64 0,.int .i64 1,.int .i64 k2,.slice none 0 0])]).run Tryd.prog W = .ok (.agg #[.int .i64 0,.int .i64 1,.int .i64 k,.string nm,.int .i64 3,.int .i64 0,.int .i64 1,.int .i64 k2,.slice none 0 0,.int .i64 0,.int .i64 0]) W :=
 run_build W _ _ _ (by kernel_rfl)
end Go.Proofs.YtmfihlcibephlaaDoor
