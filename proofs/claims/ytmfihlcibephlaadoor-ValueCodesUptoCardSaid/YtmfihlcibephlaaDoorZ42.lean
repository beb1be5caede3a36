import Derived.Test.YtmfihlcibephlaaDoorZ01
import Derived.Test.YtmfihlcibephlaaDoorZ04
import Derived.Test.YtmfihlcibephlaaDoorZ13
import Derived.Test.YtmfihlcibephlaaDoorZ19
import Derived.ProofKit
import Derived.OpenShut
import Derived.ShutString
import Derived.ChangeOld
import Derived.SizedLaws
import Derived.Deep.Slices
import Derived.SliceStrings
import Derived.ChangeArms
import Derived.DataReads
import Derived.DataElems
import Derived.Test.YtmfihlcibephlaaDoorRows
import Derived.ChangeMaps5
import Derived.ChangeSame
import Derived.ChangeVars
import Derived.JoinedOf
import Derived.RowKit
set_option linter.unusedVariables false
set_option linter.unusedSimpArgs false
namespace Go.Proofs.YtmfihlcibephlaaDoor
open Go.ChangeShapes Go.WideShapes Go.ChangeAt Go.RowKit Go.Deep
theorem Tryd.laidOut:laidOutB Tryd.prog = true:=by kernel_rfl
theorem Tryd.cellsB:Tryd.prog.cellsOf 5 = 1:=by kernel_rfl
theorem rd_of_cells {w:World} {a:Addr} {xs:List Value} (h:∀ j u,xs[j]? = some u → w.cell? (a.add j) = some u):Rd w w.heap.size (some a) xs:=by
 cases xs with
 | nil => exact Rd.nil _ _ _
 | cons x xs =>
  have h0:w.cell? a = some x:=by have:=h 0 x rfl;simpa [Addr.add] using this
  have hlt:=World.block_lt_of_cell? w _ h0
  obtain ⟨b,o,s⟩:=a
  have hs:=World.cell?_spot h0
  simp at hs
  subst hs
  exact .inr ⟨b,o,rfl,hlt,fun j u hu => by
   have h2:=h j u hu
   have ha:(⟨b,o,none⟩:Addr).add j = ⟨b,o + j,none⟩:=by unfold Addr.add;split <;> simp_all
   rwa [ha] at h2⟩
section
variable {H:Type} {enc:TypeId × Value → H} {w:World} {sp:Nat → Bool} {d:DataW H} {p:List MemPlace} {A:Option Addr} {len cap:Nat}
theorem open_bytes (hd:DataW.Trod enc Tryd.prog w 0 sp true 69 (.slice A len cap) d p) :
  ∃ zs:List Nat,len = zs.length ∧ Rd w w.heap.size A (bs zs) ∧ (∀ x ∈ zs,x < 256) ∧ len ≤ cap ∧ cap ≤ maxLen:=by
 obtain ⟨fuel,hf⟩:=hd
 rcases open_ints Tryd.underlying69 Tryd.underlying5 Tryd.cellsB hf with ⟨hcs,_⟩ | ⟨a,l,c,zs,hcs,_,hl,hm,hz,_,hcell,hwz⟩
 ·simp [Value.cells] at hcs
  obtain ⟨rfl,rfl,rfl⟩:=hcs
  exact ⟨[],rfl,Rd.nil _ _ _,by simp,Nat.le_refl _,by simp [maxLen]⟩
 ·simp [Value.cells] at hcs
  obtain ⟨rfl,rfl,rfl⟩:=hcs
  have hzl:len ≤ zs.length:=by rw [hz];split <;> omega
  have hb:∀ z ∈ zs,0 ≤ z ∧ z ≤ 255:=fun z hz => bounds_u8 (hwz z hz)
  refine ⟨(zs.take len).map Int.toNat,by simp;omega,rd_of_cells ?_,?_,hl,hm⟩
  ·intro j u hu
   have hj:j < len:=by have:=(List.getElem?_eq_some_iff.1 hu).1;simp [bs] at this;omega
   rw [hcell j (by omega)]
   simp only [bs,U8,List.getElem?_map,List.getElem?_take,hj,if_true,List.getElem?_eq_getElem (show j < zs.length by omega),Option.map_some,Option.some.injEq] at hu
   rw [← hu]
   have:=hb zs[j] (List.getElem_mem _)
   simp [List.getD,List.getElem?_eq_getElem (show j < zs.length by omega)]
   omega
  ·intro x hx
   simp only [List.mem_map] at hx
   obtain ⟨z,hz,rfl⟩:=hx
   have:=hb z (List.mem_of_mem_take hz)
   omega
end
end Go.Proofs.YtmfihlcibephlaaDoor
namespace Go.Proofs.YtmfihlcibephlaaDoor
open Go.ChangeShapes Go.WideShapes Go.ChangeAt Go.RowKit Go.Deep
instance:Inhabited Tr:=⟨.node 0 0 []⟩
instance:Inhabited Ty:=⟨.node 0 0 0 0 []⟩
instance:Inhabited Ex:=⟨.node 0 0 0 0 0 0 0 0 (.node 0 0 0 0 []) [] []⟩
instance:Inhabited Sl:=⟨⟨0,0,0,⟨#[]⟩,.node 0 0 0 0 [],0,0⟩⟩
instance:Inhabited Df:=⟨⟨0,0,0,0,0,0,0,⟨#[]⟩,[],.node 0 0 0 0 [],default,0,[]⟩⟩
theorem KsAt.mk {w:World} {A:Option Addr}:∀ {xs:List Tr} {i:Nat},(∀ j x,xs[j]? = some x → ∃ g o cs,A = some ⟨g,o,none⟩ ∧ w.rangeAt g (o + (i + j) * 3) cs ∧ TrAt w x (.agg cs.toArray)) → KsAt w A i xs
 | [],i,_ => by unfold KsAt;trivial
 | x :: xs,i,h => by
  unfold KsAt
  refine ⟨by simpa using h 0 x rfl,KsAt.mk fun j y hy => ?_⟩
  have:=h (j + 1) y (by simpa using hy)
  rwa [show i + (j + 1) = i + 1 + j by omega] at this
theorem map_get {α:Type} {n:Nat} {f:Nat → α} {j:Nat} {x:α} (h:((List.range n).map f)[j]? = some x):j < n ∧ x = f j:=by
 have hj:=(List.getElem?_eq_some_iff.1 h).1
 simp at hj
 simp [List.getElem?_range hj] at h
 exact ⟨hj,h.symm⟩
theorem ir_of {n:Int} (h:(Lit.int .i64 n).wf = true):i64r n:=by have:=bounds_i64 h;unfold i64r;omega
theorem Tryd.cVal:Tryd.prog.cellsOf 53 = 3:=by kernel_rfl
theorem Tryd.cVs:Tryd.prog.cellsOf 51 = 1:=by kernel_rfl
theorem Tryd.cI:Tryd.prog.cellsOf 3 = 1:=by kernel_rfl
section
variable {H:Type} {enc:TypeId × Value → H} {w:World} {sp:Nat → Bool} {held:Bool} {base:Nat}
theorem fld {fs:Array Field} {xs:List (DataW H × List MemPlace)} {n:Nat} {cs:List Value} (hlen:xs.length = fs.size)
  (hf:∀ (i:Nat) (f:Field),fs[i]? = some f → DataW.trod enc Tryd.prog w base sp held n f.type ((cs.drop f.offset).take (Tryd.prog.cellsOf f.type)) = xs[i]?)
  (i:Nat) (T:TypeId) (o c:Nat) (h:∃ f,fs[i]? = some f ∧ f.type = T ∧ f.offset = o) (hc:Tryd.prog.cellsOf T = c):∃ y,DataW.trod enc Tryd.prog w base sp held n T ((cs.drop o).take c) = some y:=by
 obtain ⟨f,h1,rfl,rfl⟩:=h
 rw [← hc,hf i f h1]
 have hi:i < fs.size:=(Array.getElem?_eq_some_iff.1 h1).1
 exact ⟨_,List.getElem?_eq_getElem (by rw [hlen];exact hi)⟩
theorem seg (cs:List Value) (o c p:Nat) (h:o + c = p):cs.drop o = (cs.drop o).take c ++ cs.drop p:=by
 rw [← h,← List.drop_drop,List.take_append_drop]
theorem fld_int {n:Nat} {cs:List Value} {y:DataW H × List MemPlace} (h:DataW.trod enc Tryd.prog w base sp held n 3 cs = some y):∃ k,cs = [.int .i64 k] ∧ i64r k:=by
 obtain ⟨k,h1,_,h2⟩:=DataW.trod_int Tryd.underlying3 h
 exact ⟨k,h1,ir_of h2⟩
end
end Go.Proofs.YtmfihlcibephlaaDoor
namespace Go.Proofs.YtmfihlcibephlaaDoor
open Go.ChangeShapes Go.WideShapes Go.ChangeAt Go.RowKit Go.Deep
theorem bulk_mem {H:Type}:∀ {l:List (DataW H)} {j:Nat} {d:DataW H},l[j]? = some d → Rows.uptoBulk d ≤ Rows.uptoBulkAll l
 | [],j,d,h => by simp at h
 | x :: l,0,d,h => by
  simp at h;subst h
  simp only [Rows.uptoBulkAll];omega
 | x :: l,j + 1,d,h => by
  have:=bulk_mem (l:=l) (j:=j) (d:=d) (by simpa using h)
  simp only [Rows.uptoBulkAll];omega
theorem bulk_nodes {H:Type}:∀ (xs:List Tr) (ds:List (DataW H)),(∀ (j:Nat) (x:Tr),xs[j]? = some x → ∃ d,ds[j]? = some d ∧ x.nodes ≤ Rows.uptoBulk d) → nodesL xs ≤ Rows.uptoBulkAll ds
 | [],ds,_ => by unfold nodesL;omega
 | x :: xs,[],h => by
  obtain ⟨d,h1,_⟩:=h 0 x rfl
  simp at h1
 | x :: xs,d :: ds,h => by
  obtain ⟨d',h1,h2⟩:=h 0 x rfl
  simp at h1;subst h1
  have h3:=bulk_nodes xs ds fun j y hy => by simpa using h (j + 1) y (by simpa using hy)
  unfold nodesL
  simp only [Rows.uptoBulkAll]
  omega
theorem elems_atb {H:Type} {enc:TypeId × Value → H} {P:Program} {w:World} {base:Nat} {sp:Nat → Bool} {held:Bool} {fuel c:Nat} {t e:TypeId} {cs:List Value} {x:DataW H × List MemPlace}
  (ht:P.underlying t = some (.slice e)) (hc:P.cellsOf e = c) (h0:0 < c) (h:DataW.trod enc P w base sp held fuel t cs = some x) :
  ∃ (E:List (DataW H)) (A:Option Addr) (len cap:Nat),cs = [.slice A len cap] ∧ len ≤ cap ∧ cap ≤ maxLen ∧ Rows.uptoBulkAll E + 1 ≤ Rows.uptoBulk x.1 ∧ ∀ i,i < len → ∃ g o cs' y n,A = some ⟨g,o,none⟩ ∧ w.rangeAt g (o + i * c) cs' ∧ cs'.length = c ∧ fuel = n + 1 ∧ DataW.trod enc P w base sp held n e cs' = some y ∧ E[i]? = some y.1:=by
 rcases DataW.trod_slice ht h with ⟨rfl,hx⟩ | ⟨a,len,cap,elems,rest,n,hf,rfl,hx,_,hl,hm,hlen,hel,_,_⟩
 ·exact ⟨[],none,0,0,rfl,Nat.le_refl _,by simp [maxLen],by rw [hx];simp [Rows.uptoBulkAll,Rows.uptoBulk],fun i hi => absurd hi (by omega)⟩
 ·refine ⟨elems.map (·.1),some a,len,cap,rfl,hl,hm,by rw [hx];simp only [Rows.uptoBulk];omega,fun i hi => ?_⟩
  have h1:=hel i hi
  rw [List.getElem?_eq_getElem (by omega)] at h1
  obtain ⟨cs',h2,h3⟩:=Option.bind_eq_some_iff.1 h1
  rw [hc] at h2
  obtain ⟨_,h4,h5⟩:=World.cells?_some h2
  have hz:=hel 0 (by omega)
  rw [List.getElem?_eq_getElem (by omega)] at hz
  obtain ⟨cz,z2,_⟩:=Option.bind_eq_some_iff.1 hz
  rw [hc] at z2
  obtain ⟨_,z4,z5⟩:=World.cells?_some z2
  have z50:=z5 0 h0
  rw [Addr.add_add,List.getElem?_eq_getElem (by omega)] at z50
  have hs:=World.cell?_spot z50
  obtain ⟨b,o,s⟩:=a
  have hs:s = none:=by simpa [Addr.add] using hs
  subst hs
  refine ⟨b,o,cs',elems[i],n,rfl,fun j u hu => ?_,h4,hf,h3,by rw [List.getElem?_map,List.getElem?_eq_getElem (by omega)];rfl⟩
  have h6:=h5 j (by have:=(List.getElem?_eq_some_iff.1 hu).1;omega)
  rw [hu,Addr.add_add] at h6
  have ha:(⟨b,o,none⟩:Addr).add (i * c + j) = ⟨b,o + i * c + j,none⟩:=by unfold Addr.add;split <;> simp_all [Nat.add_assoc]
  rwa [ha] at h6
section
variable {H:Type} {enc:TypeId × Value → H} {w:World} {sp:Nat → Bool} {held:Bool} {base:Nat}
theorem fldb {fs:Array Field} {xs:List (DataW H × List MemPlace)} {n:Nat} {cs:List Value} (hlen:xs.length = fs.size)
  (hf:∀ (i:Nat) (f:Field),fs[i]? = some f → DataW.trod enc Tryd.prog w base sp held n f.type ((cs.drop f.offset).take (Tryd.prog.cellsOf f.type)) = xs[i]?)
  (i:Nat) (T:TypeId) (o c:Nat) (h:∃ f,fs[i]? = some f ∧ f.type = T ∧ f.offset = o) (hc:Tryd.prog.cellsOf T = c):∃ y,DataW.trod enc Tryd.prog w base sp held n T ((cs.drop o).take c) = some y ∧ xs[i]? = some y:=by
 obtain ⟨f,h1,rfl,rfl⟩:=h
 rw [← hc,hf i f h1]
 have hi:i < fs.size:=(Array.getElem?_eq_some_iff.1 h1).1
 exact ⟨_,List.getElem?_eq_getElem (by rw [hlen];exact hi),List.getElem?_eq_getElem (by rw [hlen];exact hi)⟩
theorem open_trb:∀ (m:Nat) (cs:List Value) (x:DataW H × List MemPlace),DataW.trod enc Tryd.prog w base sp held m 53 cs = some x → ∃ y:Tr,TrAt w y (.agg cs.toArray) ∧ y.nodes ≤ Rows.uptoBulk x.1:=by
 intro m
 induction m using Nat.strongRecOn with
 | _ m ih =>
  intro cs x h
  obtain ⟨xs,n,hn,hx,hl,hlen,hf⟩:=DataW.trod_struct Tryd.underlying53 h
  rw [Tryd.cVal] at hl
  obtain ⟨y0,h0⟩:=fld hlen hf 0 3 0 1 ⟨_,rfl,rfl,rfl⟩ Tryd.cI
  obtain ⟨k,e0,hk⟩:=fld_int h0
  obtain ⟨y1,h1⟩:=fld hlen hf 1 3 1 1 ⟨_,rfl,rfl,rfl⟩ Tryd.cI
  obtain ⟨v,e1,hv⟩:=fld_int h1
  obtain ⟨y2,h2,hy2⟩:=fldb hlen hf 2 51 2 1 ⟨_,rfl,rfl,rfl⟩ Tryd.cVs
  obtain ⟨E,A,len,cap,e2,hl1,hl2,hE,hel⟩:=elems_atb Tryd.underlying51 Tryd.cVal (by omega) h2
  have hbk:Rows.uptoBulk y2.1 ≤ Rows.uptoBulk x.1:=by
   rw [hx]
   simp only [Rows.uptoBulk]
   have:=bulk_mem (l:=xs.map (·.1)) (j:=2) (d:=y2.1) (by rw [List.getElem?_map,hy2];rfl)
   omega
  clear h0 h1 h2 hf hlen hy2
  have hcs:cs = c3 k v A len cap:=by
   have s0:=seg cs 0 1 1 rfl
   have s1:=seg cs 1 1 2 rfl
   have s2:=seg cs 2 1 3 rfl
   rw [e2,List.drop_of_length_le (i:=3) (by omega)] at s2
   rw [e1,s2] at s1
   rw [e0,s1] at s0
   exact s0
  have each:∀ i,i < len → ∃ z:Tr,∃ g o cs' d,A = some ⟨g,o,none⟩ ∧ w.rangeAt g (o + i * 3) cs' ∧ TrAt w z (.agg cs'.toArray) ∧ E[i]? = some d ∧ z.nodes ≤ Rows.uptoBulk d:=by
   intro i hi
   obtain ⟨g,o,cs',y',n',hA,hr,_,hn',ht,hd⟩:=hel i hi
   obtain ⟨z,hz,hzn⟩:=ih n' (by omega) cs' y' ht
   exact ⟨z,g,o,cs',_,hA,hr,hz,hd,hzn⟩
  obtain ⟨f,hf⟩:=choose_lt each
  refine ⟨.node k v ((List.range len).map f),?_,?_⟩
  ·unfold TrAt
   refine ⟨A,cap,by rw [hcs];simp,⟨by simpa using hl1,hl2,hk,hv⟩,KsAt.mk fun j x hx => ?_⟩
   obtain ⟨hj,rfl⟩:=map_get hx
   rw [Nat.zero_add]
   obtain ⟨g,o,cs',d,h1,h2,h3,_⟩:=hf j hj
   exact ⟨g,o,cs',h1,h2,h3⟩
  ·have h5:=bulk_nodes ((List.range len).map f) E fun j x hx => by
    obtain ⟨hj,rfl⟩:=map_get hx
    obtain ⟨g,o,cs',d,_,_,_,h4,h5⟩:=hf j hj
    exact ⟨d,h4,h5⟩
   unfold Tr.nodes
   omega
end
end Go.Proofs.YtmfihlcibephlaaDoor
namespace Go.Proofs.YtmfihlcibephlaaDoor
open Go.ChangeShapes Go.WideShapes Go.ChangeAt Go.RowKit Go.Deep
theorem Tryd.cellsI:Tryd.prog.cellsOf 3 = 1:=by kernel_rfl
theorem Tryd.bytesI:Tryd.prog.bytesOf 3 = 8:=by kernel_rfl
theorem ir_row {n:Int} (h:(Lit.int .i64 n).wf = true):i64r n:=by have:=bounds_i64 h;unfold i64r;omega
theorem reach_num:reachBytes = 140737488351232:=by decide
section
variable {H:Type} {enc:TypeId × Value → H} {w:World} {sp:Nat → Bool} {d:DataW H} {p:List MemPlace} {A:Option Addr} {len cap:Nat}
theorem open_iv (hd:DataW.Trod enc Tryd.prog w 0 sp true 22 (.slice A len cap) d p) :
  ∃ zs:List Int,len = zs.length ∧ Rd w w.heap.size A (iv zs) ∧ (∀ x ∈ zs,InR x) ∧ len ≤ cap ∧ cap ≤ maxLen ∧ ((len = 0 ∧ d = .nil) ∨ ∃ es rs,d = .slice es rs ∧ es.length = len):=by
 obtain ⟨fuel,hf⟩:=hd
 rcases open_ints Tryd.underlying22 Tryd.underlying3 Tryd.cellsI hf with ⟨hcs,hx⟩ | ⟨a,l,c,zs,hcs,_,hl,hm,hz,hx,hcell,hwz⟩
 ·simp [Value.cells] at hcs
  obtain ⟨rfl,rfl,rfl⟩:=hcs
  exact ⟨[],rfl,Rd.nil _ _ _,by simp,Nat.le_refl _,by simp [maxLen],.inl ⟨rfl,by cases hx;rfl⟩⟩
 ·simp [Value.cells] at hcs
  obtain ⟨rfl,rfl,rfl⟩:=hcs
  have hzl:len ≤ zs.length:=by rw [hz];split <;> omega
  refine ⟨zs.take len,by simp;omega,rd_of_cells ?_,?_,hl,hm,.inr ⟨lits .i64 (zs.take len),lits .i64 (zs.drop len),by cases hx;rfl,by simp [lits];omega⟩⟩
  ·intro j u hu
   have hj:j < len:=by have:=(List.getElem?_eq_some_iff.1 hu).1;simp [iv] at this;omega
   rw [hcell j (by omega)]
   simp only [iv,List.getElem?_map,List.getElem?_take,hj,if_true,List.getElem?_eq_getElem (show j < zs.length by omega),Option.map_some,Option.some.injEq] at hu
   rw [← hu]
   simp [List.getD,List.getElem?_eq_getElem (show j < zs.length by omega)]
  ·intro x hx
   have:=bounds_i64 (hwz x (List.mem_of_mem_take hx))
   exact ⟨by omega,by omega⟩
end
theorem int_of_trod {H:Type} {enc:TypeId × Value → H} {P:Program} {w:World} {base:Nat} {sp:Nat → Bool} {held:Bool} {fuel:Nat} {t:TypeId} {k:IntKind} {c:Value} {y:DataW H × List MemPlace}
  (ht:P.underlying t = some (.int k)) (h:DataW.trod enc P w base sp held fuel t [c] = some y):∃ n,c = .int k n ∧ y = (.lit (.int k n),[]):=by
 cases fuel with
 | zero => simp [DataW.trod] at h
 | succ fuel =>
  cases c <;> simp [DataW.trod,ht] at h
  rename_i k' n
  obtain ⟨⟨rfl,_⟩,rfl⟩:=h
  exact ⟨n,rfl,rfl⟩
theorem mapM_get {α β:Type} (f:α → Option β):∀ (l:List α) (ys:List β),l.mapM f = some ys → ∀ (j:Nat) (x:α),l[j]? = some x → ∃ y,ys[j]? = some y ∧ f x = some y
 | [],ys,h,j,x,hx => by simp at hx
 | a :: r,ys,h,j,x,hx => by
  simp only [List.mapM_cons,Option.bind_eq_bind,Option.bind_eq_some_iff,Option.pure_def,Option.some.injEq] at h
  obtain ⟨y,hy,zs,hz,rfl⟩:=h
  cases j with
  | zero => simp at hx;subst hx;exact ⟨y,rfl,hy⟩
  | succ j => exact mapM_get f r zs hz j x (by simpa using hx)
theorem ints_of_trod {H:Type} {enc:TypeId × Value → H} {P:Program} {w:World} {base:Nat} {sp:Nat → Bool} {held:Bool} {fuel n:Nat} {t e:TypeId} {k:IntKind} {l:List Value} {ks:List Nat} {p:List MemPlace}
  (ht:P.underlying t = some (.array n e)) (he:P.underlying e = some (.int k)) (hc:P.cellsOf t = n) (hc1:P.cellsOf e = 1) (hn:ks.length = n)
  (h:DataW.trod enc P w base sp held fuel t l = some (.agg (ks.map fun (x:Nat) => .lit (.int k (x:Int))),p)):∀ (j x:Nat),ks[j]? = some x → l[j]? = some (.int k (x:Int)):=by
 cases fuel with
 | zero => simp [DataW.trod] at h
 | succ fuel =>
  simp only [DataW.trod,ht,hc,hc1] at h
  split at h
  ·rename_i hl
   obtain ⟨ys,hys,hag⟩:=Option.map_eq_some_iff.1 h
   have h1:ys.map (fun x => x.fst) = ks.map fun (x:Nat) => (.lit (.int k (x:Int)):DataW H):=by
    have:=congrArg Prod.fst hag
    simpa using this
   intro j x hx
   have hj:j < n:=by rw [← hn];exact (List.getElem?_eq_some_iff.1 hx).1
   obtain ⟨y,hy,hf⟩:=mapM_get _ _ _ hys j j (by rw [List.getElem?_range hj])
   have hjl:j < l.length:=by omega
   rw [Nat.mul_one,List.drop_eq_getElem_cons hjl,List.take_succ_cons,List.take_zero] at hf
   obtain ⟨m,hm,rfl⟩:=int_of_trod he hf
   have h2:=congrArg (fun q => q[j]?) h1
   simp only [List.getElem?_map,hy,hx,Option.map_some,Option.some.injEq,DataW.lit.injEq,Lit.int.injEq] at h2
   rw [List.getElem?_eq_getElem hjl,hm]
   simp at h2
   rw [h2]
  ·cases h
theorem glob_pk:Tryd.prog.globalNamed "splicery/value.plainKinds" = some 0:=by kernel_rfl
theorem type_pk:(Tryd.prog.globals[(0:Nat)]?).map (·.type) = some 110:=by kernel_rfl
theorem glob_dk:Tryd.prog.globalNamed "splicery/value.dataKinds" = some 1:=by kernel_rfl
theorem type_dk:(Tryd.prog.globals[(1:Nat)]?).map (·.type) = some 130:=by kernel_rfl
theorem cells_a3:Tryd.prog.cellsOf 110 = 3:=by kernel_rfl
theorem cells_a2:Tryd.prog.cellsOf 130 = 2:=by kernel_rfl
theorem laid_pk_eq {H:Type}:(Rows.laid_splicery_value_plainKinds:DataW H) = .agg (([0,1,4]:List Nat).map fun (x:Nat) => .lit (.int .i64 (x:Int))):=rfl
theorem laid_dk_eq {H:Type}:(Rows.laid_splicery_value_dataKinds:DataW H) = .agg (([2,3]:List Nat).map fun (x:Nat) => .lit (.int .i64 (x:Int))):=rfl
abbrev LAIDV:List (String × DataW Unit):=[("splicery/value.plainKinds",Rows.laid_splicery_value_plainKinds),("splicery/value.dataKinds",Rows.laid_splicery_value_dataKinds)]
set_option maxRecDepth 100000 in
theorem Kv_of_laid {W:World} (h:laidMet Tryd.prog LAIDV W):Kv W:=by
 obtain ⟨ps,⟨g,t,cs,fuel,p,q,hg,ht,hvar,hd,⟨g2,t2,cs2,fuel2,p2,q2,hg2,ht2,hvar2,hd2,_,_⟩,_⟩,_⟩:=h
 obtain rfl:=Option.some.inj (glob_pk.symm.trans hg)
 obtain rfl:=Option.some.inj (type_pk.symm.trans ht)
 obtain rfl:=Option.some.inj (glob_dk.symm.trans hg2)
 obtain rfl:=Option.some.inj (type_dk.symm.trans ht2)
 rw [laid_pk_eq] at hd
 rw [laid_dk_eq] at hd2
 have hall:=ints_of_trod Tryd.underlying110 Tryd.underlying3 cells_a3 Tryd.cellsI rfl hd
 have hall2:=ints_of_trod Tryd.underlying130 Tryd.underlying3 cells_a2 Tryd.cellsI rfl hd2
 have hcell:∀ (j x:Nat),([0,1,4]:List Nat)[j]? = some x → W.cell? ⟨0,j,none⟩ = some (.int .i64 (x:Int)):=fun j x hx => by
  have h1:=World.var?_cell glob_pk hvar j
  rw [h1]
  have h2:=hall j x hx
  simpa using h2
 have hcell2:∀ (j x:Nat),([2,3]:List Nat)[j]? = some x → W.cell? ⟨1,j,none⟩ = some (.int .i64 (x:Int)):=fun j x hx => by
  have h1:=World.var?_cell glob_dk hvar2 j
  rw [h1]
  have h2:=hall2 j x hx
  simpa using h2
 have h1:=World.block_lt_of_cell? W _ (hcell 0 0 rfl)
 have h2:=World.block_lt_of_cell? W _ (hcell2 0 2 rfl)
 simp at h1 h2
 exact ⟨by omega,hcell 0 0 rfl,hcell 1 1 rfl,hcell 2 4 rfl,hcell2 0 2 rfl,hcell2 1 3 rfl⟩
end Go.Proofs.YtmfihlcibephlaaDoor
