import Derived.Test.YtkpoiljioadfgaaDoorW02
import Derived.Test.YtkpoiljioadfgaaDoorW03
import Derived.Test.YtkpoiljioadfgaaDoorW05
import Derived.Test.YtkpoiljioadfgaaDoorW06
import Derived.Test.YtkpoiljioadfgaaDoorW15
import Derived.Test.YtkpoiljioadfgaaDoorW24
import Derived.Test.YtkpoiljioadfgaaDoorW32
import Derived.Test.YtkpoiljioadfgaaDoorW33
import Derived.Test.YtkpoiljioadfgaaDoorW35
import Derived.Test.YtkpoiljioadfgaaDoorW43
import Derived.Test.YtkpoiljioadfgaaDoorW44
set_option linter.unusedVariables false
set_option linter.unusedSimpArgs false
namespace Go.Proofs.YtkpoiljioadfgaaDoor
open Go.RowKit
def LNew (k s q i:Int) (B:Option Addr) (ln cp:Nat) (w:World) (e:Ending) (w':World):Prop:=∃ g:Nat,e = .returned (.agg #[.int .i64 2,.int .i64 0,.int .i64 0,.int .i64 0,.slice (some ⟨g,0,none⟩) 1 1]) ∧ w.heap.size ≤ g ∧ Arr w' g 5 31 [.int .i64 k,.int .i64 s,.int .i64 q,.int .i64 i,.slice B ln cp] ∧ Below w.heap.size w w'
set_option maxHeartbeats 400000 in
set_option maxRecDepth 100000 in
theorem List_blk (k s q i:Int) (B:Option Addr) (ln cp:Nat) (w:World) :
  Calls Tryd.prog 13 #[.agg (t5 k s q i B ln cp).toArray] w (LNew k s q i B ln cp w):=by
 have P0:=t5_new w k s q i B ln cp
 have V0:=new_later w (.cells (t5 k s q i B ln cp).toArray 31)
 have b2:=new_later (w.alloc (.cells (t5 k s q i B ln cp).toArray 31)) (.cells #[.int .i64 0,.int .i64 0,.int .i64 0,.int .i64 0,.slice none 0 0] 31)
 have R0:=Arr.new' (w.alloc (.cells (t5 k s q i B ln cp).toArray 31)) 31 #[.int .i64 0,.int .i64 0,.int .i64 0,.int .i64 0,.slice none 0 0] 5 z5 rfl rfl (by decide)
 rw [World.size_alloc] at R0
 have P1:=P0.later b2
 have V1:=later V0 b2
 generalize hW:(w.alloc (.cells (t5 k s q i B ln cp).toArray 31)).alloc (.cells #[.int .i64 0,.int .i64 0,.int .i64 0,.int .i64 0,.slice none 0 0] 31) = wa at P1 V1 R0
 have y0:=P1.cell (j:=0) (v:=.int .i64 k) rfl
 have y1:=P1.cell (j:=1) (v:=.int .i64 s) rfl
 have y2:=P1.cell (j:=2) (v:=.int .i64 q) rfl
 have y3:=P1.cell (j:=3) (v:=.int .i64 i) rfl
 have y4:=P1.cell (j:=4) (v:=.slice B ln cp) rfl
 have V2:=new_later wa (.cells #[.int .i64 k,.int .i64 s,.int .i64 q,.int .i64 i,.slice B ln cp] 31)
 have K2:=Arr.new' wa 31 #[.int .i64 k,.int .i64 s,.int .i64 q,.int .i64 i,.slice B ln cp] 5 (t5 k s q i B ln cp) rfl rfl (by decide)
 have R2:=R0.later V2
 have hwl:w.heap.size + 1 < wa.heap.size:=R0.lt
 have HR:=Lib.hid R2
 have HV:=Lib.hid (later V1 V2)
 have HK:=Lib.hid K2
 have HI:Hid (∀ A:Option Addr,(Tryd.prog.info? 31).map (·.size) = some ([.int .i64 2,.int .i64 0,.int .i64 0,.int .i64 0,.slice A 1 1]:List Value).length):=Lib.hid fun A => info_type
 have HO:Hid (∀ A:Option Addr,∀ v ∈ ([.int .i64 2,.int .i64 0,.int .i64 0,.int .i64 0,.slice A 1 1]:List Value),v.oneCell' = true):=Lib.hid fun A => by intro v hv;simp at hv;rcases hv with rfl | rfl | rfl | rfl | rfl <;> rfl
 clear P1 P0 V0 b2 V1 R0 R2 V2 K2
 go_enter Tryd.func13,Tryd.ntmps13
 go_upto_region 1 with fail
 clear hW
 go_wp2_with (refine wpList_store_arr rfl _ (.tmp 2) (.tmp 5) rfl (w.heap.size + 1) 0 5 31 _ [.int .i64 2,.int .i64 0,.int .i64 0,.int .i64 0,.slice (some ⟨wa.heap.size,0,none⟩) 1 1] z5 rfl rfl rfl HR.out (show 0 + 5 ≤ 5 by omega) (HI.out _) (HO.out _) ?_;intro w7 f7 o7)
 rw [setAll_all z5 [.int .i64 2,.int .i64 0,.int .i64 0,.int .i64 0,.slice (some ⟨wa.heap.size,0,none⟩) 1 1] rfl] at f7
 refine bodyPost_ret (results_one rfl _ _ (w.heap.size + 1) [.int .i64 2,.int .i64 0,.int .i64 0,.int .i64 0,.slice (some ⟨wa.heap.size,0,none⟩) 1 1] _ rfl f7.range Tryd.underlying31 rfl (HI.out _)) rfl ?_
 have hb7:Below w.heap.size w w7:=HV.out.trans (o7.bel.mono (by omega))
 exact ⟨wa.heap.size,rfl,by omega,HK.out.only o7 (by omega),hb7⟩
end Go.Proofs.YtkpoiljioadfgaaDoor
namespace Go.Proofs.YtkpoiljioadfgaaDoor
open Go.RowKit
theorem foot_listF {F:Nat → Prop} {w:World} {x:Ty} {k s q i:Int} {B:Option Addr} {ln cp g:Nat} (hg:F g) (hA:Arr w g 5 31 [.int .i64 k,.int .i64 s,.int .i64 q,.int .i64 i,.slice B ln cp]) (hF:Foot F (fun W => TyAt W x (.agg #[.int .i64 k,.int .i64 s,.int .i64 q,.int .i64 i,.slice B ln cp])) w) :
  Foot F (fun W => TyAt W (.node 2 0 0 0 [x]) (.agg #[.int .i64 2,.int .i64 0,.int .i64 0,.int .i64 0,.slice (some ⟨g,0,none⟩) 1 1])) w:=fun w' hb he => by
 unfold TyAt
 refine ⟨_,1,rfl,⟨by simp,by simp [maxLen],by unfold i64r;omega,by unfold i64r;omega,by unfold i64r;omega,by unfold i64r;omega⟩,?_⟩
 unfold KtAt
 exact ⟨⟨g,0,_,rfl,(arr_same hA (he g hg hA.lt)).range,hF w' hb he⟩,by unfold KtAt;trivial⟩
theorem foot_vboxF {F:Nat → Prop} {w:World} {d:Tr} {k n:Int} {B:Option Addr} {ln cp g:Nat} (hg:F g) (hA:Arr w g 3 53 [.int .i64 k,.int .i64 n,.slice B ln cp]) (hF:Foot F (fun W => TrAt W d (.agg #[.int .i64 k,.int .i64 n,.slice B ln cp])) w) :
  Foot F (fun W => TrAt W (.node 4 0 [d]) (.agg #[.int .i64 4,.int .i64 0,.slice (some ⟨g,0,none⟩) 1 1])) w:=fun w' hb he => by
 unfold TrAt
 refine ⟨_,1,rfl,⟨by simp,by simp [maxLen],by unfold i64r;omega,by unfold i64r;omega⟩,?_⟩
 unfold KsAt
 exact ⟨⟨g,0,_,rfl,(arr_same hA (he g hg hA.lt)).range,hF w' hb he⟩,by unfold KsAt;trivial⟩
theorem leaf_now (n:Int) (hn:i64r n) (W:World):TrAt W (.node 0 n []) (.agg #[.int .i64 0,.int .i64 n,.slice none 0 0]):=by
 unfold TrAt
 exact ⟨none,0,rfl,⟨by simp,by simp [maxLen],by unfold i64r;omega,hn⟩,by unfold KsAt;trivial⟩
def lvs (m:Nat):List Tr:=(List.range m).map fun (j:Nat) => .node 0 (j:Int) []
def lvc (m:Nat):List (List Value):=(List.range m).map fun (j:Nat) => [.int .i64 0,.int .i64 (j:Int),.slice none 0 0]
theorem lvs_len (m:Nat):(lvs m).length = m:=by simp [lvs]
theorem lvc_len (m:Nat):(lvc m).length = m:=by simp [lvc]
theorem lvc_succ (m:Nat):lvc (m + 1) = lvc m ++ [[.int .i64 0,.int .i64 (m:Int),.slice none 0 0]]:=by simp [lvc,List.range_succ]
theorem ks_of {W:World} {A:Option Addr}:∀ (xs:List Tr) (i:Nat),(∀ (j:Nat) (x:Tr),xs[j]? = some x → ∃ g o cs,A = some ⟨g,o,none⟩ ∧ W.rangeAt g (o + (i + j) * 3) cs ∧ TrAt W x (.agg cs.toArray)) → KsAt W A i xs
 | [],i,_ => by unfold KsAt;trivial
 | x :: xs,i,h => by
  unfold KsAt
  refine ⟨by simpa using h 0 x rfl,ks_of xs (i + 1) fun j y hy => ?_⟩
  have:=h (j + 1) y (by simpa using hy)
  rwa [show i + (j + 1) = i + 1 + j by omega] at this
theorem many_at {W:World} {B m M mc:Nat} {mA:Option Addr} (h:GrowG 53 3 PC W B (.slice mA M mc) (lvc m)) (hm:m ≤ 1000):M = m ∧ TrAt W (.node 4 0 (lvs m)) (.agg #[.int .i64 4,.int .i64 0,.slice mA M mc]):=by
 obtain ⟨A,cap,hv,hl,hx⟩:=h.shape
 obtain ⟨hM,hF⟩:=h.get
 rw [lvc_len] at hM hl
 injection hv with e1 e2 e3
 subst e1 e3
 clear e2
 subst hM
 refine ⟨rfl,?_⟩
 unfold TrAt
 refine ⟨mA,mc,by rw [lvs_len];rfl,⟨by rw [lvs_len];exact hl,hx,by unfold i64r;omega,by unfold i64r;omega⟩,ks_of _ 0 fun j x hj => ?_⟩
 have hjm:j < M:=by
  have:=(List.getElem?_eq_some_iff.1 hj).1
  rwa [lvs_len] at this
 have hj2:(lvc M)[j]? = some [.int .i64 0,.int .i64 (j:Int),.slice none 0 0]:=by simp [lvc,hjm]
 have hj3:x = .node 0 (j:Int) []:=by
  have:(lvs M)[j]? = some (.node 0 (j:Int) []):=by simp [lvs,hjm]
  rw [this] at hj
  exact (Option.some.inj hj).symm
 subst hj3
 obtain ⟨g,o,C,h1,h2,h3,h4⟩:=hF.now j _ hj2
 refine ⟨g,o,C,h1,by simpa using h2,?_⟩
 rw [show C = _ from h4]
 exact leaf_now _ (by unfold i64r;omega) W
theorem lvs_nodes (m:Nat):nodesL (lvs m) = m:=by
 have:∀ (l:List Nat),nodesL (l.map fun (j:Nat) => Tr.node 0 (j:Int) []) = l.length:=by
  intro l
  induction l with
  | nil => rfl
  | cons a l ih => rw [List.map_cons,nodesL,ih];simp [Tr.nodes,nodesL];omega
 simp [lvs,this]
theorem lvs_dep (m:Nat):depL (lvs m) ≤ 1:=by
 have:∀ (l:List Nat),depL (l.map fun (j:Nat) => Tr.node 0 (j:Int) []) ≤ 1:=by
  intro l
  induction l with
  | nil => simp [depL]
  | cons a l ih => rw [List.map_cons,depL];simp [Tr.dep,depL] at ih ⊢;omega
 simp [lvs,this]
theorem lvs_ft (P:List Df) (m:Nat) (hm:m ≤ 1000):ftL P (lvs m) (fun _ => .node 0 0 0 0 []) 0 = true:=by
 have:∀ (l:List Nat) (i:Nat),(∀ j ∈ l,j < 1000) → ftL P (l.map fun (j:Nat) => Tr.node 0 (j:Int) []) (fun _ => .node 0 0 0 0 []) i = true:=by
  intro l
  induction l with
  | nil => intro i _;rfl
  | cons a l ih =>
   intro i h
   rw [List.map_cons,ftL,ih (i + 1) (fun j hj => h j (List.mem_cons_of_mem _ hj)),ft_int (by rfl)]
   have:=h a (List.mem_cons_self ..)
   simp
   omega
 exact this (List.range m) 0 (fun j hj => by have:=List.mem_range.1 hj;omega)
theorem many_pv (P:List Df) (m:Nat) (hm:m ≤ 1000):(pv P (.node 4 0 (lvs m)) (.node 2 0 0 0 [.node 0 0 0 0 []]) 24 0).1 = decide ((m:Int) ≤ 255):=by
 have h:=(pv_ok P (.node 4 0 (lvs m)) (.node 2 0 0 0 [.node 0 0 0 0 []]) 24 0 (by omega)).2.2
 have h1:ft P (.node 4 0 (lvs m)) (.node 2 0 0 0 [.node 0 0 0 0 []]) = true:=by
  rw [ft_list (by rfl),lvs_ft P m hm]
  rfl
 have h2:(Tr.node 4 0 (lvs m)).nodes = m + 1:=by rw [Tr.nodes,lvs_nodes]
 have h3:(Tr.node 4 0 (lvs m)).dep ≤ 24:=by rw [Tr.dep];have:=lvs_dep m;omega
 rw [h1,h2] at h
 rw [Bool.eq_iff_iff,h]
 simp
 omega
end Go.Proofs.YtkpoiljioadfgaaDoor
