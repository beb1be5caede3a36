import Derived.Test.YtmfihlcibephlaaDoorZ02
import Derived.Test.YtmfihlcibephlaaDoorZ03
import Derived.Test.YtmfihlcibephlaaDoorZ04
import Derived.Test.YtmfihlcibephlaaDoorZ06
import Derived.Test.YtmfihlcibephlaaDoorZ12
import Derived.Test.YtmfihlcibephlaaDoorZ13
import Derived.Test.YtmfihlcibephlaaDoorZ14
import Derived.Test.YtmfihlcibephlaaDoorZ19
import Derived.Test.YtmfihlcibephlaaDoorZ20
import Derived.Test.YtmfihlcibephlaaDoorZ21
import Derived.Test.YtmfihlcibephlaaDoorZ26
import Derived.Test.YtmfihlcibephlaaDoorZ27
import Derived.Test.YtmfihlcibephlaaDoorZ30
import Derived.Test.YtmfihlcibephlaaDoorZ31
import Derived.Test.YtmfihlcibephlaaDoorZ34
import Derived.Test.YtmfihlcibephlaaDoorZ36
import Derived.Test.YtmfihlcibephlaaDoorZ37
import Derived.Test.YtmfihlcibephlaaDoorZ38
import Derived.Test.YtmfihlcibephlaaDoorZ39
import Derived.Test.YtmfihlcibephlaaDoorZ40
set_option linter.unusedVariables false
set_option linter.unusedSimpArgs false
namespace Go.Proofs.YtmfihlcibephlaaDoor
open Go.RowKit
theorem enc_lt2 (n:Int) (hn:i64r n):(∀ d ∈ enc n,d < 256) ∧ (enc n).length ≤ 9:=⟨enc_lt n hn,(enc_len n hn).2⟩
mutual
theorem en_lt:∀ (x:Tr),x.ok → (∀ d ∈ x.en,d < 256) ∧ x.en.length ≤ 27 * x.nodes
 | .node k n ks,ho => by
  unfold Tr.ok at ho
  obtain ⟨⟨hk,hn,hl⟩,hks⟩:=ho
  obtain ⟨a1,a2⟩:=enc_lt2 k hk
  obtain ⟨b1,b2⟩:=enc_lt2 n hn
  obtain ⟨c1,c2⟩:=enc_lt2 _ (len_i64 hl)
  obtain ⟨d1,d2⟩:=enL_lt ks hks
  have e:(Tr.node k n ks).en = enc k ++ (enc n ++ (enc (ks.length:Int) ++ enL ks)):=by rw [Tr.en]
  rw [e,Tr.nodes]
  refine ⟨fun d hd => ?_,by simp only [List.length_append];omega⟩
  simp only [List.mem_append] at hd
  rcases hd with h | h | h | h
  ·exact a1 d h
  ·exact b1 d h
  ·exact c1 d h
  ·exact d1 d h
theorem enL_lt:∀ (xs:List Tr),okL xs → (∀ d ∈ enL xs,d < 256) ∧ (enL xs).length ≤ 27 * nodesL xs
 | [],_ => by simp [enL,nodesL]
 | x :: xs,ho => by
  unfold okL at ho
  obtain ⟨a1,a2⟩:=en_lt x ho.1
  obtain ⟨b1,b2⟩:=enL_lt xs ho.2
  rw [enL,nodesL]
  refine ⟨fun d hd => ?_,by simp only [List.length_append];omega⟩
  rcases List.mem_append.1 hd with h | h
  ·exact a1 d h
  ·exact b1 d h
end
structure BV (x:Tr):Prop where
 ok:x.ok
 n:x.nodes ≤ 256
 d:x.dep ≤ 24
theorem BV.len {x:Tr} (h:BV x):x.en.length ≤ 6912:=by have:=(en_lt x h.ok).2;have:=h.n;omega
theorem BV.lt {x:Tr} (h:BV x):∀ d ∈ x.en,d < 256:=(en_lt x h.ok).1
end Go.Proofs.YtmfihlcibephlaaDoor
namespace Go.Proofs.YtmfihlcibephlaaDoor
open Go.RowKit
def TypPr (w:World) (e:Ending) (w':World):Prop:=∃ (P:List Df) (mv:Value) (gd0 o n cap:Nat),n = P.length ∧ e = .returned (.agg #[mv,.slice (some ⟨gd0,o,none⟩) n cap]) ∧ PrAt w' P (.agg #[mv,.slice (some ⟨gd0,o,none⟩) n cap]) ∧ mv.oneCell' = true ∧ Snd P ∧ (∀ d:Df,P[0]? = some d → d.name = ⟨#[80,111,105,110,116]⟩) ∧ Below w.heap.size w w'
theorem Types_pr (ls:List Int) (LA:Option Addr) (ln lc:Nat) (w:World) (hN:Nums w ls LA ln) :
  Calls Tryd.prog 10 #[.slice LA ln lc] w (TypPr w):=by
 refine (Types_any ls LA ln lc w hN).mono ?_
 rintro e w' ⟨P,gm,B,M,dv,rfl,hG,_,hS,hn,hb⟩
 have hP:=pr_of hG (show (Value.slice (some ⟨gm,0,none⟩) 1 1).oneCell' = true from rfl)
 have hP2:=hP
 obtain ⟨mv,A,cap,he,hm,hd⟩:=hP
 have h0:0 < P.length:=hS.len.1
 obtain ⟨g,o,C,rfl,_⟩:=hd 0 _ (List.getElem?_eq_getElem h0)
 have e1:dv = .slice (some ⟨g,o,none⟩) P.length cap:=by simp at he;exact he.2
 subst e1
 exact ⟨P,_,g,o,_,cap,rfl,rfl,hP2,rfl,hS,hn,hb⟩
theorem pr_get {w:World} {P:List Df} {mv:Value} {g o n cap:Nat} (h:PrAt w P (.agg #[mv,.slice (some ⟨g,o,none⟩) n cap])) {j:Nat} (hj:j < P.length):∃ C,w.rangeAt g (o + j * 31) C ∧ DfAt w P[j] C:=by
 obtain ⟨mv',A,cap',e,_,hd⟩:=h
 obtain ⟨g',o',C,hA,hr,hd⟩:=hd j _ (List.getElem?_eq_getElem hj)
 simp at e
 obtain ⟨rfl,e,_,_⟩:=e
 rw [← e] at hA
 cases hA
 exact ⟨C,hr,hd⟩
theorem df_id {w:World} {d:Df} {C:List Value} (h:DfAt w d C):∃ R,C = [.int .i64 d.a,.int .i64 d.b,.int .i64 d.c] ++ R:=by
 obtain ⟨sv,T,E,lv,rfl,_⟩:=h
 exact ⟨_,rfl⟩
structure VPs (W:World) (P:List Df) (mv dv:Value) (gP gD gv:Nat) (d:Df) (C:List Value) (x:Tr) (xk xn:Int) (xA:Option Addr) (xl xc:Nat):Prop where
 hp:Arr W gP 2 26 [mv,dv]
 hpr:PrAt W P (.agg #[mv,dv])
 hk:Kv W
 hd:Arr W gD 31 46 C
 hdf:DfAt W d C
 hv:Arr W gv 3 53 [.int .i64 xk,.int .i64 xn,.slice xA xl xc]
 ht:TrAt W x (.agg #[.int .i64 xk,.int .i64 xn,.slice xA xl xc])
end Go.Proofs.YtmfihlcibephlaaDoor
namespace Go.Proofs.YtmfihlcibephlaaDoor
open Go.RowKit
theorem foot_vboxF {F:Nat → Prop} {w:World} {d:Tr} {k n:Int} {B:Option Addr} {ln cp g:Nat} (hg:F g) (hA:Arr w g 3 53 [.int .i64 k,.int .i64 n,.slice B ln cp]) (hF:Foot F (fun W => TrAt W d (.agg #[.int .i64 k,.int .i64 n,.slice B ln cp])) w) :
  Foot F (fun W => TrAt W (.node 4 0 [d]) (.agg #[.int .i64 4,.int .i64 0,.slice (some ⟨g,0,none⟩) 1 1])) w:=fun w' hb he => by
 unfold TrAt
 refine ⟨_,1,rfl,⟨by simp,by simp [maxLen],by unfold i64r;omega,by unfold i64r;omega⟩,?_⟩
 unfold KsAt
 exact ⟨⟨g,0,_,rfl,(arr_same hA (he g hg hA.lt)).range,hF w' hb he⟩,by unfold KsAt;trivial⟩
theorem leaf_now (n:Int) (hn:i64r n) (W:World):TrAt W (.node 0 n []) (.agg #[.int .i64 0,.int .i64 n,.slice none 0 0]):=by
 unfold TrAt
 exact ⟨none,0,rfl,⟨by simp,by simp [maxLen],by unfold i64r;omega,hn⟩,by unfold KsAt;trivial⟩
def lvs (m:Nat):List Tr:=(List.range m).map fun (j:Nat) => .node 0 (j:Int) []
def lvc (m:Nat):List (List Value):=(List.range m).map fun (j:Nat) => [.int .i64 0,.int .i64 (j:Int),.slice none 0 0]
theorem lvs_len (m:Nat):(lvs m).length = m:=by simp [lvs]
theorem lvc_len (m:Nat):(lvc m).length = m:=by simp [lvc]
theorem lvc_succ (m:Nat):lvc (m + 1) = lvc m ++ [[.int .i64 0,.int .i64 (m:Int),.slice none 0 0]]:=by simp [lvc,List.range_succ]
theorem ks_of {W:World} {A:Option Addr}:∀ (xs:List Tr) (i:Nat),(∀ (j:Nat) (x:Tr),xs[j]? = some x → ∃ g o cs,A = some ⟨g,o,none⟩ ∧ W.rangeAt g (o + (i + j) * 3) cs ∧ TrAt W x (.agg cs.toArray)) → KsAt W A i xs
 | [],i,_ => by unfold KsAt;trivial
 | x :: xs,i,h => by
  unfold KsAt
  refine ⟨by simpa using h 0 x rfl,ks_of xs (i + 1) fun j y hy => ?_⟩
  have:=h (j + 1) y (by simpa using hy)
  rwa [show i + (j + 1) = i + 1 + j by omega] at this
theorem many_at {W:World} {B m M mc:Nat} {mA:Option Addr} (h:GrowG 53 3 PC W B (.slice mA M mc) (lvc m)) (hm:m ≤ 1000):M = m ∧ TrAt W (.node 4 0 (lvs m)) (.agg #[.int .i64 4,.int .i64 0,.slice mA M mc]):=by
 obtain ⟨A,cap,hv,hl,hx⟩:=h.shape
 obtain ⟨hM,hF⟩:=h.get
 rw [lvc_len] at hM hl
 injection hv with e1 e2 e3
 subst e1 e3
 clear e2
 subst hM
 refine ⟨rfl,?_⟩
 unfold TrAt
 refine ⟨mA,mc,by rw [lvs_len];rfl,⟨by rw [lvs_len];exact hl,hx,by unfold i64r;omega,by unfold i64r;omega⟩,ks_of _ 0 fun j x hj => ?_⟩
 have hjm:j < M:=by
  have:=(List.getElem?_eq_some_iff.1 hj).1
  rwa [lvs_len] at this
 have hj2:(lvc M)[j]? = some [.int .i64 0,.int .i64 (j:Int),.slice none 0 0]:=by simp [lvc,hjm]
 have hj3:x = .node 0 (j:Int) []:=by
  have:(lvs M)[j]? = some (.node 0 (j:Int) []):=by simp [lvs,hjm]
  rw [this] at hj
  exact (Option.some.inj hj).symm
 subst hj3
 obtain ⟨g,o,C,h1,h2,h3,h4⟩:=hF.now j _ hj2
 refine ⟨g,o,C,h1,by simpa using h2,?_⟩
 rw [show C = _ from h4]
 exact leaf_now _ (by unfold i64r;omega) W
theorem lvs_nodes (m:Nat):nodesL (lvs m) = m:=by
 have:∀ (l:List Nat),nodesL (l.map fun (j:Nat) => Tr.node 0 (j:Int) []) = l.length:=by
  intro l
  induction l with
  | nil => rfl
  | cons a l ih => rw [List.map_cons,nodesL,ih];simp [Tr.nodes,nodesL];omega
 simp [lvs,this]
end Go.Proofs.YtmfihlcibephlaaDoor
namespace Go.Proofs.YtmfihlcibephlaaDoor
open Go.RowKit
theorem build_val4d (W:World):(Instr.build 53 #[(0,.int .i64 4)]).run Tryd.prog W = .ok (.agg #[.int .i64 4,.int .i64 0,.slice none 0 0]) W:=run_build W _ _ _ (by kernel_rfl)
theorem c3w_new (w:World) (k n:Int) (A:Option Addr) (len cap:Nat):Arr (w.alloc (.cells #[.int .i64 k,.int .i64 n,.slice A len cap] 53)) w.heap.size 3 53 [.int .i64 k,.int .i64 n,.slice A len cap]:=Arr.new' w _ _ 3 _ rfl rfl (by decide)
theorem own_shape4 {w:World} {base:Nat} {v:Value} {xs:List Nat} (h:OwnB w base v xs):∃ A n c,v = .slice A n c ∧ Hid (n = xs.length ∧ n ≤ c ∧ c ≤ maxLen):=by
 obtain ⟨A,cap,hv,h1,h2⟩:=h.shape
 exact ⟨A,_,cap,hv,Lib.hid ⟨rfl,h1,h2⟩⟩
def RowRes3 (xs:List Nat) (w:World) (e:Ending) (w':World):Prop:=∃ A n c,e = .returned (.slice A n c) ∧ Hid (n = xs.length ∧ n ≤ c ∧ c ≤ maxLen) ∧ OwnB w' w.heap.size (.slice A n c) xs ∧ Below w.heap.size w w'
theorem renc_row (x:Tr) (hx:x.en.length ≤ 100000000000000) (w:World) (v:Value) (h:TrAt w x v):Calls Tryd.prog 37 #[v] w (RowRes3 x.en w):=by
 refine (renc_any x.nodes x (Nat.le_refl _) hx w v h).mono ?_
 rintro e w' ⟨A,c,rfl,ho,hb⟩
 obtain ⟨A',n,c',hv,hn⟩:=own_shape4 ho
 cases hv
 exact ⟨_,_,_,rfl,hn,ho,hb⟩
def BSl (W:World) (v:Value):Prop:=∃ (A:Option Addr) (m cap:Nat) (zs:List Nat),v = .slice A m cap ∧ zs.length = m ∧ (∀ b ∈ zs,b < 256) ∧ (m ≤ cap ∧ cap ≤ maxLen) ∧ Rd W W.heap.size A (bs zs)
theorem BSl.own {W:World} {S:Nat} {v:Value} {zs:List Nat} (h:OwnB W S v zs) (hz:∀ b ∈ zs,b < 256):BSl W v:=by
 obtain ⟨A,n,c,rfl,hn⟩:=own_shape4 h
 exact ⟨A,n,c,zs,rfl,hn.out.1.symm,hz,hn.out.2,h.rd⟩
theorem BSl.cut {W:World} {S:Nat} {A:Option Addr} {n c k:Nat} {zs:List Nat} (h:OwnB W S (.slice A n c) zs) (hz:∀ b ∈ zs,b < 256) (hk:k ≤ n):BSl W (.slice A k c):=by
 obtain ⟨A',n',c',hv,hn⟩:=own_shape4 h
 cases hv
 refine ⟨A,k,c,zs.take k,rfl,by rw [List.length_take];have:=hn.out;omega,fun b hb => hz b (List.mem_of_mem_take hb),⟨by have:=hn.out;omega,hn.out.2.2⟩,?_⟩
 rcases h.rd with h1 | ⟨b,o,rfl,h1,h2⟩
 ·exact .inl (by
          have:zs = []:=by simpa [bs] using h1
          rw [this];simp [bs])
 ·refine .inr ⟨b,o,rfl,h1,fun j u hu => h2 j u ?_⟩
  have hj:=(List.getElem?_eq_some_iff.1 hu).1
  rw [bs_len,List.length_take] at hj
  rw [← hu]
  simp only [bs,List.getElem?_map,List.getElem?_take]
  rw [if_pos (by omega)]
theorem own_cells {W:World} {S g n c:Nat} {zs:List Nat} (h:OwnB W S (.slice (some ⟨g,0,none⟩) n c) zs) (h0:0 < zs.length):g < W.heap.size ∧ ∀ (j:Nat) u,(bs zs)[j]? = some u → W.cell? ⟨g,0 + j,none⟩ = some u:=by
 rcases h.rd with h1 | ⟨b,o,hv,h1,h2⟩
 ·have:zs = []:=by simpa [bs] using h1
  rw [this] at h0;simp at h0
 ·cases hv
  exact ⟨h1,h2⟩
def BRD (er:Int) (X:Tr) (q:Nat) (W:World) (e:Ending) (w':World):Prop:=∃ xk xn xA xl xc,e = .returned (.tuple #[.agg #[.int .i64 xk,.int .i64 xn,.slice xA xl xc],.int .i64 (q:Int),.int .i64 er]) ∧ TrAt w' X (.agg #[.int .i64 xk,.int .i64 xn,.slice xA xl xc]) ∧ Below W.heap.size W w'
theorem both_decode (W0:World) (v:Value) (h:BSl W0 v):∃ (er:Int) (X:Tr) (q:Nat) (A:Option Addr) (m cap:Nat),v = .slice A m cap ∧ (∀ W,Below W0.heap.size W0 W → Calls Tryd.prog 40 #[.slice A m cap] W (BRD er X q W)) ∧ (∀ W,Below W0.heap.size W0 W → Calls Tryd.prog 41 #[.slice A m cap] W (BRD er X q W)):=by
 obtain ⟨A,m,cap,zs,rfl,h2,h3,h4,h5⟩:=h
 refine ⟨(dz zs 24 0 0).1,(if (dz zs 24 0 0).1 = 0 then (dz zs 24 0 0).2.1 else z0),(if (dz zs 24 0 0).1 = 0 then (dz zs 24 0 0).2.2.1 else 0),A,m,cap,rfl,fun W hb => (decode_any zs A m cap W h2 h3 h4 ((h5.below hb).more hb.size)).mono ?_,fun W hb => (rdecode_any zs A m cap W h2 h3 h4 ((h5.below hb).more hb.size)).mono ?_⟩
 ·rintro e w' ⟨xk,xn,xA,xl,xc,rfl,hT,hb⟩
  exact ⟨xk,xn,xA,xl,xc,rfl,hT.at_,hb⟩
 ·rintro e w' ⟨xk,xn,xA,xl,xc,rfl,hT,hb⟩
  exact ⟨xk,xn,xA,xl,xc,rfl,hT.at_,hb⟩
set_option maxHeartbeats 16000000 in
set_option maxRecDepth 100000 in
theorem ValueCodes_any (l0 c0 l1 c1 l5 c5:Nat) (A0 A1 A5:Option Addr) (z0 z1:List Int) (vt:Tr) (vv:Value) (at_ deep:Int) (bx:Nat) (z5:List Nat) (w:World) (hN0:Nums w z0 A0 l0) (hN1:Nums w z1 A1 l1) (hV:TrAt w vt vv) (hvn:vt.nodes ≤ 1048576) (hat:i64r at_) (hdp:i64r deep) (hbx:bx < 256) (hR5:Rd w w.heap.size A5 (bs z5)) (hm5:l5 = z5.length) (hcap5:l5 ≤ c5 ∧ c5 ≤ maxLen) (hz5:∀ x ∈ z5,x < 256) (hK:Kv w) :
  Calls Tryd.prog 7 #[.slice A0 l0 c0,.slice A1 l1 c1,vv,.int .i64 at_,.int .u8 (bx:Int),.slice A5 l5 c5,.int .i64 deep] w (BRes true w):=by
 have hvok:=hV.ok
 have hvl:vt.en.length ≤ 100000000000000:=by have:=(en_lt vt hvok).2;omega
 obtain ⟨vk,vn,vA,vl,vc,rfl⟩:=hV.shape
 simp only [c3] at hV ⊢
 have P9:=c3w_new w vk vn vA vl vc
 have V0:=new_later w (.cells #[.int .i64 vk,.int .i64 vn,.slice vA vl vc] 53)
 generalize hW1:w.alloc (.cells #[.int .i64 vk,.int .i64 vn,.slice vA vl vc] 53) = wa at P9 V0
 have HTY:=Lib.hid (Types_pr z0 A0 l0 c0 wa (hN0.later V0))
 have HN1:=Lib.hid (hN1.later V0)
 have HV9:Hid (VarAt wa w.heap.size vt [.int .i64 vk,.int .i64 vn,.slice vA vl vc]):=Lib.hid ⟨P9.range,rfl,hV.later V0⟩
 have HKV:=Lib.hid (hK.later V0)
 have HV0:=Lib.hid V0
 have HR5:=Lib.hid ((hR5.below V0).more V0.size)
 have HI:=Lib.hid (And.intro hat (And.intro hdp (And.intro hbx (And.intro hvl (And.intro hm5 (And.intro hcap5 hz5))))))
 have hb4:=build_val4d
 clear hN0 hN1 hV hK hat hdp hvn hvok hvl hbx hR5 hm5 hcap5 hz5 P9 V0
 go_enter Tryd.func7,Tryd.ntmps7
 go_upto_region 1 with fail
 clear hW1
 go_upto_region 2 with (first
  | (go_at_call 10;(with_reducible refine HTY.out.mono ?_);rintro e w1 ⟨P,mv,gd0,o,n,cap,hn,rfl,hP,hmv,hS,_,hb⟩;have HNN:=Lib.hid hn;have HP1:=Lib.hid hP;have HMV:=Lib.hid hmv;have HS:=Lib.hid hS;have HB1:=Lib.hid hb;clear hn hP hmv hS hb HTY)
  | (refine wpList_store_arr rfl _ (.tmp 15) (.tmp 33) rfl w1.heap.size 0 2 26 _ [mv,.slice (some ⟨gd0,o,none⟩) n cap] [.slice none 0 0,.slice none 0 0] rfl rfl rfl (p2_new w1 _ _) (show 0 + 2 ≤ 2 by omega) info_prog (by intro v hv;simp at hv;rcases hv with rfl | rfl;exact HMV.out;rfl) ?_;intro w2 f2 o2;rw [setAll_all [.slice none 0 0,.slice none 0 0] [mv,.slice (some ⟨gd0,o,none⟩) n cap] rfl] at f2;have HX2:=Lib.hid f2;have HL2:=Lib.hid ((new_later w1 (.cells #[.slice none 0 0,.slice none 0 0] 26)).trans (o2.bel.mono (Nat.le_refl _)));clear f2 o2))
 have HB2:=Lib.hid (later HB1.out HL2.out)
 have HP2:=Lib.hid (HP1.out.later HL2.out)
 generalize w1.heap.size = g15 at HX2 ⊢
 clear HP1 HB1 HL2 HMV
 obtain ⟨j,hj⟩:∃ j,n = j + 1:=⟨n - 1,by have:=HNN.out;have:=HS.out.len;omega⟩
 have hjn:j < P.length:=by have:=HNN.out;omega
 have hj3:j ≤ 3:=by have:=HS.out.len;omega
 obtain ⟨C,hCr,hCd⟩:=pr_get HP2.out hjn
 obtain ⟨R,hR⟩:=df_id hCd
 have hid3:=HS.out.ids j _ (List.getElem?_eq_getElem hjn)
 rw [hid3.1,hid3.2.1,hid3.2.2] at hR
 have HG0:Hid (w2.rangeAt gd0 (o + j * 31) [.int .i64 0,.int .i64 1,.int .i64 (1 + (j:Int))]):=Lib.hid (range_left (ys:=R) (by rw [← hR];exact hCr))
 clear hCr hCd hR hid3
 have HVA:Hid (∀ W,Below w2.heap.size w2 W → Calls Tryd.prog 23 #[.agg #[mv,.slice (some ⟨gd0,o,none⟩) n cap],.agg #[.int .i64 3,.int .i64 0,.int .i64 1,.int .i64 (1 + (j:Int)),.slice none 0 0],.slice A1 l1 c1] W (VVal P (tD j) W)):=Lib.hid fun W h => Value_any P HS.out z1 j hjn W _ _ A1 l1 c1 (HP2.out.later h) (tD_at W j (by omega)) (HN1.out.later (later HB2.out h))
 refine vccreg2 (by kernel_rfl) _ _ g15 gd0 o n cap j mv (.slice A1 l1 c1) P rfl rfl rfl HX2.out HG0.out (by omega) (by omega) (by rw [IntKind.wrap_i64];omega) HVA.out ?_
 intro vs2 w3 g16 x xk xn xA xl xc h16 hg16 hA16 hxt hxf hb3 a3 ha3
 simp only [vccD2,List.cons_append,List.nil_append,List.foldl_cons,List.foldl_nil,Act.put,List.setIfInBounds_toArray,List.set_cons_succ,List.set_cons_zero,h16] at ha3
 subst ha3
 have HB3:=Lib.hid (later HB2.out hb3)
 have HX16:Hid (VarAt w3 g16 x [.int .i64 xk,.int .i64 xn,.slice xA xl xc]):=Lib.hid ⟨hA16.range,rfl,hxt⟩
 have HBV:Hid (BV x):=Lib.hid ⟨hxt.ok,hxf.2.1,by have:=hxf.2.2;omega⟩
 clear h16 hg16 hA16 hxt hxf hb3 HVA HG0 HX2 HP2 HB2 HNN HN1 hjn hj3 hj
 have HEX:Hid (Calls Tryd.prog 37 #[.agg #[.int .i64 xk,.int .i64 xn,.slice xA xl xc]] w3 (RowRes3 x.en w3)):=Lib.hid (renc_row x (by have:=HBV.out.len;omega) w3 _ HX16.out.tr)
 have HEP:Hid (0 < x.en.length):=Lib.hid (en_pos x fun k n ks e => by have h:=HBV.out.ok;rw [e] at h;unfold Tr.ok at h;exact h.1.1)
 have HIX:Hid ((Tryd.prog.info? 53).map (·.size) = some ([.int .i64 xk,.int .i64 xn,.slice xA xl xc]:List Value).length):=Lib.hid info_val
 have HRX:=Lib.hid HX16.out.rg
 go_upto_region 4 with (first
  | (with_reducible refine wpList_load_mid rfl _ (.tmp 16) rfl g16 0 rfl [.int .i64 xk,.int .i64 xn,.slice xA xl xc] _ HRX.out Tryd.underlying53 rfl HIX.out ?_)
  | (go_at_call 37;(with_reducible refine HEX.out.mono ?_);rintro e w4 ⟨Ac,lc,cc,rfl,hn,ho,hb⟩;have HLc:=hn;have HOc:=Lib.hid ho;have HB4:=Lib.hid (later HB3.out hb);have HX4:=Lib.hid (HX16.out.later hb);clear hn ho hb HEX HRX HX16 HB3))
 have HV4:=Lib.hid (HV9.out.later HB4.out)
 have hcA:∀ W,Below w4.heap.size w4 W → (convert 69 9 (.slice Ac lc cc)).run Tryd.prog W = .ok (.string (mkS x.en)) W:=fun W h => run_conv W.heap.size lc cc Ac x.en W HLc.out.1 (HOc.out.below h).rd
 refine vccreg4 (by kernel_rfl) _ _ w.heap.size g16 [.int .i64 vk,.int .i64 vn,.slice vA vl vc] [.int .i64 xk,.int .i64 xn,.slice xA xl xc] x vt x.en vt.en lc cc Ac rfl rfl rfl rfl HV4.out HX4.out (Lib.hid rfl) (Lib.hid rfl) (by have:=HBV.out.len;omega) (by have:=HI.out.2.2.2.1;omega) hcA ?_
 intro vs4 w5 hs hb a5 ha5
 simp only [vccD4,List.cons_append,List.nil_append,List.foldl_cons,List.foldl_nil,Act.put,List.setIfInBounds_toArray,List.set_cons_succ,List.set_cons_zero,hs] at ha5
 subst ha5
 have HB5:=Lib.hid (later HB4.out hb)
 have HO5:=Lib.hid (HOc.out.below hb)
 clear hs hb HV4 HX4 HB4 HOc HV9 hcA
 have hlc0:0 < lc:=by have:=HEP.out;have:=HLc.out;omega
 have hlcm:lc ≤ 6912:=by have:=HBV.out.len;have:=HLc.out;omega
 obtain ⟨gc,cc',hvc,_,hgcl,_,_⟩:=HO5.out.some_ (by exact HEP.out)
 obtain ⟨rfl,rfl,rfl⟩:Ac = some ⟨gc,0,none⟩ ∧ lc = x.en.length ∧ cc = cc':=by injection hvc with e1 e2 e3;exact ⟨e1,e2,e3⟩
 obtain ⟨E,hE⟩:∃ E,x.en = E:=⟨_,rfl⟩
 have HLT:Hid (∀ b ∈ E,b < 256):=Lib.hid (by rw [← hE];exact HBV.out.lt)
 rw [hE] at HO5 HLc hlc0 hlcm ⊢
 obtain ⟨lc,hlc⟩:∃ l,E.length = l:=⟨_,rfl⟩
 have HLC:=Lib.hid hlc
 rw [hlc] at HO5 HLc hlc0 hlcm ⊢
 clear hvc hgcl hE HEP HBV hlc HIX
 have HAR:Hid (∀ W,Calls Tryd.prog 12 #[.int .i64 at_,.int .i64 (lc:Int)] W fun e w' => e = .returned (.int .i64 ((ar at_ lc:Nat):Int)) ∧ w' = W):=Lib.hid fun W => Around_any at_ lc hlc0 (by omega) HI.out.1 W
 have hklt:ar at_ lc < lc:=ar_lt at_ lc hlc0
 generalize ar at_ lc = k at HAR hklt
 have hk0:(0:Int) ≤ (k:Int):=by omega
 have hkl:(k:Int) < (lc:Int):=by omega
 go_upto_region 6 with fail
 go_upto_region 7 with (go_at_call 12;(with_reducible refine (HAR.out _).mono ?_);rintro e w6 ⟨rfl,hw6⟩;rw [hw6];clear hw6)
 clear HAR
 have HMD:Hid ((w5.alloc (.cells #[] 5)).ownsRow w5.heap.size 5 1 (.slice (some ⟨w5.heap.size,0,none⟩) 0 0) 0 []):=Lib.hid (World.ownsRow_made w5 #[] 0 (Nat.le_refl _) (by simp [maxLen]) rfl)
 have HAN:=Lib.hid (HO5.out.rd.later (new_later w5 (.cells #[] 5)))
 go_upto_region 8 with (at_builtin;refine wpList_putL (base:=w5.heap.size) (xs:=[]) HMD.out HAN.out HLC.out.symm (by simp) (by have:=HLC.out;simp;omega) rfl _ _ rfl rfl rfl ?_;intro v1 w7 ho hb;have HO7:=Lib.hid (show OwnB w7 w5.heap.size v1 E by simpa using ho);have HL7:=Lib.hid ((new_later w5 (.cells #[] 5)).trans (hb.mono (Nat.le_refl _)));clear ho hb HMD HAN)
 obtain ⟨gh,ch,hvh,hghS,hghl,hcl1,hcl2⟩:=HO7.out.some_ (by rw [HLC.out];exact hlc0)
 subst hvh
 rw [HLC.out] at HO7 ⊢
 have hcell:=HO7.out.cell k (by rw [HLC.out];exact hklt)
 have hfree:=HO7.out.free k
 have HCH:=Lib.hid (HO7.out.set_ k bx rfl)
 have hklh:(k:Int) < (ch:Int):=by rw [HLC.out] at hcl1;omega
 go_upto_region 9 with fail
 have HL8:Hid (Below w5.heap.size w5 (w7.setCell ⟨gh,k,none⟩ (.int .u8 (bx:Int)))):=Lib.hid (HL7.out.setCell (p:=⟨gh,k,none⟩) hghS _)
 have HOC:=Lib.hid (HO5.out.below HL8.out)
 have HB8:=Lib.hid (later HB5.out HL8.out)
 clear HO5 HL8 HL7 HB5 HO7 hcell hfree hghS hghl hcl1 hcl2 hklh
 generalize w7.setCell ⟨gh,k,none⟩ (.int .u8 (bx:Int)) = w8 at HCH HOC HB8 ⊢
 go_upto_region 10 with (first
  | (go_at_call 27;(with_reducible refine (num_any 1 w8).mono ?_);rintro e w9 ⟨rfl,hb⟩;have HL9:=Lib.hid hb;clear hb)
  | (refine wpList_store_arr rfl _ (.tmp 20) (.tmp 75) rfl w9.heap.size 0 3 53 _ [.int .i64 0,.int .i64 1,.slice none 0 0] [.int .i64 0,.int .i64 0,.slice none 0 0] rfl rfl rfl (c3w_new w9 0 0 none 0 0) (show 0 + 3 ≤ 3 by omega) info_val (List.all_eq_true.mp (by rfl)) ?_;intro w10 f o;rw [setAll_all [.int .i64 0,.int .i64 0,.slice none 0 0] [.int .i64 0,.int .i64 1,.slice none 0 0] rfl] at f;have HD10:=Lib.hid f;have HB10:=Lib.hid ((new_later w9 (.cells #[.int .i64 0,.int .i64 0,.slice none 0 0] 53)).trans (o.bel.mono (Nat.le_refl _)));clear f o))
 have HB9:=Lib.hid (later HB8.out HL9.out)
 have HOC9:=Lib.hid (HOC.out.below HL9.out)
 have HCH9:=Lib.hid (HCH.out.below HL9.out)
 obtain ⟨gN,hgN⟩:∃ g,w9.heap.size = g:=⟨_,rfl⟩
 rw [hgN] at HD10 HB10 ⊢
 have HGN:=Lib.hid hgN
 clear hgN HB8 HL9 HOC HCH
 have HA5:Hid (∀ W,Calls Tryd.prog 12 #[.int .i64 deep,.int .i64 5] W fun e w' => e = .returned (.int .i64 ((ar deep 5:Nat):Int)) ∧ w' = W):=Lib.hid fun W => Around_any deep 5 (by omega) (by omega) HI.out.2.1 W
 have hr5:ar deep 5 < 5:=ar_lt deep 5 (by omega)
 generalize ar deep 5 = r5 at HA5 hr5
 have HR5x:=Lib.hid hr5
 have hr50:(0:Int) ≤ (r5:Int):=by omega
 have hr54:(r5:Int) ≤ 4:=by omega
 go_wp2_with fail
 go_loopw [21] (fun iv W' => ∃ (i:Nat) (d:Tr) (dk dn:Int) (dA:Option Addr) (dl dc:Nat),i ≤ 21 + r5 ∧ iv = .int .i64 (i:Int) ∧ Arr W' gN 3 53 [.int .i64 dk,.int .i64 dn,.slice dA dl dc] ∧ Foot (fun g => g ≠ gN) (fun W => TrAt W d (.agg #[.int .i64 dk,.int .i64 dn,.slice dA dl dc])) W' ∧ d.nodes ≤ i + 1 ∧ Below gN w9 W') (fun iv _ => 30 - (intOf iv).toNat)
 case atStart => exact ⟨0,.node 0 1 [],0,1,none,0,0,by omega,by go_num,HD10.out,fun W _ _ => leaf_now 1 (by unfold i64r;omega) W,by simp [Tr.nodes,nodesL],HB10.out⟩
 case round =>
  clear HD10 HB10
  obtain ⟨i,d,dk,dn,dA,dl,dc,hi,rfl,hD,hG,hdn,hB⟩:=hrel
  have HD:=Lib.hid hD
  have HG:=Lib.hid hG
  have HDN:=Lib.hid hdn
  have HB:=Lib.hid hB
  have HID:Hid ((Tryd.prog.info? 53).map (·.size) = some ([.int .i64 dk,.int .i64 dn,.slice dA dl dc]:List Value).length):=Lib.hid info_val
  clear hD hG hdn hB
  have hi0:(0:Int) ≤ (i:Int):=by omega
  have hi30:(i:Int) ≤ 30:=by omega
  by_cases hli:i < 21 + r5
  ·have hii:(i:Int) < 21 + (r5:Int):=by omega
   go_upto_region 13 with (go_at_call 12;(with_reducible refine (HA5.out _).mono ?_);rintro e w6 ⟨rfl,hw6⟩;rw [hw6];clear hw6)
   have HRD:=Lib.hid HD.out.range
   have HNW:=Lib.hid (new_later wr (.cells #[.int .i64 dk,.int .i64 dn,.slice dA dl dc] 53))
   have HC8:=Lib.hid (c3w_new wr dk dn dA dl dc)
   go_wp2_with (first
    | (with_reducible refine wpList_load_mid rfl _ (.tmp 20) rfl gN 0 rfl [.int .i64 dk,.int .i64 dn,.slice dA dl dc] _ HRD.out Tryd.underlying53 rfl HID.out ?_)
    | (refine wpList_store_arr rfl _ (.tmp 20) (.tmp 85) rfl gN 0 3 53 _ [.int .i64 4,.int .i64 0,.slice (some ⟨wr.heap.size,0,none⟩) 1 1] [.int .i64 dk,.int .i64 dn,.slice dA dl dc] rfl rfl rfl (HD.out.later HNW.out) (show 0 + 3 ≤ 3 by omega) info_val (List.all_eq_true.mp (by rfl)) ?_;intro w9' f9 o9;rw [setAll_all [.int .i64 dk,.int .i64 dn,.slice dA dl dc] [.int .i64 4,.int .i64 0,.slice (some ⟨wr.heap.size,0,none⟩) 1 1] rfl] at f9;have HD9:=Lib.hid f9;have HO9:=Lib.hid o9;clear f9 o9))
   go_roundw
   case rel =>
    have hDs:gN < wr.heap.size:=HD.out.lt
    have hG9:=HG.out.keep (fun _ h _ => h) (HNW.out.mono (Nat.zero_le _)) (fun g _ hl => HNW.out.block g hl)
    have hV9:=foot_vboxF (F:=fun g => g ≠ gN) (g:=wr.heap.size) (by omega) HC8.out hG9
    have hV:=hV9.keep (fun _ h _ => h) (HO9.out.bel.mono (Nat.zero_le _)) (fun g h _ => HO9.out.2 g h)
    exact ⟨i + 1,.node 4 0 [d],4,0,_,1,1,by omega,by go_num,HD9.out,hV,by have:=HDN.out;simp [Tr.nodes,nodesL];omega,((HB.out.trans (HNW.out.mono (by omega))).trans (HO9.out.bel.mono (Nat.le_refl _)))⟩
   case measure => simp [intOf];omega
  ·have hii:¬ (i:Int) < 21 + (r5:Int):=by omega
   obtain rfl:i = 21 + r5:=by omega
   have HDT:=Lib.hid HG.out.now
   have HDM:Hid (d.nodes ≤ 100):=Lib.hid (by have:=HDN.out;have:=HR5x.out;omega)
   obtain ⟨wq,rfl⟩:∃ W,W = wr:=⟨wr,rfl⟩
   have HBq:Hid (Below w9.heap.size w9 wq):=Lib.hid (by rw [HGN.out];exact HB.out)
   have HOCq:=Lib.hid (HOC9.out.below HBq.out)
   have HCHq:=Lib.hid (HCH9.out.below HBq.out)
   have HBw:=Lib.hid (later HB9.out HBq.out)
   clear HG HB HDN HOC9 HCH9 HB9 HGN HBq hi
   go_upto_region 14 with (go_at_call 12;(with_reducible refine (HA5.out _).mono ?_);rintro e w6 ⟨rfl,hw6⟩;rw [hw6];clear hw6)
   clear hii hi0 hi30 hli
   have hb5:=hb4 wq
   go_upto_region 15 with (refine wpList_store_arr rfl _ (.tmp 22) (.tmp 86) rfl wq.heap.size 0 3 53 _ [.int .i64 4,.int .i64 0,.slice none 0 0] [.int .i64 0,.int .i64 0,.slice none 0 0] rfl rfl rfl (c3w_new wq 0 0 none 0 0) (show 0 + 3 ≤ 3 by omega) info_val (List.all_eq_true.mp (by rfl)) ?_;intro w10 f o;rw [setAll_all [.int .i64 0,.int .i64 0,.slice none 0 0] [.int .i64 4,.int .i64 0,.slice none 0 0] rfl] at f;have HM10:=Lib.hid f;have HB10:=Lib.hid ((new_later wq (.cells #[.int .i64 0,.int .i64 0,.slice none 0 0] 53)).trans (o.bel.mono (Nat.le_refl _)));clear f o)
   clear hb5
   obtain ⟨gM,hgM⟩:∃ g,wq.heap.size = g:=⟨_,rfl⟩
   rw [hgM] at HM10 HB10 ⊢
   have HGM:=Lib.hid hgM
   clear hgM
   go_wp2_with fail
   go_loopw [23] (fun iv W' => ∃ (i:Nat) (mA:Option Addr) (mc:Nat),i ≤ 253 + r5 ∧ iv = .int .i64 (i:Int) ∧ Arr W' gM 3 53 [.int .i64 4,.int .i64 0,.slice mA i mc] ∧ GrowG 53 3 PC W' (gM + 1) (.slice mA i mc) (lvc i) ∧ Below gM wq W') (fun iv _ => 260 - (intOf iv).toNat)
   case atStart => exact ⟨0,none,0,by omega,by go_num,HM10.out,GrowG.nil _ _,HB10.out⟩
   case round =>
    clear HM10 HB10
    obtain ⟨i,mA,mc,hi,rfl,hA,hG,hB⟩:=hrel
    have HA:=Lib.hid hA
    have HG:=Lib.hid hG
    have HB:=Lib.hid hB
    clear hA hG hB
    have hi0:(0:Int) ≤ (i:Int):=by omega
    have hi30:(i:Int) ≤ 257:=by omega
    by_cases hli:i < 253 + r5
    ·have hii:(i:Int) < 253 + (r5:Int):=by omega
     go_upto_region 18 with (go_at_call 12;(with_reducible refine (HA5.out _).mono ?_);rintro e w6 ⟨rfl,hw6⟩;rw [hw6];clear hw6)
     refine kcreg18c (by kernel_rfl) _ _ gM (.slice mA i mc) (gM + 1) (lvc i) (.int .i64 4) (.int .i64 0) i (by rw [lvc_len];omega) rfl rfl rfl (by omega) (by have:=HA.out.lt;omega) HA.out HG.out ?_
     intro vs11 kv w11 hG hnew hA2 hb0 hsame a11 ha11
     simp only [kcD18c,List.cons_append,List.nil_append,List.foldl_cons,List.foldl_nil,Act.put,List.setIfInBounds_toArray,List.set_cons_succ,List.set_cons_zero] at ha11
     subst ha11
     obtain ⟨mA2,mc2,hkv,_,_⟩:=hG.shape
     rw [← lvc_succ,lvc_len] at hkv
     rw [← lvc_succ] at hG
     subst hkv
     have hown:∀ g,(Value.slice mA i mc).ownBlock = some g → gM + 1 ≤ g:=fun g e => (HG.out.lt g e).1
     have HA11:=Lib.hid hA2
     have HG11:=Lib.hid hG
     have HB11:Hid (Below gM wq w11):=Lib.hid (HB.out.trans ⟨hb0.os,hb0.tape,hb0.output,hb0.size,fun g hg => hsame g (by have:=HA.out.lt;omega) (by omega) (fun e => by have:=hown _ e;omega)⟩)
     clear hG hnew hA2 hb0 hsame hown
     go_wp2_with fail
     go_roundw
     case rel => exact ⟨i + 1,mA2,mc2,by omega,by go_num,HA11.out,HG11.out,HB11.out⟩
     case measure => simp [intOf];omega
    ·have hii:¬ (i:Int) < 253 + (r5:Int):=by omega
     obtain rfl:i = 253 + r5:=by omega
     obtain ⟨hMM,hMT⟩:=many_at HG.out (by omega)
     obtain ⟨wz,rfl⟩:∃ W,W = wr:=⟨wr,rfl⟩
     have HBz:Hid (Below wq.heap.size wq wz):=Lib.hid (by rw [HGM.out];exact HB.out)
     go_upto_region 19 with (go_at_call 12;(with_reducible refine (HA5.out _).mono ?_);rintro e w6 ⟨rfl,hw6⟩;rw [hw6];clear hw6)
     obtain ⟨M,hM⟩:∃ M,253 + r5 = M:=⟨_,rfl⟩
     have HVM:Hid (VarAt wz gM (.node 4 0 (lvs M)) [.int .i64 4,.int .i64 0,.slice mA (253 + r5) mc]):=Lib.hid ⟨HA.out.range,rfl,by rw [← hM];exact hMT⟩
     have HML:Hid (M ≤ 1000):=Lib.hid (by omega)
     have HVN:Hid (VarAt wz gN d [.int .i64 dk,.int .i64 dn,.slice dA dl dc]):=Lib.hid ((show VarAt wq gN d [.int .i64 dk,.int .i64 dn,.slice dA dl dc] from ⟨HD.out.range,rfl,HDT.out⟩).later HBz.out)
     have HOCz:=Lib.hid (HOCq.out.below HBz.out)
     have HCHz:=Lib.hid (HCHq.out.below HBz.out)
     have HBt:=Lib.hid (later HBw.out HBz.out)
     have HKz:=Lib.hid (HKV.out.later HBt.out)
     clear hMM hMT hM HA HG HB HBz HOCq HCHq HBw HD HDT HA5 HGM HID hi hii hli hi0 hi30 hr5 hr50 hr54 HR5x hb4 HKV
     have hdl:=(en_lt d HVN.out.tr.ok).2
     have hml:=(en_lt _ HVM.out.tr.ok).2
     have HDE:Hid (d.en.length ≤ 100000000000000):=Lib.hid (by have:=HDM.out;omega)
     have HME:Hid ((Tr.node 4 0 (lvs M)).en.length ≤ 100000000000000):=Lib.hid (by have h1:(Tr.node 4 0 (lvs M)).nodes = M + 1:=(by rw [Tr.nodes,lvs_nodes]);have h2:=HML.out;omega)
     clear hdl hml
     have HFW:Hid (∀ W,Below wz.heap.size wz W → Calls Tryd.prog 39 #[.slice A5 l5 c5,.int .i64 60] W fun e w' => ∃ v',e = .returned v' ∧ OwnB w' W.heap.size v' (z5.take 60) ∧ Below W.heap.size W w'):=Lib.hid fun W h => BFew60_any A5 l5 c5 wa.heap.size z5 W HI.out.2.2.2.2.1 (HR5.out.below (later HBt.out h)) HI.out.2.2.2.2.2.1
     have HEN:Hid (∀ W,Below wz.heap.size wz W → Calls Tryd.prog 37 #[.agg ([.int .i64 dk,.int .i64 dn,.slice dA dl dc]:List Value).toArray] W fun e w' => ∃ v',e = .returned v' ∧ OwnB w' W.heap.size v' d.en ∧ Below W.heap.size W w'):=Lib.hid fun W h => (renc_row d HDE.out W _ (HVN.out.later h).tr).mono (by rintro e w' ⟨A,n,c,rfl,_,ho,hb⟩;exact ⟨_,rfl,ho,hb⟩)
     have HEM:Hid (∀ W,Below wz.heap.size wz W → Calls Tryd.prog 37 #[.agg ([.int .i64 4,.int .i64 0,.slice mA (253 + r5) mc]:List Value).toArray] W fun e w' => ∃ v',e = .returned v' ∧ OwnB w' W.heap.size v' (Tr.node 4 0 (lvs M)).en ∧ Below W.heap.size W w'):=Lib.hid fun W h => (renc_row (.node 4 0 (lvs M)) HME.out W _ (HVM.out.later h).tr).mono (by rintro e w' ⟨A,n,c,rfl,_,ho,hb⟩;exact ⟨_,rfl,ho,hb⟩)
     have hcc:=own_cells HOCz.out (by rw [HLC.out];exact hlc0)
     refine vccreg19 (by kernel_rfl) _ _ gc 0 lc cc k lc ch l5 c5 bx gN gM (some ⟨gh,0,none⟩) A5 E (z5.take 60) d.en (Tr.node 4 0 (lvs M)).en d (.node 4 0 (lvs M)) [.int .i64 dk,.int .i64 dn,.slice dA dl dc] [.int .i64 4,.int .i64 0,.slice mA (253 + r5) mc] rfl rfl rfl rfl rfl rfl rfl rfl HVN.out HVM.out HLC.out (by omega) hlc0 hcc.2 hcc.1 (by have:=HLc.out;omega) (by omega) (by have:=HLc.out;omega) HFW.out HEN.out HEM.out ?_
     intro vs19 w20 g24 x1 x2 x3 x4 h24 hg24 hA24 o1 o2 o3 o4 hb a19 ha19
     simp only [vccD19,List.cons_append,List.nil_append,List.foldl_cons,List.foldl_nil,Act.put,List.setIfInBounds_toArray,List.set_cons_succ,List.set_cons_zero,h24] at ha19
     subst ha19
     obtain ⟨L7,hL7⟩:∃ L:List Value,[.slice (some ⟨gc,0,none⟩) lc cc,.slice (some ⟨gh,0,none⟩) lc ch,.slice (some ⟨gc,0,none⟩) k cc,x1,x2,x3,x4] = L:=⟨_,rfl⟩
     have HALL:Hid (∀ v ∈ L7,BSl w20 v):=Lib.hid (by
      have q1:=HOCz.out.below hb
      have q2:=HCHz.out.below hb
      have hbx:=HI.out.2.2.1
      rw [← hL7]
      intro v hv
      simp only [List.mem_cons,List.not_mem_nil,or_false] at hv
      rcases hv with rfl | rfl | rfl | rfl | rfl | rfl | rfl
      ·exact BSl.own q1 HLT.out
      ·refine BSl.own q2 fun b hb => ?_
       rcases List.mem_or_eq_of_mem_set hb with h | h
       ·exact HLT.out b h
       ·omega
      ·exact BSl.cut q1 HLT.out (by omega)
      ·refine BSl.own o1 fun b hb => ?_
       rcases List.mem_append.1 hb with h | h
       ·exact HLT.out b h
       ·simp at h;omega
      ·exact BSl.own o2 fun b hb => HI.out.2.2.2.2.2.2 b (List.mem_of_mem_take hb)
      ·exact BSl.own o3 (en_lt d HVN.out.tr.ok).1
      ·exact BSl.own o4 (en_lt _ HVM.out.tr.ok).1)
     have HA24:Hid (Arr w20 g24 7 69 L7):=Lib.hid (by rw [← hL7];exact hA24)
     have HLL:Hid (L7.length = 7):=Lib.hid (by rw [← hL7];rfl)
     have HB20:=Lib.hid (later HBt.out hb)
     have HK20:=Lib.hid (HKz.out.later hb)
     clear hL7 hA24 o1 o2 o3 o4 hb h24 hg24 hcc HFW HEN HEM HDE HME HVN HVM HOCz HCHz HBt HKz HR5 HI HDM HML HLT HLC HLc hklt hk0 hkl hlc0 hlcm
     go_wp2_with fail
     go_loopw [25] (fun iv W' => ∃ i:Nat,i ≤ 7 ∧ iv = .int .i64 (i:Int) ∧ Below w20.heap.size w20 W') (fun iv _ => 7 - (intOf iv).toNat)
     case atStart => exact ⟨0,by omega,by go_num,Below.refl _ _⟩
     case round =>
      obtain ⟨i,hi,rfl,hB⟩:=hrel
      have HB:=Lib.hid hB
      clear hB
      have hi0:(0:Int) ≤ (i:Int):=by omega
      have hi7:(i:Int) ≤ 7:=by omega
      by_cases hli:i < 7
      ·have hii:(i:Int) < 7:=by omega
       obtain ⟨v,hv⟩:∃ v,L7[i]? = some v:=⟨_,List.getElem?_eq_getElem (by rw [HLL.out];exact hli)⟩
       obtain ⟨er,X,q,A,m,cap,hvs,hd1,hd2⟩:=both_decode w20 v (HALL.out v (List.mem_of_getElem? hv))
       subst hvs
       have HD1:=Lib.hid hd1
       have HD2:=Lib.hid hd2
       have x1c:=(HA24.out.later HB.out).cell (j:=i) (v:=.slice A m cap) hv
       clear hd1 hd2
       go_upto_region 24 with (first
        | (go_at_call 40;(with_reducible refine (HD1.out _ HB.out).mono ?_);rintro e w21 ⟨xk,xn,xA,xl,xc,rfl,hT,hb⟩;have HT1:=Lib.hid hT;have HL1:=Lib.hid hb;clear hT hb)
        | (refine wpList_store_arr rfl _ (.tmp 26) (.tmp 131) rfl w21.heap.size 0 3 53 _ [.int .i64 xk,.int .i64 xn,.slice xA xl xc] [.int .i64 0,.int .i64 0,.slice none 0 0] rfl rfl rfl (c3w_new w21 0 0 none 0 0) (show 0 + 3 ≤ 3 by omega) info_val (List.all_eq_true.mp (by rfl)) ?_;intro w22 f o;rw [setAll_all [.int .i64 0,.int .i64 0,.slice none 0 0] [.int .i64 xk,.int .i64 xn,.slice xA xl xc] rfl] at f;have HF1:=Lib.hid f;have HM1:=Lib.hid ((new_later w21 (.cells #[.int .i64 0,.int .i64 0,.slice none 0 0] 53)).trans (o.bel.mono (Nat.le_refl _)));clear f o))
       have HB22:=Lib.hid (later HB.out (later HL1.out HM1.out))
       have HV26:Hid (VarAt w22 w21.heap.size X [.int .i64 xk,.int .i64 xn,.slice xA xl xc]):=Lib.hid ⟨HF1.out.range,rfl,HT1.out.later HM1.out⟩
       obtain ⟨g26,hg26⟩:∃ g,w21.heap.size = g:=⟨_,rfl⟩
       rw [hg26] at HV26 ⊢
       have x2c:=(HA24.out.later HB22.out).cell (j:=i) (v:=.slice A m cap) hv
       clear x1c HT1 HL1 HF1 HM1 hg26 HD1
       go_upto_region 25 with (first
        | (go_at_call 41;(with_reducible refine (HD2.out _ HB22.out).mono ?_);rintro e w23 ⟨yk,yn,yA,yl,yc,rfl,hT,hb⟩;have HT2:=Lib.hid hT;have HL2:=Lib.hid hb;clear hT hb)
        | (refine wpList_store_arr rfl _ (.tmp 29) (.tmp 140) rfl w23.heap.size 0 3 53 _ [.int .i64 yk,.int .i64 yn,.slice yA yl yc] [.int .i64 0,.int .i64 0,.slice none 0 0] rfl rfl rfl (c3w_new w23 0 0 none 0 0) (show 0 + 3 ≤ 3 by omega) info_val (List.all_eq_true.mp (by rfl)) ?_;intro w24 f o;rw [setAll_all [.int .i64 0,.int .i64 0,.slice none 0 0] [.int .i64 yk,.int .i64 yn,.slice yA yl yc] rfl] at f;have HF2:=Lib.hid f;have HM2:=Lib.hid ((new_later w23 (.cells #[.int .i64 0,.int .i64 0,.slice none 0 0] 53)).trans (o.bel.mono (Nat.le_refl _)));clear f o))
       have HLL2:=Lib.hid (later HL2.out HM2.out)
       have HB24:=Lib.hid (later HB22.out HLL2.out)
       have HW26:=Lib.hid (HV26.out.later HLL2.out)
       have HV29:Hid (VarAt w24 w23.heap.size X [.int .i64 yk,.int .i64 yn,.slice yA yl yc]):=Lib.hid ⟨HF2.out.range,rfl,HT2.out.later HM2.out⟩
       obtain ⟨g29,hg29⟩:∃ g,w23.heap.size = g:=⟨_,rfl⟩
       rw [hg29] at HV29 ⊢
       clear x2c HT2 HL2 HF2 HM2 hg29 HD2 HV26 HB22 HLL2
       refine vccreg25 (by kernel_rfl) _ _ g26 g29 [.int .i64 xk,.int .i64 xn,.slice xA xl xc] [.int .i64 yk,.int .i64 yn,.slice yA yl yc] X (q:Int) er rfl rfl rfl rfl rfl rfl rfl HW26.out HV29.out ?_
       intro vs25 w25 hs hb a25 ha25
       simp only [vccD25,List.cons_append,List.nil_append,List.foldl_cons,List.foldl_nil,Act.put,List.setIfInBounds_toArray,List.set_cons_succ,List.set_cons_zero,hs] at ha25
       subst ha25
       have HB25:=Lib.hid (later HB24.out hb)
       clear hs hb HB24 HW26 HV29
       go_wp2_with fail
       go_roundw
       case rel => exact ⟨i + 1,by omega,by go_num,HB25.out⟩
       case measure => simp [intOf];omega
      ·have hii:¬ (i:Int) < 7:=by omega
       obtain rfl:i = 7:=by omega
       have HKr:=Lib.hid (HK20.out.later HB.out)
       have HBf:=Lib.hid (later HV0.out (later HB20.out HB.out))
       clear hii hli hi0 hi7 hi
       go_wp2_with (go_at_call 22;(with_reducible refine (lives_any _ HKr.out).mono ?_);rintro e w30 ⟨rfl,hb⟩;have HBe:=Lib.hid (later HBf.out hb);clear hb)
       go_ret
       exact ⟨rfl,HBe.out⟩
end Go.Proofs.YtmfihlcibephlaaDoor
