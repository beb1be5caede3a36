import Derived.Test.YtmfihlcibephlaaDoorZ01
import Derived.Test.YtmfihlcibephlaaDoorZ05
import Derived.Test.YtmfihlcibephlaaDoorZ06
set_option linter.unusedVariables false
set_option linter.unusedSimpArgs false
namespace Go.Proofs.YtmfihlcibephlaaDoor
open Go.RowKit
def buildV (gp gm gf:Nat):Value:=.func (.func 64) #[] #[.pointer (some ⟨gp,0,none⟩),.pointer (some ⟨gm,0,none⟩),.pointer (some ⟨gf,0,none⟩)]
structure ZEnv (W0 W:World) (gp gm gf gn c:Nat) (mv:Value) (A0:Option Addr) (n cap0:Nat):Prop where
 bl:Below W0.heap.size W0 W
 cp:Arr W gp 2 26 [mv,.slice A0 n cap0]
 cm:W.cell? ⟨gm,0,none⟩ = some (moreV gn)
 cf:W.cell? ⟨gf,0,none⟩ = some (buildV gp gm gf)
 cn:Cnt W gn c
 ng:W0.heap.size ≤ gn
 np:gp ≠ gn
 nm:gm ≠ gn
 nf:gf ≠ gn
theorem ZEnv.fr {W0 W W':World} {gp gm gf gn c c':Nat} {mv:Value} {A0:Option Addr} {n cap0:Nat} (e:ZEnv W0 W gp gm gf gn c mv A0 n cap0) (f:Fr gn W W') (h:Cnt W' gn c'):ZEnv W0 W' gp gm gf gn c' mv A0 n cap0 :=
 ⟨e.bl.trans (f.1.mono e.ng),e.cp.fr f e.np,f.cell e.nm e.cm,f.cell e.nf e.cf,h,e.ng,e.np,e.nm,e.nf⟩
theorem ZEnv.later {W0 W W':World} {gp gm gf gn c:Nat} {mv:Value} {A0:Option Addr} {n cap0:Nat} (e:ZEnv W0 W gp gm gf gn c mv A0 n cap0) (h:Below W.heap.size W W'):ZEnv W0 W' gp gm gf gn c mv A0 n cap0 :=
 e.fr (Fr.of_below h (Nat.le_of_lt e.cn.lt)) (e.cn.later h)
theorem ZEnv.kv {W0 W:World} {gp gm gf gn c:Nat} {mv:Value} {A0:Option Addr} {n cap0:Nat} (e:ZEnv W0 W gp gm gf gn c mv A0 n cap0) (h:Kv W0):Kv W:=h.later e.bl
theorem ZEnv.lts {W0 W:World} {gp gm gf gn c:Nat} {mv:Value} {A0:Option Addr} {n cap0:Nat} (e:ZEnv W0 W gp gm gf gn c mv A0 n cap0):gp < W.heap.size ∧ gm < W.heap.size ∧ gf < W.heap.size ∧ gn < W.heap.size :=
 ⟨e.cp.lt,World.block_lt_of_cell? W _ e.cm,World.block_lt_of_cell? W _ e.cf,e.cn.lt⟩
theorem Arr.same {W W':World} {g n:Nat} {t:TypeId} {xs:List Value} (h:Arr W g n t xs) (he:W'.heap[g]? = W.heap[g]?):Arr W' g n t xs:=by
 refine ⟨h.1,?_⟩
 rcases h.2 with h2 | ⟨g',cap,cur,hv,hg,hh,r⟩
 ·exact .inl h2
 ·refine .inr ⟨g',cap,cur,hv,hg,?_,r⟩
  cases hv
  rw [he]
  exact hh
theorem ZEnv.keep {W0 W W':World} {gp gm gf gn c S:Nat} {mv:Value} {A0:Option Addr} {n cap0:Nat} (e:ZEnv W0 W gp gm gf gn c mv A0 n cap0) (hS:gp < S ∧ gm < S ∧ gf < S ∧ gn < S) (h:∀ k,k < S → W'.heap[k]? = W.heap[k]?) (hb:Below W0.heap.size W0 W'):ZEnv W0 W' gp gm gf gn c mv A0 n cap0 :=
 ⟨hb,e.cp.same (h _ hS.1),(cell_heap (p:=⟨gm,0,none⟩) (h _ hS.2.1)).trans e.cm,(cell_heap (p:=⟨gf,0,none⟩) (h _ hS.2.2.1)).trans e.cf,Arr.same e.cn (h _ hS.2.2.2),e.ng,e.np,e.nm,e.nf⟩
theorem Fr.other {g b j:Nat} {W W':World} (h:Fr g W W') (hg:g ≤ b) (hb:W.heap.size ≤ b) (v:Value):Fr g W (W'.setCell ⟨b,j,none⟩ v) :=
 ⟨h.1.setCell (p:=⟨b,j,none⟩) hg v,fun k hk hl => (Below.heap_setCell _ _ _ _ (by simp;omega)).trans (h.2 k hk hl)⟩
theorem SlsAt.get {w:World} {A:Option Addr} {len cap:Nat} {L:List Sl} {j:Nat} {x:Sl} (h:SlsAt w (.slice A len cap) L) (hx:L[j]? = some x):∃ g o C,A = some ⟨g,o,none⟩ ∧ w.rangeAt g (o + j * 11) C ∧ SlAt w x C:=by
 obtain ⟨A',cap',hv,_,hL⟩:=h
 cases hv
 exact hL j x hx
def ZRes (gn:Nat) (er:Int) (x:Tr) (c:Nat) (W:World) (e:Ending) (w':World):Prop:=∃ xk xn xA xl xc,e = .returned (.tuple #[.agg #[.int .i64 xk,.int .i64 xn,.slice xA xl xc],.int .i64 er]) ∧ TrF (W.heap.size ≤ ·) w' x (.agg #[.int .i64 xk,.int .i64 xn,.slice xA xl xc]) ∧ Cnt w' gn c ∧ Fr gn W w'
theorem tr_z0 (S:Nat → Prop) (w:World):TrF S w z0 (.agg #[.int .i64 0,.int .i64 0,.slice none 0 0]):=by
 unfold z0 TrF
 exact ⟨none,0,rfl,⟨Nat.le_refl _,by simp [maxLen],by unfold i64r;omega,by unfold i64r;omega⟩,by unfold KsF;trivial⟩
def zc3:List Value:=[.int .i64 0,.int .i64 0,.slice none 0 0]
theorem zc3_one:∀ v ∈ zc3,v.oneCell' = true:=by decide
theorem zr_cnt (
        P:List Df):∀ (f:Nat) (t:Ty) (c:Nat),c ≤ 256 → (zr P f t c).2.2 ≤ 256 ∧ c ≤ (zr P f t c).2.2 ∧ ((zr P f t c).1 = 0 → c + 1 ≤ (zr P f t c).2.2)
 | 0,t,c,hc => by
  unfold zr
  split
  ·exact ⟨hc,Nat.le_refl _,fun h => by simp at h⟩
  ·exact ⟨hc,Nat.le_refl _,fun h => by simp at h⟩
 | f + 1,t,c,hc => by
  rw [zr_form]
  split
  ·exact ⟨hc,Nat.le_refl _,fun h => by simp at h⟩
  ·split
   ·exact ⟨hc,Nat.le_refl _,fun h => by simp at h⟩
   ·split
    ·exact ⟨by show c + 1 ≤ 256;omega,by show c ≤ c + 1;omega,fun h => by simp at h⟩
    ·have hL:∀ (k:Int) (sl:List Sl) (acc:List Tr) (c:Nat),c ≤ 256 → (zrL (zr P f) k sl acc c).2.2 ≤ 256 ∧ c ≤ (zrL (zr P f) k sl acc c).2.2:=by
      intro k sl
      induction sl with
      | nil => intro acc c hc;exact ⟨hc,Nat.le_refl _⟩
      | cons s r ih =>
       intro acc c hc
       obtain ⟨h1,h2,h3⟩:=zr_cnt P f s.ty c hc
       unfold zrL
       split
       ·obtain ⟨h4,h5⟩:=ih (acc ++ [(zr P f s.ty c).2.1]) _ h1
        exact ⟨h4,by omega⟩
       ·exact ⟨h1,h2⟩
     obtain ⟨h4,h5⟩:=hL (shK P t) (if shK P t = 3 then (shS P t).take 1 else shS P t) [] (c + 1) (by omega)
     exact ⟨h4,by omega,fun _ => h5⟩
set_option maxHeartbeats 8000000 in
set_option maxRecDepth 100000 in
theorem zclo_A (P:List Df) (W0 W:World) (gp gm gf gn c d n cap0:Nat) (mv:Value) (A0:Option Addr) (t:Ty) (kt s q i:Int) (B:Option Addr) (ln cp:Nat)
  (hP:PrAt W0 P (.agg #[mv,.slice A0 n cap0])) (hKv:Kv W0) (hE:ZEnv W0 W gp gm gf gn c mv A0 n cap0) (ht:TyAt W0 t (.agg (t5 kt s q i B ln cp).toArray)) (hvt:vty P 24 t = false) :
  Calls Tryd.prog 64 #[.agg (t5 kt s q i B ln cp).toArray,.int .i64 (d:Int),.pointer (some ⟨gp,0,none⟩),.pointer (some ⟨gm,0,none⟩),.pointer (some ⟨gf,0,none⟩)] W (ZRes gn 1 z0 c W):=by
 have HVT:Hid (∀ W',PrAt W' P (.agg #[mv,.slice A0 n cap0]) → TyAt W' t (.agg (t5 kt s q i B ln cp).toArray) → Calls Tryd.prog 16 #[.agg #[mv,.slice A0 n cap0],.agg #[.int .i64 kt,.int .i64 s,.int .i64 q,.int .i64 i,.slice B ln cp]] W' (BRes false W')):=Lib.hid fun W' h1 h2 => by rw [← hvt];exact validtype_any P t W' _ _ h1 h2
 have P0:=t5_new W kt s q i B ln cp
 have V0':=new_later W (.cells (t5 kt s q i B ln cp).toArray 31)
 have Q0:Arr ((W.alloc (.cells (t5 kt s q i B ln cp).toArray 31)).alloc (.cells #[.int .i64 0,.int .i64 0,.slice none 0 0] 53)) (W.alloc (.cells (t5 kt s q i B ln cp).toArray 31)).heap.size 3 53 zc3:=Arr.new' _ _ _ 3 zc3 rfl rfl (by decide)
 have P1:=P0.later (new_later _ (.cells #[.int .i64 0,.int .i64 0,.slice none 0 0] 53))
 have V1:=later V0' (new_later _ (.cells #[.int .i64 0,.int .i64 0,.slice none 0 0] 53))
 rw [World.size_alloc] at Q0
 clear P0 V0'
 generalize hW:(W.alloc (.cells (t5 kt s q i B ln cp).toArray 31)).alloc (.cells #[.int .i64 0,.int .i64 0,.slice none 0 0] 53) = wa at P1 V1 Q0
 have E1:=hE.later V1
 have F1:Fr gn W wa:=Fr.of_below V1 (Nat.le_of_lt hE.cn.lt)
 have hn1:W.heap.size ≠ gn:=by have:=hE.cn.lt;omega
 have hn2:W.heap.size + 1 ≠ gn:=by have:=hE.cn.lt;omega
 have hgl:gn ≤ W.heap.size:=Nat.le_of_lt hE.cn.lt
 have HLTS:=Lib.hid hE.lts
 have y0:=P1.cell (j:=0) (v:=.int .i64 kt) rfl
 have y1:=P1.cell (j:=1) (v:=.int .i64 s) rfl
 have y2:=P1.cell (j:=2) (v:=.int .i64 q) rfl
 have y3:=P1.cell (j:=3) (v:=.int .i64 i) rfl
 have y4:=P1.cell (j:=4) (v:=.slice B ln cp) rfl
 have zz0:=E1.cp.cell (j:=0) (v:=mv) rfl
 have z1:=E1.cp.cell (j:=1) (v:=.slice A0 n cap0) rfl
 have HPA:=Lib.hid (hP.later E1.bl)
 have HTA:=Lib.hid (ht.later E1.bl)
 have HP:=Lib.hid hP
 have HT:=Lib.hid ht
 have HK:=Lib.hid hKv
 have HY:=Lib.hid P1
 have HX:=Lib.hid Q0
 have HE1:=Lib.hid E1
 have HF1:=Lib.hid F1
 have HIV:Hid ((Tryd.prog.info? 53).map (·.size) = some zc3.length):=Lib.hid info_val
 clear hvt hP ht hKv hE P1 Q0 V1 E1 F1
 go_enter Tryd.func64,Tryd.ntmps64
 go_upto_region 1 with fail
 clear hW
 go_wp2_with (first
  | (go_at_call 16;(with_reducible refine (HVT.out _ HPA.out HTA.out).mono ?_);rintro e w2 ⟨rfl,hb2⟩;have E2:=HE1.out.later hb2;have F2:=HF1.out.trans (Fr.of_below hb2 (Nat.le_of_lt HE1.out.cn.lt));have X2:=HX.out.later hb2;have hcm:w2.cell? ⟨gm,0,none⟩ = some (.func (.func 80) #[] #[.pointer (some ⟨gn,0,none⟩)]):=E2.cm)
  | (refine wpList_store_arr rfl _ (.tmp 7) (.tmp 20) rfl (W.heap.size + 1) 0 3 53 _ zc3 zc3 rfl rfl rfl X2 (by decide) HIV.out zc3_one ?_;intro w7 f7 o7))
 rw [setAll_all _ _ rfl] at f7
 refine bodyPost_ret (results_cellB rfl _ _ (W.heap.size + 1) zc3 _ rfl f7.range Tryd.underlying53 rfl HIV.out) rfl ?_
 exact ⟨0,0,none,0,0,rfl,tr_z0 _ _,Arr.only E2.cn o7 (by omega),F2.more (o7.bel.mono (by omega)) hgl⟩
set_option maxHeartbeats 8000000 in
set_option maxRecDepth 100000 in
theorem zclo_B (P:List Df) (W0 W:World) (gp gm gf gn c d n cap0:Nat) (mv:Value) (A0:Option Addr) (t:Ty) (kt s q i:Int) (B:Option Addr) (ln cp:Nat)
  (hP:PrAt W0 P (.agg #[mv,.slice A0 n cap0])) (hKv:Kv W0) (hE:ZEnv W0 W gp gm gf gn c mv A0 n cap0) (ht:TyAt W0 t (.agg (t5 kt s q i B ln cp).toArray)) (hvt:vty P 24 t = true) (hfc:c = 256 ∨ 24 < d) :
  Calls Tryd.prog 64 #[.agg (t5 kt s q i B ln cp).toArray,.int .i64 (d:Int),.pointer (some ⟨gp,0,none⟩),.pointer (some ⟨gm,0,none⟩),.pointer (some ⟨gf,0,none⟩)] W (ZRes gn 4 z0 c W):=by
 have HFC:=Lib.hid hfc
 clear hfc
 have HVT:Hid (∀ W',PrAt W' P (.agg #[mv,.slice A0 n cap0]) → TyAt W' t (.agg (t5 kt s q i B ln cp).toArray) → Calls Tryd.prog 16 #[.agg #[mv,.slice A0 n cap0],.agg #[.int .i64 kt,.int .i64 s,.int .i64 q,.int .i64 i,.slice B ln cp]] W' (BRes true W')):=Lib.hid fun W' h1 h2 => by rw [← hvt];exact validtype_any P t W' _ _ h1 h2
 have P0:=t5_new W kt s q i B ln cp
 have V0':=new_later W (.cells (t5 kt s q i B ln cp).toArray 31)
 have Q0:Arr ((W.alloc (.cells (t5 kt s q i B ln cp).toArray 31)).alloc (.cells #[.int .i64 0,.int .i64 0,.slice none 0 0] 53)) (W.alloc (.cells (t5 kt s q i B ln cp).toArray 31)).heap.size 3 53 zc3:=Arr.new' _ _ _ 3 zc3 rfl rfl (by decide)
 have P1:=P0.later (new_later _ (.cells #[.int .i64 0,.int .i64 0,.slice none 0 0] 53))
 have V1:=later V0' (new_later _ (.cells #[.int .i64 0,.int .i64 0,.slice none 0 0] 53))
 rw [World.size_alloc] at Q0
 clear P0 V0'
 generalize hW:(W.alloc (.cells (t5 kt s q i B ln cp).toArray 31)).alloc (.cells #[.int .i64 0,.int .i64 0,.slice none 0 0] 53) = wa at P1 V1 Q0
 have E1:=hE.later V1
 have F1:Fr gn W wa:=Fr.of_below V1 (Nat.le_of_lt hE.cn.lt)
 have hn1:W.heap.size ≠ gn:=by have:=hE.cn.lt;omega
 have hn2:W.heap.size + 1 ≠ gn:=by have:=hE.cn.lt;omega
 have hgl:gn ≤ W.heap.size:=Nat.le_of_lt hE.cn.lt
 have HLTS:=Lib.hid hE.lts
 have y0:=P1.cell (j:=0) (v:=.int .i64 kt) rfl
 have y1:=P1.cell (j:=1) (v:=.int .i64 s) rfl
 have y2:=P1.cell (j:=2) (v:=.int .i64 q) rfl
 have y3:=P1.cell (j:=3) (v:=.int .i64 i) rfl
 have y4:=P1.cell (j:=4) (v:=.slice B ln cp) rfl
 have zz0:=E1.cp.cell (j:=0) (v:=mv) rfl
 have z1:=E1.cp.cell (j:=1) (v:=.slice A0 n cap0) rfl
 have HPA:=Lib.hid (hP.later E1.bl)
 have HTA:=Lib.hid (ht.later E1.bl)
 have HP:=Lib.hid hP
 have HT:=Lib.hid ht
 have HK:=Lib.hid hKv
 have HY:=Lib.hid P1
 have HX:=Lib.hid Q0
 have HE1:=Lib.hid E1
 have HF1:=Lib.hid F1
 have HIV:Hid ((Tryd.prog.info? 53).map (·.size) = some zc3.length):=Lib.hid info_val
 clear hvt hP ht hKv hE P1 Q0 V1 E1 F1
 go_enter Tryd.func64,Tryd.ntmps64
 go_upto_region 1 with fail
 clear hW
 go_wp2_with (first
  | (go_at_call 16;(with_reducible refine (HVT.out _ HPA.out HTA.out).mono ?_);rintro e w2 ⟨rfl,hb2⟩;have E2:=HE1.out.later hb2;have F2:=HF1.out.trans (Fr.of_below hb2 (Nat.le_of_lt HE1.out.cn.lt));have X2:=HX.out.later hb2;have hcm:w2.cell? ⟨gm,0,none⟩ = some (.func (.func 80) #[] #[.pointer (some ⟨gn,0,none⟩)]):=E2.cm)
  | (go_at_call 80;(with_reducible refine (more_no gn c d _ E2.cn HFC.out).mono ?_);rintro e w3 ⟨rfl,hw⟩;subst hw)
  | (refine wpList_store_arr rfl _ (.tmp 7) (.tmp 25) rfl (W.heap.size + 1) 0 3 53 _ zc3 zc3 rfl rfl rfl X2 (by decide) HIV.out zc3_one ?_;intro w7 f7 o7))
 rw [setAll_all _ _ rfl] at f7
 refine bodyPost_ret (results_cellB rfl _ _ (W.heap.size + 1) zc3 _ rfl f7.range Tryd.underlying53 rfl HIV.out) rfl ?_
 exact ⟨0,0,none,0,0,rfl,tr_z0 _ _,Arr.only E2.cn o7 (by omega),F2.more (o7.bel.mono (by omega)) hgl⟩
set_option maxHeartbeats 8000000 in
set_option maxRecDepth 100000 in
theorem zclo_C (P:List Df) (W0 W:World) (gp gm gf gn c d n cap0:Nat) (mv:Value) (A0:Option Addr) (t:Ty) (kt s q i:Int) (B:Option Addr) (ln cp:Nat)
  (hP:PrAt W0 P (.agg #[mv,.slice A0 n cap0])) (hKv:Kv W0) (hE:ZEnv W0 W gp gm gf gn c mv A0 n cap0) (ht:TyAt W0 t (.agg (t5 kt s q i B ln cp).toArray)) (hvt:vty P 24 t = true) (hcd:c < 256 ∧ d ≤ 24) (hk3:shK P t = 3) (hs0:(shS P t).length = 0) :
  Calls Tryd.prog 64 #[.agg (t5 kt s q i B ln cp).toArray,.int .i64 (d:Int),.pointer (some ⟨gp,0,none⟩),.pointer (some ⟨gm,0,none⟩),.pointer (some ⟨gf,0,none⟩)] W (ZRes gn 1 z0 (c + 1) W):=by
 have HCD:=Lib.hid hcd
 clear hcd
 have HVT:Hid (∀ W',PrAt W' P (.agg #[mv,.slice A0 n cap0]) → TyAt W' t (.agg (t5 kt s q i B ln cp).toArray) → Calls Tryd.prog 16 #[.agg #[mv,.slice A0 n cap0],.agg #[.int .i64 kt,.int .i64 s,.int .i64 q,.int .i64 i,.slice B ln cp]] W' (BRes true W')):=Lib.hid fun W' h1 h2 => by rw [← hvt];exact validtype_any P t W' _ _ h1 h2
 have HSH:Hid (∀ W',Below W0.heap.size W0 W' → Kv W' → Calls Tryd.prog 56 #[.agg #[mv,.slice A0 n cap0],.agg #[.int .i64 kt,.int .i64 s,.int .i64 q,.int .i64 i,.slice B ln cp]] W' fun e w' => ∃ SA scap,e = .returned (.tuple #[.int .i64 (shK P t),.slice SA (shS P t).length scap]) ∧ SlsAt W0 (.slice SA (shS P t).length scap) (shS P t) ∧ Below W'.heap.size W' w'):=Lib.hid fun W' h1 h2 => (shape_any P t W0 W' _ _ hP ht h1 hvt h2).mono (by
  rintro e w' ⟨sv,rfl,hs,hb⟩
  have hs':=hs
  obtain ⟨SA,scap,rfl,_⟩:=hs
  exact ⟨SA,scap,rfl,hs',hb⟩)
 rw [hk3,hs0] at HSH
 clear hk3 hs0
 have P0:=t5_new W kt s q i B ln cp
 have V0':=new_later W (.cells (t5 kt s q i B ln cp).toArray 31)
 have Q0:Arr ((W.alloc (.cells (t5 kt s q i B ln cp).toArray 31)).alloc (.cells #[.int .i64 0,.int .i64 0,.slice none 0 0] 53)) (W.alloc (.cells (t5 kt s q i B ln cp).toArray 31)).heap.size 3 53 zc3:=Arr.new' _ _ _ 3 zc3 rfl rfl (by decide)
 have P1:=P0.later (new_later _ (.cells #[.int .i64 0,.int .i64 0,.slice none 0 0] 53))
 have V1:=later V0' (new_later _ (.cells #[.int .i64 0,.int .i64 0,.slice none 0 0] 53))
 rw [World.size_alloc] at Q0
 clear P0 V0'
 generalize hW:(W.alloc (.cells (t5 kt s q i B ln cp).toArray 31)).alloc (.cells #[.int .i64 0,.int .i64 0,.slice none 0 0] 53) = wa at P1 V1 Q0
 have E1:=hE.later V1
 have F1:Fr gn W wa:=Fr.of_below V1 (Nat.le_of_lt hE.cn.lt)
 have hn1:W.heap.size ≠ gn:=by have:=hE.cn.lt;omega
 have hn2:W.heap.size + 1 ≠ gn:=by have:=hE.cn.lt;omega
 have hgl:gn ≤ W.heap.size:=Nat.le_of_lt hE.cn.lt
 have HLTS:=Lib.hid hE.lts
 have y0:=P1.cell (j:=0) (v:=.int .i64 kt) rfl
 have y1:=P1.cell (j:=1) (v:=.int .i64 s) rfl
 have y2:=P1.cell (j:=2) (v:=.int .i64 q) rfl
 have y3:=P1.cell (j:=3) (v:=.int .i64 i) rfl
 have y4:=P1.cell (j:=4) (v:=.slice B ln cp) rfl
 have zz0:=E1.cp.cell (j:=0) (v:=mv) rfl
 have z1:=E1.cp.cell (j:=1) (v:=.slice A0 n cap0) rfl
 have hf23:Hid (∀ w2 w3,Below wa.heap.size wa w2 → Fr gn w2 w3 → Fr gn wa w3):=Lib.hid fun w2 w3 h1 h2 => (Fr.of_below h1 (Nat.le_of_lt E1.cn.lt)).trans h2
 have HPA:=Lib.hid (hP.later E1.bl)
 have HTA:=Lib.hid (ht.later E1.bl)
 have HP:=Lib.hid hP
 have HT:=Lib.hid ht
 have HK:=Lib.hid hKv
 have HY:=Lib.hid P1
 have HX:=Lib.hid Q0
 have HE1:=Lib.hid E1
 have HF1:=Lib.hid F1
 have HIV:Hid ((Tryd.prog.info? 53).map (·.size) = some zc3.length):=Lib.hid info_val
 clear hvt hP ht hKv hE P1 Q0 V1 E1 F1
 go_enter Tryd.func64,Tryd.ntmps64
 go_upto_region 1 with fail
 clear hW
 go_wp2_with (first
  | (go_at_call 16;(with_reducible refine (HVT.out _ HPA.out HTA.out).mono ?_);rintro e w2 ⟨rfl,hb2⟩;have E2:=HE1.out.later hb2;have F2:=HF1.out.trans (Fr.of_below hb2 (Nat.le_of_lt HE1.out.cn.lt));have X2:=HX.out.later hb2;have hcm:w2.cell? ⟨gm,0,none⟩ = some (.func (.func 80) #[] #[.pointer (some ⟨gn,0,none⟩)]):=E2.cm)
  | (go_at_call 80;(with_reducible refine (more_yes gn c d _ E2.cn HCD.out.1 HCD.out.2).mono ?_);rintro e w3 ⟨rfl,hc3,hf3⟩;have E3:=E2.fr hf3 hc3;have F3:=F2.trans hf3;have HP3:=Lib.hid (HP.out.later E3.bl);have HT3:=Lib.hid (HT.out.later E3.bl);have Y3:=HY.out.fr (hf23.out _ _ hb2 hf3) hn1;have X3:=HX.out.fr (hf23.out _ _ hb2 hf3) hn2;have hy0:=Y3.cell (j:=0) (v:=.int .i64 kt) rfl;have hy1:=Y3.cell (j:=1) (v:=.int .i64 s) rfl;have hy2:=Y3.cell (j:=2) (v:=.int .i64 q) rfl;have hy3:=Y3.cell (j:=3) (v:=.int .i64 i) rfl;have hy4:=Y3.cell (j:=4) (v:=.slice B ln cp) rfl;have hz0:=E3.cp.cell (j:=0) (v:=mv) rfl;have hz1:=E3.cp.cell (j:=1) (v:=.slice A0 n cap0) rfl;have hK3:=Lib.hid (E3.kv HK.out))
  | (go_at_call 56;(with_reducible refine (HSH.out _ E3.bl hK3.out).mono ?_);rintro e w4 ⟨SA,scap,rfl,hsl,hb4⟩;have HSL:=Lib.hid hsl;clear hsl;have E4:=E3.later hb4;have F4:=F3.trans (Fr.of_below hb4 (Nat.le_of_lt E3.cn.lt));have X4:=X3.later hb4)
  | (refine wpList_store_arr rfl _ (.tmp 7) (.tmp 37) rfl (W.heap.size + 1) 0 3 53 _ zc3 zc3 rfl rfl rfl X4 (by decide) HIV.out zc3_one ?_;intro w7 f7 o7))
 rw [setAll_all _ _ rfl] at f7
 refine bodyPost_ret (results_cellB rfl _ _ (W.heap.size + 1) zc3 _ rfl f7.range Tryd.underlying53 rfl HIV.out) rfl ?_
 exact ⟨0,0,none,0,0,rfl,tr_z0 _ _,Arr.only E4.cn o7 (by omega),F4.more (o7.bel.mono (by omega)) hgl⟩
end Go.Proofs.YtmfihlcibephlaaDoor
namespace Go.Proofs.YtmfihlcibephlaaDoor
open Go.RowKit
theorem set_mid (xs ds:List Nat) (z x:Nat):(xs ++ z :: ds).set xs.length x = xs ++ x :: ds:=by
 rw [List.set_append_right _ _ (Nat.le_refl _)];simp
set_option maxHeartbeats 400000 in
set_option maxRecDepth 100000 in
theorem appendInt_pos (base:Nat) (v:Value) (xs:List Nat) (n:Nat) (w:World) (hb:base ≤ w.heap.size) (hn:n ≤ 9223372036854775807) (hlen:xs.length + 16 ≤ 140737488355328)
  (hown:OwnB w base v xs) :
  Calls Tryd.prog 85 #[v,.int .i64 (n:Int)] w fun e w' => ∃ v',e = .returned v' ∧ OwnB w' base v' (xs ++ enc n) ∧ Below base w w':=by
 obtain ⟨A,cap,rfl,hcap1,hcap2⟩:=hown.shape
 have hneg:decide ((n:Int) < 0) = false:=by simp
 go_enter Tryd.func85,Tryd.ntmps85
 go_wp2
 go_step3
 go_wp2_with (at_builtin;refine wpList_putB (x:=0) hown (by omega) hb (by omega) rfl _ _ rfl rfl rfl ?_;intro v1 w1 hown1 hbel1)
 go_step3
 go_wp2
 go_loopw [0,7] (fun b s wr => ∃ (j:Nat) (ys:List Nat),j ≤ 8 ∧ s = .int .i64 (8 * (j:Int) - 8) ∧ OwnB wr base b ys ∧ Below base w wr ∧ ys = xs ++ 0 :: digs (n / 2 ^ (8 * j))) (fun _ s _ => (intOf s + 8).toNat)
 case atStart =>
  refine ⟨8,_,Nat.le_refl _,rfl,hown1,hbel1,?_⟩
  rw [digs_top hn]
 case round =>
  obtain ⟨j,ys,hj,rfl,hown2,hbel2,hys⟩:=hrel
  clear hown1 hbel1 hown
  have hbw:=hbel2.size
  have hlj:=digs_len8' hn j
  have hyl:ys.length = xs.length + 1 + (digs (n / 2 ^ (8 * j))).length:=by rw [hys];simp;omega
  have HY:=Lib.hid hys
  clear hys
  match j,hj with
  | 0,hj =>
   have e0:n / 2 ^ (8 * 0) = n:=by simp
   rw [e0] at HY hyl hlj
   clear e0
   obtain ⟨g,cap2,rfl,hg,_,hcap3,hcap4⟩:=hown2.some_ (by omega)
   have hcell:=hown2.cell xs.length (by omega)
   have hfr:=hown2.free xs.length
   obtain ⟨k,hk⟩:∃ k,k = (digs n).length:=⟨_,rfl⟩
   rw [← hk] at hyl hlj
   have HK:=Lib.hid hk
   have hy1:ys.length ≤ xs.length + 1 + k:=by omega
   have hy2:xs.length + 1 + k ≤ ys.length:=by omega
   clear hk hyl
   go_wp2
   rw [Exit.noGoto_ret]
   go_ret
   refine ⟨_,rfl,?_,hbel2.setCell hg _⟩
   have h2:=hown2.set_ xs.length (128 + k) (X:=128 + ((ys.length:Int) - xs.length - 1)) (by omega)
   have e:ys.set xs.length (128 + k) = xs ++ enc n:=by rw [HY.out,set_mid,HK.out,enc_pos]
   rw [e] at h2
   exact h2
  | i + 1,hj =>
   have e:(8 * ((i + 1:Nat):Int) - 8) = ((8 * i:Nat):Int):=by omega
   rw [e]
   clear e
   have hi7:i ≤ 7:=by omega
   clear hj
   have hq:=dig_cast n i
   generalize hD:n / 2 ^ (8 * i) % 256 = D at hq
   have HD:=Lib.hid hD
   clear hD
   obtain ⟨A2,cap2,rfl,hcap3,hcap4⟩:=hown2.shape
   by_cases hz:n / 2 ^ (8 * i) = 0
   ·obtain ⟨e1,e2⟩:=digs_skip hz
    rw [e1] at HY hyl
    have hD0:D = 0:=by rw [← HD.out,hz]
    subst hD0
    have HZ:=Lib.hid e2
    have hy1:((ys.length:Int) == (xs.length:Int) + 1) = true:=by simp at hyl ⊢;omega
    have hy2:ys.length ≤ xs.length + 9:=by simp at hyl;omega
    clear e1 e2 hz HD hlj hyl
    go_wp2_with fail
    go_roundw
    case rel => exact ⟨i,ys,by omega,by go_num,hown2,hbel2,by rw [HZ.out];exact HY.out⟩
    case measure => simp [intOf];omega
   ·have e1:=digs_more hz
    have hne:=digs_more0 hz
    rw [HD.out] at e1 hne
    have hpos:D = 0 → xs.length + 1 < ys.length:=fun h => by have:=List.length_pos_iff.2 (hne h);omega
    clear hne
    have hy2:ys.length ≤ xs.length + 9:=by omega
    have HE:=Lib.hid e1
    clear e1 hz HD hlj hyl
    by_cases h0:D = 0
    ·have hd:(((D:Nat):Int) == 0) = true:=by simp [h0]
     have hf1:((ys.length:Int) == (xs.length:Int) + 1) = false:=by have:=hpos h0;simp;omega
     clear h0 hpos
     go_wp2_with (at_builtin;refine wpList_putB (x:=D) hown2 (by omega) (by omega) (by omega) rfl _ _ rfl rfl rfl ?_;intro v3 w3 hown3 hbel3)
     go_roundw
     case rel => exact ⟨i,_,by omega,by go_num,hown3,hbel2.trans hbel3,by rw [HE.out,HY.out];simp⟩
     case measure => simp [intOf];omega
    ·have hd:(((D:Nat):Int) == 0) = false:=by simp [h0]
     clear h0 hpos
     go_wp2_with (at_builtin;refine wpList_putB (x:=D) hown2 (by omega) (by omega) (by omega) rfl _ _ rfl rfl rfl ?_;intro v3 w3 hown3 hbel3)
     go_roundw
     case rel => exact ⟨i,_,by omega,by go_num,hown3,hbel2.trans hbel3,by rw [HE.out,HY.out];simp⟩
     case measure => simp [intOf];omega
set_option maxHeartbeats 400000 in
set_option maxRecDepth 100000 in
theorem appendInt_neg (base:Nat) (v:Value) (xs:List Nat) (n:Nat) (N:Int) (hN:-1 - N = (n:Int)) (w:World) (hb:base ≤ w.heap.size) (hn:n ≤ 9223372036854775807) (hlen:xs.length + 16 ≤ 140737488355328)
  (hown:OwnB w base v xs) :
  Calls Tryd.prog 85 #[v,.int .i64 N] w fun e w' => ∃ v',e = .returned v' ∧ OwnB w' base v' (xs ++ enc N) ∧ Below base w w':=by
 obtain ⟨A,cap,rfl,hcap1,hcap2⟩:=hown.shape
 have hneg:decide (N < 0) = true:=by simp;omega
 have hN1:-9223372036854775808 ≤ N:=by omega
 have hN2:N < 0:=by omega
 have HN:=Lib.hid hN
 clear hN
 go_enter Tryd.func85,Tryd.ntmps85
 go_wp2
 go_step3
 go_wp2_with (at_builtin;refine wpList_putB (x:=0) hown (by omega) hb (by omega) rfl _ _ rfl rfl rfl ?_;intro v1 w1 hown1 hbel1)
 go_step3
 go_wp2
 go_loopw [0,7] (fun b s wr => ∃ (j:Nat) (ys:List Nat),j ≤ 8 ∧ s = .int .i64 (8 * (j:Int) - 8) ∧ OwnB wr base b ys ∧ Below base w wr ∧ ys = xs ++ 0 :: (digs (n / 2 ^ (8 * j))).map (255 - ·)) (fun _ s _ => (intOf s + 8).toNat)
 case atStart =>
  refine ⟨8,_,Nat.le_refl _,rfl,hown1,hbel1,?_⟩
  rw [digs_top hn];rfl
 case round =>
  obtain ⟨j,ys,hj,rfl,hown2,hbel2,hys⟩:=hrel
  clear hown1 hbel1 hown
  have hbw:=hbel2.size
  have hlj:=digs_len8' hn j
  have hyl:ys.length = xs.length + 1 + (digs (n / 2 ^ (8 * j))).length:=by rw [hys];simp;omega
  have HY:=Lib.hid hys
  clear hys
  match j,hj with
  | 0,hj =>
   have e0:n / 2 ^ (8 * 0) = n:=by simp
   rw [e0] at HY hyl hlj
   clear e0
   obtain ⟨g,cap2,rfl,hg,_,hcap3,hcap4⟩:=hown2.some_ (by omega)
   have hcell:=hown2.cell xs.length (by omega)
   have hfr:=hown2.free xs.length
   obtain ⟨k,hk⟩:∃ k,k = (digs n).length:=⟨_,rfl⟩
   rw [← hk] at hyl hlj
   have HK:=Lib.hid hk
   have hy1:ys.length ≤ xs.length + 1 + k:=by omega
   have hy2:xs.length + 1 + k ≤ ys.length:=by omega
   clear hk hyl
   go_wp2
   rw [Exit.noGoto_ret]
   go_ret
   refine ⟨_,rfl,?_,(hbel2.setCell hg _).setCell hg _⟩
   have h2:=(hown2.set_ xs.length (128 + k) (X:=128 + ((ys.length:Int) - xs.length - 1)) (by omega)).set_ xs.length (127 - k) (X:=127 - ((ys.length:Int) - xs.length - 1)) (by omega)
   have e:(ys.set xs.length (128 + k)).set xs.length (127 - k) = xs ++ enc N:=by rw [HY.out,set_mid,set_mid,HK.out,show N = -1 - (n:Int) from by have:=HN.out;omega,enc_neg]
   rw [e] at h2
   exact h2
  | i + 1,hj =>
   have e:(8 * ((i + 1:Nat):Int) - 8) = ((8 * i:Nat):Int):=by omega
   rw [e]
   clear e
   have hi7:i ≤ 7:=by omega
   clear hj
   have hq:=dig_cast n i
   rw [← HN.out] at hq
   generalize hD:n / 2 ^ (8 * i) % 256 = D at hq
   have HD:=Lib.hid hD
   clear hD
   obtain ⟨A2,cap2,rfl,hcap3,hcap4⟩:=hown2.shape
   by_cases hz:n / 2 ^ (8 * i) = 0
   ·obtain ⟨e1,e2⟩:=digs_skip hz
    rw [e1] at HY hyl
    have hD0:D = 0:=by rw [← HD.out,hz]
    subst hD0
    have HZ:=Lib.hid e2
    have hy1:((ys.length:Int) == (xs.length:Int) + 1) = true:=by simp at hyl ⊢;omega
    have hy2:ys.length ≤ xs.length + 9:=by simp at hyl;omega
    clear e1 e2 hz HD hlj hyl
    go_wp2_with fail
    go_roundw
    case rel => exact ⟨i,ys,by omega,by go_num,hown2,hbel2,by rw [HZ.out];exact HY.out⟩
    case measure => simp [intOf];omega
   ·have e1:=digs_more hz
    have hne:=digs_more0 hz
    rw [HD.out] at e1 hne
    have hpos:D = 0 → xs.length + 1 < ys.length:=fun h => by have:=List.length_pos_iff.2 (hne h);omega
    clear hne
    have hy2:ys.length ≤ xs.length + 9:=by omega
    have HE:=Lib.hid e1
    clear e1 hz HD hlj hyl
    by_cases h0:D = 0
    ·have hd:(((D:Nat):Int) == 0) = true:=by simp [h0]
     have hf1:((ys.length:Int) == (xs.length:Int) + 1) = false:=by have:=hpos h0;simp;omega
     clear h0 hpos
     go_wp2_with (at_builtin;refine wpList_putB (x:=255 - D) hown2 (by omega) (by omega) (by omega) rfl _ _ rfl rfl rfl ?_;intro v3 w3 hown3 hbel3)
     go_roundw
     case rel => exact ⟨i,_,by omega,by go_num,hown3,hbel2.trans hbel3,by rw [HE.out,HY.out];simp⟩
     case measure => simp [intOf];omega
    ·have hd:(((D:Nat):Int) == 0) = false:=by simp [h0]
     clear h0 hpos
     go_wp2_with (at_builtin;refine wpList_putB (x:=255 - D) hown2 (by omega) (by omega) (by omega) rfl _ _ rfl rfl rfl ?_;intro v3 w3 hown3 hbel3)
     go_roundw
     case rel => exact ⟨i,_,by omega,by go_num,hown3,hbel2.trans hbel3,by rw [HE.out,HY.out];simp⟩
     case measure => simp [intOf];omega
end Go.Proofs.YtmfihlcibephlaaDoor
namespace Go.Proofs.YtmfihlcibephlaaDoor
open Go.RowKit
theorem appendInt_any (base:Nat) (v:Value) (xs:List Nat) (n:Int) (w:World) (hb:base ≤ w.heap.size) (hlo:-9223372036854775808 ≤ n) (hhi:n ≤ 9223372036854775807) (hlen:xs.length + 16 ≤ 140737488355328)
  (hown:OwnB w base v xs) :
  Calls Tryd.prog 85 #[v,.int .i64 n] w fun e w' => ∃ v',e = .returned v' ∧ OwnB w' base v' (xs ++ enc n) ∧ Below base w w':=by
 by_cases h:0 ≤ n
 ·obtain ⟨m,rfl⟩:=Int.eq_ofNat_of_zero_le h
  exact appendInt_pos base v xs m w hb (by omega) hlen hown
 ·exact appendInt_neg base v xs (-1 - n).toNat n (by omega) w hb (by omega) hlen hown
end Go.Proofs.YtmfihlcibephlaaDoor
