import Derived.Test.YtmfihlcibephlaaDoorZ10
import Derived.Test.YtmfihlcibephlaaDoorZ11
import Derived.Laws.EntriesVeiled
import Derived.RegionTactic
set_option linter.unusedVariables false
set_option linter.unusedSimpArgs false
namespace Go.Proofs.YtmfihlcibephlaaDoor
open Go.RowKit
theorem quad_cells {w:World} {u v x:Value} {a b c:TypeId}:(((w.alloc (.cells #[u] a)).alloc (.cells #[v] b)).alloc (.cells #[x] c)).cell? ⟨w.heap.size,0,none⟩ = some u ∧ (((w.alloc (.cells #[u] a)).alloc (.cells #[v] b)).alloc (.cells #[x] c)).cell? ⟨w.heap.size + 1,0,none⟩ = some v ∧ (((w.alloc (.cells #[u] a)).alloc (.cells #[v] b)).alloc (.cells #[x] c)).cell? ⟨w.heap.size + 1 + 1,0,none⟩ = some x :=
 ⟨by simp [go_sem],by simp [go_sem],by simp [go_sem]⟩
theorem results_cellBB {P:Program} {fn:Func} {p u t:Tmp} {ty:TypeId} (h:fn.results = #[.cell p ty,.tmp u,.tmp t]) (tmps:Array Value) (w:World) (g:Nat) (cs:List Value) (d:TypeDesc)
  (hp:tmps.getD p undef = .pointer (some ⟨g,0,none⟩)) (hg:w.rangeAt g 0 cs)
  (hu:P.underlying ty = some d) (hd:d.isRow = true) (hi:(P.info? ty).map (·.size) = some cs.length) :
  (results fn tmps).run P w = .ok (.tuple #[.agg cs.toArray,tmps.getD u undef,tmps.getD t undef]) w:=by
 have hp':tmps[p]?.getD undef = .pointer (some ⟨g,0,none⟩):=by simpa using hp
 simp [results,h,hp',asAddr,run_loadVar_mid w g 0 ty cs d hg hu hd hi]
def DecodeRes (er:Int) (x:Tr) (p:Nat) (w:World) (e:Ending) (w':World):Prop:=∃ xk xn xA xl xc,e = .returned (.tuple #[.agg #[.int .i64 xk,.int .i64 xn,.slice xA xl xc],.int .i64 (p:Int),.int .i64 er]) ∧ TrF (w.heap.size ≤ ·) w' x (.agg #[.int .i64 xk,.int .i64 xn,.slice xA xl xc]) ∧ Below w.heap.size w w'
set_option maxHeartbeats 4000000 in
set_option maxRecDepth 100000 in
theorem decode_any (zs:List Nat) (A:Option Addr) (m cap:Nat) (w:World) (hzs:zs.length = m) (hall:∀ b ∈ zs,b < 256) (hcap:m ≤ cap ∧ cap ≤ maxLen) (hrd:Rd w w.heap.size A (bs zs)) :
  Calls Tryd.prog 40 #[.slice A m cap] w (DecodeRes (dz zs 24 0 0).1 (if (dz zs 24 0 0).1 = 0 then (dz zs 24 0 0).2.1 else z0) (if (dz zs 24 0 0).1 = 0 then (dz zs 24 0 0).2.2.1 else 0) w):=by
 have P0:Arr (w.alloc (.cells #[.slice A m cap] 69)) w.heap.size 1 69 [.slice A m cap]:=Arr.new' w _ _ 1 _ rfl rfl (by decide)
 have V0:=new_later w (.cells #[.slice A m cap] 69)
 have R0:Arr ((w.alloc (.cells #[.slice A m cap] 69)).alloc (.cells #[.int .i64 0,.int .i64 0,.slice none 0 0] 53)) (w.alloc (.cells #[.slice A m cap] 69)).heap.size 3 53 zc3:=Arr.new' _ _ _ 3 zc3 rfl rfl (by decide)
 have b2:=new_later (w.alloc (.cells #[.slice A m cap] 69)) (.cells #[.int .i64 0,.int .i64 0,.slice none 0 0] 53)
 replace P0:=P0.later b2
 have V1:=later V0 b2
 rw [World.size_alloc] at R0
 have hsz:((w.alloc (.cells #[.slice A m cap] 69)).alloc (.cells #[.int .i64 0,.int .i64 0,.slice none 0 0] 53)).heap.size = w.heap.size + 1 + 1:=by simp
 clear V0 b2
 generalize hW:(w.alloc (.cells #[.slice A m cap] 69)).alloc (.cells #[.int .i64 0,.int .i64 0,.slice none 0 0] 53) = wa at P0 R0 V1 hsz
 have HC:Hid (∀ W gm gb gu gf gn,DEnv w W gm gb gu gf gn 0 0 A m cap → Calls Tryd.prog 68 #[.int .i64 1,.pointer (some ⟨gm,0,none⟩),.pointer (some ⟨gb,0,none⟩),.pointer (some ⟨gu,0,none⟩),.pointer (some ⟨gf,0,none⟩)] W (DRes w.heap.size gn gu (dz zs 24 0 0).1 (dz zs 24 0 0).2.1 (dz zs 24 0 0).2.2.1 (dz zs 24 0 0).2.2.2 W)):=Lib.hid fun W gm gb gu gf gn hE =>
  dclo_any zs w gm gb gu gf gn m cap A hzs hall hcap hrd 24 1 0 0 W rfl (by omega) (by omega) hE
 have HPV:=Lib.hid (dz_ok zs 24 0 0 (by omega) (by omega)).1
 generalize (dz zs 24 0 0).1 = er at HC ⊢
 generalize (dz zs 24 0 0).2.1 = Z at HC ⊢
 generalize (dz zs 24 0 0).2.2.1 = q at HC HPV ⊢
 generalize (dz zs 24 0 0).2.2.2 = c2 at HC
 obtain ⟨Zf,hZf⟩:∃ Zf,(if er = 0 then Z else z0) = Zf:=⟨_,rfl⟩
 obtain ⟨qf,hqf⟩:∃ qf,(if er = 0 then q else 0) = qf:=⟨_,rfl⟩
 rw [hZf,hqf]
 have HZF:=Lib.hid hZf
 have HQF:=Lib.hid hqf
 clear hZf hqf
 have HP:=Lib.hid P0
 have HR:=Lib.hid R0
 have HV:=Lib.hid V1
 have HSZ:=Lib.hid hsz
 clear P0 R0 V1 hsz hzs hall hcap hrd
 have HCT:Hid (∀ W,Calls Tryd.prog 54 #[] W fun e w' => e = .returned (.func (.func 80) #[] #[.pointer (some ⟨W.heap.size,0,none⟩)]) ∧ Cnt w' W.heap.size 0 ∧ Below W.heap.size W w' ∧ W.heap.size < w'.heap.size):=Lib.hid fun W => counter_any W
 have HIV:Hid ((Tryd.prog.info? 53).map (·.size) = some zc3.length):=Lib.hid info_val
 go_enter Tryd.func40,Tryd.ntmps40
 go_upto_region 1 with fail
 clear hW
 go_upto_region 4 with (first
  | (go_at_call 54;(with_reducible refine (HCT.out _).mono ?_);rintro e w2 ⟨rfl,hc2,hb2,hl2⟩;have HC2:=Lib.hid hc2;have HB2:=Lib.hid hb2;have HL2:=Lib.hid hl2;clear hc2 hb2 hl2))
 have HW3:=Lib.hid (quad_cells (w:=w2) (u:=.func (.func 80) #[] #[.pointer (some ⟨wa.heap.size,0,none⟩)]) (v:=.int .i64 0) (x:=.func (.func 68) #[] #[.pointer (some ⟨w2.heap.size,0,none⟩),.pointer (some ⟨w.heap.size,0,none⟩),.pointer (some ⟨w2.heap.size + 1,0,none⟩),.pointer (some ⟨w2.heap.size + 1 + 1,0,none⟩)]) (a:=95) (b:=3) (c:=109))
 have HU3:Hid (Cnt (((w2.alloc (.cells #[.func (.func 80) #[] #[.pointer (some ⟨wa.heap.size,0,none⟩)]] 95)).alloc (.cells #[.int .i64 0] 3)).alloc (.cells #[.func (.func 68) #[] #[.pointer (some ⟨w2.heap.size,0,none⟩),.pointer (some ⟨w.heap.size,0,none⟩),.pointer (some ⟨w2.heap.size + 1,0,none⟩),.pointer (some ⟨w2.heap.size + 1 + 1,0,none⟩)]] 109)) (w2.heap.size + 1) 0):=Lib.hid (by
  have h:=(Arr.new' (w2.alloc (.cells #[.func (.func 80) #[] #[.pointer (some ⟨wa.heap.size,0,none⟩)]] 95)) 3 #[.int .i64 0] 1 [.int .i64 0] rfl rfl (by decide)).later (new_later _ (.cells #[.func (.func 68) #[] #[.pointer (some ⟨w2.heap.size,0,none⟩),.pointer (some ⟨w.heap.size,0,none⟩),.pointer (some ⟨w2.heap.size + 1,0,none⟩),.pointer (some ⟨w2.heap.size + 1 + 1,0,none⟩)]] 109))
  rw [World.size_alloc] at h
  exact h)
 have HB3:=Lib.hid (later (later (new_later w2 (.cells #[.func (.func 80) #[] #[.pointer (some ⟨wa.heap.size,0,none⟩)]] 95)) (new_later _ (.cells #[.int .i64 0] 3))) (new_later _ (.cells #[.func (.func 68) #[] #[.pointer (some ⟨w2.heap.size,0,none⟩),.pointer (some ⟨w.heap.size,0,none⟩),.pointer (some ⟨w2.heap.size + 1,0,none⟩),.pointer (some ⟨w2.heap.size + 1 + 1,0,none⟩)]] 109)))
 generalize ((w2.alloc (.cells #[.func (.func 80) #[] #[.pointer (some ⟨wa.heap.size,0,none⟩)]] 95)).alloc (.cells #[.int .i64 0] 3)).alloc (.cells #[.func (.func 68) #[] #[.pointer (some ⟨w2.heap.size,0,none⟩),.pointer (some ⟨w.heap.size,0,none⟩),.pointer (some ⟨w2.heap.size + 1,0,none⟩),.pointer (some ⟨w2.heap.size + 1 + 1,0,none⟩)]] 109) = w3 at HW3 HB3 HU3 ⊢
 have hB13:=later HB2.out HB3.out
 have HR3:=Lib.hid (HR.out.later hB13)
 have hV3:=later HV.out hB13
 have HE3:Hid (DEnv w w3 w2.heap.size w.heap.size (w2.heap.size + 1) (w2.heap.size + 1 + 1) wa.heap.size 0 0 A m cap):=Lib.hid (by
  have h1:=HL2.out
  have h2:=HSZ.out
  exact ⟨hV3,HW3.out.1,(HP.out.later hB13).cell (j:=0) rfl,HW3.out.2.2,HC2.out.later HB3.out,HU3.out,by omega,by omega,by omega,by omega,by omega,by omega,by omega,by omega,by omega⟩)
 have hl2:=HL2.out
 have hsz2:=HSZ.out
 have hcf:=HW3.out.2.2
 have HV3:=Lib.hid hV3
 have HNE:Hid (w.heap.size + 1 ≠ wa.heap.size ∧ w.heap.size + 1 ≠ w2.heap.size + 1):=Lib.hid ⟨by omega,by omega⟩
 have h3l:w.heap.size + 2 ≤ w3.heap.size:=by have:=hB13.size;omega
 have hgn1:w.heap.size ≠ w2.heap.size:=by omega
 have hgn2:w2.heap.size ≠ w.heap.size:=by omega
 clear hV3 hB13 hl2 hsz2
 go_upto_region 5 with (first
  | (go_at_call 68;(with_reducible refine (HC.out _ _ _ _ _ _ HE3.out).mono ?_);rintro e w9 ⟨xk,xn,xA,xl,xc,rfl,hT9,hc9,hu9,hf9⟩;have HT9:=Lib.hid hT9;have HU9:=Lib.hid hu9;have HF9:=Lib.hid hf9;clear hT9 hc9 hu9 hf9))
 have b10:=new_later w9 (.cells #[.int .i64 xk,.int .i64 xn,.slice xA xl xc] 53)
 have A14:Arr (w9.alloc (.cells #[.int .i64 xk,.int .i64 xn,.slice xA xl xc] 53)) w9.heap.size 3 53 [.int .i64 xk,.int .i64 xn,.slice xA xl xc]:=Arr.new' w9 _ _ 3 _ rfl rfl (by decide)
 generalize w9.alloc (.cells #[.int .i64 xk,.int .i64 xn,.slice xA xl xc] 53) = w10 at b10 A14 ⊢
 have R9:=HR3.out.fr2 HF9.out HNE.out.1 HNE.out.2
 have R10:=R9.later b10
 have HV10:=Lib.hid ((HV3.out.trans HF9.out.1).trans (b10.mono (by have:=HF9.out.1.size;omega)))
 have hcu:=(HU9.out.later b10).cell (j:=0) (v:=.int .i64 (q:Int)) rfl
 have h10:w.heap.size + 1 < w9.heap.size:=R9.lt
 have HT10:Hid (TrF (fun g => w.heap.size + 1 < g) w10 Z (.agg #[.int .i64 xk,.int .i64 xn,.slice xA xl xc])):=Lib.hid ((TrF.both HT9.out HT9.out.at_.old).keep (fun k hk => by have:=hk.1;omega) (fun k hk _ => b10.block k hk.2))
 by_cases he:er = 0
 ·have hne:(er != 0) = false:=by rw [bne_eq_false_iff_eq];exact he
  have HE:=Lib.hid he
  have x0:=A14.cell (j:=0) (v:=.int .i64 xk) rfl
  have x1:=A14.cell (j:=1) (v:=.int .i64 xn) rfl
  have x2:=A14.cell (j:=2) (v:=.slice xA xl xc) rfl
  have r0:=R10.cell (j:=0) (v:=.int .i64 0) rfl
  have r1:=R10.cell (j:=1) (v:=.int .i64 0) rfl
  have r2:=R10.cell (j:=2) (v:=.slice none 0 0) rfl
  have f0:=R10.free 0
  have f1:=R10.free 1
  have f2:=R10.free 2
  have HR10:=Lib.hid R10
  clear he R9 R10 A14 b10
  go_upto_region 7 with fail
  go_region
  all_goals
   have A12:Arr ((((w10.setCell ⟨w.heap.size + 1,0,none⟩ (.int .i64 xk)).setCell ⟨w.heap.size + 1,1,none⟩ (.int .i64 xn)).setCell ⟨w.heap.size + 1,2,none⟩ (.slice xA xl xc)).drew) (w.heap.size + 1) 3 53 [.int .i64 xk,.int .i64 xn,.slice xA xl xc]:=((HR10.out.set_ 0 (.int .i64 xk)).set_ 1 (.int .i64 xn)).set_ 2 (.slice xA xl xc)
   have hO:=Only.setCells (w.heap.size + 1) 0 [.int .i64 xk,.int .i64 xn,.slice xA xl xc] w10
   have hB12:Below w.heap.size w ((((w10.setCell ⟨w.heap.size + 1,0,none⟩ (.int .i64 xk)).setCell ⟨w.heap.size + 1,1,none⟩ (.int .i64 xn)).setCell ⟨w.heap.size + 1,2,none⟩ (.slice xA xl xc)).drew):=below_drew' (HV10.out.trans (hO.bel.mono (by omega)))
   have hT12:TrF (w.heap.size ≤ ·) ((((w10.setCell ⟨w.heap.size + 1,0,none⟩ (.int .i64 xk)).setCell ⟨w.heap.size + 1,1,none⟩ (.int .i64 xn)).setCell ⟨w.heap.size + 1,2,none⟩ (.slice xA xl xc)).drew) Z (.agg #[.int .i64 xk,.int .i64 xn,.slice xA xl xc]):=TrF.keep (w':=(((w10.setCell ⟨w.heap.size + 1,0,none⟩ (.int .i64 xk)).setCell ⟨w.heap.size + 1,1,none⟩ (.int .i64 xn)).setCell ⟨w.heap.size + 1,2,none⟩ (.slice xA xl xc)).drew) (fun k hk => by omega) (fun k hk _ => (hO.2 k (by omega):_)) HT10.out
   generalize (((w10.setCell ⟨w.heap.size + 1,0,none⟩ (.int .i64 xk)).setCell ⟨w.heap.size + 1,1,none⟩ (.int .i64 xn)).setCell ⟨w.heap.size + 1,2,none⟩ (.slice xA xl xc)).drew = w12 at A12 hB12 hT12 ⊢
   have HI3:(Tryd.prog.info? 53).map (·.size) = some ([.int .i64 xk,.int .i64 xn,.slice xA xl xc]:List Value).length:=info_val
   clear hO
   go_wp2_with fail
   refine bodyPost_ret (results_cellBB rfl _ _ (w.heap.size + 1) [.int .i64 xk,.int .i64 xn,.slice xA xl xc] _ rfl A12.range Tryd.underlying53 rfl HI3) rfl ?_
   exact ⟨xk,xn,xA,xl,xc,by rw [← HQF.out,if_pos HE.out,HE.out];rfl,by rw [← HZF.out,if_pos HE.out];exact hT12,hB12⟩
 ·have hne:(er != 0) = true:=by rw [bne_iff_ne];exact he
  have HE:=Lib.hid he
  have HR10:=Lib.hid R10
  clear he R9 R10 A14 b10 hcu
  go_wp2_with (refine wpList_store_arr rfl _ (.tmp 2) (.tmp 19) rfl (w.heap.size + 1) 0 3 53 _ zc3 zc3 rfl rfl rfl HR10.out (by decide) HIV.out zc3_one ?_;intro w12 f12 o12)
  rw [setAll_all _ _ rfl] at f12
  refine bodyPost_ret (results_cellBB rfl _ _ (w.heap.size + 1) zc3 _ rfl f12.range Tryd.underlying53 rfl HIV.out) rfl ?_
  rw [← HZF.out,← HQF.out,if_neg HE.out,if_neg HE.out]
  exact ⟨0,0,none,0,0,rfl,tr_z0 _ _,HV10.out.trans (o12.bel.mono (by omega))⟩
end Go.Proofs.YtmfihlcibephlaaDoor
namespace Go.Proofs.YtmfihlcibephlaaDoor
open Go.RowKit
theorem results_cell3 {P:Program} {fn:Func} {p u t s:Tmp} {ty:TypeId} (h:fn.results = #[.cell p ty,.tmp u,.tmp t,.tmp s]) (tmps:Array Value) (w:World) (g:Nat) (cs:List Value) (d:TypeDesc)
  (hp:tmps.getD p undef = .pointer (some ⟨g,0,none⟩)) (hg:w.rangeAt g 0 cs)
  (hu:P.underlying ty = some d) (hd:d.isRow = true) (hi:(P.info? ty).map (·.size) = some cs.length) :
  (results fn tmps).run P w = .ok (.tuple #[.agg cs.toArray,tmps.getD u undef,tmps.getD t undef,tmps.getD s undef]) w:=by
 have hp':tmps[p]?.getD undef = .pointer (some ⟨g,0,none⟩):=by simpa using hp
 simp [results,h,hp',asAddr,run_loadVar_mid w g 0 ty cs d hg hu hd hi]
def DcR (er:Int) (x:Tr) (q c:Nat) (W:World) (e:Ending) (w':World):Prop:=∃ (xk xn:Int) (xA:Option Addr) (xl xc q' c':Nat),e = .returned (.tuple #[.agg #[.int .i64 xk,.int .i64 xn,.slice xA xl xc],.int .i64 (q':Int),.int .i64 (c':Int),.int .i64 er]) ∧ (er = 0 → q' = q ∧ c' = c ∧ TrF (W.heap.size ≤ ·) w' x (.agg #[.int .i64 xk,.int .i64 xn,.slice xA xl xc])) ∧ (er ≠ 0 → xk = 0 ∧ xn = 0 ∧ xA = none ∧ xl = 0 ∧ xc = 0 ∧ q' = 0 ∧ c' ≤ 257) ∧ Below W.heap.size W w'
theorem gi_at (zs:List Nat) (A:Option Addr) (m cap:Nat) (W:World) (hzs:zs.length = m) (hall:∀ b ∈ zs,b < 256) (hcap:m ≤ cap ∧ cap ≤ maxLen) (hrd:Rd W W.heap.size A (bs zs)) (q:Nat) (hq:q ≤ m) :
  ∃ (A':Option Addr) (N:Int) (U er:Nat),dec (zs.drop q) = (N,U,er) ∧ (∀ W1,(Instr.slice 69 (.slice A m cap) (some (.int .i64 (q:Int))) none none).run Tryd.prog W1 = .ok (.slice A' (m - q) (cap - q)) W1) ∧
   Hid (∀ W1,Below W.heap.size W W1 → Calls Tryd.prog 84 #[.slice A' (m - q) (cap - q)] W1 fun e w' => e = .returned (.tuple #[.int .i64 N,.int .i64 (U:Int),.int .i64 (er:Int)]) ∧ Below W1.heap.size W1 w'):=by
 obtain ⟨A',hsl,hrd2⟩:=slice_fromB A m cap q hq hcap.1 hcap.2
 obtain ⟨⟨N,U,er⟩,hdec⟩:∃ r,dec (zs.drop q) = r:=⟨_,rfl⟩
 refine ⟨A',N,U,er,hdec,hsl,Lib.hid fun W1 hb => ?_⟩
 exact refGetInt_call (m - q) (cap - q) A' (zs.drop q) W1 hdec (by rw [List.length_drop,hzs]) (hrd2 W1 W1.heap.size zs hzs ((hrd.below hb).more hb.size)) (fun x hx => hall x (List.mem_of_mem_drop hx)) (by have:=hcap;omega) (by have:=hcap;omega)
set_option maxHeartbeats 4000000 in
set_option maxRecDepth 100000 in
theorem rdc_A (A:Option Addr) (m cap p d c:Nat) (W:World) (hd:d ≤ 25) (hc:c ≤ 256) (x:Tr) (q c2:Nat) (hfc:c = 256 ∨ 24 < d) :
  Calls Tryd.prog 70 #[.slice A m cap,.int .i64 (p:Int),.int .i64 (d:Int),.int .i64 (c:Int)] W (DcR 4 x q c2 W):=by
 have Q0:Arr (W.alloc (.cells #[.int .i64 0,.int .i64 0,.slice none 0 0] 53)) W.heap.size 3 53 zc3:=Arr.new' _ _ _ 3 zc3 rfl rfl (by decide)
 have V1:=new_later W (.cells #[.int .i64 0,.int .i64 0,.slice none 0 0] 53)
 generalize hW:W.alloc (.cells #[.int .i64 0,.int .i64 0,.slice none 0 0] 53) = wa at V1 Q0
 have HX:=Lib.hid Q0
 have HV:=Lib.hid V1
 have HIV:Hid ((Tryd.prog.info? 53).map (·.size) = some zc3.length):=Lib.hid info_val
 have hc0:(c:Int) ≤ 256:=by omega
 have hc1:(0:Int) ≤ (c:Int):=by omega
 clear Q0 V1
 have HFC:=Lib.hid hfc
 clear hfc
 have h1:((c:Int) + 1 > 256) ∨ (¬ ((c:Int) + 1 > 256) ∧ ((d:Int) > 24)):=by have:=HFC.out;omega
 rcases h1 with h1 | ⟨h1,h2⟩
 ·go_enter Tryd.func70,Tryd.ntmps70
  go_upto_region 1 with fail
  clear hW
  go_wp2_with (refine wpList_store_arr rfl _ (.tmp 8) (.tmp 35) rfl W.heap.size 0 3 53 _ zc3 zc3 rfl rfl rfl HX.out (by decide) HIV.out zc3_one ?_;intro w12 f12 o12)
  rw [setAll_all _ _ rfl] at f12
  refine bodyPost_ret (results_cell3 rfl _ _ W.heap.size zc3 _ rfl f12.range Tryd.underlying53 rfl HIV.out) rfl ?_
  exact ⟨0,0,none,0,0,0,c + 1,rfl,fun h => absurd h (by first | decide | exact (by decide)),fun _ => ⟨rfl,rfl,rfl,rfl,rfl,rfl,by omega⟩,HV.out.trans (o12.bel.mono (Nat.le_refl _))⟩
 ·go_enter Tryd.func70,Tryd.ntmps70
  go_upto_region 1 with fail
  clear hW
  go_wp2_with (refine wpList_store_arr rfl _ (.tmp 8) (.tmp 35) rfl W.heap.size 0 3 53 _ zc3 zc3 rfl rfl rfl HX.out (by decide) HIV.out zc3_one ?_;intro w12 f12 o12)
  rw [setAll_all _ _ rfl] at f12
  refine bodyPost_ret (results_cell3 rfl _ _ W.heap.size zc3 _ rfl f12.range Tryd.underlying53 rfl HIV.out) rfl ?_
  exact ⟨0,0,none,0,0,0,c + 1,rfl,fun h => absurd h (by first | decide | exact (by decide)),fun _ => ⟨rfl,rfl,rfl,rfl,rfl,rfl,by omega⟩,HV.out.trans (o12.bel.mono (Nat.le_refl _))⟩
theorem dz_e1 {zs:List Nat} {f p c:Nat} {N:Int} {U er:Nat} (hc:c < 256) (h1:dec (zs.drop p) = (N,U,er)) (he:er ≠ 0):dz zs (f + 1) p c = ((er:Int),z0,p,c + 1):=by
 have h:dh0 zs p = (er,0,0,0,p):=by rw [dh0,h1];simp [he]
 rw [dz_form,if_neg (by omega),h,if_pos he]
theorem dz_e2 {zs:List Nat} {f p c:Nat} {N N2:Int} {U U2 er:Nat} (hc:c < 256) (h1:dec (zs.drop p) = (N,U,0)) (h2:dec (zs.drop (p + U)) = (N2,U2,er)) (he:er ≠ 0):dz zs (f + 1) p c = ((er:Int),z0,p + U,c + 1):=by
 have h:dh0 zs p = (er,0,0,0,p + U):=by rw [dh0,h1];simp only [if_pos];rw [dh1,h2];simp [he]
 rw [dz_form,if_neg (by omega),h,if_pos he]
theorem dz_e3 {zs:List Nat} {f p c:Nat} {N N2 N3:Int} {U U2 U3 er:Nat} (hc:c < 256) (h1:dec (zs.drop p) = (N,U,0)) (h2:dec (zs.drop (p + U)) = (N2,U2,0)) (h3:dec (zs.drop (p + U + U2)) = (N3,U3,er)) (he:er ≠ 0):dz zs (f + 1) p c = ((er:Int),z0,p + U + U2,c + 1):=by
 have h:dh0 zs p = (er,0,0,0,p + U + U2):=by rw [dh0,h1];simp only [if_pos];rw [dh1,h2];simp only [if_pos];rw [dh2,h3];simp [he]
 rw [dz_form,if_neg (by omega),h,if_pos he]
theorem dz_h {zs:List Nat} {f p c:Nat} {N N2 N3:Int} {U U2 U3:Nat} (hc:c < 256) (h1:dec (zs.drop p) = (N,U,0)) (h2:dec (zs.drop (p + U)) = (N2,U2,0)) (h3:dec (zs.drop (p + U + U2)) = (N3,U3,0)):dz zs (f + 1) p c = if N3 < 0 then (2,z0,p + U + U2 + U3,c + 1) else dzL (dz zs f) N N2 N3.toNat [] (p + U + U2 + U3) (c + 1):=by
 have h:dh0 zs p = (0,N,N2,N3,p + U + U2 + U3):=by rw [dh0,h1];simp only [if_pos];rw [dh1,h2];simp only [if_pos];rw [dh2,h3];simp
 rw [dz_form,if_neg (by omega),h]
 simp
set_option maxHeartbeats 16000000 in
set_option maxRecDepth 100000 in
theorem rdc_B (zs:List Nat) (A:Option Addr) (m cap p d c:Nat) (W:World) (hzs:zs.length = m) (hall:∀ b ∈ zs,b < 256) (hcap:m ≤ cap ∧ cap ≤ maxLen) (hrd:Rd W W.heap.size A (bs zs)) (hp:p ≤ m) (hcd:c < 256 ∧ d ≤ 24) (f:Nat)
  (ih:Hid (∀ (p' c':Nat) (W':World),p' ≤ m → c' ≤ 256 → Below W.heap.size W W' → Calls Tryd.prog 70 #[.slice A m cap,.int .i64 (p':Int),.int .i64 ((d + 1:Nat):Int),.int .i64 (c':Int)] W' (DcR (dz zs f p' c').1 (dz zs f p' c').2.1 (dz zs f p' c').2.2.1 (dz zs f p' c').2.2.2 W'))) :
  Calls Tryd.prog 70 #[.slice A m cap,.int .i64 (p:Int),.int .i64 (d:Int),.int .i64 (c:Int)] W (DcR (dz zs (f + 1) p c).1 (dz zs (f + 1) p c).2.1 (dz zs (f + 1) p c).2.2.1 (dz zs (f + 1) p c).2.2.2 W):=by
 obtain ⟨R2,hR2⟩:∃ R,dz zs (f + 1) p c = R:=⟨_,rfl⟩
 rw [hR2]
 have HR2:=Lib.hid hR2
 clear hR2
 have HGA:=Lib.hid (gi_at zs A m cap W hzs hall hcap hrd)
 have HDD:Hid (∀ q N U,q ≤ m → dec (zs.drop q) = (N,U,0) → q + U ≤ m ∧ i64r N):=Lib.hid fun q N U hq h => by
  have h1:=dec_drop (zs:=zs) (p:=q) (by omega) (by rw [h])
  rw [h,hzs] at h1
  exact h1
 obtain ⟨A1,N1,U1,e1,hd1,hs1,HG1⟩:=HGA.out p hp
 have HD1:=Lib.hid hd1
 have HZS:=Lib.hid hzs
 have HCAP:=Lib.hid hcap
 have HCD:=Lib.hid hcd
 have HP:=Lib.hid hp
 have Q0:Arr (W.alloc (.cells #[.int .i64 0,.int .i64 0,.slice none 0 0] 53)) W.heap.size 3 53 zc3:=Arr.new' _ _ _ 3 zc3 rfl rfl (by decide)
 have V1:=new_later W (.cells #[.int .i64 0,.int .i64 0,.slice none 0 0] 53)
 generalize hW:W.alloc (.cells #[.int .i64 0,.int .i64 0,.slice none 0 0] 53) = wa at V1 Q0
 have HX:=Lib.hid Q0
 have HV:=Lib.hid V1
 have HIV:Hid ((Tryd.prog.info? 53).map (·.size) = some zc3.length):=Lib.hid info_val
 have hc0:(c:Int) ≤ 255:=by omega
 have hc1:(0:Int) ≤ (c:Int):=by omega
 have hc2:¬ ((c:Int) + 1 > 256):=by omega
 have hd2:¬ ((d:Int) > 24):=by omega
 have hp0:(0:Int) ≤ (p:Int):=by omega
 have hp1:(p:Int) ≤ (m:Int):=by omega
 have hm64:(m:Int) ≤ 9223372036854775807:=by have:=HCAP.out;simp only [maxLen] at this;omega
 clear Q0 V1 hd1 hzs hall hcap hrd hp hcd
 go_enter Tryd.func70,Tryd.ntmps70
 go_upto_region 1 with fail
 clear hW
 go_upto_region 5 with (go_at_call 84;(with_reducible refine (HG1.out _ HV.out).mono ?_);rintro e w3 ⟨rfl,hb3⟩;have HB3:=Lib.hid (later HV.out hb3);have HX3:=Lib.hid (HX.out.later hb3);clear hb3)
 clear hs1 HG1 HX HV hc2 hd2
 by_cases he1:e1 = 0
 ·subst he1
  rw [show (((0:Nat)):Int) = 0 from rfl]
  obtain ⟨hq1,hN1⟩:=HDD.out p N1 U1 HP.out HD1.out
  obtain ⟨A2,N2,U2,e2,hd2,hs2,HG2⟩:=HGA.out (p + U1) hq1
  have hs2':∀ W1,(Instr.slice 69 (.slice A m cap) (some (.int .i64 ((p:Int) + (U1:Int)))) none none).run Tryd.prog W1 = .ok (.slice A2 (m - (p + U1)) (cap - (p + U1))) W1:=fun W1 => by
   have h:=hs2 W1
   rwa [show ((p + U1:Nat):Int) = (p:Int) + (U1:Int) by omega] at h
  have HD2:=Lib.hid hd2
  have HQ1:=Lib.hid hq1
  have HN1:=Lib.hid hN1
  have hu0:(0:Int) ≤ (U1:Int):=by omega
  have hu1:(p:Int) + (U1:Int) ≤ (m:Int):=by omega
  clear hd2 hs2 hq1 hN1
  go_upto_region 8 with (go_at_call 84;(with_reducible refine (HG2.out _ HB3.out).mono ?_);rintro e w4 ⟨rfl,hb4⟩;have HB4:=Lib.hid (later HB3.out hb4);have HX4:=Lib.hid (HX3.out.later hb4);clear hb4)
  clear hs2' HG2 HX3 HB3
  by_cases he2:e2 = 0
  ·subst he2
   rw [show (((0:Nat)):Int) = 0 from rfl]
   obtain ⟨hq2,hN2⟩:=HDD.out (p + U1) N2 U2 HQ1.out HD2.out
   obtain ⟨A3,N3,U3,e3,hd3,hs3,HG3⟩:=HGA.out (p + U1 + U2) hq2
   have hs3':∀ W1,(Instr.slice 69 (.slice A m cap) (some (.int .i64 ((p:Int) + (U1:Int) + (U2:Int)))) none none).run Tryd.prog W1 = .ok (.slice A3 (m - (p + U1 + U2)) (cap - (p + U1 + U2))) W1:=fun W1 => by
    have h:=hs3 W1
    rwa [show ((p + U1 + U2:Nat):Int) = (p:Int) + (U1:Int) + (U2:Int) by omega] at h
   have HD3:=Lib.hid hd3
   have HQ2:=Lib.hid hq2
   have HN2:=Lib.hid hN2
   have hu2:(0:Int) ≤ (U2:Int):=by omega
   have hu3:(p:Int) + (U1:Int) + (U2:Int) ≤ (m:Int):=by omega
   clear hd3 hs3 hq2 hN2
   go_upto_region 11 with (go_at_call 84;(with_reducible refine (HG3.out _ HB4.out).mono ?_);rintro e w5 ⟨rfl,hb5⟩;have HB5:=Lib.hid (later HB4.out hb5);have HX5:=Lib.hid (HX4.out.later hb5);clear hb5)
   clear hs3' HG3 HX4 HB4
   by_cases he3:e3 = 0
   ·subst he3
    rw [show (((0:Nat)):Int) = 0 from rfl]
    obtain ⟨hq3,hN3⟩:=HDD.out (p + U1 + U2) N3 U3 HQ2.out HD3.out
    have HH:=Lib.hid (dz_h (f:=f) HCD.out.1 HD1.out HD2.out HD3.out)
    have HQ3:=Lib.hid hq3
    have HN3:=Lib.hid hN3
    have hu4:(0:Int) ≤ (U3:Int):=by omega
    have hu5:(p:Int) + (U1:Int) + (U2:Int) + (U3:Int) ≤ (m:Int):=by omega
    clear hq3 hN3 HGA HDD HD1 HD2 HD3 HQ1 HQ2
    by_cases hneg:N3 < 0
    ·have HNG:=Lib.hid hneg
     have h3:(2,z0,p + U1 + U2 + U3,c + 1) = R2:=by rw [← HR2.out,HH.out,if_pos HNG.out]
     subst h3
     clear HR2 HH
     go_wp2_with (refine wpList_store_arr rfl _ (.tmp 8) (.tmp 84) rfl W.heap.size 0 3 53 _ zc3 zc3 rfl rfl rfl HX5.out (by decide) HIV.out zc3_one ?_;intro w12 f12 o12)
     rw [setAll_all _ _ rfl] at f12
     refine bodyPost_ret (results_cell3 rfl _ _ W.heap.size zc3 _ rfl f12.range Tryd.underlying53 rfl HIV.out) rfl ?_
     exact ⟨0,0,none,0,0,0,c + 1,rfl,fun h => absurd h (by first | decide | exact by omega),fun _ => ⟨rfl,rfl,rfl,rfl,rfl,rfl,by omega⟩,HB5.out.trans (o12.bel.mono (Nat.le_refl _))⟩
    ·obtain ⟨M,rfl⟩:=Int.eq_ofNat_of_zero_le (show 0 ≤ N3 by omega)
     have HR4:Hid (dzL (dz zs f) N1 N2 M [] (p + U1 + U2 + U3) (c + 1) = R2):=Lib.hid (by rw [← HR2.out,HH.out,if_neg hneg,Int.toNat_natCast])
     have hM64:(M:Int) ≤ 9223372036854775807:=HN3.out.2
     have hM0:(0:Int) ≤ (M:Int):=by omega
     have hM1:¬ ((M:Int) < 0):=by omega
     obtain ⟨q,hq⟩:∃ q,p + U1 + U2 + U3 = q:=⟨_,rfl⟩
     have hqi:(p:Int) + (U1:Int) + (U2:Int) + (U3:Int) = (q:Int):=by omega
     rw [hq] at HR4 HQ3
     have HQI:=Lib.hid hqi
     clear HR2 HH hneg hq hqi
     go_upto_region 16 with fail
     rw [HQI.out]
     have hbv:∀ W1,(Instr.build 53 #[(0,.int .i64 N1),(1,.int .i64 N2)]).run Tryd.prog W1 = .ok (.agg #[.int .i64 N1,.int .i64 N2,.slice none 0 0]) W1:=fun W1 => run_build W1 _ _ _ (by kernel_rfl)
     have hWg:W.heap.size < w5.heap.size:=HX5.out.lt
     go_upto_region 17 with fail
     have hA6:Arr (w5.alloc (.cells #[.int .i64 N1,.int .i64 N2,.slice none 0 0] 53)) w5.heap.size 3 53 [.int .i64 N1,.int .i64 N2,.slice none 0 0]:=Arr.new' w5 _ _ 3 _ rfl rfl (by decide)
     have hL6:=new_later w5 (.cells #[.int .i64 N1,.int .i64 N2,.slice none 0 0] 53)
     generalize w5.alloc (.cells #[.int .i64 N1,.int .i64 N2,.slice none 0 0] 53) = w6 at hA6 hL6 ⊢
     have HA6:=Lib.hid hA6
     have HL6:=Lib.hid hL6
     clear hA6 hL6
     have HB6:=Lib.hid (later HB5.out HL6.out)
     have HX6:=Lib.hid (HX5.out.later HL6.out)
     obtain ⟨g21,hg21⟩:∃ g,w5.heap.size = g:=⟨_,rfl⟩
     rw [hg21] at HA6 hWg ⊢
     clear hbv HL6 HX5 HB5 hg21 HQI
     go_wp2_with fail
     go_loopw [1,3,22] (fun a1 a3 ii W' => ∃ (j c' q':Nat) (v:Value) (acc:List Tr),j ≤ M ∧ ii = .int .i64 (j:Int) ∧ a1 = .int .i64 (q':Int) ∧ a3 = .int .i64 (c':Int) ∧ acc.length = j ∧ j ≤ c' ∧ c' ≤ 256 ∧ q' ≤ m ∧ Arr W' W.heap.size 3 53 zc3 ∧ Arr W' g21 3 53 [.int .i64 N1,.int .i64 N2,v] ∧ Grow W' (g21 + 1) v acc ∧ Below W.heap.size W W' ∧ Hid (dzL (dz zs f) N1 N2 (M - j) acc q' c' = R2)) (fun _ _ ii _ => M - (intOf ii).toNat)
     case atStart => exact ⟨0,c + 1,q,_,[],by omega,by go_num,by go_num,by go_num,rfl,by omega,by have:=HCD.out.1;omega,HQ3.out,HX6.out,HA6.out,Grow.nil _ _,HB6.out,Lib.hid (by rw [Nat.sub_zero];exact HR4.out)⟩
     case round =>
      clear HX6 HA6 HB6 HR4
      obtain ⟨j,c',q',v,acc,hj,rfl,rfl,rfl,hacc,hjc,hc',hq',X7,A7,G7,B7,HRJ⟩:=hrel
      have hj0:(0:Int) ≤ (j:Int):=by omega
      have hjm:(j:Int) + 1 ≤ 9223372036854775807:=by omega
      have HX7:=Lib.hid X7
      have HA7:=Lib.hid A7
      have HG7:=Lib.hid G7
      have HB7:=Lib.hid B7
      have HACC:=Lib.hid hacc
      have HC':=Lib.hid hc'
      have HJC:=Lib.hid hjc
      have HQ':=Lib.hid hq'
      clear X7 A7 G7 B7 hacc hjc hc' hq'
      by_cases hlt:j < M
      ·have hji:(j:Int) < (M:Int):=by omega
       have hrj:=HRJ.out
       rw [show M - j = (M - (j + 1)) + 1 from by omega,dzL] at hrj
       have HPV:=Lib.hid (dz_ok zs f q' c' (by rw [HZS.out];exact HQ'.out) HC'.out)
       have HIJ:Hid (∀ W',Below W.heap.size W W' → Calls Tryd.prog 70 #[.slice A m cap,.int .i64 (q':Int),.int .i64 ((d:Int) + 1),.int .i64 (c':Int)] W' (DcR (dz zs f q' c').1 (dz zs f q' c').2.1 (dz zs f q' c').2.2.1 (dz zs f q' c').2.2.2 W')):=Lib.hid fun W' hw => by
        have h:=ih.out q' c' W' HQ'.out HC'.out hw
        rwa [show ((d + 1:Nat):Int) = (d:Int) + 1 by omega] at h
       obtain ⟨⟨er,x,q2,c2⟩,hpv⟩:∃ bc,dz zs f q' c' = bc:=⟨_,rfl⟩
       rw [hpv] at hrj HIJ HPV
       replace HPV:Hid (q2 ≤ zs.length ∧ c2 ≤ 256 ∧ c' ≤ c2 ∧ (er = 0 → c' + 1 ≤ c2)):=HPV
       replace HIJ:Hid (∀ W',Below W.heap.size W W' → Calls Tryd.prog 70 #[.slice A m cap,.int .i64 (q':Int),.int .i64 ((d:Int) + 1),.int .i64 (c':Int)] W' (DcR er x q2 c2 W')):=HIJ
       have HRR:Hid ((er = 0 → dzL (dz zs f) N1 N2 (M - (j + 1)) (acc ++ [x]) q2 c2 = R2) ∧ (er ≠ 0 → (er,z0,q2,c2) = R2)):=Lib.hid (by
        by_cases he:er = 0
        ·rw [if_pos he] at hrj;exact ⟨fun _ => hrj,fun h => absurd he h⟩
        ·rw [if_neg he] at hrj;exact ⟨fun h => absurd h he,fun _ => hrj⟩)
       have hd64:(d:Int) + 1 ≤ 9223372036854775807:=by have:=HCD.out.2;omega
       have hd0:(0:Int) ≤ (d:Int):=by omega
       have HLT:=Lib.hid hlt
       have HJ:=Lib.hid hj
       clear hpv hrj HRJ ih hlt hj
       go_upto_region 21 with (first
        | (go_at_call 70;(with_reducible refine (HIJ.out _ HB7.out).mono ?_);rintro e w9 ⟨xk,xn,xA,xl,xc,qq,cc,rfl,hz9,hn9,hb9⟩;have HZ9:=Lib.hid hz9;have HN9:=Lib.hid hn9;have HL9:=Lib.hid hb9;clear hz9 hn9 hb9))
       clear HIJ
       have b10:=new_later w9 (.cells #[.int .i64 xk,.int .i64 xn,.slice xA xl xc] 53)
       have A14:Arr (w9.alloc (.cells #[.int .i64 xk,.int .i64 xn,.slice xA xl xc] 53)) w9.heap.size 3 53 [.int .i64 xk,.int .i64 xn,.slice xA xl xc]:=Arr.new' w9 _ _ 3 _ rfl rfl (by decide)
       generalize w9.alloc (.cells #[.int .i64 xk,.int .i64 xn,.slice xA xl xc] 53) = w10 at b10 A14 ⊢
       have HL10:=Lib.hid (later HL9.out b10)
       have HB10:=Lib.hid (later HB7.out HL10.out)
       have HX10:=Lib.hid (HX7.out.later HL10.out)
       by_cases he:er = 0
       ·have hneq:(er != 0) = false:=by rw [bne_eq_false_iff_eq];exact he
        have HE0:=Lib.hid he
        obtain ⟨hqq,hcc,hT9⟩:=HZ9.out he
        have hg21:g21 < wr.heap.size:=HA7.out.lt
        have hA10:Arr w10 g21 3 53 [.int .i64 N1,.int .i64 N2,v]:=HA7.out.later HL10.out
        have HG10:Hid (Grow w10 (g21 + 1) v acc):=Lib.hid (HG7.out.keep fun k hk hl => HL10.out.block k hl)
        have HT10:Hid (TrF (fun g => g21 + 1 ≤ g ∧ v.ownBlock ≠ some g) w10 x (.agg ([.int .i64 xk,.int .i64 xn,.slice xA xl xc]:List Value).toArray)):=Lib.hid (by
         have h1:=TrF.both hT9 hT9.at_.old
         obtain ⟨L,hown,_⟩:=HG7.out
         exact h1.keep (fun k hk => ⟨by have:=hk.1;omega,fun hv => by have h:=(hown.lt k hv).2;have:=hk.1;omega⟩) (fun k hk _ => b10.block k hk.2))
        have HBB:Hid (g21 + 1 ≤ w10.heap.size):=Lib.hid (by have:=HL10.out.size;omega)
        have HAL:Hid (acc.length + 1 ≤ 1000000000000):=Lib.hid (by have:=HACC.out;have:=HC'.out;have:=HJC.out;omega)
        have x0:=A14.cell (j:=0) (v:=.int .i64 xk) rfl
        have x1:=A14.cell (j:=1) (v:=.int .i64 xn) rfl
        have x2:=A14.cell (j:=2) (v:=.slice xA xl xc) rfl
        have hv11:=hA10.cell (j:=2) (v:=v) rfl
        have HA10:=Lib.hid hA10
        have HLT11:Hid (g21 < g21 + 1):=Lib.hid (by omega)
        have HQQ:=Lib.hid hqq
        have HCC:=Lib.hid hcc
        clear he hqq hcc hT9 hA10 HZ9 HN9 A14 b10 hg21
        go_wp2_with (first
         | (at_builtin;refine wpList_putT (C:=[.int .i64 xk,.int .i64 xn,.slice xA xl xc]) rfl HG10.out HT10.out HBB.out HAL.out rfl _ _ rfl rfl rfl ?_;intro gN capN w11 hG11 hb11;have HG11:=Lib.hid hG11;have HB11:=Lib.hid hb11;have hA11:=HA10.out.below hb11 HLT11.out;have hc112:=hA11.cell (j:=2) (v:=v) rfl;have hf112:=hA11.free 2;have HA11':=Lib.hid hA11;clear hG11 hb11 hA11 hv11 x0 x1 x2))
        go_roundw
        case rel =>
         have hj1:=HLT.out
         have hpv:=HPV.out.2.2.2 HE0.out
         exact ⟨j + 1,cc,qq,_,acc ++ [x],hj1,by go_num,by go_num,by go_num,by simp [HACC.out],by have:=HJC.out;rw [HCC.out];omega,by rw [HCC.out];exact HPV.out.2.1,by rw [HQQ.out,← HZS.out];exact HPV.out.1,((HX10.out.below HB11.out (by omega)).other (by omega) _),HA11'.out.set_ 2 _,HG11.out.keep fun k hk hl => Below.heap_setCell _ _ _ _ (by simp;omega),(HB10.out.trans (HB11.out.mono (by omega))).setCell (p:=⟨g21,2,none⟩) (by show W.heap.size ≤ g21;omega) _,Lib.hid (by rw [HQQ.out,HCC.out];exact HRR.out.1 HE0.out)⟩
        case measure => have:=HLT.out;simp [intOf];omega
       ·have hneq:(er != 0) = true:=by rw [bne_iff_ne];exact he
        have h3:=HRR.out.2 he
        subst h3
        have HE1:=Lib.hid he
        have HC257:Hid (cc ≤ 257):=Lib.hid (HN9.out he).2.2.2.2.2.2
        clear he HRR HZ9 HN9 A14 b10
        go_wp2_with (refine wpList_store_arr rfl _ (.tmp 8) (.tmp 114) rfl W.heap.size 0 3 53 _ zc3 zc3 rfl rfl rfl HX10.out (by decide) HIV.out zc3_one ?_;intro w12 f12 o12)
        rw [setAll_all _ _ rfl] at f12
        refine bodyPost_ret (results_cell3 rfl _ _ W.heap.size zc3 _ rfl f12.range Tryd.underlying53 rfl HIV.out) rfl ?_
        exact ⟨0,0,none,0,0,0,cc,rfl,fun h => absurd h (by first | decide | exact HE1.out),fun _ => ⟨rfl,rfl,rfl,rfl,rfl,rfl,HC257.out⟩,HB10.out.trans (o12.bel.mono (Nat.le_refl _))⟩
      ·obtain rfl:j = M:=by omega
       have hz:=HRJ.out
       rw [Nat.sub_self,dzL] at hz
       subst hz
       obtain ⟨VA,vcap,hvs,_,_⟩:=HG7.out.shape
       subst hvs
       obtain ⟨hvl,hTV⟩:=HG7.out.tree N1 N2 HN1.out HN2.out
       have HTV:=Lib.hid hTV
       have HAR:=Lib.hid HA7.out.range
       generalize acc.length = al at hvl HAR HTV
       have HI3:Hid ((Tryd.prog.info? 53).map (·.size) = some ([.int .i64 N1,.int .i64 N2,.slice VA al vcap]:List Value).length):=Lib.hid info_val
       have HO3:Hid (∀ v ∈ ([.int .i64 N1,.int .i64 N2,.slice VA al vcap]:List Value),v.oneCell' = true):=Lib.hid (by intro v hv;simp at hv;rcases hv with rfl | rfl | rfl <;> rfl)
       clear hvl hTV HG7 HA7 HRJ hlt hj
       go_wp2_with (first
        | (with_reducible refine wpList_load_mid rfl _ (.tmp 21) rfl g21 0 rfl [.int .i64 N1,.int .i64 N2,.slice VA al vcap] _ HAR.out Tryd.underlying53 rfl HI3.out ?_)
        | (refine wpList_store_arr rfl _ (.tmp 8) (.tmp 125) rfl W.heap.size 0 3 53 _ [.int .i64 N1,.int .i64 N2,.slice VA al vcap] zc3 rfl rfl rfl HX7.out (show 0 + 3 ≤ 3 by omega) HI3.out HO3.out ?_;intro w12 f12 o12))
       rw [setAll_all zc3 [.int .i64 N1,.int .i64 N2,.slice VA al vcap] rfl] at f12
       refine bodyPost_ret (results_cell3 rfl _ _ W.heap.size [.int .i64 N1,.int .i64 N2,.slice VA al vcap] _ rfl f12.range Tryd.underlying53 rfl HI3.out) rfl ?_
       exact ⟨_,_,_,_,_,q',c',rfl,fun _ => ⟨rfl,rfl,HTV.out.keep (fun k hk => by omega) (fun k hk _ => o12.2 k (by omega))⟩,fun h => absurd rfl h,HB7.out.trans (o12.bel.mono (Nat.le_refl _))⟩
   ·have hne:((e3:Int) != 0) = true:=by rw [bne_iff_ne];omega
    have h3:=dz_e3 (f:=f) HCD.out.1 HD1.out HD2.out HD3.out he3
    rw [HR2.out] at h3
    subst h3
    have HE1:=Lib.hid he3
    clear HR2 he3
    go_wp2_with (refine wpList_store_arr rfl _ (.tmp 8) (.tmp 79) rfl W.heap.size 0 3 53 _ zc3 zc3 rfl rfl rfl HX5.out (by decide) HIV.out zc3_one ?_;intro w12 f12 o12)
    rw [setAll_all _ _ rfl] at f12
    refine bodyPost_ret (results_cell3 rfl _ _ W.heap.size zc3 _ rfl f12.range Tryd.underlying53 rfl HIV.out) rfl ?_
    exact ⟨0,0,none,0,0,0,c + 1,rfl,fun h => absurd h (by first | decide | exact by have:=HE1.out;omega),fun _ => ⟨rfl,rfl,rfl,rfl,rfl,rfl,by omega⟩,HB5.out.trans (o12.bel.mono (Nat.le_refl _))⟩
  ·have hne:((e2:Int) != 0) = true:=by rw [bne_iff_ne];omega
   have h3:=dz_e2 (f:=f) HCD.out.1 HD1.out HD2.out he2
   rw [HR2.out] at h3
   subst h3
   have HE1:=Lib.hid he2
   clear HR2 he2
   go_wp2_with (refine wpList_store_arr rfl _ (.tmp 8) (.tmp 62) rfl W.heap.size 0 3 53 _ zc3 zc3 rfl rfl rfl HX4.out (by decide) HIV.out zc3_one ?_;intro w12 f12 o12)
   rw [setAll_all _ _ rfl] at f12
   refine bodyPost_ret (results_cell3 rfl _ _ W.heap.size zc3 _ rfl f12.range Tryd.underlying53 rfl HIV.out) rfl ?_
   exact ⟨0,0,none,0,0,0,c + 1,rfl,fun h => absurd h (by first | decide | exact by have:=HE1.out;omega),fun _ => ⟨rfl,rfl,rfl,rfl,rfl,rfl,by omega⟩,HB4.out.trans (o12.bel.mono (Nat.le_refl _))⟩
 ·have hne:((e1:Int) != 0) = true:=by rw [bne_iff_ne];omega
  have h3:=dz_e1 (f:=f) HCD.out.1 HD1.out he1
  rw [HR2.out] at h3
  subst h3
  have HE1:=Lib.hid he1
  clear HR2 he1
  go_wp2_with (refine wpList_store_arr rfl _ (.tmp 8) (.tmp 47) rfl W.heap.size 0 3 53 _ zc3 zc3 rfl rfl rfl HX3.out (by decide) HIV.out zc3_one ?_;intro w12 f12 o12)
  rw [setAll_all _ _ rfl] at f12
  refine bodyPost_ret (results_cell3 rfl _ _ W.heap.size zc3 _ rfl f12.range Tryd.underlying53 rfl HIV.out) rfl ?_
  exact ⟨0,0,none,0,0,0,c + 1,rfl,fun h => absurd h (by first | decide | exact by have:=HE1.out;omega),fun _ => ⟨rfl,rfl,rfl,rfl,rfl,rfl,by omega⟩,HB3.out.trans (o12.bel.mono (Nat.le_refl _))⟩
end Go.Proofs.YtmfihlcibephlaaDoor
