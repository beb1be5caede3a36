import Derived.Test.YtmfihlcibephlaaDoorZ15
import Derived.Test.YtmfihlcibephlaaDoorZ28
set_option linter.unusedVariables false
set_option linter.unusedSimpArgs false
namespace Go.Proofs.YtmfihlcibephlaaDoor
open Go.RowKit
def nm3:List Value:=[.string ⟨#[120]⟩,.string ⟨#[121]⟩,.string ⟨#[122]⟩]
def nm3b:List ByteArray:=[⟨#[120]⟩,⟨#[121]⟩,⟨#[122]⟩]
def nmx (k:Nat):ByteArray:=nm3b.getD k ⟨#[]⟩
theorem nm3_get (i:Nat) (h:i < 3):nm3[i]? = some (.string (nmx i)):=by
 match i,h with
 | 0,_ => rfl
 | 1,_ => rfl
 | 2,_ => rfl
def sl11 (nx:Nat) (nm:ByteArray) (ta tb tc td:Int) (tA:Option Addr) (tl tp:Nat):List Value:=[.int .i64 0,.int .i64 1,.int .i64 (nx:Int),.string nm,.int .i64 ta,.int .i64 tb,.int .i64 tc,.int .i64 td,.slice tA tl tp,.int .i64 0,.int .i64 0]
theorem sl11_build (nx:Nat) (nm:ByteArray) (ta tb tc td:Int) (tA:Option Addr) (tl tp:Nat) (W:World):(Instr.build 66 #[(0,.agg #[.int .i64 0,.int .i64 1,.int .i64 (nx:Int)]),(1,.string nm),(2,.agg #[.int .i64 ta,.int .i64 tb,.int .i64 tc,.int .i64 td,.slice tA tl tp])]).run Tryd.prog W = .ok (.agg (sl11 nx nm ta tb tc td tA tl tp).toArray) W :=
 run_build W _ _ _ (by kernel_rfl)
theorem sl11_cells (nx:Nat) (nm:ByteArray) (ta tb tc td:Int) (tA:Option Addr) (tl tp:Nat):∀ u ∈ sl11 nx nm ta tb tc td tA tl tp,u.oneCell' = true:=List.all_eq_true.mp (by rfl)
theorem info_slot3:(Tryd.prog.info? 66).map (fun i => (i.zero,i.size,i.bytes)) = some (some (.agg #[.int .i64 0,.int .i64 0,.int .i64 0,.string ⟨#[]⟩,.int .i64 0,.int .i64 0,.int .i64 0,.int .i64 0,.slice none 0 0,.int .i64 0,.int .i64 0]),11,112):=by kernel_rfl
def PS (s:Sl) (C:List Value) (W:World):Prop:=SlAt W s C
def fc13 (i k nx gd Y:Nat) (sv lv:Value) (B S:Nat) (acc:List Sl):Nat → Value → World → Prop
 | 0,v,_ => v = .pointer (some ⟨gd,8,none⟩)
 | 1,v,_ => v = sv
 | 2,v,_ => v = .int .i64 (nx:Int)
 | 3,v,_ => v = .agg #[.int .i64 0,.int .i64 1,.int .i64 (nx:Int)]
 | 4,v,w => ∃ g,v = .slice (some ⟨g,0,none⟩) 3 3 ∧ S ≤ g ∧ Arr w g 3 9 nm3
 | 5,v,_ => v = .int .i64 (k:Int)
 | 6,v,w => ∃ g,v = .pointer (some ⟨g,k,none⟩) ∧ S ≤ g ∧ Arr w g 3 9 nm3
 | 7,v,_ => v = .string (nmx k)
 | 8,v,_ => v = lv
 | 9,v,_ => v = .int .i64 (i:Int)
 | 10,v,_ => v = .int .i64 ((3 * i:Nat):Int)
 | 11,v,_ => v = .int .i64 ((5 + 3 * i:Nat):Int)
 | 12,v,_ => v = .int .i64 (k:Int)
 | 13,v,_ => v = .int .i64 ((5 + 3 * i + k:Nat):Int)
 | 14,v,_ => v = .int .i64 (Y:Int)
 | 15,v,_ => v = .int .i64 (i:Int)
 | 16,v,w => ∃ (t:Ty) (ta tb tc td:Int) (tA:Option Addr) (tl tp:Nat),Gd i t ∧ v = .agg #[.int .i64 ta,.int .i64 tb,.int .i64 tc,.int .i64 td,.slice tA tl tp] ∧ Foot (S ≤ ·) (fun W => TyAt W t (.agg #[.int .i64 ta,.int .i64 tb,.int .i64 tc,.int .i64 td,.slice tA tl tp])) w
 | 17,v,w => ∃ (t:Ty) (ta tb tc td:Int) (tA:Option Addr) (tl tp:Nat),Gd i t ∧ v = .agg (sl11 nx (nmx k) ta tb tc td tA tl tp).toArray ∧ Foot (S ≤ ·) (fun W => TyAt W t (.agg #[.int .i64 ta,.int .i64 tb,.int .i64 tc,.int .i64 td,.slice tA tl tp])) w
 | 18,v,w => ∃ g,∃ (t:Ty) (ta tb tc td:Int) (tA:Option Addr) (tl tp:Nat),Gd i t ∧ v = .slice (some ⟨g,0,none⟩) 1 1 ∧ S ≤ g ∧ Arr w g 11 66 (sl11 nx (nmx k) ta tb tc td tA tl tp) ∧ Foot (S ≤ ·) (fun W => TyAt W t (.agg #[.int .i64 ta,.int .i64 tb,.int .i64 tc,.int .i64 td,.slice tA tl tp])) w
 | 19,v,w => ∃ t,Gd i t ∧ GrowG 66 11 PS w B v (acc ++ [sEx (nx:Int) (nmx k) t])
 | 20,v,_ => v = .pointer (some ⟨gd,8,none⟩)
 | _,_,_ => True
theorem fc13_ext (i k nx gd Y:Nat) (sv lv:Value) (B S:Nat) (acc:List Sl) (hBS:B ≤ S):∀ j v w w' E,j < 21 → (E = B ∨ (E = S ∧ j ≠ 19)) → Ext E w w' → fc13 i k nx gd Y sv lv B S acc j v w → fc13 i k nx gd Y sv lv B S acc j v w':=by
 intro j v w w' E hj hE he h
 have hES:E ≤ S:=by omega
 have hft:∀ {Φ:World → Prop},Foot (S ≤ ·) Φ w → Foot (S ≤ ·) Φ w':=fun hf => hf.keep (fun g h _ => h) he.1 (fun g h1 h2 => he.2 g (by omega) h2)
 match j,hj,h with
 | 0,_,h => exact h
 | 1,_,h => exact h
 | 2,_,h => exact h
 | 3,_,h => exact h
 | 4,_,⟨g,h1,h2,h3⟩ => exact ⟨g,h1,h2,h3.ext he (by omega)⟩
 | 5,_,h => exact h
 | 6,_,⟨g,h1,h2,h3⟩ => exact ⟨g,h1,h2,h3.ext he (by omega)⟩
 | 7,_,h => exact h
 | 8,_,h => exact h
 | 9,_,h => exact h
 | 10,_,h => exact h
 | 11,_,h => exact h
 | 12,_,h => exact h
 | 13,_,h => exact h
 | 14,_,h => exact h
 | 15,_,h => exact h
 | 16,_,⟨t,ta,tb,tc,td,tA,tl,tp,h1,h2,h3⟩ => exact ⟨t,ta,tb,tc,td,tA,tl,tp,h1,h2,hft h3⟩
 | 17,_,⟨t,ta,tb,tc,td,tA,tl,tp,h1,h2,h3⟩ => exact ⟨t,ta,tb,tc,td,tA,tl,tp,h1,h2,hft h3⟩
 | 18,_,⟨g,t,ta,tb,tc,td,tA,tl,tp,h1,h2,h4,h5,h3⟩ => exact ⟨g,t,ta,tb,tc,td,tA,tl,tp,h1,h2,h4,h5.ext he (by omega),hft h3⟩
 | 19,_,⟨t,h1,h2⟩ =>
  have:E = B:=by omega
  subst this
  exact ⟨t,h1,h2.keep he.1 he.2⟩
 | 20,_,h => exact h
 | n + 21,hn,_ => exact absurd hn (by omega)
def D13:List Nat:=[49,50,51,52,53,54,55,56,57,58,59,60,61,62,63,64,65,66,67,68,69]
def ds13 (k:Nat):Nat:=49 + k
theorem ds13_mem:∀ k,k < 21 → ds13 k < 92 ∧ ds13 k ∈ D13:=by decide
def gc13 (gd B S:Nat) (w0:World) (K kd:Int) (nmD:ByteArray) (sv:Value) (acc:List Sl) (c:Bool) (w:World):Prop :=
 Below B w0 w ∧ S ≤ w.heap.size ∧ Arr w gd 31 46 (df31 K kd nmD sv) ∧ (c = false → GrowG 66 11 PS w B sv acc)
theorem gc13_later {gd B S:Nat} {w0:World} {K kd:Int} {nmD:ByteArray} {sv:Value} {acc:List Sl} {c:Bool} {w w':World} (h:gc13 gd B S w0 K kd nmD sv acc c w) (hBS:B ≤ S) (hb:Below w.heap.size w w'):gc13 gd B S w0 K kd nmD sv acc c w' :=
 ⟨h.1.trans (hb.mono (by have:=h.2.1;omega)),Nat.le_trans h.2.1 hb.size,h.2.2.1.later hb,fun hc => (h.2.2.2 hc).keep (hb.mono (Nat.zero_le _)) (fun g _ hg => hb.block g hg)⟩
set_option maxHeartbeats 1000000 in
set_option maxRecDepth 100000 in
theorem reg13 {Q:Exit → Act → World → Prop} {id:Nat} {ops:Array Oper} (hops:ops = ((Tryd.f10.body).bind (opsOf 13)).getD #[]) (a0:Act) (w0:World) (i k nx gd Y B:Nat) (sv lv:Value) (K kd:Int) (nmD:ByteArray) (acc:List Sl) (hi:i < 4) (hk3:k < 3) (hnx:nx ≤ 31) (hY:Y < 65536) (hac:acc.length ≤ 3) (hsz:92 ≤ a0.tmps.size)
  (h0:ag a0 0 = lv) (h5:ag a0 5 = .int .i64 (nx:Int)) (h6:ag a0 6 = .int .i64 (i:Int)) (h8:ag a0 8 = .pointer (some ⟨gd,0,none⟩)) (h10:ag a0 10 = .int .i64 (k:Int))
  (hgd:gd < B) (hB:B ≤ w0.heap.size) (hA:Arr w0 gd 31 46 (df31 K kd nmD sv)) (hG:GrowG 66 11 PS w0 B sv acc)
  (hat:∀ W,Below B w0 W → Calls Tryd.prog 44 #[lv,.int .i64 ((5 + 3 * i + k:Nat):Int),.int .i64 65536] W fun e w' => e = .returned (.int .i64 (Y:Int)) ∧ w' = W)
  (hQ:∀ (vs:Nat → Value) (sv':Value) (t:Ty) (w':World),Gd i t → Arr w' gd 31 46 (df31 K kd nmD sv') → GrowG 66 11 PS w' B sv' (acc ++ [sEx (nx:Int) (nmx k) t]) → Below gd w0 w' → ∀ a',a' = D13.foldl (fun b s => b.put (some s) (vs s)) a0 → Q .normal a' w') :
  (Code.region id ops true).wp Tryd.prog Q a0 w0:=by
 have hi0:(0:Int) ≤ (i:Int):=by omega
 have hi4:(i:Int) < 4:=by omega
 have hk0:(0:Int) ≤ (k:Int):=by omega
 have hk4:(k:Int) < 3:=by omega
 have hown:∀ g,sv.ownBlock = some g → g < w0.heap.size:=fun g hg => (hG.lt g hg).2
 have hg0:gc13 gd B w0.heap.size w0 K kd nmD sv acc false w0.drew:=gc13_later (c:=false) ⟨Below.refl _ _,Nat.le_refl _,hA,fun _ => hG⟩ hB (below_drewN (Below.refl _ _) 1)
 have hin:∀ (a:Nat) (k:Nat),a < 21 → k < 21 → ds13 a = ds13 k → a = k:=fun a k _ _ h => by unfold ds13 at h;omega
 refine wp_region_facts 21 19 D13 ds13 (fc13 i k nx gd Y sv lv B w0.heap.size acc) (gc13 gd B w0.heap.size w0 K kd nmD sv acc) B w0.heap.size (by kernel_rfl) (by subst hops;kernel_rfl) (by subst hops;kernel_rfl) (by subst hops;kernel_rfl) (fun k hk => (ds13_mem k hk).2) (fun k hk => by have:=(ds13_mem k hk).1;omega) hin (fc13_ext i k nx gd Y sv lv B w0.heap.size acc hB) hg0 ?_ ?_
 ·intro j a w c hj hip ho hg hd
  have hgs:=hg.2.1
  have gl:∀ w',Below w.heap.size w w' → gc13 gd B w0.heap.size w0 K kd nmD sv acc c w':=fun w' hb => gc13_later hg hB hb
  match j,hj,hd with
  | 0,hk,hd =>
   have s:(ops[0]?).map sig = some (some 49,.fieldAddr 46 (.tmp 8) 4,0,none):=by subst hops;kernel_rfl
   refine op_val s (w':=w) (v:=.pointer (some ⟨gd,8,none⟩)) ?_ ⟨_,rfl,?_,?_,?_⟩
   ·have e:ag a 8 = _:=(ho.off 8 (by decide)).trans h8
    simp only [execOp,eval_tmp,e]
    go_simp
   ·exact Ext.refl _ _
   ·rfl
   ·exact hg
  | 1,hk,hd =>
   have s:(ops[1]?).map sig = some (some 50,.load 40 (.tmp 49),40,none):=by subst hops;kernel_rfl
   have d0:=hd 0 (by decide) (by subst hops;kernel_rfl)
   refine op_val s (w':=w) (v:=sv) ?_ ⟨_,rfl,?_,?_,?_⟩
   ·have e:ag a 49 = _:=d0
    have hc:=hg.2.2.1.cell (j:=8) (v:=sv) rfl
    simp only [execOp,eval_tmp,e]
    go_simp
   ·exact Ext.refl _ _
   ·rfl
   ·exact hg
  | 2,hk,hd =>
   have s:(ops[2]?).map sig = some (some 51,.move (.tmp 5),3,none):=by subst hops;kernel_rfl
   refine op_val s (w':=w) (v:=ag a 5) ?_ ⟨_,rfl,?_,?_,?_⟩
   ·rfl
   ·exact Ext.refl _ _
   ·show ag a 5 = _;rw [ho.off 5 (by decide)];exact h5
   ·exact hg
  | 3,hk,hd =>
   have s:(ops[3]?).map sig = some (some 52,.call { callee:=.value (.func 15),args:=#[.tmp 51],argTypes:=#[3] },28,none):=by subst hops;kernel_rfl
   have d2:=hd 2 (by decide) (by subst hops;kernel_rfl)
   refine op_call s (w':=w) (f:=15) (args:=#[.int .i64 (nx:Int)]) ?_ ?_
   ·have e:ag a 51 = .int .i64 (nx:Int):=d2
    simp only [execOp]
    go_simp
    simpa [ag] using e
   ·refine (ID_any nx hnx w).mono ?_
    rintro e w' ⟨rfl,hb⟩
    exact ⟨_,rfl,_,rfl,Ext.of hb,rfl,gl _ hb⟩
  | 4,hk,hd =>
   have s:(ops[4]?).map sig = some (some 53,.buildSlice 42 3 #[(0,.const (.string ⟨#[120]⟩)),(1,.const (.string ⟨#[121]⟩)),(2,.const (.string ⟨#[122]⟩))],42,none):=by subst hops;kernel_rfl
   refine op_val s (w':=w.alloc (.cells nm3.toArray 9)) (v:=.slice (some ⟨w.heap.size,0,none⟩) 3 3) ?_ ⟨_,rfl,?_,?_,?_⟩
   ·simp only [execOp]
    go_simp
    rfl
   ·exact Ext.of (new_later w (.cells nm3.toArray 9))
   ·exact ⟨_,rfl,hgs,Arr.new' w _ _ 3 _ rfl rfl (by decide)⟩
   ·exact gl _ (new_later w _)
  | 5,hk,hd =>
   have s:(ops[5]?).map sig = some (some 54,.move (.tmp 10),3,none):=by subst hops;kernel_rfl
   refine op_val s (w':=w) (v:=ag a 10) ?_ ⟨_,rfl,?_,?_,?_⟩
   ·rfl
   ·exact Ext.refl _ _
   ·show ag a 10 = _;rw [ho.off 10 (by decide)];exact h10
   ·exact hg
  | 6,hk,hd =>
   have s:(ops[6]?).map sig = some (some 55,.indexAddr 42 (.tmp 53) (.tmp 54),0,none):=by subst hops;kernel_rfl
   have d4:=hd 4 (by decide) (by subst hops;kernel_rfl)
   have d5:=hd 5 (by decide) (by subst hops;kernel_rfl)
   obtain ⟨gn,e4,hS4,hA4⟩:=d4
   have e4:ag a 53 = _:=e4
   refine op_val s (w':=w) (v:=.pointer (some ⟨gn,k,none⟩)) ?_ ⟨_,rfl,?_,?_,?_⟩
   ·have e:ag a 54 = .int .i64 (k:Int):=d5
    simp only [execOp,eval_tmp,e4,e]
    go_simp
   ·exact Ext.refl _ _
   ·exact ⟨gn,rfl,hS4,hA4⟩
   ·exact hg
  | 7,hk,hd =>
   have s:(ops[7]?).map sig = some (some 56,.load 9 (.tmp 55),9,none):=by subst hops;kernel_rfl
   have d6:=hd 6 (by decide) (by subst hops;kernel_rfl)
   obtain ⟨gn,e6,hS6,hA6⟩:=d6
   have e6:ag a 55 = _:=e6
   refine op_val s (w':=w) (v:=.string (nmx k)) ?_ ⟨_,rfl,?_,?_,?_⟩
   ·have hc:=hA6.cell (nm3_get k hk3)
    simp only [execOp,eval_tmp,e6]
    go_simp
   ·exact Ext.refl _ _
   ·rfl
   ·exact hg
  | 8,hk,hd =>
   have s:(ops[8]?).map sig = some (some 57,.move (.tmp 0),22,none):=by subst hops;kernel_rfl
   refine op_val s (w':=w) (v:=ag a 0) ?_ ⟨_,rfl,?_,?_,?_⟩
   ·rfl
   ·exact Ext.refl _ _
   ·show ag a 0 = _;rw [ho.off 0 (by decide)];exact h0
   ·exact hg
  | 9,hk,hd =>
   have s:(ops[9]?).map sig = some (some 58,.move (.tmp 6),3,none):=by subst hops;kernel_rfl
   refine op_val s (w':=w) (v:=ag a 6) ?_ ⟨_,rfl,?_,?_,?_⟩
   ·rfl
   ·exact Ext.refl _ _
   ·show ag a 6 = _;rw [ho.off 6 (by decide)];exact h6
   ·exact hg
  | 10,hk,hd =>
   have s:(ops[10]?).map sig = some (some 59,.binOp .mul 3 (.const (.int .i64 3)) (.tmp 58) 3,3,none):=by subst hops;kernel_rfl
   have d9:=hd 9 (by decide) (by subst hops;kernel_rfl)
   refine op_val s (w':=w) (v:=.int .i64 ((3 * i:Nat):Int)) ?_ ⟨_,rfl,?_,?_,?_⟩
   ·have e9:ag a 58 = .int .i64 (i:Int):=d9
    simp only [execOp,eval_tmp,e9]
    go_simp
    rw [IntWalk.i64_in _ (by omega)]
   ·exact Ext.refl _ _
   ·rfl
   ·exact hg
  | 11,hk,hd =>
   have s:(ops[11]?).map sig = some (some 60,.binOp .add 3 (.const (.int .i64 5)) (.tmp 59) 3,3,none):=by subst hops;kernel_rfl
   have d10:=hd 10 (by decide) (by subst hops;kernel_rfl)
   refine op_val s (w':=w) (v:=.int .i64 ((5 + 3 * i:Nat):Int)) ?_ ⟨_,rfl,?_,?_,?_⟩
   ·have e10:ag a 59 = .int .i64 ((3 * i:Nat):Int):=d10
    simp only [execOp,eval_tmp,e10]
    go_simp
    rw [IntWalk.i64_in _ (by omega)]
   ·exact Ext.refl _ _
   ·rfl
   ·exact hg
  | 12,hk,hd =>
   have s:(ops[12]?).map sig = some (some 61,.move (.tmp 10),3,none):=by subst hops;kernel_rfl
   refine op_val s (w':=w) (v:=ag a 10) ?_ ⟨_,rfl,?_,?_,?_⟩
   ·rfl
   ·exact Ext.refl _ _
   ·show ag a 10 = _;rw [ho.off 10 (by decide)];exact h10
   ·exact hg
  | 13,hk,hd =>
   have s:(ops[13]?).map sig = some (some 62,.binOp .add 3 (.tmp 60) (.tmp 61) 3,3,none):=by subst hops;kernel_rfl
   have d11:=hd 11 (by decide) (by subst hops;kernel_rfl)
   have d12:=hd 12 (by decide) (by subst hops;kernel_rfl)
   refine op_val s (w':=w) (v:=.int .i64 ((5 + 3 * i + k:Nat):Int)) ?_ ⟨_,rfl,?_,?_,?_⟩
   ·have e11:ag a 60 = .int .i64 ((5 + 3 * i:Nat):Int):=d11
    have e12:ag a 61 = .int .i64 (k:Int):=d12
    simp only [execOp,eval_tmp,e11,e12]
    go_simp
    rw [IntWalk.i64_in _ (by omega)]
   ·exact Ext.refl _ _
   ·rfl
   ·exact hg
  | 14,hk,hd =>
   have s:(ops[14]?).map sig = some (some 63,.call { callee:=.value (.func 44),args:=#[.tmp 57,.tmp 62,.const (.int .i64 65536)],argTypes:=#[22,3,3] },3,none):=by subst hops;kernel_rfl
   have d8:=hd 8 (by decide) (by subst hops;kernel_rfl)
   have d13:=hd 13 (by decide) (by subst hops;kernel_rfl)
   refine op_call s (w':=w) (f:=44) (args:=#[lv,.int .i64 ((5 + 3 * i + k:Nat):Int),.int .i64 65536]) ?_ ?_
   ·have e8:ag a 57 = lv:=d8
    have e13:ag a 62 = .int .i64 ((5 + 3 * i + k:Nat):Int):=d13
    simp only [execOp]
    go_simp
    refine ⟨by simpa [ag] using e8,by simpa [ag] using e13⟩
   ·refine (hat w hg.1).mono ?_
    rintro e w' ⟨rfl,rfl⟩
    exact ⟨_,rfl,_,rfl,Ext.refl _ _,rfl,hg⟩
  | 15,hk,hd =>
   have s:(ops[15]?).map sig = some (some 64,.move (.tmp 6),3,none):=by subst hops;kernel_rfl
   refine op_val s (w':=w) (v:=ag a 6) ?_ ⟨_,rfl,?_,?_,?_⟩
   ·rfl
   ·exact Ext.refl _ _
   ·show ag a 6 = _;rw [ho.off 6 (by decide)];exact h6
   ·exact hg
  | 16,hk,hd =>
   have s:(ops[16]?).map sig = some (some 65,.call { callee:=.value (.func 45),args:=#[.tmp 63,.tmp 64],argTypes:=#[3,3] },31,none):=by subst hops;kernel_rfl
   have d14:=hd 14 (by decide) (by subst hops;kernel_rfl)
   have d15:=hd 15 (by decide) (by subst hops;kernel_rfl)
   refine op_call s (w':=w) (f:=45) (args:=#[.int .i64 (Y:Int),.int .i64 (i:Int)]) ?_ ?_
   ·have e14:ag a 63 = .int .i64 (Y:Int):=d14
    have e15:ag a 64 = .int .i64 (i:Int):=d15
    simp only [execOp]
    go_simp
    refine ⟨by simpa [ag] using e14,by simpa [ag] using e15⟩
   ·refine (Pick_any Y i hY (by omega) w).mono ?_
    rintro e w' ⟨t,ta,tb,tc,td,tA,tl,tp,hgt,rfl,hf,hb⟩
    exact ⟨_,rfl,_,rfl,Ext.of hb,⟨t,ta,tb,tc,td,tA,tl,tp,hgt,rfl,hf.keep (fun g h _ => Nat.le_trans hgs h) (Below.refl _ _) (fun _ _ _ => rfl)⟩,gl _ hb⟩
  | 17,hk,hd =>
   have s:(ops[17]?).map sig = some (some 66,.build 66 #[(0,.tmp 52),(1,.tmp 56),(2,.tmp 65)],66,none):=by subst hops;kernel_rfl
   have d3:=hd 3 (by decide) (by subst hops;kernel_rfl)
   have d7:=hd 7 (by decide) (by subst hops;kernel_rfl)
   have d16:=hd 16 (by decide) (by subst hops;kernel_rfl)
   obtain ⟨t,ta,tb,tc,td,tA,tl,tp,hgt,e16,hf⟩:=d16
   have e16:ag a 65 = _:=e16
   refine op_val s (w':=w) (v:=.agg (sl11 nx (nmx k) ta tb tc td tA tl tp).toArray) ?_ ⟨_,rfl,?_,?_,?_⟩
   ·have hb:=sl11_build nx (nmx k) ta tb tc td tA tl tp w
    have e3:ag a 52 = _:=d3
    have e7:ag a 56 = _:=d7
    simp only [execOp,List.map_toArray,List.map_cons,List.map_nil,eval_tmp,e3,e7,e16,Sem.run_bind,hb]
    rfl
   ·exact Ext.refl _ _
   ·exact ⟨t,ta,tb,tc,td,tA,tl,tp,hgt,rfl,hf⟩
   ·exact hg
  | 18,hk,hd =>
   have s:(ops[18]?).map sig = some (some 67,.buildSlice 40 1 #[(0,.tmp 66)],40,none):=by subst hops;kernel_rfl
   have d17:=hd 17 (by decide) (by subst hops;kernel_rfl)
   obtain ⟨t,ta,tb,tc,td,tA,tl,tp,hgt,e17,hf⟩:=d17
   have e17:ag a 66 = _:=e17
   refine op_val s (w':=w.alloc (.cells (sl11 nx (nmx k) ta tb tc td tA tl tp).toArray 66)) (v:=.slice (some ⟨w.heap.size,0,none⟩) 1 1) ?_ ⟨_,rfl,?_,?_,?_⟩
   ·simp only [execOp,List.map_toArray,List.map_cons,List.map_nil,eval_tmp,e17]
    unfold sl11
    go_simp
   ·exact Ext.of (new_later w _)
   ·exact ⟨_,t,ta,tb,tc,td,tA,tl,tp,hgt,rfl,hgs,Arr.new' w _ _ 11 _ rfl rfl (by decide),hf.keep (fun g h _ => h) ((new_later w _).mono (Nat.zero_le _)) (fun g _ hl => (new_later w _).block g hl)⟩
   ·exact gl _ (new_later w _)
  | 19,hk,hd =>
   have s:(ops[19]?).map sig = some (some 68,.call { callee:=.builtin .append,args:=#[.tmp 50,.tmp 67],argTypes:=#[40,40] },40,none):=by subst hops;kernel_rfl
   have d1:=hd 1 (by decide) (by subst hops;kernel_rfl)
   have d18:=hd 18 (by decide) (by subst hops;kernel_rfl)
   obtain ⟨gn,t,ta,tb,tc,td,tA,tl,tp,hgt,e18,hgn,hAn,hf⟩:=d18
   have e18:ag a 67 = _:=e18
   have e1:ag a 50 = sv:=d1
   have hG1:=hg.2.2.2 (hip rfl)
   refine wpOp_of s fun o h1 h2 h3 h4 => ?_
   refine wp_putG (x:=sEx (nx:Int) (nmx k) t) (C:=sl11 nx (nmx k) ta tb tc td tA tl tp) hG1 rfl ?_ (Nat.le_trans hB hgs) ⟨by omega,by simp only [maxLen];omega⟩ Tryd.underlying40 info_slot3 rfl (by decide) (sl11_cells _ _ _ _ _ _ _ _ _) (.tmp 50) (.tmp 67) h2 e1 e18 hAn.range ?_
   ·refine (hf.keep (F':=fun g => B ≤ g ∧ sv.ownBlock ≠ some g) (fun g h _ => ⟨Nat.le_trans hB h,fun e => absurd (hown g e) (by omega)⟩) (Below.refl _ _) (fun _ _ _ => rfl)).imp fun W hW => ?_
    exact ⟨[.int .i64 ta,.int .i64 tb,.int .i64 tc,.int .i64 td,.slice tA tl tp],rfl,rfl,hW⟩
   ·intro g cap w' hG2 hb2 hk2 _
    rw [h1]
    refine ⟨_,rfl,?_,⟨t,hgt,hG2⟩,?_⟩
    ·exact ⟨hb2.mono (Nat.zero_le _),fun g hg1 hg2 => hk2 g hg2 (fun e => absurd (hown g e) (by show ¬ _;simp only [if_pos] at hg1;omega))⟩
    ·exact ⟨hg.1.trans hb2,Nat.le_trans hgs hb2.size,hg.2.2.1.below hb2 hgd,fun h => by cases h⟩
  | 20,hk,hd =>
   have s:(ops[20]?).map sig = some (some 69,.fieldAddr 46 (.tmp 8) 4,0,none):=by subst hops;kernel_rfl
   refine op_val s (w':=w) (v:=.pointer (some ⟨gd,8,none⟩)) ?_ ⟨_,rfl,?_,?_,?_⟩
   ·have e:ag a 8 = _:=(ho.off 8 (by decide)).trans h8
    simp only [execOp,eval_tmp,e]
    go_simp
   ·exact Ext.refl _ _
   ·rfl
   ·exact hg
  | n + 21,hn,_ => exact absurd hn (by omega)
 ·intro a w c ho _ hg hf
  have e69:=hf 20 (by decide)
  obtain ⟨t,ht,hG'⟩:=hf 19 (by decide)
  obtain ⟨A',cap',hsh,_⟩:=hG'.shape
  have e68:ag a 68 = _:=hsh
  have e69:ag a 69 = _:=e69
  have hc:=hg.2.2.1.cell (j:=8) (v:=sv) rfl
  have hfz:=hg.2.2.1.free 8
  have s:(ops[21]?).map sig = some (none,.store 40 (.tmp 69) (.tmp 68),0,none):=by subst hops;kernel_rfl
  refine op_skip s (w':=w.setCell ⟨gd,8,none⟩ (ag a 68)) ?_ ?_
  ·rw [e68]
   simp only [execOp,eval_tmp,e69,e68]
   go_simp
  ·have hO:=Only.setCells gd 8 [ag a 68] w
   have hA2:=hg.2.2.1.set_ 8 (ag a 68)
   exact hQ (ag a) (ag a 68) t (w.setCell ⟨gd,8,none⟩ (ag a 68)) ht hA2 (hG'.keep (hO.bel.mono (Nat.zero_le _)) (fun g hgB _ => hO.2 g (by omega))) ((hg.1.mono (Nat.le_of_lt hgd)).trans hO.bel) _ (ho.eq (fun s hs => Nat.lt_of_lt_of_le ((by decide:∀ s ∈ D13,s < 92) s hs) hsz))
end Go.Proofs.YtmfihlcibephlaaDoor
