import Derived.Test.YtmfihlcibephlaaDoorZ02
import Derived.Test.YtmfihlcibephlaaDoorZ32
import Derived.BigQuiet
set_option linter.unusedVariables false
set_option linter.unusedSimpArgs false
namespace Go.Proofs.YtmfihlcibephlaaDoor
open Go.RowKit
theorem Off.mono {D D':List Nat} {a a':Act} (h:Off D a a') (hD:∀ s,s ∈ D → s ∈ D'):Off D' a a':=⟨h.size,h.defers,fun s hs => h.off s fun e => hs (hD s e)⟩
theorem yielded_of {ops:Array Oper} {a:Act} {j d:Nat} {b:Bool} (hd:(ops[j]?).bind (·.dst) = some d) (h:ag a d = .bool b):yielded ops a.tmps j = some b:=by
 unfold yielded
 rw [hd]
 unfold ag at h
 rw [Array.getD_eq_getD_getElem?] at h
 simp only [Option.bind_some]
 cases hx:a.tmps[d]? with
 | none => rw [hx] at h;simp [undef] at h
 | some v => rw [hx] at h;simp at h;subst h;rfl
def GdOk (ops:Array Oper) (a:Act):Option (Nat × Bool) → Prop
 | none => True
 | some (j,b) => yielded ops a.tmps j = some b
theorem wpOp_ofg {P:Program} {ops:Array Oper} {Q:Exit → Act → World → Prop} {i:Nat} {K:Act → World → Prop} {a:Act} {w:World} {d:Option Tmp} {op:Op} {ty:TypeId} {gd:Option (Nat × Bool)}
  (hs:(ops[i]?).map sig = some (d,op,ty,gd)) (hg:GdOk ops a gd) (h:∀ o:Oper,o.dst = d → o.op = op → o.type = ty → o.wp P a w K Q):wpOp P ops Q i K a w:=by
 unfold wpOp
 cases ho:ops[i]? with
 | none => rw [ho] at hs;simp at hs
 | some o =>
  rw [ho] at hs
  simp only [Option.map_some,sig,Option.some.injEq,Prod.mk.injEq] at hs
  obtain ⟨h1,h2,h3,h4⟩:=hs
  have hw:Region.wanted o (yielded ops a.tmps) = true:=by
   unfold Region.wanted
   rw [h4]
   match gd,hg with
   | none,_ => rfl
   | some (j,b),hg => simp only [GdOk] at hg;simp [hg]
  simp only [hw,if_true]
  exact .inl (h o h1 h2 h3)
theorem op_valg {P:Program} {ops:Array Oper} {Q:Exit → Act → World → Prop} {i:Nat} {K:Act → World → Prop} {a:Act} {w w':World} {d:Option Tmp} {op:Op} {ty:TypeId} {gd:Option (Nat × Bool)} {v:Value}
  (hs:(ops[i]?).map sig = some (d,op,ty,gd)) (hg:GdOk ops a gd) (hr:(execOp a.eval ⟨none,op,ty, "",#[],none⟩).run P w = .ok (.value v) w') (hK:K (a.put d v) w'):wpOp P ops Q i K a w :=
 wpOp_ofg hs hg fun o h1 h2 h3 => by unfold Oper.wp;rw [execOp_sig h2 h3,hr];subst h1;exact hK
theorem op_callg {P:Program} {ops:Array Oper} {Q:Exit → Act → World → Prop} {i:Nat} {K:Act → World → Prop} {a:Act} {w w':World} {d:Option Tmp} {op:Op} {ty:TypeId} {gd:Option (Nat × Bool)} {f:FuncId} {args:Array Value}
  (hs:(ops[i]?).map sig = some (d,op,ty,gd)) (hg:GdOk ops a gd) (hr:(execOp a.eval ⟨none,op,ty, "",#[],none⟩).run P w = .ok (.enter f args) w') (hc:Calls P f args w' fun e w'' => ∃ v,e = .returned v ∧ K (a.put d v) w''):wpOp P ops Q i K a w :=
 wpOp_ofg hs hg fun o h1 h2 h3 => by
  unfold Oper.wp;rw [execOp_sig h2 h3,hr,Oper.upon_enter]
  refine hc.mono ?_
  rintro e w'' ⟨v,rfl,hK⟩
  subst h1;exact hK
theorem op_loadg {P:Program} {ops:Array Oper} {Q:Exit → Act → World → Prop} {i:Nat} {K:Act → World → Prop} {a:Act} {w:World} {d:Option Tmp} {ty ty':TypeId} {gd:Option (Nat × Bool)} {x:Operand}
  (hs:(ops[i]?).map sig = some (d,.load ty x,ty',gd)) (hg:GdOk ops a gd) (b o:Nat) (hx:a.eval x = .pointer (some ⟨b,o,none⟩)) (cs:List Value) (dd:TypeDesc) (hc:w.rangeAt b o cs)
  (hu:P.underlying ty = some dd) (hd:dd.isRow = true) (hi:(P.info? ty).map (·.size) = some cs.length) (hK:K (a.put d (.agg cs.toArray)) w):wpOp P ops Q i K a w :=
 wpOp_ofg hs hg fun o' h1 h2 h3 => wp_load_mid ty x h2 b o hx cs dd hc hu hd hi (by rw [h1];exact hK)
def PostE (ops:Array Oper) (D:List Nat) (ds:Nat → Nat) (last:Nat) (a0 a:Act) (i:Nat) (F:Nat → Value → World → Prop) (R G:World → Prop) (a':Act) (w':World):Prop:=Off D a0 a' ∧ (∀ k,k < last → k ≠ i → depB ops k i = false → ag a' (ds k) = ag a (ds k)) ∧ R w' ∧ F i (ag a' (ds i)) w' ∧ G w'
theorem PostE.put {ops:Array Oper} {D:List Nat} {ds:Nat → Nat} {last:Nat} {a0 a:Act} {i:Nat} {F:Nat → Value → World → Prop} {R G:World → Prop} {v:Value} {w':World} (ho:Off D a0 a) (hD:ds i ∈ D) (hlt:ds i < a0.tmps.size) (hinj:∀ k,k < last → k ≠ i → depB ops k i = false → ds i ≠ ds k) (hR:R w') (hF:F i v w') (hG:G w'):PostE ops D ds last a0 a i F R G (a.put (some (ds i)) v) w' :=
 ⟨ho.put hD,fun k hk hne hd => ag_ne (hinj k hk hne hd),hR,by rw [ag_put (by rw [ho.size];exact hlt)];exact hF,hG⟩
def acyR (ops:Array Oper) (rk:Nat → Nat):Bool:=(List.range ops.size).all fun i => ((ops[i]?).map (fun o => o.after.all fun e => !Region.binds .any e || (decide (e.on < ops.size) && decide (rk e.on < rk i)))).getD true
theorem ready_ofR {ops:Array Oper} {listed:Array Bool} {rk:Nat → Nat} {i:Nat} (hi:i < ops.size) (h0:listed.getD i true = false) (h:∀ k,k < ops.size → rk k < rk i → listed.getD k false = true) (ha:acyR ops rk = true):i ∈ Region.ready .any ops listed:=by
 unfold Region.ready
 rw [List.mem_filter]
 refine ⟨List.mem_range.2 hi,?_⟩
 unfold acyR at ha
 have:=List.all_eq_true.1 ha i (List.mem_range.2 hi)
 rw [Array.getElem?_eq_getElem hi] at this ⊢
 simp only [Option.map_some,Option.getD_some] at this ⊢
 rw [h0,Bool.not_false,Bool.true_and,Array.all_eq_true']
 intro e he
 have:=Array.all_eq_true'.1 this e he
 cases hb:Region.binds .any e with
 | false => rfl
 | true =>
  rw [hb,Bool.not_true,Bool.false_or,Bool.and_eq_true,decide_eq_true_eq,decide_eq_true_eq] at this
  rw [h e.on this.1 this.2,Bool.or_true]
theorem wp_region_factsE {P:Program} {ops:Array Oper} {Q:Exit → Act → World → Prop} {id:Nat} {a0:Act} {w0:World} (last p:Nat) (D:List Nat) (ds:Nat → Nat) (F:Nat → Value → World → Prop) (G:World → Prop) (B:Nat) (Ep:World → World → Prop) (rk:Nat → Nat)
  (hm:P.follows .mixedOrders = true) (hsz:ops.size = last + 1) (hac:acyR ops rk = true) (hnd:needB ops last = true)
  (hF:∀ k v w w',k < last → (Ext B w w' ∨ (k ≠ p ∧ Ep w w')) → F k v w → F k v w') (h0:G w0.drew)
  (hs:∀ i a w,i < last → Off D a0 a → G w → (∀ k,k < last → depB ops i k = true → F k (ag a (ds k)) w) →
   wpOp P ops Q i (PostE ops D ds last a0 a i F (fun w' => Ext B w w' ∨ (i = p ∧ Ep w w')) G) a w)
  (hl:∀ a w,Off D a0 a → G w → (∀ k,k < last → F k (ag a (ds k)) w) → wpOp P ops Q last (fun a' w' => Q .normal a' w') a w) :
  (Code.region id ops true).wp P Q a0 w0:=by
 refine wp_region_inv (fun listed a w => listed.size = last + 1 ∧ ((listed.getD last false = true ∧ (∀ k,k < last + 1 → listed.getD k false = true) ∧ Q .normal a w) ∨ (listed.getD last false = false ∧ (∀ i k,i < last → listed.getD i false = true → depB ops i k = true → listed.getD k false = true) ∧ Off D a0 a ∧ G w ∧ ∀ k,k < last → listed.getD k false = true → F k (ag a (ds k)) w))) hm ?_ ?_ ?_
 ·have hz:∀ k,(Array.replicate ops.size false).getD k false = false:=fun k => by
   simp only [Array.getD_eq_getD_getElem?,Array.getElem?_replicate];split <;> rfl
  refine ⟨by simp [hsz],.inr ⟨hz _,fun i k _ h => absurd h (by rw [hz];simp),Off.refl _ _,h0,fun k _ h => absurd h (by rw [hz];simp)⟩⟩
 ·rintro listed a w ⟨hls,h | ⟨h1,_⟩⟩ hr
  ·exact h.2.2
  ·exfalso
   have hall:∀ n k,rk k ≤ n → k ≤ last → listed.getD k false = true:=by
    intro n
    induction n using Nat.strongRecOn with
    | _ n ih =>
     intro k hkn hk
     cases hb:listed.getD k false with
     | true => rfl
     | false =>
      have:=ready_ofR (ops:=ops) (listed:=listed) (rk:=rk) (i:=k) (by omega) (by rw [← hb];exact getD_in (by omega) _ _) (fun j hj hr => ih (rk j) (by omega) j (Nat.le_refl _) (by omega)) hac
      rw [hr] at this
      cases this
   rw [hall (rk last) last (Nat.le_refl _) (Nat.le_refl _)] at h1
   cases h1
 ·rintro listed a w i ⟨hls,h⟩ hi
  obtain ⟨hi1,hi2,_⟩:=ready_mem hi
  have hi3:listed.getD i false = false:=by rw [← hi2];exact getD_in (by omega) _ _
  rcases h with ⟨_,h,_⟩ | ⟨h1,hcl,ho,hg,hf⟩
  ·rw [h i (by omega)] at hi3;cases hi3
  ·by_cases hil:i = last
   ·subst hil
    have hall:∀ n k,k < i → i ≤ k + n → listed.getD k false = true:=by
     intro n
     induction n with
     | zero => intro k h1 h2;omega
     | succ n ih =>
      intro k hk hn
      have hx:=List.all_eq_true.1 hnd k (List.mem_range.2 hk)
      obtain ⟨j,hj,hx⟩:=List.any_eq_true.1 hx
      rw [Bool.and_eq_true,decide_eq_true_eq] at hx
      have hj:=List.mem_range.1 hj
      by_cases hji:j = i
      ·rw [hji] at hx;exact ready_dep hi hx.2
      ·exact hcl j k (by omega) (ih j (by omega) (by omega)) hx.2
    have hall2:∀ k,k < i → listed.getD k false = true:=fun k hk => hall i k hk (by omega)
    refine wpOp_mono (fun a' w' hq => ?_) (hl a w ho hg (fun k hk => hf k hk (hall2 k hk)))
    refine ⟨by simp [hls],.inl ⟨?_,?_,hq⟩⟩
    ·rw [getD_set (by omega),if_pos rfl]
    ·intro k hk
     rw [getD_set (by omega)]
     split
     ·rfl
     ·exact hall2 k (by omega)
   ·have hil':i < last:=by omega
    refine wpOp_mono ?_ (hs i a w hil' ho hg (fun k hk hd => hf k hk (ready_dep hi hd)))
    rintro a' w' ⟨ho',hk',he,hv,hg'⟩
    refine ⟨by simp [hls],.inr ⟨?_,?_,ho',hg',?_⟩⟩
    ·rw [getD_set (by omega),if_neg (by omega)];exact h1
    ·intro j k hj hjl hd
     rw [getD_set (by omega)] at hjl ⊢
     split
     ·rfl
     ·by_cases hji:j = i
      ·rw [hji] at hd;exact ready_dep hi hd
      ·rw [if_neg hji] at hjl;exact hcl j k hj hjl hd
    ·intro k hk hkl
     by_cases hki:k = i
     ·subst hki;exact hv
     ·rw [getD_set (by omega),if_neg hki] at hkl
      rw [hk' k hk hki (by
       cases hb:depB ops k i with
       | false => rfl
       | true => have:=hcl k i hk hkl hb;rw [hi3] at this;cases this)]
      exact hF k _ w w' hk (he.imp (fun h => h) (fun h => ⟨fun e => hki (e.trans h.1.symm),h.2⟩)) (hf k hk hkl)
end Go.Proofs.YtmfihlcibephlaaDoor
namespace Go.Proofs.YtmfihlcibephlaaDoor
open Go.RowKit
set_option maxHeartbeats 2000000 in
set_option maxRecDepth 100000 in
theorem weights_step (ks:List Tr) (A:Option Addr) (cap:Nat) (w:World) (hk:KsAt w A 0 ks) (HM:Hid (ks.length ≤ cap ∧ cap ≤ maxLen))
  (ih:Hid (∀ (j:Nat) (x:Tr),ks[j]? = some x → ∀ W v,TrAt W x v → Calls Tryd.prog 30 #[v] W (NumRes x.wt W))) :
  Calls Tryd.prog 60 #[.slice A ks.length cap] w (NumRes (wtL 0 ks) w):=by
 have HK:=Lib.hid hk
 clear hk
 go_enter Tryd.func60,Tryd.ntmps60
 go_wp2_with fail
 go_loopw [3,8] (fun s i W => ∃ j:Nat,j ≤ ks.length ∧ i = .int .i64 (j:Int) ∧ s = .int .i64 (wtL 0 (ks.take j)) ∧ Below w.heap.size w W) (fun _ i _ => ks.length - (intOf i).toNat)
 case atStart => exact ⟨0,by omega,rfl,rfl,Below.refl _ _⟩
 case round =>
  obtain ⟨j,hj,rfl,rfl,V1⟩:=hrel
  by_cases hlt:j < ks.length
  ·have hji:(j:Int) < (ks.length:Int):=by omega
   have hj0:(0:Int) ≤ (j:Int):=by omega
   have hjm:(j:Int) + 1 ≤ 9223372036854775807:=by have:=HM.out;simp only [maxLen] at this;omega
   have hkj:ks[j]? = some ks[j]:=List.getElem?_eq_getElem hlt
   obtain ⟨g,o,C,hA,HR,HT,HC3,HI3,HOC⟩:=kid_at (HK.out.later V1) hkj
   subst hA
   have HSN:Hid (wtL 0 (ks.take (j + 1)) = wrap64 (wtL 0 (ks.take j) + ks[j].wt)):=Lib.hid (by rw [List.take_succ_eq_append_getElem hlt];exact wtL_snoc _ _ _)
   have HIH:Hid (∀ W v,TrAt W ks[j] v → Calls Tryd.prog 30 #[v] W (NumRes ks[j].wt W)):=Lib.hid (ih.out j _ hkj)
   generalize ks[j] = x at HSN HIH HT
   generalize wtL 0 (ks.take j) = S at HSN ⊢
   clear hkj
   go_wp2_with (first
    | (with_reducible refine wpList_load_mid rfl _ (.tmp 10) rfl g (o + j * 3) rfl C _ HR.out Tryd.underlying53 rfl HI3.out ?_)
    | (refine wpList_store_new rfl _ (.tmp 5) (.tmp 11) rfl rfl rfl info_val HC3.out rfl (all_oneCell_toArray HOC.out) ?_;intro w5 hbel5 hrow5 hsz5;have T5:Arr w5 wr.heap.size 3 53 C:=Arr.of_row hrow5 HC3.out (by decide);have V5:=later V1 hbel5;have HT5:=Lib.hid (HT.out.later hbel5);clear hrow5)
    | (with_reducible refine wpList_load_mid rfl _ (.tmp 5) rfl wr.heap.size 0 rfl C _ T5.range Tryd.underlying53 rfl HI3.out ?_)
    | (go_at_call 30;(with_reducible refine (HIH.out _ _ HT5.out).mono ?_);rintro e w6 ⟨rfl,hb6⟩;have V6:=later V5 hb6))
   refine ⟨⟨j + 1,hlt,by go_num,by rw [HSN.out],V6⟩,by simp [intOf];omega⟩
  ·have hje:j = ks.length:=by omega
   subst hje
   rw [List.take_length]
   go_wp2_with fail
   go_ret
   exact ⟨rfl,V1⟩
theorem wt_pos {n l S:Int} (hn:i64r n) (h:wrap64 (-n) ≤ n):wtOf 0 n l S = n:=by
 unfold wtOf
 rw [if_pos rfl]
 split
 ·unfold wrap64 at *;unfold i64r at hn;omega
 ·rfl
theorem wt_neg {n l S:Int} (hn:i64r n) (h:n < wrap64 (-n)):wtOf 0 n l S = wrap64 (-n):=by
 unfold wtOf
 rw [if_pos rfl]
 split
 ·rfl
 ·unfold wrap64 at *;unfold i64r at hn;omega
theorem wt_3 (n l S:Int):wtOf 3 n l S = IntKind.i64.wrap (n + S):=by simp [wtOf,IntKind.wrap_i64,wrap64]
theorem wt_4 (n l S:Int):wtOf 4 n l S = IntKind.i64.wrap (l + S):=by simp [wtOf,IntKind.wrap_i64,wrap64]
theorem wt_else {k n l S:Int} (h0:¬ k = 0) (h1:¬ k = 1) (h2:¬ k = 2) (h3:¬ k = 3) (h4:¬ k = 4):wtOf k n l S = 0:=by
 unfold wtOf
 rw [if_neg h0,if_neg h1,if_neg h2,if_neg h3,if_neg h4]
set_option maxHeartbeats 4000000 in
set_option maxRecDepth 100000 in
theorem weight_step (k n S:Int) (len:Nat) (A:Option Addr) (cap:Nat) (w:World) (HM:Hid (len ≤ cap ∧ cap ≤ maxLen ∧ i64r k ∧ i64r n))
  (HW:Hid (∀ W,Below w.heap.size w W → Calls Tryd.prog 60 #[.slice A len cap] W (NumRes S W))) :
  Calls Tryd.prog 30 #[.agg (c3 k n A len cap).toArray] w (NumRes (wtOf k n (len:Int) S) w):=by
 have P1:=c3_new w k n A len cap
 have V0:=new_later w (.cells (c3 k n A len cap).toArray 53)
 have hn:=HM.out.2.2.2
 unfold i64r at hn
 go_enter Tryd.func30,Tryd.ntmps30
 go_upto_region 1 with fail
 have hc0:=P1.cell (j:=0) (v:=.int .i64 k) rfl
 have hc1:=P1.cell (j:=1) (v:=.int .i64 n) rfl
 have hc2:=P1.cell (j:=2) (v:=.slice A len cap) rfl
 have HWa:=Lib.hid fun n:Nat => HW.out _ (below_drewN V0 n)
 have HW0:=Lib.hid (HW.out _ V0)
 generalize w.alloc (.cells (c3 k n A len cap).toArray 53) = wa at P1 V0 hc0 hc1 hc2 HWa HW0 ⊢
 by_cases h0:k = 0
 ·subst h0
  go_wp2_with fail
  ·go_ret
   refine ⟨?_,V0⟩
   rw [wt_neg HM.out.2.2.2 (by omega)]
   rfl
  ·go_ret
   refine ⟨?_,V0⟩
   rw [wt_pos HM.out.2.2.2 (by assumption)]
   rfl
 ·by_cases h1:k = 1
  ·subst h1
   go_wp2_with fail
   go_ret
   exact ⟨rfl,V0⟩
  ·by_cases h2:k = 2
   ·subst h2
    go_wp2_with (go_at_call 60;(with_reducible refine HW0.out.mono ?_);rintro e w6 ⟨rfl,hb6⟩;have V6:=later V0 hb6)
    go_ret
    exact ⟨rfl,V6⟩
   ·by_cases h3:k = 3
    ·subst h3
     have Pd:Arr wa.drew w.heap.size 3 53 (c3 3 n A len cap):=P1
     have Vd:Below w.heap.size w wa.drew:=below_drewN V0 1
     have hd1:=Pd.cell (j:=1) (v:=.int .i64 n) rfl
     have hd2:=Pd.cell (j:=2) (v:=.slice A len cap) rfl
     have HWd:=Lib.hid (HW.out _ Vd)
     go_upto_region 9 with fail
     go_region_held3 (fun X => X.cell? ⟨w.heap.size,1,none⟩ = some (.int .i64 n) ∧ X.cell? ⟨w.heap.size,2,none⟩ = some (.slice A len cap)) (first | exact ⟨hd1,hd2⟩ | exact ⟨he1,he2⟩)
      (first | (go_at_call 60;(with_reducible refine HWd.out.mono ?_);rintro e w6 ⟨rfl,hb6⟩;have V6:=later Vd hb6;have P6:=Pd.later hb6;have he1:=P6.cell (j:=1) (v:=.int .i64 n) rfl;have he2:=P6.cell (j:=2) (v:=.slice A len cap) rfl))
     go_wp2_with fail
     go_ret
     refine ⟨?_,V6⟩
     rw [wt_3]
     rfl
    ·by_cases h4:k = 4
     ·subst h4
      have Pd:Arr wa.drew w.heap.size 3 53 (c3 4 n A len cap):=P1
      have Vd:Below w.heap.size w wa.drew:=below_drewN V0 1
      have hd1:=Pd.cell (j:=1) (v:=.int .i64 n) rfl
      have hd2:=Pd.cell (j:=2) (v:=.slice A len cap) rfl
      have HWd:=Lib.hid (HW.out _ Vd)
      go_upto_region 11 with fail
      go_region_held3 (fun X => X.cell? ⟨w.heap.size,1,none⟩ = some (.int .i64 n) ∧ X.cell? ⟨w.heap.size,2,none⟩ = some (.slice A len cap)) (first | exact ⟨hd1,hd2⟩ | exact ⟨he1,he2⟩)
       (first | (go_at_call 60;(with_reducible refine HWd.out.mono ?_);rintro e w6 ⟨rfl,hb6⟩;have V6:=later Vd hb6;have P6:=Pd.later hb6;have he1:=P6.cell (j:=1) (v:=.int .i64 n) rfl;have he2:=P6.cell (j:=2) (v:=.slice A len cap) rfl))
      go_wp2_with fail
      go_ret
      refine ⟨?_,V6⟩
      rw [wt_4]
      rfl
     ·go_wp2_with fail
      go_ret
      refine ⟨?_,V0⟩
      rw [wt_else h0 h1 h2 h3 h4]
      rfl
theorem weight_any:∀ (N:Nat) (x:Tr),x.nodes ≤ N → ∀ (w:World) (v:Value),TrAt w x v → Calls Tryd.prog 30 #[v] w (NumRes x.wt w)
 | 0,x,hN,_,_,_ => absurd hN (by have:=x.nodes_pos;omega)
 | N + 1,.node k n ks,hN,w,v,h => by
  unfold TrAt at h
  obtain ⟨A,cap,rfl,hm,hk⟩:=h
  rw [Tr.wt]
  exact weight_step k n _ ks.length A cap w (Lib.hid hm) (Lib.hid fun W hW => weights_step ks A cap W (hk.later hW) (Lib.hid ⟨hm.1,hm.2.1⟩) (Lib.hid fun j x hx W' v' h' => weight_any N x (by have:=Tr.kid_less (k:=k) (n:=n) hx;omega) W' v' h'))
end Go.Proofs.YtmfihlcibephlaaDoor
