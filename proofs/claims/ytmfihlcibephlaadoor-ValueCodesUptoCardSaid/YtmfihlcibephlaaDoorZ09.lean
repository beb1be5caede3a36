import Derived.Test.YtmfihlcibephlaaDoorZ01
import Derived.Test.YtmfihlcibephlaaDoorZ06
import Derived.Test.YtmfihlcibephlaaDoorZ08
set_option linter.unusedVariables false
set_option linter.unusedSimpArgs false
namespace Go.Proofs.YtmfihlcibephlaaDoor
open Go.RowKit
mutual
def Tr.en:Tr → List Nat
 | .node k n ks => enc k ++ (enc n ++ (enc (ks.length:Int) ++ enL ks))
def enL:List Tr → List Nat
 | [] => []
 | x :: xs => x.en ++ enL xs
end
theorem enL_snoc:∀ (xs:List Tr) (x:Tr),enL (xs ++ [x]) = enL xs ++ x.en
 | [],x => by simp [enL]
 | y :: ys,x => by rw [List.cons_append];unfold enL;rw [enL_snoc ys x,List.append_assoc]
theorem enL_take_le (xs:List Tr) (j:Nat) (h:j < xs.length):(enL (xs.take j)).length + (xs[j].en).length ≤ (enL xs).length:=by
 have h1:enL (xs.take (j + 1)) = enL (xs.take j) ++ xs[j].en:=by rw [List.take_succ_eq_append_getElem h,enL_snoc]
 have h2:∀ (a b:List Tr),(enL (a ++ b)).length = (enL a).length + (enL b).length:=by
  intro a b
  induction a with
  | nil => simp [enL]
  | cons x a ih => simp only [List.cons_append,enL,List.length_append,ih];omega
 have h3:=h2 (xs.take (j + 1)) (xs.drop (j + 1))
 rw [List.take_append_drop,h1,List.length_append] at h3
 omega
def RF (v v':Value) (w w':World):Prop:=(∀ k,k < w.heap.size → v.ownBlock ≠ some k → w'.heap[k]? = w.heap[k]?) ∧ (∀ g,v'.ownBlock = some g → v.ownBlock = some g ∨ w.heap.size ≤ g) ∧ w.heap.size ≤ w'.heap.size
theorem RF.refl (v:Value) (w:World):RF v v w w:=⟨fun _ _ _ => rfl,fun g h => .inl h,Nat.le_refl _⟩
theorem RF.trans {v v' v'':Value} {w w' w'':World} (h:RF v v' w w') (h':RF v' v'' w' w''):RF v v'' w w'':=by
 refine ⟨fun k hk hne => ?_,fun g hg => ?_,Nat.le_trans h.2.2 h'.2.2⟩
 ·rw [h'.1 k (Nat.lt_of_lt_of_le hk h.2.2) (fun e => by rcases h.2.1 k e with h1 | h1;exact hne h1;omega)]
  exact h.1 k hk hne
 ·rcases h'.2.1 g hg with h1 | h1
  ·exact h.2.1 g h1
  ·exact .inr (Nat.le_trans h.2.2 h1)
theorem RF.below {v v':Value} {w w' w'':World} (h:RF v v' w w') (hb:Below w'.heap.size w' w''):RF v v' w w'' :=
 ⟨fun k hk hne => (hb.block k (Nat.lt_of_lt_of_le hk h.2.2)).trans (h.1 k hk hne),h.2.1,Nat.le_trans h.2.2 hb.size⟩
theorem RF.ahead {v v':Value} {w w' w'':World} (hb:Below w.heap.size w w') (h:RF v v' w' w''):RF v v' w w'' :=
 ⟨fun k hk hne => (h.1 k (Nat.lt_of_lt_of_le hk hb.size) hne).trans (hb.block k hk),fun g hg => (h.2.1 g hg).imp id (fun h1 => Nat.le_trans hb.size h1),Nat.le_trans hb.size h.2.2⟩
theorem Arr.rf {v v':Value} {W W':World} {g n:Nat} {t:TypeId} {xs:List Value} (h:Arr W g n t xs) (f:RF v v' W W') (hne:v.ownBlock ≠ some g):Arr W' g n t xs:=by
 have hlt:=h.lt
 refine ⟨h.1,?_⟩
 rcases h.2 with h2 | ⟨g',cap,cur,hv,hg,hh,r⟩
 ·exact .inl h2
 ·refine .inr ⟨g',cap,cur,hv,hg,?_,r⟩
  cases hv
  rw [f.1 _ hlt hne]
  exact hh
theorem wpList_putR {w:World} {base B c m:Nat} {A:Option Addr} {v:Value} {xs ys:List Nat} {ops:Array Oper} {rest:List Oper} {o:Oper} {a:Act} {Q:Exit → Act → World → Prop}
  (hown:OwnB w base v xs) (hr:Rd w B A (bs ys)) (hm:m = ys.length) (h0:0 < ys.length) (hbase:base ≤ w.heap.size) (hbytes:xs.length + ys.length ≤ 140737488355328)
  (hgd:o.guard = none) (x y:Operand) (ho:o.op = .call { callee:=.builtin .append,args:=#[x,y],argTypes:=#[69,69] })
  (hs:a.eval x = v) (hy:a.eval y = .slice A m c)
  (h:∀ v' w',OwnB w' base v' (xs ++ ys) → Below base w w' → RF v v' w w' → wpList Tryd.prog ops Q rest (a.put o.dst v') w') :
  wpList Tryd.prog ops Q (o :: rest) a w:=by
 subst hm
 obtain ⟨i0,hi0,hz0,hz1,hz2⟩:=info_parts info_u8
 obtain ⟨b,o',hA,hb,hc⟩:=hr.at_ (by intro e;have:=congrArg List.length e;simp [bs] at this;subst this;simp at h0)
 subst hA
 refine wpList_append_own_at _ hgd x y _ ho base _ i0 (.int .u8 0) 1 1 Tryd.underlying69 hi0 hz0 hz1 hz2 rfl (by decide) v xs.length (bs xs) hs hown ⟨b,o',none⟩ ys.length c (bs ys) hy (by simp [bs]) ?_ (bs_cell ys) (by simp only [maxLen];omega) (by omega) hbase ?_
 ·intro j u hu
  have ha:(⟨b,o',none⟩:Addr).add j = ⟨b,o' + j,none⟩:=by unfold Addr.add;split <;> simp_all
  rw [ha];exact hc j u hu
 ·intro v' w' h1 hg _ hat
  have hb:=((Below.refl base w).grown hg hbase (fun k hk => (World.ownsRow.lt hown k hk).1))
  refine h v' w' ?_ hb ⟨fun k hk hne => hg.block k hk (fun e => hne e.symm),fun g hg' => ?_,hb.size⟩
  ·unfold OwnB
   rw [bs_app,List.length_append]
   exact h1
  ·rcases hat with h2 | h2
   ·left;rw [← h2];exact hg'
   ·right;rw [h2] at hg';injection hg' with e;omega
theorem int_row (n:Int) (hn:i64r n) (w:World):Calls Tryd.prog 82 #[.int .i64 n] w fun e w' => ∃ A c,e = .returned (.slice A (enc n).length c) ∧ Rd w' w'.heap.size A (bs (enc n)) ∧ Below w.heap.size w w':=by
 refine (Int_any n w hn.1 hn.2).mono ?_
 rintro e w' ⟨v',rfl,ho,hb⟩
 obtain ⟨A,c,rfl,_,_⟩:=ho.shape
 exact ⟨A,c,rfl,ho.rd,hb⟩
def ARes (base:Nat) (v:Value) (zs:List Nat) (w:World) (e:Ending) (w':World):Prop:=∃ v',e = .returned v' ∧ OwnB w' base v' zs ∧ Below base w w' ∧ RF v v' w w'
def pre3 (k n len:Int) (j:Nat):List Nat:=if j = 0 then [] else if j = 1 then enc k else if j = 2 then enc k ++ enc n else enc k ++ enc n ++ enc len
theorem OwnB.lt {w:World} {base:Nat} {v:Value} {xs:List Nat} (h:OwnB w base v xs):∀ k,v.ownBlock = some k → base ≤ k ∧ k < w.heap.size:=fun k hk => World.ownsRow.lt h k hk
set_option maxHeartbeats 8000000 in
set_option maxRecDepth 100000 in
theorem aval_step (W0 w:World) (base:Nat) (v:Value) (xs:List Nat) (k n:Int) (ks:List Tr) (A:Option Addr) (len cap:Nat) (hk:KsAt W0 A 0 ks) (hlen:ks.length = len) (hm:len ≤ cap ∧ cap ≤ maxLen ∧ i64r k ∧ i64r n)
  (hb:Below W0.heap.size W0 w) (hb0:W0.heap.size ≤ base) (hb1:base ≤ w.heap.size) (hown:OwnB w base v xs) (hl:xs.length + ((enc k).length + (enc n).length + (enc (len:Int)).length + (enL ks).length) ≤ 100000000000000)
  (ih:Hid (∀ (j:Nat) (x:Tr),ks[j]? = some x → ∀ (W:World) (v':Value) (ys:List Nat) (u:Value),TrAt W0 x u → Below W0.heap.size W0 W → base ≤ W.heap.size → OwnB W base v' ys → ys.length + (x.en).length ≤ 100000000000000 → Calls Tryd.prog 67 #[v',u] W (ARes base v' (ys ++ x.en) W))) :
  Calls Tryd.prog 67 #[v,.agg (c3 k n A len cap).toArray] w (ARes base v (xs ++ (enc k ++ enc n ++ enc (len:Int) ++ enL ks)) w):=by
 have HI:=Lib.hid int_row
 have hli:i64r (len:Int):=by have:=hm.1;have:=hm.2.1;simp only [maxLen] at this;unfold i64r;omega
 have hli2:(len:Int) ≤ 9223372036854775807:=hli.2
 have HKR:=Lib.hid hm.2.2
 have HLI:=Lib.hid hli
 have P0:=c3_new w k n A len cap
 have V0:=new_later w (.cells (c3 k n A len cap).toArray 53)
 have O0:=hown.alloc (.cells (c3 k n A len cap).toArray 53)
 have hvn2:v.ownBlock ≠ some w.heap.size:=fun e => by have:=(hown.lt _ e).2;omega
 have hsz:(w.alloc (.cells (c3 k n A len cap).toArray 53)).heap.size = w.heap.size + 1:=by simp
 generalize hW:w.alloc (.cells (c3 k n A len cap).toArray 53) = wa at P0 V0 O0 hsz
 have x0:=P0.cell (j:=0) (v:=.int .i64 k) rfl
 have x1:=P0.cell (j:=1) (v:=.int .i64 n) rfl
 have x2:=P0.cell (j:=2) (v:=.slice A len cap) rfl
 have HP:=Lib.hid P0
 have HV:=Lib.hid V0
 have HVA:=Lib.hid V0
 have HO:=Lib.hid O0
 have HB:=Lib.hid hb
 have HK:=Lib.hid hk
 have HL:=Lib.hid hl
 have HLEN:=Lib.hid hlen
 have HSZ:=Lib.hid hsz
 have HE1:Hid (∀ m:Int,i64r m → 0 < (enc m).length):=Lib.hid fun m hm => (enc_len m hm).1
 have hbl:(enc k).length + (enc n).length + (enc (len:Int)).length + xs.length ≤ 100000000000000:=by omega
 have HBL:=Lib.hid hbl
 clear P0 V0 O0 hown hb hk hl hlen hm hli hsz hbl
 have i0:∀ (a b c:Int) (W:World),(Instr.index 110 (.agg #[.int .i64 a,.int .i64 b,.int .i64 c]) (.int .i64 0)).run Tryd.prog W = .ok (.int .i64 a) W:=fun a b c W => by kernel_rfl
 have i1:∀ (a b c:Int) (W:World),(Instr.index 110 (.agg #[.int .i64 a,.int .i64 b,.int .i64 c]) (.int .i64 1)).run Tryd.prog W = .ok (.int .i64 b) W:=fun a b c W => by kernel_rfl
 have i2:∀ (a b c:Int) (W:World),(Instr.index 110 (.agg #[.int .i64 a,.int .i64 b,.int .i64 c]) (.int .i64 2)).run Tryd.prog W = .ok (.int .i64 c) W:=fun a b c W => by kernel_rfl
 go_enter Tryd.func67,Tryd.ntmps67
 go_upto_region 1 with fail
 clear hW
 go_wp2_with fail
 clear x0 x1 x2
 go_loopw [0,17] (fun b i W => ∃ j:Nat,j ≤ 3 ∧ i = .int .i64 (j:Int) ∧ OwnB W base b (xs ++ pre3 k n len j) ∧ Below base wa W ∧ RF v b wa W) (fun _ i _ => 3 - (intOf i).toNat)
 case atStart => exact ⟨0,by omega,rfl,by unfold pre3;rw [if_pos rfl,List.append_nil];exact HO.out,Below.refl _ _,RF.refl _ _⟩
 case round =>
  obtain ⟨j,hj,rfl,O1,B1,R1⟩:=hrel
  have hbw:base ≤ wr.heap.size:=Nat.le_trans (Nat.le_trans hb1 HV.out.size) B1.size
  have HO1:=Lib.hid O1
  have HB1:=Lib.hid B1
  have HR1:=Lib.hid R1
  clear O1 B1 R1
  obtain hj0 | hj1 | hj2 | hj3:j = 0 ∨ j = 1 ∨ j = 2 ∨ j = 3:=by omega
  ·subst hj0
   rw [show (((0:Nat)):Int) = 0 from rfl]
   have HRI:Hid (∀ W,Calls Tryd.prog 82 #[.int .i64 k] W fun e w' => ∃ A c,e = .returned (.slice A (enc k).length c) ∧ Rd w' w'.heap.size A (bs (enc k)) ∧ Below W.heap.size W w'):=Lib.hid fun W => HI.out k HKR.out.1 W
   have HH0:=Lib.hid (HE1.out k HKR.out.1)
   have hxl:(xs ++ pre3 k n len 0).length + (enc k).length ≤ 140737488355328:=by have:=HBL.out;unfold pre3;simp;omega
   have HXL:=Lib.hid hxl
   clear hxl
   go_wp2_with (first
    | (go_at_call 82;(with_reducible refine (HRI.out _).mono ?_);rintro e w3 ⟨A3,c3',rfl,hr3,hb3⟩;have HR3:=Lib.hid hr3;have HB3:=Lib.hid hb3;have HO3:=Lib.hid (HO1.out.below hb3);have hbw3:base ≤ w3.heap.size:=Nat.le_trans hbw hb3.size;clear hr3 hb3)
    | (at_builtin;refine wpList_putR HO3.out HR3.out rfl HH0.out hbw3 HXL.out rfl _ _ rfl rfl rfl ?_;intro v4 w4 ho4 hb4 hr4;have HO4:=Lib.hid ho4;have HB4:=Lib.hid hb4;have HR4:=Lib.hid hr4;clear ho4 hb4 hr4))
   refine ⟨⟨1,by omega,rfl,?_,?_,?_⟩,by simp [intOf]⟩
   ·have h:=HO4.out
    rw [List.append_assoc] at h
    exact h
   ·exact (HB1.out.trans (HB3.out.mono hbw)).trans HB4.out
   ·exact (HR1.out.below HB3.out).trans HR4.out
  ·subst hj1
   rw [show (((1:Nat)):Int) = 1 from rfl]
   have HRI:Hid (∀ W,Calls Tryd.prog 82 #[.int .i64 n] W fun e w' => ∃ A c,e = .returned (.slice A (enc n).length c) ∧ Rd w' w'.heap.size A (bs (enc n)) ∧ Below W.heap.size W w'):=Lib.hid fun W => HI.out n HKR.out.2 W
   have HH0:=Lib.hid (HE1.out n HKR.out.2)
   have hxl:(xs ++ pre3 k n len 1).length + (enc n).length ≤ 140737488355328:=by have:=HBL.out;unfold pre3;simp;omega
   have HXL:=Lib.hid hxl
   clear hxl
   go_wp2_with (first
    | (go_at_call 82;(with_reducible refine (HRI.out _).mono ?_);rintro e w3 ⟨A3,c3',rfl,hr3,hb3⟩;have HR3:=Lib.hid hr3;have HB3:=Lib.hid hb3;have HO3:=Lib.hid (HO1.out.below hb3);have hbw3:base ≤ w3.heap.size:=Nat.le_trans hbw hb3.size;clear hr3 hb3)
    | (at_builtin;refine wpList_putR HO3.out HR3.out rfl HH0.out hbw3 HXL.out rfl _ _ rfl rfl rfl ?_;intro v4 w4 ho4 hb4 hr4;have HO4:=Lib.hid ho4;have HB4:=Lib.hid hb4;have HR4:=Lib.hid hr4;clear ho4 hb4 hr4))
   refine ⟨⟨2,by omega,rfl,?_,?_,?_⟩,by simp [intOf]⟩
   ·have h:=HO4.out
    rw [List.append_assoc] at h
    exact h
   ·exact (HB1.out.trans (HB3.out.mono hbw)).trans HB4.out
   ·exact (HR1.out.below HB3.out).trans HR4.out
  ·subst hj2
   rw [show (((2:Nat)):Int) = 2 from rfl]
   have HRI:Hid (∀ W,Calls Tryd.prog 82 #[.int .i64 len] W fun e w' => ∃ A c,e = .returned (.slice A (enc len).length c) ∧ Rd w' w'.heap.size A (bs (enc len)) ∧ Below W.heap.size W w'):=Lib.hid fun W => HI.out len HLI.out W
   have HH0:=Lib.hid (HE1.out len HLI.out)
   have hxl:(xs ++ pre3 k n len 2).length + (enc len).length ≤ 140737488355328:=by have:=HBL.out;unfold pre3;simp;omega
   have HXL:=Lib.hid hxl
   clear hxl
   go_wp2_with (first
    | (go_at_call 82;(with_reducible refine (HRI.out _).mono ?_);rintro e w3 ⟨A3,c3',rfl,hr3,hb3⟩;have HR3:=Lib.hid hr3;have HB3:=Lib.hid hb3;have HO3:=Lib.hid (HO1.out.below hb3);have hbw3:base ≤ w3.heap.size:=Nat.le_trans hbw hb3.size;clear hr3 hb3)
    | (at_builtin;refine wpList_putR HO3.out HR3.out rfl HH0.out hbw3 HXL.out rfl _ _ rfl rfl rfl ?_;intro v4 w4 ho4 hb4 hr4;have HO4:=Lib.hid ho4;have HB4:=Lib.hid hb4;have HR4:=Lib.hid hr4;clear ho4 hb4 hr4))
   refine ⟨⟨3,by omega,rfl,?_,?_,?_⟩,by simp [intOf]⟩
   ·have h:=HO4.out
    rw [List.append_assoc] at h
    exact h
   ·exact (HB1.out.trans (HB3.out.mono hbw)).trans HB4.out
   ·exact (HR1.out.below HB3.out).trans HR4.out
  ·subst hj3
   rw [show (((3:Nat)):Int) = 3 from rfl]
   clear i0 i1 i2
   have hO3:OwnB wr base u0 (xs ++ (enc k ++ enc n ++ enc (len:Int))):=HO1.out
   have HO3:=Lib.hid hO3
   have HX1:=Lib.hid ((HP.out.rf HR1.out hvn2).cell (j:=2) (v:=.slice A len cap) rfl)
   have hx2:=HX1.out
   clear hO3
   go_wp2_with fail
   clear hx2
   obtain ⟨wo,rfl⟩:∃ wo:World,wo = wr:=⟨_,rfl⟩
   have HB0:=Lib.hid (HB.out.trans (HV.out.mono (Nat.le_trans hb0 hb1)))
   have hba:base ≤ wa.heap.size:=Nat.le_trans hb1 HV.out.size
   have HVW:=Lib.hid (HV.out.mono hb1)
   clear HO HBL HX1 hj HV HB
   go_loopw [0,28] (fun b i W => ∃ j:Nat,j ≤ len ∧ i = .int .i64 (j:Int) ∧ OwnB W base b (xs ++ (enc k ++ enc n ++ enc (len:Int)) ++ enL (ks.take j)) ∧ Below base wa W ∧ RF v b wa W) (fun _ i _ => len - (intOf i).toNat)
   case atStart => exact ⟨0,by omega,rfl,by rw [List.take_zero,enL,List.append_nil];exact HO3.out,HB1.out,HR1.out⟩
   case round =>
    obtain ⟨j,hj,rfl,O5,B5,R5⟩:=hrel
    have hj0:(0:Int) ≤ (j:Int):=by omega
    by_cases hlt:j < len
    ·have hji:(j:Int) < (len:Int):=by omega
     have hjm:(j:Int) + 1 ≤ 9223372036854775807:=by omega
     have hjx:j < ks.length:=by rw [HLEN.out];exact hlt
     have hkx:ks[j]? = some ks[j]:=List.getElem?_eq_getElem hjx
     have HTS:Hid (enL (ks.take (j + 1)) = enL (ks.take j) ++ ks[j].en):=Lib.hid (by rw [List.take_succ_eq_append_getElem hjx,enL_snoc])
     have HTL:=Lib.hid (enL_take_le ks j hjx)
     obtain ⟨g,o,C,hA,HRa,HT,HC3,HI3,HOC⟩:=kid_at HK.out hkx
     subst hA
     have HIH:=Lib.hid (ih.out j _ hkx)
     generalize ks[j] = x at HTS HTL HIH HT
     have HRb:=Lib.hid (range_below HRa.out (HB0.out.trans (B5.mono hb0)))
     have HW5:=Lib.hid (HB0.out.trans (B5.mono hb0))
     have hbw5:base ≤ wr.heap.size:=Nat.le_trans hba B5.size
     have HO5:=Lib.hid O5
     have HB5:=Lib.hid B5
     have HR5:=Lib.hid R5
     have HLT:=Lib.hid hlt
     have hsum:(xs ++ (enc k ++ enc n ++ enc (len:Int)) ++ enL (ks.take j)).length + x.en.length ≤ 100000000000000:=by
      have h1:=HTL.out
      have h2:=HL.out
      simp only [List.length_append]
      omega
     have HSUM:=Lib.hid hsum
     generalize hys:xs ++ (enc k ++ enc n ++ enc (len:Int)) ++ enL (ks.take j) = ys at HO5 HSUM
     have HYS:=Lib.hid hys
     clear hjx hkx hlt O5 B5 R5 HRa hsum hys hj
     go_wp2_with (first
      | (with_reducible refine wpList_load_mid rfl _ (.tmp 30) rfl g (o + j * 3) rfl C _ HRb.out Tryd.underlying53 rfl HI3.out ?_)
      | (refine wpList_store_new rfl _ (.tmp 8) (.tmp 31) rfl rfl rfl info_val HC3.out rfl (all_oneCell_toArray HOC.out) ?_;intro w5 hbel5 hrow5 hsz5;have T5:Arr w5 wr.heap.size 3 53 C:=Arr.of_row hrow5 HC3.out (by decide);have HBE5:=Lib.hid hbel5;have HO6:=Lib.hid (HO5.out.below hbel5);have HW6:=Lib.hid (HW5.out.trans (hbel5.mono (Nat.le_trans hb0 hbw5)));have hbw6:base ≤ w5.heap.size:=Nat.le_trans hbw5 hbel5.size;clear hrow5 hbel5)
      | (with_reducible refine wpList_load_mid rfl _ (.tmp 8) rfl wr.heap.size 0 rfl C _ T5.range Tryd.underlying53 rfl HI3.out ?_)
      | (go_at_call 67;(with_reducible refine (HIH.out _ _ _ _ HT.out HW6.out hbw6 HO6.out HSUM.out).mono ?_);rintro e w7 ⟨v7,rfl,ho7,hb7,hr7⟩;have HO7:=Lib.hid ho7;have HB7:=Lib.hid hb7;have HR7:=Lib.hid hr7;clear ho7 hb7 hr7))
     refine ⟨⟨j + 1,HLT.out,by go_num,?_,?_,?_⟩,by have:=HLT.out;simp [intOf];omega⟩
     ·rw [HTS.out,← List.append_assoc,HYS.out];exact HO7.out
     ·exact (HB5.out.trans (HBE5.out.mono hbw5)).trans HB7.out
     ·exact (HR5.out.below HBE5.out).trans HR7.out
    ·obtain rfl:j = len:=by omega
     have HOF:=Lib.hid O5
     have HBF:=Lib.hid B5
     have HRF:=Lib.hid R5
     clear O5 B5 R5 hlt
     go_wp2_with fail
     go_ret
     refine ⟨_,rfl,?_,HVW.out.trans HBF.out,RF.ahead HVA.out HRF.out⟩
     have h:=HOF.out
     rw [List.take_of_length_le (by rw [HLEN.out];omega),List.append_assoc] at h
     exact h
theorem aval_any (W0:World) (base:Nat) (hb0:W0.heap.size ≤ base):∀ (N:Nat) (x:Tr),x.nodes ≤ N → ∀ (w:World) (v:Value) (xs:List Nat) (u:Value),TrAt W0 x u → Below W0.heap.size W0 w → base ≤ w.heap.size → OwnB w base v xs → xs.length + (x.en).length ≤ 100000000000000 →
  Calls Tryd.prog 67 #[v,u] w (ARes base v (xs ++ x.en) w)
 | 0,x,hN,_,_,_,_,_,_,_,_,_ => absurd hN (by have:=x.nodes_pos;omega)
 | N + 1,.node k n ks,hN,w,v,xs,u,h,hb,hb1,ho,hl => by
  unfold TrAt at h
  obtain ⟨A,cap,rfl,hm,hk⟩:=h
  have e:(Tr.node k n ks).en = enc k ++ enc n ++ enc (ks.length:Int) ++ enL ks:=by rw [Tr.en];simp
  rw [e] at hl ⊢
  refine aval_step W0 w base v xs k n ks A ks.length cap hk rfl hm hb hb0 hb1 ho (by simp at hl;omega) (Lib.hid fun j x hx W v' ys u hT hB h1 h2 h3 => ?_)
  exact aval_any W0 base hb0 N x (by have:=Tr.kid_less (k:=k) (n:=n) hx;omega) W v' ys u hT hB h1 h2 h3
set_option maxHeartbeats 400000 in
set_option maxRecDepth 100000 in
theorem encode_any (x:Tr) (w:World) (v:Value) (h:TrAt w x v) (hl:(x.en).length ≤ 100000000000000) :
  Calls Tryd.prog 38 #[v] w fun e w' => ∃ v',e = .returned v' ∧ OwnB w' w.heap.size v' x.en ∧ Below w.heap.size w w':=by
 obtain ⟨k,n,A,len,cap,rfl⟩:=h.shape
 have P0:=c3_new w k n A len cap
 have V0:=new_later w (.cells (c3 k n A len cap).toArray 53)
 have HC:Hid (Calls Tryd.prog 67 #[.slice none 0 0,.agg #[.int .i64 k,.int .i64 n,.slice A len cap]] (w.alloc (.cells (c3 k n A len cap).toArray 53)) (ARes w.heap.size (.slice none 0 0) x.en (w.alloc (.cells (c3 k n A len cap).toArray 53)))):=Lib.hid (by
  have h1:=aval_any w w.heap.size (Nat.le_refl _) x.nodes x (Nat.le_refl _) (w.alloc (.cells (c3 k n A len cap).toArray 53)) (.slice none 0 0) [] _ h V0 V0.size (OwnB.nil _ _) (by simpa using hl)
  rwa [List.nil_append] at h1)
 generalize hW:w.alloc (.cells (c3 k n A len cap).toArray 53) = wa at P0 V0 HC
 have x0:=P0.cell (j:=0) (v:=.int .i64 k) rfl
 have x1:=P0.cell (j:=1) (v:=.int .i64 n) rfl
 have x2:=P0.cell (j:=2) (v:=.slice A len cap) rfl
 have HV:=Lib.hid V0
 clear P0 V0 h hl
 go_enter Tryd.func38,Tryd.ntmps38
 go_upto_region 1 with fail
 clear hW
 go_wp2_with (first
  | (go_at_call 67;(with_reducible refine HC.out.mono ?_);rintro e w7 ⟨v7,rfl,ho7,hb7,hr7⟩))
 go_ret
 exact ⟨_,rfl,ho7,HV.out.trans hb7⟩
end Go.Proofs.YtmfihlcibephlaaDoor
namespace Go.Proofs.YtmfihlcibephlaaDoor
open Go.RowKit
theorem rdigs_next {m:Nat} (h:m ≠ 0):(digs m).reverse = m % 256 :: (digs (m / 256)).reverse:=by rw [digs_pos h];simp
theorem rdigs_len {n m:Nat} {xs:List Nat} (h:xs ++ (digs m).reverse = (digs n).reverse) (hn:n ≤ 9223372036854775807):xs.length ≤ 8:=by
 have h1:=digs_len8 hn
 have h2:=congrArg List.length h
 simp at h2;omega
set_option maxHeartbeats 400000 in
set_option maxRecDepth 100000 in
theorem refIntPos_any (n:Nat) (w:World) (hn:n ≤ 9223372036854775807) :
  Calls Tryd.prog 66 #[.int .i64 (n:Int)] w fun e w' => ∃ v',e = .returned v' ∧ OwnB w' w.heap.size v' (enc n) ∧ Below w.heap.size w w':=by
 have hn0:(0:Int) ≤ (n:Int):=by omega
 have hn1:¬ (n:Int) < 0:=by omega
 go_enter Tryd.func66,Tryd.ntmps66
 go_wp2
 go_loopw [3,4] (fun m d wr => ∃ (M:Nat) (xs:List Nat),M ≤ n ∧ m = .int .i64 (M:Int) ∧ OwnB wr w.heap.size d xs ∧ xs ++ (digs M).reverse = (digs n).reverse ∧ Below w.heap.size w wr) (fun m _ _ => (intOf m).toNat)
 case atStart => exact ⟨n,[],Nat.le_refl _,rfl,OwnB.nil _ _,by simp,Below.refl _ _⟩
 case round =>
  obtain ⟨M,xs,hM,rfl,hown,hx,hb⟩:=hrel
  have hl:=rdigs_len hx hn
  have hbs:=hb.size
  by_cases h0:0 < M
  ·have h0':(0:Int) < (M:Int):=by omega
   have hmod:(M:Int).tmod 256 = ((M % 256:Nat):Int):=rfl
   have hm1:(0:Int) ≤ (M:Int).tmod 256 ∧ (M:Int).tmod 256 < 256:=by rw [hmod];omega
   have hdiv:(M:Int).tdiv 256 = ((M / 256:Nat):Int):=rfl
   have hx2:(xs ++ [M % 256]) ++ (digs (M / 256)).reverse = (digs n).reverse:=by rw [← hx,rdigs_next (m:=M) (by omega)];simp
   have hlt:M % 256 < 256:=Nat.mod_lt _ (by decide)
   have HX:=Lib.hid hx2
   have hM2:M / 256 < M:=Nat.div_lt_self h0 (by decide)
   clear hx hx2
   go_wp2_with (at_builtin;refine wpList_putB (x:=M % 256) hown (by first | exact hmod | (simp;omega)) (by omega) (by omega) rfl _ _ rfl rfl rfl ?_;intro v3 w3 hown3 hbel3)
   go_roundw
   case rel => exact ⟨M / 256,_,by omega,rfl,hown3,HX.out,hb.trans hbel3⟩
   case measure => simp only [intOf];omega
  ·have hM0:M = 0:=by omega
   subst hM0
   have hd:xs = (digs n).reverse:=by simpa [digs_zero] using hx
   subst hd
   obtain ⟨A,c,rfl,hc1,hc2⟩:=hown.shape
   have hwr:w.heap.size ≤ wr.heap.size:=hbs
   have hK:(digs n).reverse.length = (digs n).length:=List.length_reverse
   have hK8:=digs_len8 hn
   have henc:=Lib.hid (enc_pos n)
   have hrd:=hown.rd
   rw [hK] at hc1 ⊢
   clear hx h0 hl hK hown
   generalize hD:digs n = D at *
   clear hD
   go_wp2_with (at_builtin;refine wpList_putB (base:=wr.heap.size) (x:=128 + D.length) (OwnB.nil _ _) (by omega) (Nat.le_refl _) (by simp) rfl _ _ rfl rfl rfl ?_;intro v4 w4 hown4 hbel4)
   have hb4:Below w.heap.size w w4:=hb.trans (hbel4.mono hwr)
   have hrd4:=hrd.below hbel4
   go_loopw [6,7] (fun o i wr2 => ∃ k:Nat,k ≤ D.length ∧ i = .int .i64 ((k:Int) - 1) ∧ OwnB wr2 wr.heap.size o ((128 + D.length) :: D.take (D.length - k)) ∧ Below wr.heap.size wr wr2) (fun _ i _ => (intOf i + 1).toNat)
   case atStart => exact ⟨D.length,Nat.le_refl _,rfl,by simpa using hown4,hbel4⟩
   case round =>
    obtain ⟨k,hk,rfl,hown5,hb5⟩:=hrel
    cases k with
    | zero =>
     have hend:(128 + D.length) :: D.take (D.length - 0) = enc (n:Int):=by rw [henc.out];simp
     rw [hend] at hown5
     go_wp2_with fail
     go_ret
     exact ⟨_,rfl,hown5.less hwr,hb.trans (hb5.mono hwr)⟩
    | succ k =>
     have hi:((k + 1:Nat):Int) - 1 = (k:Int):=by omega
     rw [hi]
     obtain ⟨b,o,rfl,_,hc⟩:=(hrd.below hb5).at_ (by intro h;have:=congrArg List.length h;simp [bs] at this;subst this;simp at hk)
     have hkl:k < D.reverse.length:=by simp;omega
     have hcell:=hc k _ (bs_get D.reverse k hkl)
     have hget:D.reverse[k]?.getD 0 = D[D.length - (k + 1)]'(by omega):=by
      rw [List.getElem?_eq_getElem hkl,Option.getD_some,List.getElem_reverse]
      congr 1;omega
     rw [hget] at hcell
     have htake:D.take (D.length - k) = D.take (D.length - (k + 1)) ++ [D[D.length - (k + 1)]'(by omega)]:=by
      rw [show D.length - k = D.length - (k + 1) + 1 by omega,List.take_succ_eq_append_getElem (by omega)]
     have HT:=Lib.hid htake
     have hkD:(k:Int) < (D.length:Int):=by omega
     have hb5s:=hb5.size
     have hlen5:((128 + D.length) :: D.take (D.length - (k + 1))).length ≤ 10:=by simp;omega
     clear hc hget htake
     generalize D[D.length - (k + 1)]'(by omega) = X at hcell HT
     go_wp2_with (at_builtin;refine wpList_putB (x:=X) hown5 rfl hb5s (by omega) rfl _ _ rfl rfl rfl ?_;intro v6 w6 hown6 hbel6)
     go_roundw
     case rel => exact ⟨k,by omega,rfl,by rw [HT.out];simpa using hown6,hb5.trans hbel6⟩
     case measure => simp [intOf]
set_option maxHeartbeats 400000 in
set_option maxRecDepth 100000 in
theorem refIntNeg_any (n:Nat) (N:Int) (hN:N = -1 - (n:Int)) (w:World) (hn:n ≤ 9223372036854775807) :
  Calls Tryd.prog 66 #[.int .i64 N] w fun e w' => ∃ v',e = .returned v' ∧ OwnB w' w.heap.size v' (enc N) ∧ Below w.heap.size w w':=by
 have hn0:N < 0:=by omega
 have hn1:¬ 0 ≤ N:=by omega
 have hn2:-1 - N = (n:Int):=by omega
 have hn3:-9223372036854775808 ≤ N:=by omega
 have HN:=Lib.hid hN
 clear hN
 go_enter Tryd.func66,Tryd.ntmps66
 go_wp2
 go_loopw [3,4] (fun m d wr => ∃ (M:Nat) (xs:List Nat),M ≤ n ∧ m = .int .i64 (M:Int) ∧ OwnB wr w.heap.size d xs ∧ xs ++ (digs M).reverse = (digs n).reverse ∧ Below w.heap.size w wr) (fun m _ _ => (intOf m).toNat)
 case atStart => exact ⟨n,[],Nat.le_refl _,rfl,OwnB.nil _ _,by simp,Below.refl _ _⟩
 case round =>
  obtain ⟨M,xs,hM,rfl,hown,hx,hb⟩:=hrel
  have hl:=rdigs_len hx hn
  have hbs:=hb.size
  by_cases h0:0 < M
  ·have h0':(0:Int) < (M:Int):=by omega
   have hmod:(M:Int).tmod 256 = ((M % 256:Nat):Int):=rfl
   have hm1:(0:Int) ≤ (M:Int).tmod 256 ∧ (M:Int).tmod 256 < 256:=by rw [hmod];omega
   have hdiv:(M:Int).tdiv 256 = ((M / 256:Nat):Int):=rfl
   have hx2:(xs ++ [M % 256]) ++ (digs (M / 256)).reverse = (digs n).reverse:=by rw [← hx,rdigs_next (m:=M) (by omega)];simp
   have hlt:M % 256 < 256:=Nat.mod_lt _ (by decide)
   have HX:=Lib.hid hx2
   have hM2:M / 256 < M:=Nat.div_lt_self h0 (by decide)
   clear hx hx2
   go_wp2_with (at_builtin;refine wpList_putB (x:=M % 256) hown (by first | exact hmod | (simp;omega)) (by omega) (by omega) rfl _ _ rfl rfl rfl ?_;intro v3 w3 hown3 hbel3)
   go_roundw
   case rel => exact ⟨M / 256,_,by omega,rfl,hown3,HX.out,hb.trans hbel3⟩
   case measure => simp only [intOf];omega
  ·have hM0:M = 0:=by omega
   subst hM0
   have hd:xs = (digs n).reverse:=by simpa [digs_zero] using hx
   subst hd
   obtain ⟨A,c,rfl,hc1,hc2⟩:=hown.shape
   have hwr:w.heap.size ≤ wr.heap.size:=hbs
   have hK:(digs n).reverse.length = (digs n).length:=List.length_reverse
   have hK8:=digs_len8 hn
   have henc:=Lib.hid (show enc N = (127 - (digs n).length) :: (digs n).map (255 - ·) by rw [HN.out];exact enc_neg n)
   have hlt:=digs_lt n
   have hrd:=hown.rd
   rw [hK] at hc1 ⊢
   clear hx h0 hl hK hown
   generalize hD:digs n = D at *
   clear hD
   go_wp2_with (at_builtin;refine wpList_putB (base:=wr.heap.size) (x:=127 - D.length) (OwnB.nil _ _) (by omega) (Nat.le_refl _) (by simp) rfl _ _ rfl rfl rfl ?_;intro v4 w4 hown4 hbel4)
   have hb4:Below w.heap.size w w4:=hb.trans (hbel4.mono hwr)
   have hrd4:=hrd.below hbel4
   go_loopw [6,7] (fun o i wr2 => ∃ k:Nat,k ≤ D.length ∧ i = .int .i64 ((k:Int) - 1) ∧ OwnB wr2 wr.heap.size o ((127 - D.length) :: (D.map (255 - ·)).take (D.length - k)) ∧ Below wr.heap.size wr wr2) (fun _ i _ => (intOf i + 1).toNat)
   case atStart => exact ⟨D.length,Nat.le_refl _,rfl,by simpa using hown4,hbel4⟩
   case round =>
    obtain ⟨k,hk,rfl,hown5,hb5⟩:=hrel
    cases k with
    | zero =>
     have hend:(127 - D.length) :: (D.map (255 - ·)).take (D.length - 0) = enc N:=by rw [henc.out,List.take_of_length_le (by simp)]
     rw [hend] at hown5
     go_wp2_with fail
     go_ret
     exact ⟨_,rfl,hown5.less hwr,hb.trans (hb5.mono hwr)⟩
    | succ k =>
     have hi:((k + 1:Nat):Int) - 1 = (k:Int):=by omega
     rw [hi]
     obtain ⟨b,o,rfl,_,hc⟩:=(hrd.below hb5).at_ (by intro h;have:=congrArg List.length h;simp [bs] at this;subst this;simp at hk)
     have hkl:k < D.reverse.length:=by simp;omega
     have hcell:=hc k _ (bs_get D.reverse k hkl)
     have hget:D.reverse[k]?.getD 0 = D[D.length - (k + 1)]'(by omega):=by
      rw [List.getElem?_eq_getElem hkl,Option.getD_some,List.getElem_reverse]
      congr 1;omega
     rw [hget] at hcell
     have htake:(D.map (255 - ·)).take (D.length - k) = (D.map (255 - ·)).take (D.length - (k + 1)) ++ [255 - D[D.length - (k + 1)]'(by omega)]:=by
      rw [show D.length - k = D.length - (k + 1) + 1 by omega,List.take_succ_eq_append_getElem (by simp;omega),List.getElem_map]
     have hX:=hlt _ (List.getElem_mem (show D.length - (k + 1) < D.length by omega))
     have HT:=Lib.hid htake
     have hkD:(k:Int) < (D.length:Int):=by omega
     have hb5s:=hb5.size
     have hlen5:((127 - D.length) :: (D.map (255 - ·)).take (D.length - (k + 1))).length ≤ 10:=by simp;omega
     clear hc hget htake
     generalize D[D.length - (k + 1)]'(by omega) = X at hcell HT hX
     go_wp2_with (at_builtin;refine wpList_putB (x:=255 - X) hown5 (by omega) hb5s (by omega) rfl _ _ rfl rfl rfl ?_;intro v6 w6 hown6 hbel6)
     go_roundw
     case rel => exact ⟨k,by omega,rfl,by rw [HT.out];simpa using hown6,hb5.trans hbel6⟩
     case measure => simp [intOf]
theorem refInt_any (n:Int) (w:World) (hn:InR n) :
  Calls Tryd.prog 66 #[.int .i64 n] w fun e w' => ∃ v',e = .returned v' ∧ OwnB w' w.heap.size v' (enc n) ∧ Below w.heap.size w w':=by
 unfold InR at hn
 rcases Int.lt_or_le n 0 with h | h
 ·exact refIntNeg_any (-1 - n).toNat n (by omega) w (by omega)
 ·obtain ⟨N,rfl⟩:=Int.eq_ofNat_of_zero_le h
  exact refIntPos_any N w (by omega)
end Go.Proofs.YtmfihlcibephlaaDoor
