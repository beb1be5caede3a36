import Derived.Test.YtmfihlcibephlaaDoorZ01
import Derived.Test.YtmfihlcibephlaaDoorZ08
import Derived.Test.YtmfihlcibephlaaDoorZ09
import Derived.Deep.RegionWith
set_option linter.unusedVariables false
set_option linter.unusedSimpArgs false
namespace Go.Proofs.YtmfihlcibephlaaDoor
open Go.RowKit
def EnR (zs:List Nat) (W:World) (e:Ending) (w':World):Prop:=∃ A c,e = .returned (.slice A zs.length c) ∧ OwnB w' W.heap.size (.slice A zs.length c) zs ∧ Below W.heap.size W w'
theorem ref_int_row (n:Int) (hn:i64r n) (w:World):Calls Tryd.prog 66 #[.int .i64 n] w (EnR (enc n) w):=by
 refine (refInt_any n w (by unfold i64r at hn;unfold InR;omega)).mono ?_
 rintro e w' ⟨v',rfl,ho,hb⟩
 obtain ⟨A,c,rfl,_,_⟩:=ho.shape
 exact ⟨A,c,rfl,ho,hb⟩
theorem en_pos (x:Tr) (hx:∀ k n ks,x = .node k n ks → i64r k):0 < x.en.length:=by
 obtain ⟨k,n,ks⟩:=x
 have:=(enc_len k (hx k n ks rfl)).1
 rw [Tr.en,List.length_append]
 omega
set_option maxHeartbeats 4000000 in
set_option maxRecDepth 100000 in
theorem renc_step (k n:Int) (ks:List Tr) (A:Option Addr) (cap:Nat) (w:World) (hk:KsAt w A 0 ks) (HM:Hid (ks.length ≤ cap ∧ cap ≤ maxLen ∧ i64r k ∧ i64r n))
  (hl:(enc k ++ (enc n ++ (enc (ks.length:Int) ++ enL ks))).length ≤ 100000000000000)
  (ih:Hid (∀ (j:Nat) (x:Tr),ks[j]? = some x → ∀ W v,TrAt W x v → Calls Tryd.prog 37 #[v] W (EnR x.en W))) :
  Calls Tryd.prog 37 #[.agg (c3 k n A ks.length cap).toArray] w (EnR (enc k ++ (enc n ++ (enc (ks.length:Int) ++ enL ks))) w):=by
 obtain ⟨len,hlen⟩:∃ l,ks.length = l:=⟨_,rfl⟩
 rw [hlen] at hl ⊢
 have HLEN:=Lib.hid hlen
 have hli:i64r (len:Int):=by have:=HM.out.1;have:=HM.out.2.1;simp only [maxLen] at this;unfold i64r;omega
 have HRK:=Lib.hid (ref_int_row k HM.out.2.2.1)
 have HRN:=Lib.hid (ref_int_row n HM.out.2.2.2)
 have HRL:=Lib.hid (ref_int_row (len:Int) hli)
 have HE:=Lib.hid (And.intro (enc_len k HM.out.2.2.1).1 (And.intro (enc_len n HM.out.2.2.2).1 (enc_len (len:Int) hli).1))
 simp only [List.length_append] at hl
 have HX1:Hid (([]:List Nat).length + (enc k).length ≤ 140737488355328):=Lib.hid (by simp;omega)
 have HX2:Hid (([] ++ enc k).length + (enc n).length ≤ 140737488355328):=Lib.hid (by simp;omega)
 have HX3:Hid (([] ++ enc k ++ enc n).length + (enc (len:Int)).length ≤ 140737488355328):=Lib.hid (by simp;omega)
 have HL:=Lib.hid hl
 have HK:=Lib.hid hk
 have P1:=c3_new w k n A len cap
 have V0:=new_later w (.cells (c3 k n A len cap).toArray 53)
 clear hk hl hli hlen
 go_enter Tryd.func37,Tryd.ntmps37
 go_upto_region 1 with fail
 generalize w.alloc (.cells (c3 k n A len cap).toArray 53) = wa at P1 V0 ⊢
 have HP:=Lib.hid P1
 have HV:=Lib.hid V0
 have x0:=P1.cell (j:=0) (v:=.int .i64 k) rfl
 clear P1 V0
 go_upto_region 3 with (first
  | (go_at_call 66;(with_reducible refine (HRK.out _).mono ?_);rintro e w3 ⟨A3,c3',rfl,hr3,hb3⟩;have HR3:=Lib.hid hr3.rd;have HB3:=Lib.hid hb3;clear hr3 hb3)
  | (at_builtin;refine wpList_putR (OwnB.nil w3 wa.heap.size) HR3.out rfl HE.out.1 HB3.out.size HX1.out rfl _ _ rfl rfl rfl ?_;intro v4 w4 ho4 hb4 hr4;have HO4:=Lib.hid ho4;have HB4:=Lib.hid (HB3.out.trans hb4);clear ho4 hb4 hr4))
 have x1:=(HP.out.later HB4.out).cell (j:=1) (v:=.int .i64 n) rfl
 clear x0 HR3 HB3 HRK HX1
 go_upto_region 4 with (first
  | (go_at_call 66;(with_reducible refine (HRN.out _).mono ?_);rintro e w5 ⟨A3,c3',rfl,hr3,hb3⟩;have HR3:=Lib.hid hr3.rd;have HO5:=Lib.hid (HO4.out.below hb3);have HB5:=Lib.hid (later HB4.out hb3);clear hr3 hb3)
  | (at_builtin;refine wpList_putR HO5.out HR3.out rfl HE.out.2.1 HB5.out.size HX2.out rfl _ _ rfl rfl rfl ?_;intro v6 w6 ho4 hb4 hr4;have HO6:=Lib.hid ho4;have HB6:=Lib.hid (HB5.out.trans hb4);clear ho4 hb4 hr4))
 have x2:=(HP.out.later HB6.out).cell (j:=2) (v:=.slice A len cap) rfl
 clear x1 HR3 HB4 HB5 HO4 HO5 HRN HX2
 go_upto_region 5 with (first
  | (go_at_call 66;(with_reducible refine (HRL.out _).mono ?_);rintro e w7 ⟨A3,c3',rfl,hr3,hb3⟩;have HR3:=Lib.hid hr3.rd;have HO7:=Lib.hid (HO6.out.below hb3);have HB7:=Lib.hid (later HB6.out hb3);clear hr3 hb3)
  | (at_builtin;refine wpList_putR HO7.out HR3.out rfl HE.out.2.2 HB7.out.size HX3.out rfl _ _ rfl rfl rfl ?_;intro v8 w8 ho4 hb4 hr4;have HO8:=Lib.hid ho4;have HB8:=Lib.hid (HB7.out.trans hb4);clear ho4 hb4 hr4))
 clear x2 HR3 HB6 HB7 HO6 HO7 HRL HX3
 obtain ⟨pre,hpre⟩:∃ p,[] ++ enc k ++ enc n ++ enc (len:Int) = p:=⟨_,rfl⟩
 rw [hpre] at HO8
 have HPRE:=Lib.hid hpre
 clear hpre
 go_wp2_with fail
 go_loopw [3,4] (fun s i W => ∃ j:Nat,j ≤ len ∧ i = .int .i64 (j:Int) ∧ OwnB W wa.heap.size s (pre ++ enL (ks.take j)) ∧ Below wa.heap.size wa W) (fun _ i _ => len - (intOf i).toNat)
 case atStart => exact ⟨0,by omega,rfl,by rw [List.take_zero,enL,List.append_nil];exact HO8.out,HB8.out⟩
 case round =>
  clear HO8 HB8
  obtain ⟨j,hj,rfl,hO,V1⟩:=hrel
  have HO:=Lib.hid hO
  have hc2:=(HP.out.later V1).cell (j:=2) (v:=.slice A len cap) rfl
  have HV1:=Lib.hid V1
  clear hO V1
  by_cases hlt:j < len
  ·have hji:(j:Int) < (len:Int):=by omega
   have hj0:(0:Int) ≤ (j:Int):=by omega
   have hjm:(j:Int) + 1 ≤ 9223372036854775807:=by have:=HLEN.out;have:=HM.out;simp only [maxLen] at this;omega
   have hjk:j < ks.length:=by rw [HLEN.out];exact hlt
   have hkj:ks[j]? = some ks[j]:=List.getElem?_eq_getElem hjk
   obtain ⟨g,o,C,hA,HR,HT,HC3,HI3,HOC⟩:=kid_at (HK.out.later (later HV.out HV1.out)) hkj
   subst hA
   have HSN:Hid (enL (ks.take (j + 1)) = enL (ks.take j) ++ ks[j].en):=Lib.hid (by rw [List.take_succ_eq_append_getElem hjk];exact enL_snoc _ _)
   have HIH:Hid (∀ W v,TrAt W ks[j] v → Calls Tryd.prog 37 #[v] W (EnR ks[j].en W)):=Lib.hid (ih.out j _ hkj)
   have HSZ:Hid ((pre ++ enL (ks.take j)).length + ks[j].en.length ≤ 140737488355328):=Lib.hid (by
    have h1:=enL_take_le ks j hjk
    have h2:=HL.out
    have h3:pre.length = (enc k).length + (enc n).length + (enc (len:Int)).length:=by rw [← HPRE.out];simp;omega
    rw [List.length_append]
    omega)
   have HEP:Hid (0 < ks[j].en.length):=Lib.hid (en_pos _ fun k' n' ks' e => by
    have h:=HT.out
    rw [e] at h
    unfold TrAt at h
    obtain ⟨_,_,_,hm,_⟩:=h
    exact hm.2.2.1)
   generalize ks[j] = x at HSN HIH HT HSZ HEP
   generalize x.en = xe at HSN HIH HSZ HEP
   obtain ⟨acc,hacc⟩:∃ a,pre ++ enL (ks.take j) = a:=⟨_,rfl⟩
   rw [hacc] at HO HSZ
   have HACC:=Lib.hid hacc
   clear hkj hjk hacc
   go_wp2_with (first
    | (with_reducible refine wpList_load_mid rfl _ (.tmp 32) rfl g (o + j * 3) rfl C _ HR.out Tryd.underlying53 rfl HI3.out ?_)
    | (go_at_call 37;(with_reducible refine (HIH.out _ _ HT.out).mono ?_);rintro e w9 ⟨A9,c9,rfl,ho9,hb9⟩;have HR9:=Lib.hid ho9.rd;have HO9:=Lib.hid (HO.out.below hb9);have HB9:=Lib.hid (later HV1.out hb9);clear ho9 hb9)
    | (at_builtin;refine wpList_putR HO9.out HR9.out rfl HEP.out HB9.out.size HSZ.out rfl _ _ rfl rfl rfl ?_;intro v10 w10 ho hb hr;have HO10:=Lib.hid ho;have HB10:=Lib.hid (HB9.out.trans hb);clear ho hb hr))
   go_roundw
   case rel => exact ⟨j + 1,hlt,by go_num,by rw [HSN.out,← List.append_assoc,HACC.out];exact HO10.out,HB10.out⟩
   case measure => simp [intOf];omega
  ·have hje:j = len:=by omega
   subst hje
   have HOF:Hid (OwnB wr wa.heap.size u3 (enc k ++ (enc n ++ (enc (j:Int) ++ enL ks)))):=Lib.hid (by
    have h:=HO.out
    rw [List.take_of_length_le (by rw [HLEN.out];omega),← HPRE.out] at h
    simpa using h)
   have HVF:=Lib.hid HV1.out
   clear HO HV1 hlt HM hj
   obtain ⟨zs,hzs⟩:∃ z,enc k ++ (enc n ++ (enc (j:Int) ++ enL ks)) = z:=⟨_,rfl⟩
   rw [hzs] at HOF
   have HZS:=Lib.hid hzs
   obtain ⟨A2,c2,hsh,_,_⟩:=HOF.out.shape
   subst hsh
   clear hzs
   go_wp2_with fail
   go_ret
   have h1:=HOF.out.less HV.out.size
   rw [← HZS.out] at h1 ⊢
   exact ⟨_,_,rfl,h1,HV.out.trans (HVF.out.mono HV.out.size)⟩
theorem renc_any:∀ (N:Nat) (x:Tr),x.nodes ≤ N → x.en.length ≤ 100000000000000 → ∀ (w:World) (v:Value),TrAt w x v → Calls Tryd.prog 37 #[v] w (EnR x.en w)
 | 0,x,hN,_,_,_,_ => absurd hN (by have:=x.nodes_pos;omega)
 | N + 1,.node k n ks,hN,hl,w,v,h => by
  unfold TrAt at h
  obtain ⟨A,cap,rfl,hm,hk⟩:=h
  rw [Tr.en] at hl ⊢
  refine renc_step k n ks A cap w hk (Lib.hid hm) hl (Lib.hid fun j x hx W v' h' => renc_any N x (by have:=Tr.kid_less (k:=k) (n:=n) hx;omega) ?_ W v' h')
  obtain ⟨hj,rfl⟩:=List.getElem?_eq_some_iff.1 hx
  have:=enL_take_le ks j hj
  simp only [List.length_append] at hl
  omega
end Go.Proofs.YtmfihlcibephlaaDoor
namespace Go.Proofs.YtmfihlcibephlaaDoor
section
variable {α:Type}
def comb (xs:List α) (d:Nat) (r:List α × Nat × Nat):List α × Nat × Nat:=if r.2.2 ≠ 0 then ([],0,r.2.2) else (xs ++ r.1,d + r.2.1,0)
def items (g:List Nat → α × Nat × Nat):Nat → List Nat → List α × Nat × Nat
 | 0,_ => ([],0,0)
 | n + 1,b => if (g b).2.2 ≠ 0 then ([],0,(g b).2.2) else comb [(g b).1] (g b).2.1 (items g n (b.drop (g b).2.1))
structure Sofar (g:List Nat → α × Nat × Nat) (N u:Nat) (b:List Nat) (xs:List α) (at_:Nat):Prop where
 len:xs.length ≤ N
 lo:u ≤ at_
 hi:at_ ≤ b.length
 eq:items g N (b.drop u) = comb xs (at_ - u) (items g (N - xs.length) (b.drop at_))
end
end Go.Proofs.YtmfihlcibephlaaDoor
namespace Go.Proofs.YtmfihlcibephlaaDoor
theorem pow_8 (i:Nat):2 ^ (8 * i) = 256 ^ i:=by rw [Nat.pow_mul]
theorem digs_ge (m:Nat) (h:0 < (digs m).length):256 ^ ((digs m).length - 1) ≤ m:=by
 rcases Nat.lt_or_ge m (256 ^ ((digs m).length - 1)) with h1 | h1
 ·have:=digs_len_le _ m h1;omega
 ·exact h1
theorem lead_ne (m:Nat):¬ (0 < (digs m).length ∧ m / 2 ^ (8 * ((digs m).length - 1)) = 0):=by
 rintro ⟨h1,h2⟩
 have h3:=digs_ge m h1
 rw [pow_8] at h2
 have h4:0 < 256 ^ ((digs m).length - 1):=Nat.pow_pos (by omega)
 have:=Nat.div_pos h3 h4
 omega
theorem dec_enc_pos (n:Nat) (hn:n ≤ 9223372036854775807) (t:List Nat):dec (enc (n:Int) ++ t) = ((n:Int),(enc (n:Int)).length,0):=by
 have h8:=digs_len8 hn
 rw [enc_pos,List.cons_append]
 have hk:kOf (128 + (digs n).length) = (digs n).length:=by unfold kOf;rw [if_neg (by omega)];omega
 rw [dec_end hk (by omega) (by simp) (show decide (128 + (digs n).length < 128) = false by simp)]
 have ht:(digs n ++ t).take (digs n).length = digs n:=by simp
 rw [ht]
 show decEnd false _ (val (digs n)) = _
 rw [val_digs]
 unfold decEnd
 rw [if_neg (by rintro (h | h);omega;exact lead_ne n h)]
 simp;omega
theorem dec_enc_neg (n:Nat) (hn:n ≤ 9223372036854775807) (t:List Nat):dec (enc (-1 - (n:Int)) ++ t) = (-1 - (n:Int),(enc (-1 - (n:Int))).length,0):=by
 have h8:=digs_len8 hn
 rw [enc_neg,List.cons_append]
 have hk:kOf (127 - (digs n).length) = (digs n).length:=by unfold kOf;rw [if_pos (by omega)];omega
 rw [dec_end hk (by omega) (by simp) (show decide (127 - (digs n).length < 128) = true by simp;omega)]
 have ht:((digs n).map (255 - ·) ++ t).take (digs n).length = inv true (digs n):=by simp [inv]
 rw [ht,inv_inv true (digs n) (digs_lt n),val_digs]
 unfold decEnd
 rw [if_neg (by rintro (h | h);omega;exact lead_ne n h)]
 simp;omega
theorem dec_enc (n:Int) (h1:-9223372036854775808 ≤ n) (h2:n ≤ 9223372036854775807) (t:List Nat):dec (enc n ++ t) = (n,(enc n).length,0):=by
 by_cases h:0 ≤ n
 ·obtain ⟨m,rfl⟩:=Int.eq_ofNat_of_zero_le h
  exact dec_enc_pos m (by omega) t
 ·obtain ⟨m,hm⟩:=Int.eq_ofNat_of_zero_le (show 0 ≤ -1 - n by omega)
  have:n = -1 - (m:Int):=by omega
  subst this
  exact dec_enc_neg m (by omega) t
theorem enc_dec {b:List Nat} {n:Int} {u:Nat} (hb:∀ d ∈ b,d < 256) (h:dec b = (n,u,0)):b.take u = enc n:=by
 cases b with
 | nil => cases h
 | cons x t =>
  have hx:x < 256:=hb x (by simp)
  have hok:=dec_ok h
  obtain ⟨K,hK⟩:∃ K,kOf x = K:=⟨_,rfl⟩
  by_cases h8:8 < K
  ·rw [dec_big hK h8] at h;cases h
  by_cases hl:t.length < K
  ·rw [dec_short hK h8 hl] at h;cases h
  obtain ⟨neg,hneg⟩:∃ neg,decide (x < 128) = neg:=⟨_,rfl⟩
  rw [dec_end hK h8 hl hneg] at h
  have htl:(t.take K).length = K:=by rw [List.length_take];omega
  have hbt:∀ d ∈ t.take K,d < 256:=fun d hd => hb d (by simp [List.mem_of_mem_take hd])
  unfold decEnd at h
  by_cases hbad:9223372036854775807 < val (inv neg (t.take K)) ∨ (0 < K ∧ val (inv neg (t.take K)) / 2 ^ (8 * (K - 1)) = 0)
  ·rw [if_pos hbad] at h;cases h
  rw [if_neg hbad] at h
  simp only [Prod.mk.injEq,and_true] at h
  obtain ⟨hn,hu⟩:=h
  have hlead:(inv neg (t.take K)).head? ≠ some 0:=by
   intro hh
   obtain ⟨r,hr⟩:∃ r,inv neg (t.take K) = 0 :: r:=by
    cases hc:inv neg (t.take K) with
    | nil => rw [hc] at hh;cases hh
    | cons a r => rw [hc] at hh;simp at hh;subst hh;exact ⟨r,rfl⟩
   have hlen:r.length + 1 = K:=by have:=congrArg List.length hr;rw [inv_len,htl] at this;simpa using this.symm
   apply hbad
   right
   refine ⟨by omega,?_⟩
   rw [hr,val_cons]
   have:=val_lt r (fun d hd => inv_lt neg _ hbt d (by rw [hr];simp [hd]))
   rw [pow_8,show K - 1 = r.length by omega]
   simp only [Nat.zero_mul,Nat.zero_add]
   exact Nat.div_eq_of_lt this
  have hdv:=digs_val (inv neg (t.take K)) (inv_lt neg _ hbt) hlead
  rw [← hu,show 1 + K = K + 1 by omega,List.take_succ_cons]
  cases neg
  ·have hx2:128 ≤ x:=by simpa using hneg
   have:kOf x = x - 128:=by unfold kOf;rw [if_neg (by omega)]
   simp only [Bool.false_eq_true,if_false] at hn
   rw [← hn,enc_pos,hdv]
   simp only [inv,Bool.false_eq_true,if_false,htl]
   congr 1;omega
  ·have hx2:x < 128:=by simpa using hneg
   have hkx:kOf x = 127 - x:=by unfold kOf;rw [if_pos hx2]
   simp only [if_true] at hn
   rw [← hn,enc_neg,hdv,inv_len,htl]
   have:=inv_inv true (t.take K) hbt
   simp only [inv,if_true] at this ⊢
   rw [this]
   congr 1;omega
end Go.Proofs.YtmfihlcibephlaaDoor
namespace Go.Proofs.YtmfihlcibephlaaDoor
open Go.RowKit
theorem take_ne {α:Type} [DecidableEq α] {xs ys:List α} {k:Nat} (hx:k < xs.length) (hy:k < ys.length) (h:xs[k] ≠ ys[k]):xs ≠ ys:=by
 rintro rfl;exact h rfl
theorem take_next {α:Type} {xs ys:List α} {k:Nat} (hx:k < xs.length) (hy:k < ys.length) (h:xs.take k = ys.take k) (e:xs[k] = ys[k]):xs.take (k + 1) = ys.take (k + 1):=by
 rw [List.take_succ_eq_append_getElem hx,List.take_succ_eq_append_getElem hy,h,e]
set_option maxHeartbeats 400000 in
set_option maxRecDepth 100000 in
theorem Same_any (n m B c d:Nat) (A A':Option Addr) (xs ys:List Nat) (w:World) (hn:n = xs.length) (hm:m = ys.length) (hr:Rd w B A (bs xs)) (hr':Rd w B A' (bs ys)) (hn1:n ≤ 9223372036854775807) :
  Calls Tryd.prog 90 #[.slice A n c,.slice A' m d] w (BoolRes w (decide (xs = ys))):=by
 by_cases hnm:n = m
 ·subst hnm
  have hb:((n:Int) != n) = false:=by simp
  have HN:=Lib.hid hn
  have HM:=Lib.hid hm
  clear hn hm
  go_enter Tryd.func90,Tryd.ntmps90
  go_wp2
  go_loopw [5] (fun i wr => ∃ k q:Nat,k ≤ n ∧ i = .int .i64 (k:Int) ∧ wr = w.drewN q ∧ xs.take k = ys.take k) (fun i _ => n - (intOf i).toNat)
  case atStart => exact ⟨0,0,Nat.zero_le _,rfl,rfl,by simp⟩
  case round =>
   obtain ⟨k,q,hk,rfl,rfl,ht⟩:=hrel
   by_cases hlt:k < n
   ·have hx:k < xs.length:=by have:=HN.out;omega
    have hy:k < ys.length:=by have:=HM.out;omega
    obtain ⟨b,o,rfl,_,hc⟩:=hr.at_ (by intro h;have:=congrArg List.length h;rw [bs_len] at this;simp at this;subst this;simp at hx)
    obtain ⟨b',o',rfl,_,hc'⟩:=hr'.at_ (by intro h;have:=congrArg List.length h;rw [bs_len] at this;simp at this;subst this;simp at hy)
    have hcx:=hc k _ (bs_get xs k hx)
    have hcy:=hc' k _ (bs_get ys k hy)
    rw [List.getElem?_eq_getElem hx,Option.getD_some] at hcx
    rw [List.getElem?_eq_getElem hy,Option.getD_some] at hcy
    have hne:=Lib.hid (take_ne hx hy)
    have hnx:=Lib.hid (take_next hx hy ht)
    clear hc hc' ht hr hr'
    have hi:(k:Int) < (n:Int):=by omega
    generalize xs[k] = x at hcx hne hnx
    generalize ys[k] = y at hcy hne hnx
    by_cases hxy:x = y
    ·subst hxy
     have hbb:((x:Int) != x) = false:=by simp
     go_wp2_with fail
     go_quiet (fail)
     go_wp2_with fail
     go_roundw
     case rel => exact ⟨k + 1,_,by omega,by go_num,rfl,by simpa using hnx.out⟩
     case measure => simp [intOf];omega
    ·have hbb:((x:Int) != y) = true:=by simp;omega
     go_wp2_with fail
     go_quiet (fail)
     go_wp2_with fail
     go_ret
     exact ⟨by rw [decide_eq_false (hne.out hxy)];rfl,_,World.drewN_drewN _ _ _⟩
   ·have hkn:k = n:=by omega
    subst hkn
    have heq:xs = ys:=by
     rw [List.take_of_length_le (by have:=HN.out;omega),List.take_of_length_le (by have:=HM.out;omega)] at ht;exact ht
    have HE:=Lib.hid heq
    clear heq ht
    go_wp2_with fail
    go_ret
    exact BoolRes.mk (decide_eq_true HE.out).symm
 ·have hb:((n:Int) != m) = true:=by simp;omega
  have hf:decide (xs = ys) = false:=by simp;rintro rfl;omega
  rw [hf]
  clear hf hn hm
  go_enter Tryd.func90,Tryd.ntmps90
  go_wp2
  go_ret
  exact BoolRes.mk (k:=0) rfl
def cand (neg:Bool) (M:Nat):Int:=if neg then -1 - (M:Int) else (M:Int)
theorem V_mono (neg:Bool) (t:List Nat) (i:Nat):∀ j,i ≤ j → j ≤ t.length → val (inv neg (t.take i)) ≤ val (inv neg (t.take j)):=by
 intro j hij
 induction j with
 | zero =>
  intro _
  obtain rfl:i = 0:=by omega
  exact Nat.le_refl _
 | succ j ih =>
  intro hj
  by_cases h:i = j + 1
  ·subst h;exact Nat.le_refl _
  ·have h1:=ih (by omega) (by omega)
   have h2:=inv_snoc neg t j (by omega)
   rw [h2];omega
theorem V_over {neg:Bool} {t:List Nat} {k K:Nat} (hk:k < K) (hK:K ≤ t.length) (h:36028797018963967 < val (inv neg (t.take k))):decEnd neg K (val (inv neg (t.take K))) = (0,0,2):=by
 have h1:=V_mono neg t (k + 1) K (by omega) hK
 have h2:=inv_snoc neg t k (by omega)
 unfold decEnd
 rw [if_pos (.inl (by omega))]
theorem cand_in (neg:Bool) (M:Nat) (hM:M ≤ 9223372036854775807):InR (cand neg M):=by
 unfold InR cand
 cases neg <;> simp <;> omega
theorem dec_cand {h K:Nat} {t:List Nat} {neg:Bool} (hK:kOf h = K) (h8:¬ 8 < K) (hl:¬ t.length < K) (hn:decide (h < 128) = neg) (hb:∀ d ∈ h :: t,d < 256) (hM:val (inv neg (t.take K)) ≤ 9223372036854775807) :
  dec (h :: t) = if enc (cand neg (val (inv neg (t.take K)))) = h :: t.take K then (cand neg (val (inv neg (t.take K))),K + 1,0) else (0,0,2):=by
 have hd:=dec_end hK h8 hl hn
 have hin:=cand_in neg _ hM
 by_cases e:enc (cand neg (val (inv neg (t.take K)))) = h :: t.take K
 ·rw [if_pos e]
  have h1:=dec_enc _ hin.1 hin.2 (t.drop K)
  rw [e] at h1
  have h2:(h :: t.take K) ++ t.drop K = h :: t:=by simp
  rw [h2] at h1
  rw [h1]
  congr 2
  simp;omega
 ·rw [if_neg e]
  have h3:dec (h :: t) = decEnd neg K (val (inv neg (t.take K))):=hd
  unfold decEnd at h3
  split at h3
  ·exact h3
  ·exfalso
   apply e
   have h4:dec (h :: t) = (cand neg (val (inv neg (t.take K))),1 + K,0):=by rw [h3];rfl
   have h5:=enc_dec hb h4
   rw [← h5,Nat.add_comm];rfl
def BelRes (w:World) (r:Int × Nat × Nat) (e:Ending) (w':World):Prop:=e = .returned (.tuple #[.int .i64 r.1,.int .i64 (r.2.1:Int),.int .i64 (r.2.2:Int)]) ∧ Below w.heap.size w w'
theorem BelRes.mk {w w':World} {r:Int × Nat × Nat} {a b c:Int} (h:r = (a,b.toNat,c.toNat)) (hb:0 ≤ b) (hc:0 ≤ c) (hw:Below w.heap.size w w'):BelRes w r (.returned (.tuple #[.int .i64 a,.int .i64 b,.int .i64 c])) w':=by
 subst h
 refine ⟨?_,hw⟩
 simp [Int.toNat_of_nonneg hb,Int.toNat_of_nonneg hc]
set_option maxHeartbeats 2000000 in
set_option maxRecDepth 100000 in
theorem refGetInt_pos (b o cap h:Nat) (t:List Nat) (w:World) (hbB:b < w.heap.size) (hc:∀ j u,(bs (h :: t))[j]? = some u → w.cell? ⟨b,o + j,none⟩ = some u) (hby:∀ d ∈ h :: t,d < 256) (hh:h < 256) (hh1:128 ≤ h)
  (hcap:t.length + 1 ≤ cap) (hcap2:cap ≤ maxLen) :
  Calls Tryd.prog 84 #[.slice (some ⟨b,o,none⟩) (t.length + 1) cap] w (BelRes w (dec (h :: t))):=by
 have hc0:w.cell? ⟨b,o,none⟩ = some (.int .u8 (h:Int)):=hc 0 _ rfl
 have hrd:Rd w w.heap.size (some ⟨b,o,none⟩) (bs (h :: t)):=.inr ⟨b,o,rfl,hbB,hc⟩
 have HC:=Lib.hid hc
 have HB:=Lib.hid hby
 have HRD:=Lib.hid hrd
 clear hc hby hrd
 obtain ⟨K,hK⟩:∃ K:Nat,(h:Int) - 128 = (K:Int):=⟨h - 128,by omega⟩
 have hKo:kOf h = K:=by unfold kOf;rw [if_neg (by omega)];omega
 have HK:=Lib.hid hKo
 clear hKo
 have hng:decide (h < 128) = false:=by simp;omega
 have HNG:=Lib.hid hng
 clear hng
 unfold maxLen at hcap2
 have hl0:(((t.length:Int) + 1) == 0) = false:=by simp;omega
 by_cases h8:8 < K
 ·rw [dec_big HK.out h8]
  go_enter Tryd.func84,Tryd.ntmps84
  go_wp2_with fail
  go_ret3
  exact BelRes.mk rfl (by decide) (by decide) (Below.refl _ _)
 by_cases hlt:t.length < K
 ·rw [dec_short HK.out h8 hlt]
  go_enter Tryd.func84,Tryd.ntmps84
  go_wp2_with fail
  go_ret3
  exact BelRes.mk rfl (by decide) (by decide) (Below.refl _ _)
 have H1:=Lib.hid (dec_end HK.out h8 hlt HNG.out)
 have H2:Hid (val (inv false (t.take K)) ≤ 9223372036854775807 → dec (h :: t) = if enc (cand false (val (inv false (t.take K)))) = h :: t.take K then (cand false (val (inv false (t.take K))),K + 1,0) else (0,0,2)):=fun hM => dec_cand HK.out h8 hlt HNG.out HB.out hM
 generalize dec (h :: t) = R at H1 H2 ⊢
 go_enter Tryd.func84,Tryd.ntmps84
 go_wp2_with fail
 go_loop [7,8] (fun m i => ∃ k V:Nat,k ≤ K ∧ i = .int .i64 ((k:Int) + 1) ∧ m = .int .i64 (V:Int) ∧ V = val (inv false (t.take k)) ∧ V ≤ 9223372036854775807) (fun _ i => K + 1 - (intOf i).toNat)
 case atStart => exact ⟨0,0,Nat.zero_le _,rfl,rfl,rfl,by omega⟩
 case round =>
  obtain ⟨k,V,hk,rfl,rfl,hV,hVm⟩:=hrel
  by_cases hkK:k < K
  ·have hkt:k < t.length:=by omega
   have hcell:w.cell? ⟨b,o + (k + 1),none⟩ = some (.int .u8 (t[k]:Int)):=HC.out (k + 1) _ (by
    have:=bs_get t k hkt
    rw [List.getElem?_eq_getElem hkt,Option.getD_some] at this
    exact this)
   have hz:t[k] < 256:=HB.out _ (by simp)
   have hnext:=inv_snoc false t k hkt
   rw [← hV] at hnext
   have hnx:val (inv false (t.take (k + 1))) = 256 * V + t[k]:=hnext
   have HN:=Lib.hid hnx
   have HV:=Lib.hid hV
   clear hnext hnx hV
   have hkK':(k:Int) + 1 ≤ (K:Int):=by omega
   by_cases hov:36028797018963967 < V
   ·have HO:=Lib.hid (V_over (neg:=false) (t:=t) hkK (by omega) (by rw [← HV.out];exact hov))
    generalize t[k] = X at hcell hz HN
    go_wp2_with fail
    go_ret3
    rw [H1.out,HO.out]
    exact BelRes.mk rfl (by decide) (by decide) (Below.refl _ _)
   ·generalize t[k] = X at hcell hz HN
    go_wp2_with fail
    go_round
    case rel => exact ⟨k + 1,_,by omega,by go_num,by go_num,HN.out.symm,by omega⟩
    case measure => simp [intOf];omega
  ·have hkK2:k = K:=by omega
   subst hkK2
   rw [← hV] at H2
   have H3:=Lib.hid (H2.out hVm)
   clear hV H2 H1
   have HIN:=Lib.hid (cand_in false V hVm)
   obtain ⟨N,hN⟩:∃ N:Int,N = (V:Int):=⟨_,rfl⟩
   have hNc:cand false V = N:=by rw [hN];rfl
   rw [hNc] at H3 HIN
   clear hNc
   have hin:=HIN.out
   have hsl:(enc N).length ≤ 9:=(enc_len N hin).2
   have hslp:1 ≤ (enc N).length:=(enc_len N hin).1
   have HI:Hid (∀ W,Calls Tryd.prog 66 #[.int .i64 N] W fun e w' => ∃ v',e = .returned v' ∧ OwnB w' W.heap.size v' (enc N) ∧ Below W.heap.size W w'):=fun W => refInt_any N W hin
   have hin1:=hin.1
   have hin2:=hin.2
   have HSame:Hid (∀ q,decide (enc N = h :: t.take k) = q → ∀ W A' n c,Below w.heap.size w W → Rd W W.heap.size A' (bs (enc N)) → n = (enc N).length → Calls Tryd.prog 90 #[.slice A' n c,.slice (some ⟨b,o,none⟩) (k + 1) cap] W (BoolRes W q)):=by
    intro q hq W A' n c hW hr hn
    have hr2:Rd W w.heap.size (some ⟨b,o,none⟩) (bs (h :: t.take k)):=by
     have:=(HRD.out.below hW).take (k + 1)
     simpa [bs] using this
    have:=Same_any n (k + 1) W.heap.size c cap A' (some ⟨b,o,none⟩) (enc N) (h :: t.take k) W hn (by simp;omega) hr (hr2.more hW.size) (by omega)
    rw [hq] at this
    exact this
   have hw1:IntKind.i64.wrap ((k:Int) + 1) = (k:Int) + 1:=IntWalk.i64_in _ (by omega)
   have hw2:(0:Int) ≤ (k:Int) + 1:=by omega
   have hw3:((k:Int) + 1).toNat = k + 1:=by omega
   have hkc:k + 1 ≤ cap:=by omega
   by_cases e:enc N = h :: t.take k
   ·have hR:=H3.out
    rw [if_pos e] at hR
    have HR:=Lib.hid hR
    have HS:=Lib.hid (HSame.out true (decide_eq_true e))
    generalize enc N = X at HI HS hsl hslp
    clear hR e H3 HIN hin HSame
    subst hN
    go_wp2_with fail
    go_region_with (first
     | (go_at_call 66;refine (HI.out _).mono ?_;rintro e w1 ⟨v1,rfl,hown1,hb1⟩;obtain ⟨g1,c1,rfl,_,_,hc1,hc2⟩:=hown1.some_ (by omega);have hbw1:Below w.heap.size w w1:=(below_drewN (Below.refl _ w) 1).trans hb1)
     | (go_at_call 90;refine (HS.out _ _ _ _ hbw1 hown1.rd rfl).mono ?_;rintro e w2 ⟨rfl,q,rfl⟩))
    all_goals (clear hw1 hw2 hw3;go_wp2_with fail;go_ret3;rw [HR.out];exact BelRes.mk (by congr 2) (by omega) (by decide) (below_drewN hbw1 q))
   ·have hR:=H3.out
    rw [if_neg e] at hR
    have HR:=Lib.hid hR
    have HS:=Lib.hid (HSame.out false (decide_eq_false e))
    generalize enc N = X at HI HS hsl hslp
    clear hR e H3 HIN hin HSame
    subst hN
    go_wp2_with fail
    go_region_with (first
     | (go_at_call 66;refine (HI.out _).mono ?_;rintro e w1 ⟨v1,rfl,hown1,hb1⟩;obtain ⟨g1,c1,rfl,_,_,hc1,hc2⟩:=hown1.some_ (by omega);have hbw1:Below w.heap.size w w1:=(below_drewN (Below.refl _ w) 1).trans hb1)
     | (go_at_call 90;refine (HS.out _ _ _ _ hbw1 hown1.rd rfl).mono ?_;rintro e w2 ⟨rfl,q,rfl⟩))
    all_goals (clear hw1 hw2 hw3;go_wp2_with fail;go_ret3;rw [HR.out];exact BelRes.mk rfl (by decide) (by decide) (below_drewN hbw1 q))
set_option maxHeartbeats 2000000 in
set_option maxRecDepth 100000 in
theorem refGetInt_neg (b o cap h:Nat) (t:List Nat) (w:World) (hbB:b < w.heap.size) (hc:∀ j u,(bs (h :: t))[j]? = some u → w.cell? ⟨b,o + j,none⟩ = some u) (hby:∀ d ∈ h :: t,d < 256) (hh:h < 256) (hh1:h < 128)
  (hcap:t.length + 1 ≤ cap) (hcap2:cap ≤ maxLen) :
  Calls Tryd.prog 84 #[.slice (some ⟨b,o,none⟩) (t.length + 1) cap] w (BelRes w (dec (h :: t))):=by
 have hc0:w.cell? ⟨b,o,none⟩ = some (.int .u8 (h:Int)):=hc 0 _ rfl
 have hrd:Rd w w.heap.size (some ⟨b,o,none⟩) (bs (h :: t)):=.inr ⟨b,o,rfl,hbB,hc⟩
 have HC:=Lib.hid hc
 have HB:=Lib.hid hby
 have HRD:=Lib.hid hrd
 clear hc hby hrd
 obtain ⟨K,hK⟩:∃ K:Nat,127 - (h:Int) = (K:Int):=⟨127 - h,by omega⟩
 have hKo:kOf h = K:=by unfold kOf;rw [if_pos (by omega)];omega
 have HK:=Lib.hid hKo
 clear hKo
 have hng:decide (h < 128) = true:=by simp;omega
 have HNG:=Lib.hid hng
 clear hng
 unfold maxLen at hcap2
 have hl0:(((t.length:Int) + 1) == 0) = false:=by simp;omega
 by_cases h8:8 < K
 ·rw [dec_big HK.out h8]
  go_enter Tryd.func84,Tryd.ntmps84
  go_wp2_with fail
  go_ret3
  exact BelRes.mk rfl (by decide) (by decide) (Below.refl _ _)
 by_cases hlt:t.length < K
 ·rw [dec_short HK.out h8 hlt]
  go_enter Tryd.func84,Tryd.ntmps84
  go_wp2_with fail
  go_ret3
  exact BelRes.mk rfl (by decide) (by decide) (Below.refl _ _)
 have H1:=Lib.hid (dec_end HK.out h8 hlt HNG.out)
 have H2:Hid (val (inv true (t.take K)) ≤ 9223372036854775807 → dec (h :: t) = if enc (cand true (val (inv true (t.take K)))) = h :: t.take K then (cand true (val (inv true (t.take K))),K + 1,0) else (0,0,2)):=fun hM => dec_cand HK.out h8 hlt HNG.out HB.out hM
 generalize dec (h :: t) = R at H1 H2 ⊢
 go_enter Tryd.func84,Tryd.ntmps84
 go_wp2_with fail
 go_loop [7,8] (fun m i => ∃ k V:Nat,k ≤ K ∧ i = .int .i64 ((k:Int) + 1) ∧ m = .int .i64 (V:Int) ∧ V = val (inv true (t.take k)) ∧ V ≤ 9223372036854775807) (fun _ i => K + 1 - (intOf i).toNat)
 case atStart => exact ⟨0,0,Nat.zero_le _,rfl,rfl,rfl,by omega⟩
 case round =>
  obtain ⟨k,V,hk,rfl,rfl,hV,hVm⟩:=hrel
  by_cases hkK:k < K
  ·have hkt:k < t.length:=by omega
   have hcell:w.cell? ⟨b,o + (k + 1),none⟩ = some (.int .u8 (t[k]:Int)):=HC.out (k + 1) _ (by
    have:=bs_get t k hkt
    rw [List.getElem?_eq_getElem hkt,Option.getD_some] at this
    exact this)
   have hz:t[k] < 256:=HB.out _ (by simp)
   have hnext:=inv_snoc true t k hkt
   rw [← hV] at hnext
   have hnx:val (inv true (t.take (k + 1))) = 256 * V + (255 - t[k]):=hnext
   have HN:=Lib.hid hnx
   have HV:=Lib.hid hV
   clear hnext hnx hV
   have hkK':(k:Int) + 1 ≤ (K:Int):=by omega
   by_cases hov:36028797018963967 < V
   ·have HO:=Lib.hid (V_over (neg:=true) (t:=t) hkK (by omega) (by rw [← HV.out];exact hov))
    generalize t[k] = X at hcell hz HN
    go_wp2_with fail
    go_ret3
    rw [H1.out,HO.out]
    exact BelRes.mk rfl (by decide) (by decide) (Below.refl _ _)
   ·generalize t[k] = X at hcell hz HN
    go_wp2_with fail
    go_round
    case rel => exact ⟨k + 1,_,by omega,by go_num,congrArg (Value.int .i64) (by omega),HN.out.symm,by omega⟩
    case measure => simp [intOf];omega
  ·have hkK2:k = K:=by omega
   subst hkK2
   rw [← hV] at H2
   have H3:=Lib.hid (H2.out hVm)
   clear hV H2 H1
   have HIN:=Lib.hid (cand_in true V hVm)
   obtain ⟨N,hN⟩:∃ N:Int,N = -1 - (V:Int):=⟨_,rfl⟩
   have hNc:cand true V = N:=by rw [hN];rfl
   rw [hNc] at H3 HIN
   clear hNc
   have hin:=HIN.out
   have hsl:(enc N).length ≤ 9:=(enc_len N hin).2
   have hslp:1 ≤ (enc N).length:=(enc_len N hin).1
   have HI:Hid (∀ W,Calls Tryd.prog 66 #[.int .i64 N] W fun e w' => ∃ v',e = .returned v' ∧ OwnB w' W.heap.size v' (enc N) ∧ Below W.heap.size W w'):=fun W => refInt_any N W hin
   have hin1:=hin.1
   have hin2:=hin.2
   have HSame:Hid (∀ q,decide (enc N = h :: t.take k) = q → ∀ W A' n c,Below w.heap.size w W → Rd W W.heap.size A' (bs (enc N)) → n = (enc N).length → Calls Tryd.prog 90 #[.slice A' n c,.slice (some ⟨b,o,none⟩) (k + 1) cap] W (BoolRes W q)):=by
    intro q hq W A' n c hW hr hn
    have hr2:Rd W w.heap.size (some ⟨b,o,none⟩) (bs (h :: t.take k)):=by
     have:=(HRD.out.below hW).take (k + 1)
     simpa [bs] using this
    have:=Same_any n (k + 1) W.heap.size c cap A' (some ⟨b,o,none⟩) (enc N) (h :: t.take k) W hn (by simp;omega) hr (hr2.more hW.size) (by omega)
    rw [hq] at this
    exact this
   have hw1:IntKind.i64.wrap ((k:Int) + 1) = (k:Int) + 1:=IntWalk.i64_in _ (by omega)
   have hw2:(0:Int) ≤ (k:Int) + 1:=by omega
   have hw3:((k:Int) + 1).toNat = k + 1:=by omega
   have hkc:k + 1 ≤ cap:=by omega
   by_cases e:enc N = h :: t.take k
   ·have hR:=H3.out
    rw [if_pos e] at hR
    have HR:=Lib.hid hR
    have HS:=Lib.hid (HSame.out true (decide_eq_true e))
    generalize enc N = X at HI HS hsl hslp
    clear hR e H3 HIN hin HSame
    subst hN
    go_wp2_with fail
    go_region_with (first
     | (go_at_call 66;refine (HI.out _).mono ?_;rintro e w1 ⟨v1,rfl,hown1,hb1⟩;obtain ⟨g1,c1,rfl,_,_,hc1,hc2⟩:=hown1.some_ (by omega);have hbw1:Below w.heap.size w w1:=(below_drewN (Below.refl _ w) 1).trans hb1)
     | (go_at_call 90;refine (HS.out _ _ _ _ hbw1 hown1.rd rfl).mono ?_;rintro e w2 ⟨rfl,q,rfl⟩))
    all_goals (clear hw1 hw2 hw3;go_wp2_with fail;go_ret3;rw [HR.out];exact BelRes.mk (by congr 2) (by omega) (by decide) (below_drewN hbw1 q))
   ·have hR:=H3.out
    rw [if_neg e] at hR
    have HR:=Lib.hid hR
    have HS:=Lib.hid (HSame.out false (decide_eq_false e))
    generalize enc N = X at HI HS hsl hslp
    clear hR e H3 HIN hin HSame
    subst hN
    go_wp2_with fail
    go_region_with (first
     | (go_at_call 66;refine (HI.out _).mono ?_;rintro e w1 ⟨v1,rfl,hown1,hb1⟩;obtain ⟨g1,c1,rfl,_,_,hc1,hc2⟩:=hown1.some_ (by omega);have hbw1:Below w.heap.size w w1:=(below_drewN (Below.refl _ w) 1).trans hb1)
     | (go_at_call 90;refine (HS.out _ _ _ _ hbw1 hown1.rd rfl).mono ?_;rintro e w2 ⟨rfl,q,rfl⟩))
    all_goals (clear hw1 hw2 hw3;go_wp2_with fail;go_ret3;rw [HR.out];exact BelRes.mk rfl (by decide) (by decide) (below_drewN hbw1 q))
theorem refGetInt_any (m cap:Nat) (A:Option Addr) (zs:List Nat) (w:World) (hm:m = zs.length) (hr:Rd w w.heap.size A (bs zs)) (hb:∀ d ∈ zs,d < 256) (hcap:m ≤ cap) (hcap2:cap ≤ maxLen) :
  Calls Tryd.prog 84 #[.slice A m cap] w (BelRes w (dec zs)):=by
 subst hm
 cases zs with
 | nil =>
  go_enter Tryd.func84,Tryd.ntmps84
  go_wp2_with fail
  go_ret3
  exact BelRes.mk rfl (by decide) (by decide) (Below.refl _ _)
 | cons h t =>
  obtain ⟨b,o,rfl,hlt,hc⟩:=hr.at_ (by simp [bs])
  by_cases hh:h < 128
  ·exact refGetInt_neg b o cap h t w hlt hc hb (hb h (by simp)) hh hcap hcap2
  ·exact refGetInt_pos b o cap h t w hlt hc hb (hb h (by simp)) (by omega) hcap hcap2
theorem refGetInt_call {n:Int} {u er:Nat} (m cap:Nat) (A:Option Addr) (zs:List Nat) (w:World) (hd:dec zs = (n,u,er)) (hm:m = zs.length) (hr:Rd w w.heap.size A (bs zs)) (hb:∀ d ∈ zs,d < 256) (hcap:m ≤ cap) (hcap2:cap ≤ maxLen) :
  Calls Tryd.prog 84 #[.slice A m cap] w fun e w' => e = .returned (.tuple #[.int .i64 n,.int .i64 (u:Int),.int .i64 (er:Int)]) ∧ Below w.heap.size w w':=by
 have h:=refGetInt_any m cap A zs w hm hr hb hcap hcap2
 rw [hd] at h
 exact h
end Go.Proofs.YtmfihlcibephlaaDoor
