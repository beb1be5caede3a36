import Derived.Test.YtmfihlcibephlaaDoorRows
import Derived.WalkKit
import Derived.WalkSpells
import Derived.WalkLawsBesides
import Derived.Handy
import Derived.Lib.Hide
import Derived.Deep.Draws
import Derived.Deep.LoopGhost
import Derived.Deep.QuietTactic
import Derived.BigQuiet
import Derived.Deep.DeepFit
import Derived.Lib.AppendStr
import Derived.Deep.MidRow
import Derived.Deep.RegionWith
import Derived.Deep.RegionHeld3
import Derived.Deep.DeepCutAuto
import Derived.StillTailTactics
set_option linter.unusedVariables false
namespace Go.Proofs.YtmfihlcibephlaaDoor
def digs (m:Nat):List Nat:=if m = 0 then [] else digs (m / 256) ++ [m % 256]
termination_by m
decreasing_by omega
theorem digs_zero:digs 0 = []:=by rw [digs];simp
theorem digs_pos {m:Nat} (h:m ≠ 0):digs m = digs (m / 256) ++ [m % 256]:=by
 rw [digs,if_neg h]
theorem digs_lt (m:Nat):∀ d ∈ digs m,d < 256:=by
 induction m using Nat.strongRecOn with
 | ind m ih =>
  by_cases h:m = 0
  ·subst h;rw [digs_zero];simp
  ·rw [digs_pos h]
   intro d hd
   rw [List.mem_append] at hd
   rcases hd with hd | hd
   ·exact ih (m / 256) (by omega) d hd
   ·simp at hd;omega
theorem digs_len_le (k:Nat):∀ m,m < 256 ^ k → (digs m).length ≤ k:=by
 induction k with
 | zero =>
      intro m hm;have:m = 0:=by simpa using hm
      subst this;rw [digs_zero];simp
 | succ k ih =>
  intro m hm
  by_cases h:m = 0
  ·subst h;rw [digs_zero];simp
  ·rw [digs_pos h]
   have:=ih (m / 256) (by rw [Nat.div_lt_iff_lt_mul (by omega)];rw [Nat.pow_succ] at hm;exact hm)
   simp;omega
theorem digs_nil {m:Nat}:digs m = [] ↔ m = 0:=by
 constructor
 ·intro h
  by_cases e:m = 0
  ·exact e
  ·rw [digs_pos e] at h;simp at h
 ·rintro rfl;exact digs_zero
def val (l:List Nat):Nat:=l.foldl (fun a d => 256 * a + d) 0
theorem foldl_val (l:List Nat):∀ a,l.foldl (fun a d => 256 * a + d) a = a * 256 ^ l.length + val l:=by
 unfold val
 induction l with
 | nil => intro a;simp
 | cons d l ih =>
  intro a
  rw [List.foldl_cons,ih (256 * a + d),List.foldl_cons,ih (256 * 0 + d)]
  simp only [List.length_cons,Nat.pow_succ]
  rw [Nat.add_mul,Nat.add_mul]
  have:256 * a * 256 ^ l.length = a * (256 ^ l.length * 256):=by
   rw [Nat.mul_comm 256 a,Nat.mul_assoc,Nat.mul_comm 256 (256 ^ l.length)]
  omega
theorem val_cons (d:Nat) (l:List Nat):val (d :: l) = d * 256 ^ l.length + val l:=by
 unfold val
 rw [List.foldl_cons,foldl_val]
 simp [val]
theorem val_snoc (l:List Nat) (d:Nat):val (l ++ [d]) = 256 * val l + d:=by
 unfold val;rw [List.foldl_append];rfl
theorem val_lt (l:List Nat) (h:∀ d ∈ l,d < 256):val l < 256 ^ l.length:=by
 induction l with
 | nil => simp [val]
 | cons d l ih =>
  have hd:=h d (by simp)
  have:=ih (fun x hx => h x (by simp [hx]))
  rw [val_cons,List.length_cons,Nat.pow_succ]
  have h2:(d + 1) * 256 ^ l.length ≤ 256 * 256 ^ l.length:=Nat.mul_le_mul_right _ (by omega)
  rw [Nat.add_mul] at h2
  rw [Nat.mul_comm (256 ^ l.length) 256]
  omega
theorem val_digs (m:Nat):val (digs m) = m:=by
 induction m using Nat.strongRecOn with
 | ind m ih =>
  by_cases h:m = 0
  ·subst h;rw [digs_zero];rfl
  ·rw [digs_pos h,val_snoc,ih (m / 256) (by omega)];omega
theorem digs_val (l:List Nat) (h:∀ d ∈ l,d < 256) (h0:l.head? ≠ some 0):digs (val l) = l:=by
 induction hn:l.length generalizing l with
 | zero => have:=List.eq_nil_of_length_eq_zero hn;subst this;exact digs_zero
 | succ n ih =>
  rcases List.eq_nil_or_concat l with rfl | ⟨t,d,rfl⟩
  ·simp at hn
  ·rw [List.concat_eq_append] at *
   have hd:d < 256:=h d (by simp)
   rw [val_snoc]
   have ht:digs (val t) = t:=by
    refine ih t (fun x hx => h x (by simp [hx])) ?_ (by simp at hn;exact hn)
    intro e;apply h0
    cases t with
    | nil => simp at e
    | cons x t => simpa using e
   have hne:256 * val t + d ≠ 0:=by
    intro e
    have e1:val t = 0:=by omega
    have e2:d = 0:=by omega
    subst e2
    rw [e1,digs_zero] at ht
    subst ht
    simp at h0
   rw [digs_pos hne]
   have q1:(256 * val t + d) / 256 = val t:=by omega
   have q2:(256 * val t + d) % 256 = d:=by omega
   rw [q1,q2,ht]
def enc (n:Int):List Nat :=
 if 0 ≤ n then (128 + (digs n.toNat).length) :: digs n.toNat
 else (127 - (digs (-1 - n).toNat).length) :: (digs (-1 - n).toNat).map (255 - ·)
theorem enc_pos (n:Nat):enc (n:Int) = (128 + (digs n).length) :: digs n:=by
 unfold enc;rw [if_pos (by omega)];simp
theorem enc_neg (n:Nat):enc (-1 - (n:Int)) = (127 - (digs n).length) :: (digs n).map (255 - ·):=by
 unfold enc;rw [if_neg (by omega)]
 have e:(-1 - (-1 - (n:Int))).toNat = n:=by omega
 rw [e]
theorem enc_lt (n:Int) (h:-9223372036854775808 ≤ n ∧ n ≤ 9223372036854775807):∀ d ∈ enc n,d < 256:=by
 intro d hd
 unfold enc at hd
 split at hd
 ·have hk:=digs_len_le 8 n.toNat (by omega)
  rw [List.mem_cons] at hd
  rcases hd with rfl | hd
  ·omega
  ·exact digs_lt _ d hd
 ·rw [List.mem_cons] at hd
  rcases hd with rfl | hd
  ·omega
  ·rw [List.mem_map] at hd
   obtain ⟨x,_,rfl⟩:=hd
   omega
theorem enc_len (n:Int) (h:-9223372036854775808 ≤ n ∧ n ≤ 9223372036854775807):1 ≤ (enc n).length ∧ (enc n).length ≤ 9:=by
 unfold enc
 split
 ·have hk:=digs_len_le 8 n.toNat (by omega)
  simp;omega
 ·have hk:=digs_len_le 8 (-1 - n).toNat (by omega)
  simp;omega
theorem digs_next (n i:Nat):digs (n / 2 ^ (8 * i)) = if n / 2 ^ (8 * i) = 0 then [] else digs (n / 2 ^ (8 * (i + 1))) ++ [n / 2 ^ (8 * i) % 256]:=by
 have e:n / 2 ^ (8 * (i + 1)) = n / 2 ^ (8 * i) / 256:=by
  rw [Nat.div_div_eq_div_mul];congr 1
  rw [Nat.mul_add,Nat.pow_add]
 split
 ·rename_i h;rw [h,digs_zero]
 ·rename_i h;rw [digs_pos h,e]
theorem digs_skip {n i:Nat} (h:n / 2 ^ (8 * i) = 0):digs (n / 2 ^ (8 * (i + 1))) = [] ∧ digs (n / 2 ^ (8 * i)) = []:=by
 have h1:=digs_next n i
 rw [if_pos h] at h1
 refine ⟨?_,h1⟩
 have e:n / 2 ^ (8 * (i + 1)) = n / 2 ^ (8 * i) / 256:=by
  rw [Nat.div_div_eq_div_mul];congr 1
  rw [Nat.mul_add,Nat.pow_add]
 rw [e,h,digs_nil]
theorem digs_more {n i:Nat} (h:n / 2 ^ (8 * i) ≠ 0):digs (n / 2 ^ (8 * i)) = digs (n / 2 ^ (8 * (i + 1))) ++ [n / 2 ^ (8 * i) % 256]:=by
 rw [digs_next,if_neg h]
theorem digs_more0 {n i:Nat} (h:n / 2 ^ (8 * i) ≠ 0) (h0:n / 2 ^ (8 * i) % 256 = 0):digs (n / 2 ^ (8 * (i + 1))) ≠ []:=by
 have e:n / 2 ^ (8 * (i + 1)) = n / 2 ^ (8 * i) / 256:=by
  rw [Nat.div_div_eq_div_mul];congr 1
  rw [Nat.mul_add,Nat.pow_add]
 rw [e,Ne,digs_nil]
 omega
theorem digs_top {n:Nat} (h:n ≤ 9223372036854775807):digs (n / 2 ^ (8 * 8)) = []:=by
 rw [digs_nil];exact Nat.div_eq_of_lt (by omega)
theorem digs_len8 {n:Nat} (h:n ≤ 9223372036854775807):(digs n).length ≤ 8:=digs_len_le 8 n (by omega)
theorem digs_len8' {n:Nat} (h:n ≤ 9223372036854775807) (i:Nat):(digs (n / 2 ^ (8 * i))).length ≤ 8:=digs_len8 (Nat.le_trans (Nat.div_le_self _ _) h)
theorem dig_cast (n i:Nat):(n:Int) / 2 ^ (8 * i) % 256 = ((n / 2 ^ (8 * i) % 256:Nat):Int):=by
 simp
def inv (neg:Bool) (l:List Nat):List Nat:=if neg then l.map (255 - ·) else l
theorem inv_len (neg:Bool) (l:List Nat):(inv neg l).length = l.length:=by cases neg <;> simp [inv]
theorem inv_lt (neg:Bool) (l:List Nat) (h:∀ d ∈ l,d < 256):∀ d ∈ inv neg l,d < 256:=by
 cases neg
 ·exact h
 ·intro d hd
  simp only [inv,if_true,List.mem_map] at hd
  obtain ⟨x,_,rfl⟩:=hd
  omega
theorem inv_val_lt (neg:Bool) (l:List Nat) (h:∀ d ∈ l,d < 256):val (inv neg l) < 256 ^ l.length:=by
 have:=val_lt (inv neg l) (inv_lt neg l h)
 rwa [inv_len] at this
theorem inv_snoc (neg:Bool) (zs:List Nat) (k:Nat) (hk:k < zs.length):val (inv neg (zs.take (k + 1))) = 256 * val (inv neg (zs.take k)) + (if neg then 255 - zs[k] else zs[k]):=by
 rw [List.take_succ_eq_append_getElem hk]
 cases neg
 ·show val (zs.take k ++ [zs[k]]) = _
  rw [val_snoc];rfl
 ·show val ((zs.take k ++ [zs[k]]).map (255 - ·)) = _
  rw [List.map_append]
  show val (_ ++ [255 - zs[k]]) = _
  rw [val_snoc];rfl
theorem inv_inv (neg:Bool) (l:List Nat) (h:∀ d ∈ l,d < 256):inv neg (inv neg l) = l:=by
 cases neg
 ·rfl
 ·simp only [inv,if_true,List.map_map]
  conv => rhs;rw [← List.map_id l]
  refine List.map_congr_left fun d hd => ?_
  have:=h d hd
  simp;omega
end Go.Proofs.YtmfihlcibephlaaDoor
namespace Go.Proofs.YtmfihlcibephlaaDoor
open Go.RowKit
def U8 (x:Nat):Value:=.int .u8 (x:Int)
def bs (l:List Nat):List Value:=l.map U8
theorem bs_len (l:List Nat):(bs l).length = l.length:=by simp [bs]
theorem bs_app (l m:List Nat):bs (l ++ m) = bs l ++ bs m:=by simp [bs]
theorem bs_one (x:Nat):bs [x] = [.int .u8 (x:Int)]:=rfl
theorem bs_get (l:List Nat) (j:Nat) (h:j < l.length):(bs l)[j]? = some (.int .u8 ((l[j]?.getD 0:Nat):Int)):=by
 simp [bs,U8,List.getElem?_map,List.getElem?_eq_getElem h]
theorem bs_cell (l:List Nat):∀ u ∈ bs l,u.oneCell' = true:=by
 intro u hu
 simp only [bs,List.mem_map] at hu
 obtain ⟨x,_,rfl⟩:=hu
 rfl
def Rd (w:World) (B:Nat) (A:Option Addr) (xs:List Value):Prop :=
 xs = [] ∨ ∃ b o,A = some ⟨b,o,none⟩ ∧ b < B ∧ ∀ j u,xs[j]? = some u → w.cell? ⟨b,o + j,none⟩ = some u
section
variable {w w':World} {B B':Nat} {A:Option Addr} {xs:List Value}
theorem Rd.nil (w:World) (B:Nat) (A:Option Addr):Rd w B A []:=.inl rfl
theorem Rd.keep (h:Rd w B A xs) (hk:∀ p:Addr,p.block < B → w'.cell? p = w.cell? p):Rd w' B A xs:=by
 rcases h with h | ⟨b,o,hA,hb,hc⟩
 ·exact .inl h
 ·exact .inr ⟨b,o,hA,hb,fun j u hu => (hk _ hb).trans (hc j u hu)⟩
theorem Rd.more (h:Rd w B A xs) (hB:B ≤ B'):Rd w B' A xs:=by
 rcases h with h | ⟨b,o,hA,hb,hc⟩
 ·exact .inl h
 ·exact .inr ⟨b,o,hA,by omega,hc⟩
theorem Rd.below (h:Rd w B A xs) (hb:Below B w w'):Rd w' B A xs:=h.keep fun _ hp => hb.cell hp
theorem Rd.drewN (h:Rd w B A xs) (k:Nat):Rd (w.drewN k) B A xs:=h
theorem Rd.at_ (h:Rd w B A xs) (h0:xs ≠ []):∃ b o,A = some ⟨b,o,none⟩ ∧ b < B ∧ ∀ j u,xs[j]? = some u → w.cell? ⟨b,o + j,none⟩ = some u:=by
 rcases h with h | h
 ·exact absurd h h0
 ·exact h
theorem Rd.take (h:Rd w B A xs) (n:Nat):Rd w B A (xs.take n):=by
 rcases h with h | ⟨b,o,hA,hb,hc⟩
 ·exact .inl (by rw [h];simp)
 ·refine .inr ⟨b,o,hA,hb,fun j u hu => hc j u ?_⟩
  rw [List.getElem?_take] at hu
  split at hu
  ·exact hu
  ·cases hu
theorem Rd.drop {b o:Nat} (h:Rd w B (some ⟨b,o,none⟩) xs) (n:Nat):Rd w B (some ⟨b,o + n,none⟩) (xs.drop n):=by
 rcases h with h | ⟨b',o',hA,hb,hc⟩
 ·exact .inl (by rw [h];simp)
 ·cases hA
  refine .inr ⟨b,o + n,rfl,hb,fun j u hu => ?_⟩
  rw [List.getElem?_drop] at hu
  rw [Nat.add_assoc]
  exact hc _ u hu
theorem Rd.own {base e n cap:Nat} {size:Nat} (h:w.ownsRow base e size (.slice A n cap) n xs):Rd w w.heap.size A xs:=by
 rcases h.2 with ⟨hv,hn⟩ | ⟨g,c,cur,hv,_,hg,_,_,_,_⟩
 ·left
  have:=h.1
  rw [hn] at this
  exact List.eq_nil_of_length_eq_zero (by simpa using this)
 ·cases hv
  refine .inr ⟨g,0,rfl,(Array.getElem?_eq_some_iff.1 hg).1,fun j u hu => ?_⟩
  have hc:=h.cells (g:=g) rfl j u hu
  have ha:(⟨g,0,none⟩:Addr).add j = ⟨g,0 + j,none⟩:=by unfold Addr.add;split <;> simp_all
  rw [ha] at hc
  exact hc
end
theorem own_shape {w:World} {base e n size:Nat} {v:Value} {xs:List Value} (h:w.ownsRow base e size v n xs) :
  ∃ A cap,v = .slice A n cap ∧ n ≤ cap ∧ cap ≤ maxLen ∧ (A = none → n = 0):=by
 rcases h.2 with ⟨rfl,rfl⟩ | ⟨g,c,cur,rfl,_,_,hn,hc,_,_⟩
 ·exact ⟨none,0,rfl,Nat.le_refl _,by simp [maxLen],fun _ => rfl⟩
 ·exact ⟨_,c,rfl,hn,hc,fun e => by cases e⟩
theorem own_some {w:World} {base e n size:Nat} {v:Value} {xs:List Value} (h:w.ownsRow base e size v n xs) (h0:0 < n) :
  ∃ g cap,v = .slice (some ⟨g,0,none⟩) n cap ∧ base ≤ g ∧ n ≤ cap ∧ cap ≤ maxLen:=by
 rcases h.2 with ⟨rfl,rfl⟩ | ⟨g,c,cur,rfl,hb,_,hn,hc,_,_⟩
 ·omega
 ·exact ⟨g,c,rfl,hb,hn,hc⟩
theorem own_below {w w':World} {B base e n size:Nat} {v:Value} {xs:List Value} (h:w.ownsRow base e size v n xs) (hb:Below B w w') (hl:∀ k,v.ownBlock = some k → k < B):w'.ownsRow base e size v n xs:=by
 refine ⟨h.1,?_⟩
 rcases h.2 with h2 | ⟨g,cap,cur,hv,hg,hh,r⟩
 ·exact .inl h2
 ·refine .inr ⟨g,cap,cur,hv,hg,?_,r⟩
  rw [hb.block g (hl g (by rw [hv];rfl))]
  exact hh
theorem own_below' {w w':World} {base e n size:Nat} {v:Value} {xs:List Value} (h:w.ownsRow base e size v n xs) (hb:Below w.heap.size w w'):w'.ownsRow base e size v n xs :=
 own_below h hb fun k hk => (h.lt k hk).2
theorem own_less {w:World} {base base' e n size:Nat} {v:Value} {xs:List Value} (h:w.ownsRow base e size v n xs) (hb:base' ≤ base):w.ownsRow base' e size v n xs:=by
 refine ⟨h.1,?_⟩
 rcases h.2 with h2 | ⟨g,cap,cur,hv,hg,r⟩
 ·exact .inl h2
 ·exact .inr ⟨g,cap,cur,hv,by omega,r⟩
theorem below_drewN {B:Nat} {a w:World} (h:Below B a w) (n:Nat):Below B a (w.drewN n):=⟨h.os,h.tape,h.output,h.size,h.block⟩
theorem wpList_put1 {P:Program} {w:World} {base:Nat} {e t:TypeId} {z:Value} {bytes:Nat} {v:Value} {n:Nat} {xs:List Value} {ops:Array Oper} {rest:List Oper} {o:Oper} {a:Act} {Q:Exit → Act → World → Prop} {u:Value} {c:Nat}
  (hown:w.ownsRow base e 1 v n xs) (ht:P.underlying t = some (.slice e)) (hi:(P.info? e).map (fun i => (i.zero,i.size,i.bytes)) = some (some z,1,bytes)) (hzs:z.cells.size = 1)
  (hu:u.oneCell' = true) (hbase:base ≤ w.heap.size) (h63:n + 1 ≤ maxLen) (hbytes:(n + 1) * bytes ≤ 140737488355328)
  (hgd:o.guard = none) (s x:Operand) (ho:o.op = .call { callee:=.builtin .append,args:=#[s,x],argTypes:=#[t,t] })
  (hs:a.eval s = v) (hx:a.eval x = .slice (some ⟨w.heap.size,0,none⟩) 1 c)
  (h:∀ v' w',w'.ownsRow base e 1 v' (n + 1) (xs ++ [u]) → Below base w w' → wpList P ops Q rest (a.put o.dst v') w') :
  wpList P ops Q (o :: rest) a (w.alloc (.cells #[u] e)):=by
 obtain ⟨i0,hi0,hz0,hz1,hz2⟩:=info_parts hi
 refine wpList_append_own _ hgd s x t ho base e i0 z 1 bytes ht hi0 hz0 hz1 hz2 hzs (by decide) v n xs hs (hown.alloc _) ⟨w.heap.size,0,none⟩ 1 c [u] hx rfl ?_ ?_ h63 hbytes (by simp;omega) ?_
 ·intro j y hj
  match j,hj with
  | 0,hj => simp at hj;subst hj;simp [Addr.add]
 ·intro y hy;simp at hy;subst hy;exact hu
 ·intro v' w' ho' hg _
  exact h v' w' ho' (((Below.refl base w).alloc hbase _).grown hg (by simp;omega) (fun k hk => (hown.lt k hk).1))
theorem info_u8:(Tryd.prog.info? 5).map (fun i => (i.zero,i.size,i.bytes)) = some (some (.int .u8 0),1,1):=by kernel_rfl
def OwnB (w:World) (base:Nat) (v:Value) (xs:List Nat):Prop:=w.ownsRow base 5 1 v xs.length (bs xs)
section
variable {w w':World} {base base' B:Nat} {v:Value} {xs:List Nat}
theorem OwnB.nil (w:World) (base:Nat):OwnB w base (.slice none 0 0) []:=World.ownsRow_nil w base _ 1
theorem OwnB.shape (h:OwnB w base v xs):∃ A cap,v = .slice A xs.length cap ∧ xs.length ≤ cap ∧ cap ≤ maxLen:=by
 obtain ⟨A,cap,hv,h1,h2,_⟩:=own_shape h
 exact ⟨A,cap,hv,h1,h2⟩
theorem OwnB.some_ (h:OwnB w base v xs) (h0:0 < xs.length):∃ g cap,v = .slice (some ⟨g,0,none⟩) xs.length cap ∧ base ≤ g ∧ g < w.heap.size ∧ xs.length ≤ cap ∧ cap ≤ maxLen:=by
 obtain ⟨g,cap,rfl,h1,h2,h3⟩:=own_some h h0
 exact ⟨g,cap,rfl,h1,(World.ownsRow.lt h g rfl).2,h2,h3⟩
theorem OwnB.below (h:OwnB w base v xs) (hb:Below w.heap.size w w'):OwnB w' base v xs:=own_below' h hb
theorem OwnB.alloc (h:OwnB w base v xs) (o:Obj):OwnB (w.alloc o) base v xs:=World.ownsRow.alloc h o
theorem OwnB.less (h:OwnB w base v xs) (hb:base' ≤ base):OwnB w base' v xs:=own_less h hb
theorem OwnB.rd {A:Option Addr} {n cap:Nat} (h:OwnB w base (.slice A n cap) xs):Rd w w.heap.size A (bs xs):=by
 obtain ⟨A',cap',hv,_⟩:=own_shape h
 cases hv
 exact Rd.own h
theorem OwnB.cell {g n cap:Nat} (h:OwnB w base (.slice (some ⟨g,0,none⟩) n cap) xs) (j:Nat) (hj:j < xs.length):w.cell? ⟨g,j,none⟩ = some (.int .u8 ((xs[j]?.getD 0:Nat):Int)):=by
 obtain ⟨A',cap',hv,_⟩:=own_shape h
 cases hv
 rw [World.ownsRow.cellAt h j (by omega),bs_get _ _ hj]
theorem OwnB.free {g n cap:Nat} (h:OwnB w base (.slice (some ⟨g,0,none⟩) n cap) xs) (j:Nat):w.frozen? ⟨g,j,none⟩ = false:=by
 obtain ⟨A',cap',hv,_⟩:=own_shape h
 cases hv
 exact World.ownsRow.frozenAt h j
theorem OwnB.set_ {g n cap:Nat} (h:OwnB w base (.slice (some ⟨g,0,none⟩) n cap) xs) (j x:Nat) {X:Int} (hX:X = (x:Int)):OwnB (w.setCell ⟨g,j,none⟩ (.int .u8 X)) base (.slice (some ⟨g,0,none⟩) n cap) (xs.set j x):=by
 subst hX
 obtain ⟨A',cap',hv,_⟩:=own_shape h
 cases hv
 have h2:=(World.ownsRow.stored h j (.int .u8 (x:Int))).1
 unfold OwnB bs
 rw [List.length_set,List.map_set]
 exact h2
end
theorem wpList_putB {w:World} {base:Nat} {v:Value} {xs:List Nat} {ops:Array Oper} {rest:List Oper} {o:Oper} {a:Act} {Q:Exit → Act → World → Prop} {x:Nat} {X:Int} {c:Nat}
  (hown:OwnB w base v xs) (hX:X = (x:Int)) (hbase:base ≤ w.heap.size) (hbytes:xs.length + 1 ≤ 140737488355328)
  (hgd:o.guard = none) (s y:Operand) (ho:o.op = .call { callee:=.builtin .append,args:=#[s,y],argTypes:=#[69,69] })
  (hs:a.eval s = v) (hy:a.eval y = .slice (some ⟨w.heap.size,0,none⟩) 1 c)
  (h:∀ v' w',OwnB w' base v' (xs ++ [x]) → Below base w w' → wpList Tryd.prog ops Q rest (a.put o.dst v') w') :
  wpList Tryd.prog ops Q (o :: rest) a (w.alloc (.cells #[.int .u8 X] 5)):=by
 subst hX
 refine wpList_put1 hown Tryd.underlying69 info_u8 rfl rfl hbase (by simp only [maxLen];omega) (by omega) hgd s y ho hs hy ?_
 intro v' w' h1 h2
 refine h v' w' ?_ h2
 unfold OwnB
 rw [bs_app,bs_one,List.length_append]
 exact h1
theorem run_append_nil_src {P:Program} (w:World) (base:Nat) (t ty e:TypeId) (i:TypeInfo) (size:Nat) (ht:P.underlying t = some (.slice e)) (hi:P.info? e = some i)
  (v:Value) (n:Nat) (xs:List Value) (hown:w.ownsRow base e size v n xs) (c:Nat):(Builtin.append_ #[t,t] ty #[v,.slice none 0 c]).run P w = .ok v w:=by
 rcases hown.2 with ⟨rfl,rfl⟩ | ⟨g,cap,cur,rfl,_,_,hnc,_⟩
 ·simp [Builtin.append_,run_underlying ht,sizeOf,typeInfo,hi,Builtin.lenOf,Builtin.firstCells]
 ·simp [Builtin.append_,run_underlying ht,sizeOf,typeInfo,hi,Builtin.lenOf,Builtin.firstCells,storeCells,hnc]
theorem wpList_putL {w:World} {base B c m:Nat} {A:Option Addr} {v:Value} {xs ys:List Nat} {ops:Array Oper} {rest:List Oper} {o:Oper} {a:Act} {Q:Exit → Act → World → Prop}
  (hown:OwnB w base v xs) (hr:Rd w B A (bs ys)) (hm:m = ys.length) (hbase:base ≤ w.heap.size) (hbytes:xs.length + ys.length ≤ 140737488355328)
  (hgd:o.guard = none) (x y:Operand) (ho:o.op = .call { callee:=.builtin .append,args:=#[x,y],argTypes:=#[69,69] })
  (hs:a.eval x = v) (hy:a.eval y = .slice A m c)
  (h:∀ v' w',OwnB w' base v' (xs ++ ys) → Below base w w' → wpList Tryd.prog ops Q rest (a.put o.dst v') w') :
  wpList Tryd.prog ops Q (o :: rest) a w:=by
 subst hm
 obtain ⟨i0,hi0,hz0,hz1,hz2⟩:=info_parts info_u8
 rcases A with _ | ad
 ·have hn:ys = []:=by
   rcases hr with h | ⟨b,o,h,_⟩
   ·simpa [bs] using h
   ·cases h
  subst hn
  have hrun:=run_append_nil_src (P:=Tryd.prog) w base _ o.type _ i0 1 Tryd.underlying69 hi0 v xs.length (bs xs) hown c
  refine wpList_plain hgd fun K hK => ?_
  unfold Oper.wp execOp
  simp only [ho,resolve,invoke,builtin,Sem.run_bind,Sem.run_pure,Result.andThen_ok,List.map_toArray,List.map_cons,List.map_nil,hs,hy,List.length_nil,hrun]
  exact hK _ _ (h v w (by simpa using hown) (Below.refl _ _))
 ·refine wpList_append_own _ hgd x y _ ho base _ i0 (.int .u8 0) 1 1 Tryd.underlying69 hi0 hz0 hz1 hz2 rfl (by decide) v xs.length (bs xs) hs hown ad ys.length c (bs ys) hy (by simp [bs]) ?_ (bs_cell ys) (by simp only [maxLen];omega) (by omega) hbase ?_
  ·intro j u hu
   rcases hr with h | ⟨b,o,h,_,hc⟩
   ·rw [h] at hu;simp at hu
   ·cases h
    have:=hc j u hu
    have ha:(⟨b,o,none⟩:Addr).add j = ⟨b,o + j,none⟩:=by unfold Addr.add;split <;> simp_all
    rw [ha];exact this
  ·intro v' w' h1 hg _
   refine h v' w' ?_ ((Below.refl base w).grown hg hbase (fun k hk => (World.ownsRow.lt hown k hk).1))
   unfold OwnB
   rw [bs_app,List.length_append]
   exact h1
theorem wpList_store_new {P:Program} {ops:Array Oper} {rest:List Oper} {o:Oper} {a:Act} {w:World} {Q:Exit → Act → World → Prop} {t:TypeId} {old cs:Array Value} (hgd:o.guard = none) (ty:TypeId) (x y:Operand) (ho:o.op = .store ty x y)
  (hx:a.eval x = .pointer (some ⟨w.heap.size,0,none⟩)) (hy:a.eval y = .agg cs) {n:Nat} (hi:(P.info? ty).map (·.size) = some n) (hcs:cs.size = n) (hold:old.size = n) (h1:cs.all (·.oneCell') = true)
  (h:∀ w',Below w.heap.size w w' → w'.heap[w.heap.size]? = some (.cells cs t (0,0)) → w.heap.size < w'.heap.size → wpList P ops Q rest (a.put o.dst undef) w'):wpList P ops Q (o :: rest) a (w.alloc (.cells old t)):=by
 subst hcs
 refine wpList_store_row hgd ty x y ho w.heap.size cs hx hy t old (heap_alloc_new w _) hi hold h1 ?_
 refine h _ ?_ (setRow_heap _ _ _ _ _ _ (heap_alloc_new w _)) (by simp)
 exact ((Below.refl _ w).alloc (Nat.le_refl _) _).trans ⟨rfl,rfl,rfl,by simp,fun k hk => setRow_other _ _ _ _ (by omega)⟩
end Go.Proofs.YtmfihlcibephlaaDoor
namespace Go.Proofs.YtmfihlcibephlaaDoor
def kOf (h:Nat):Nat:=if h < 128 then 127 - h else h - 128
def dec:List Nat → Int × Nat × Nat
 | [] => (0,0,3)
 | h :: t =>
  if 8 < kOf h then (0,0,2)
  else if t.length < kOf h then (0,0,3)
  else if 9223372036854775807 < val (inv (decide (h < 128)) (t.take (kOf h))) ∨ (0 < kOf h ∧ val (inv (decide (h < 128)) (t.take (kOf h))) / 2 ^ (8 * (kOf h - 1)) = 0) then (0,0,2)
  else (if h < 128 then -1 - (val (inv (decide (h < 128)) (t.take (kOf h))):Int) else (val (inv (decide (h < 128)) (t.take (kOf h))):Int),1 + kOf h,0)
theorem dec_cons (h:Nat) (t:List Nat):dec (h :: t) =
  if 8 < kOf h then (0,0,2)
  else if t.length < kOf h then (0,0,3)
  else if 9223372036854775807 < val (inv (decide (h < 128)) (t.take (kOf h))) ∨ (0 < kOf h ∧ val (inv (decide (h < 128)) (t.take (kOf h))) / 2 ^ (8 * (kOf h - 1)) = 0) then (0,0,2)
  else (if h < 128 then -1 - (val (inv (decide (h < 128)) (t.take (kOf h))):Int) else (val (inv (decide (h < 128)) (t.take (kOf h))):Int),1 + kOf h,0):=rfl
theorem dec_big {h K:Nat} {t:List Nat} (hK:kOf h = K) (h8:8 < K):dec (h :: t) = (0,0,2):=by
 rw [dec_cons,hK,if_pos h8]
theorem dec_short {h K:Nat} {t:List Nat} (hK:kOf h = K) (h8:¬ 8 < K) (hl:t.length < K):dec (h :: t) = (0,0,3):=by
 rw [dec_cons,hK,if_neg h8,if_pos hl]
def decEnd (neg:Bool) (K M:Nat):Int × Nat × Nat :=
 if 9223372036854775807 < M ∨ (0 < K ∧ M / 2 ^ (8 * (K - 1)) = 0) then (0,0,2) else (if neg then -1 - (M:Int) else (M:Int),1 + K,0)
theorem dec_end {h K:Nat} {t:List Nat} {neg:Bool} (hK:kOf h = K) (h8:¬ 8 < K) (hl:¬ t.length < K) (hn:decide (h < 128) = neg):dec (h :: t) = decEnd neg K (val (inv neg (t.take K))):=by
 rw [dec_cons,hK,if_neg h8,if_neg hl]
 unfold decEnd
 subst hn
 by_cases h:h < 128 <;> simp [h]
theorem dec_ok {b:List Nat} {n:Int} {u:Nat} (h:dec b = (n,u,0)):1 ≤ u ∧ u ≤ 9 ∧ u ≤ b.length ∧ -9223372036854775808 ≤ n ∧ n ≤ 9223372036854775807:=by
 cases b with
 | nil => cases h
 | cons x t =>
  rw [dec_cons] at h
  by_cases h1:8 < kOf x
  ·rw [if_pos h1] at h;cases h
  rw [if_neg h1] at h
  by_cases h2:t.length < kOf x
  ·rw [if_pos h2] at h;cases h
  rw [if_neg h2] at h
  split at h
  ·cases h
  ·rename_i h3
   simp only [Prod.mk.injEq,and_true] at h
   obtain ⟨hn,hu⟩:=h
   have h4:¬ 9223372036854775807 < val (inv (decide (x < 128)) (t.take (kOf x))):=fun e => h3 (.inl e)
   generalize val (inv (decide (x < 128)) (t.take (kOf x))) = M at *
   rw [List.length_cons]
   refine ⟨by omega,by omega,by omega,?_,?_⟩ <;> (split at hn <;> omega)
def part {α:Type} (f:α → List Nat) (l:List α) (k:Nat):List Nat:=enc l.length ++ (l.take k).flatMap f
end Go.Proofs.YtmfihlcibephlaaDoor
namespace Go.Proofs.YtmfihlcibephlaaDoor
open Go.RowKit
def InR (n:Int):Prop:=-9223372036854775808 ≤ n ∧ n ≤ 9223372036854775807
def mkS (l:List Nat):ByteArray:=⟨(l.map UInt8.ofNat).toArray⟩
theorem run_conv (B n c:Nat) (A:Option Addr) (ys:List Nat) (w:World) (hn:n = ys.length) (hr:Rd w B A (bs ys)) :
  (convert 69 9 (.slice A n c)).run Tryd.prog w = .ok (.string (mkS ys)) w:=by
 subst hn
 rcases hr with h | ⟨b,o,rfl,_,hc⟩
 ·have:ys = []:=by simpa [bs] using h
  subst this
  rcases A with _ | ad
  ·rw [run_convert_bytes_nil w _ _ Tryd.underlying69 Tryd.underlying5 _ _ _ Tryd.underlying9];rfl
  ·have hl:(loadCells ad 0).run Tryd.prog w = .ok (([]:List Int).map (Value.int .u8)).toArray w:=by
    have:=run_loadCells_list (P:=Tryd.prog) w ad [] (by simp)
    simpa using this
   rw [List.length_nil,run_convert_bytes_string w _ _ _ _ _ _ Tryd.underlying69 Tryd.underlying5 Tryd.underlying9,run_bytesToString w ad 0 c [] hl]
   rfl
 ·rw [run_convert_bytes_arg w _ _ Tryd.underlying69 Tryd.underlying5 b o ys.length c (ys.map Int.ofNat) (by simp) ?_ _ Tryd.underlying9]
  ·simp [strOfNums,mkS,List.map_map,Function.comp_def]
  ·intro i hi
   rw [hc i _ (bs_get ys i hi)]
   simp [List.getD,List.getElem?_eq_getElem hi]
def BoolRes (w:World) (p:Bool) (e:Ending) (w':World):Prop:=e = .returned (.bool p) ∧ ∃ k,w' = w.drewN k
theorem BoolRes.mk {w:World} {p q:Bool} {k:Nat} (h:q = p):BoolRes w p (.returned (.bool q)) (w.drewN k):=by subst h;exact ⟨rfl,k,rfl⟩
theorem run_part {P:Program} (w:World) (e:TypeId) (k:IntKind) (he:P.underlying e = some (.int k)) (cs:Array Value) (o:Nat) (v:Value) (hv:cs[o]? = some v):(Go.part e cs o).run P w = .ok v w:=by
 have hagg:(isAgg e).run P w = .ok false w:=by
  unfold isAgg
  rw [Sem.run_bind,run_underlying he w]
  rfl
 unfold Go.part
 rw [Sem.run_bind,hagg]
 simp [hv]
theorem later {w w' w'':World} (h:Below w.heap.size w w') (h':Below w'.heap.size w' w''):Below w.heap.size w w'':=h.trans (h'.mono h.size)
theorem new_later (w:World) (o:Obj):Below w.heap.size w (w.alloc o):=(Below.refl _ w).alloc (Nat.le_refl _) o
theorem Rd.later {w w':World} {A:Option Addr} {xs:List Value} (h:Rd w w.heap.size A xs) (hb:Below w.heap.size w w'):Rd w' w'.heap.size A xs:=(h.below hb).more hb.size
theorem arr_new (w:World) (e:TypeId) (cs:Array Value) (n:Nat) (hn:cs.size = n) (hm:n ≤ maxLen):(w.alloc (.cells cs e)).ownsRow w.heap.size e 1 (.slice (some ⟨w.heap.size,0,none⟩) n n) n cs.toList :=
 ⟨by simp [hn],.inr ⟨w.heap.size,n,cs,rfl,Nat.le_refl _,heap_alloc_new w _,Nat.le_refl _,hm,by omega,by rw [List.take_of_length_le (by simp;omega)]⟩⟩
theorem arr_range {w:World} {g n:Nat} {e:TypeId} {xs:List Value} (h:w.ownsRow g e 1 (.slice (some ⟨g,0,none⟩) n n) n xs):w.rangeAt g 0 xs:=by
 intro j v hv
 have hj:j < n:=by have:=(List.getElem?_eq_some_iff.1 hv).1;have:=h.1;omega
 rw [Nat.zero_add,h.cellAt j (by omega)]
 exact hv
end Go.Proofs.YtmfihlcibephlaaDoor
namespace Go.Proofs.YtmfihlcibephlaaDoor
open Go.RowKit
def Arr (W:World) (g n:Nat) (e:TypeId) (xs:List Value):Prop:=W.ownsRow g e 1 (.slice (some ⟨g,0,none⟩) n n) n xs
theorem Arr.new (w:World) (e:TypeId) (cs:Array Value) (n:Nat) (hn:cs.size = n) (hm:n ≤ 1000):Arr (w.alloc (.cells cs e)) w.heap.size n e cs.toList:=arr_new w e cs n hn (by simp [maxLen];omega)
theorem Arr.new' (w:World) (e:TypeId) (cs:Array Value) (n:Nat) (xs:List Value) (hx:cs.toList = xs) (hn:xs.length = n) (hm:n ≤ 1000):Arr (w.alloc (.cells cs e)) w.heap.size n e xs:=by
 subst hx;exact Arr.new w e cs n (by simpa using hn) hm
theorem Arr.below {W W':World} {g n B:Nat} {e:TypeId} {xs:List Value} (h:Arr W g n e xs) (hb:Below B W W') (hg:g < B):Arr W' g n e xs :=
 own_below h hb (fun k hk => by simp [Value.ownBlock] at hk;omega)
theorem Arr.later {W W':World} {g n:Nat} {e:TypeId} {xs:List Value} (h:Arr W g n e xs) (hb:Below W.heap.size W W'):Arr W' g n e xs:=own_below' h hb
theorem Arr.cell {W:World} {g n:Nat} {e:TypeId} {xs:List Value} (h:Arr W g n e xs) {j:Nat} {v:Value} (hv:xs[j]? = some v):W.cell? ⟨g,j,none⟩ = some v:=by
 have hj:j < n:=by have:=(List.getElem?_eq_some_iff.1 hv).1;have:=h.1;omega
 rw [World.ownsRow.cellAt h j (by omega)];exact hv
theorem Arr.free {W:World} {g n:Nat} {e:TypeId} {xs:List Value} (h:Arr W g n e xs) (j:Nat):W.frozen? ⟨g,j,none⟩ = false:=World.ownsRow.frozenAt h j
theorem Arr.set_ {W:World} {g n:Nat} {e:TypeId} {xs:List Value} (h:Arr W g n e xs) (j:Nat) (v:Value):Arr (W.setCell ⟨g,j,none⟩ v) g n e (xs.set j v):=(World.ownsRow.stored h j v).1
theorem Arr.lt {W:World} {g n:Nat} {e:TypeId} {xs:List Value} (h:Arr W g n e xs):g < W.heap.size:=(World.ownsRow.lt h g rfl).2
theorem Arr.range {W:World} {g n:Nat} {e:TypeId} {xs:List Value} (h:Arr W g n e xs):W.rangeAt g 0 xs:=arr_range h
theorem Arr.other {W:World} {g n b j:Nat} {e:TypeId} {xs:List Value} (h:Arr W g n e xs) (hb:b ≠ g) (v:Value):Arr (W.setCell ⟨b,j,none⟩ v) g n e xs:=by
 refine ⟨h.1,?_⟩
 rcases h.2 with h2 | ⟨g',cap,cur,hv,hg,hh,r⟩
 ·exact .inl h2
 ·refine .inr ⟨g',cap,cur,hv,hg,?_,r⟩
  rw [Below.heap_setCell _ _ _ _ (by cases hv;simp;omega)]
  exact hh
theorem Arr.of_row {W:World} {g n:Nat} {e:TypeId} {xs:List Value} (h:W.heap[g]? = some (.cells xs.toArray e (0,0))) (hn:xs.length = n) (hm:n ≤ 1000):Arr W g n e xs :=
 ⟨by omega,.inr ⟨g,n,xs.toArray,rfl,Nat.le_refl _,h,Nat.le_refl _,by simp only [maxLen];omega,by simpa using hn,by simp [hn.symm]⟩⟩
end Go.Proofs.YtmfihlcibephlaaDoor
namespace Go.Proofs.YtmfihlcibephlaaDoor
open Go.RowKit
inductive Tr where
 | node (k n:Int) (ks:List Tr)
mutual
def Tr.nodes:Tr → Nat
 | .node _ _ ks => nodesL ks + 1
def nodesL:List Tr → Nat
 | [] => 0
 | x :: xs => x.nodes + nodesL xs
end
theorem Tr.nodes_pos (x:Tr):0 < x.nodes:=by cases x;unfold Tr.nodes;omega
theorem nodesL_get:∀ {xs:List Tr} {j:Nat} {x:Tr},xs[j]? = some x → x.nodes ≤ nodesL xs
 | [],j,x,h => by simp at h
 | y :: ys,0,x,h => by simp at h;subst h;unfold nodesL;omega
 | y :: ys,j + 1,x,h => by
  have:=nodesL_get (xs:=ys) (j:=j) (x:=x) (by simpa using h)
  unfold nodesL;omega
def Tr.kids:Tr → List Tr
 | .node _ _ ks => ks
theorem Tr.kid_less {k n:Int} {ks:List Tr} {j:Nat} {x:Tr} (h:ks[j]? = some x):x.nodes < (Tr.node k n ks).nodes:=by
 have h1:=nodesL_get h
 have e:(Tr.node k n ks).nodes = nodesL ks + 1:=by rw [Tr.nodes]
 omega
def c3 (k n:Int) (A:Option Addr) (len cap:Nat):List Value:=[.int .i64 k,.int .i64 n,.slice A len cap]
def i64r (x:Int):Prop:=-9223372036854775808 ≤ x ∧ x ≤ 9223372036854775807
mutual
def TrAt (w:World):Tr → Value → Prop
 | .node k n ks,v => ∃ A cap,v = .agg (c3 k n A ks.length cap).toArray ∧ (ks.length ≤ cap ∧ cap ≤ maxLen ∧ i64r k ∧ i64r n) ∧ KsAt w A 0 ks
def KsAt (w:World) (A:Option Addr):Nat → List Tr → Prop
 | _,[] => True
 | i,x :: xs => (∃ g o cs,A = some ⟨g,o,none⟩ ∧ w.rangeAt g (o + i * 3) cs ∧ TrAt w x (.agg cs.toArray)) ∧ KsAt w A (i + 1) xs
end
theorem KsAt.get {w:World} {A:Option Addr}:∀ {xs:List Tr} {i j:Nat} {x:Tr},KsAt w A i xs → xs[j]? = some x → ∃ g o cs,A = some ⟨g,o,none⟩ ∧ w.rangeAt g (o + (i + j) * 3) cs ∧ TrAt w x (.agg cs.toArray)
 | [],i,j,x,_,h => by simp at h
 | y :: ys,i,0,x,hk,h => by
  simp at h;subst h
  unfold KsAt at hk
  exact hk.1
 | y :: ys,i,j + 1,x,hk,h => by
  unfold KsAt at hk
  have:=KsAt.get hk.2 (j:=j) (x:=x) (by simpa using h)
  rwa [show i + 1 + j = i + (j + 1) by omega] at this
theorem range_below {w w':World} {g o:Nat} {cs:List Value} (h:w.rangeAt g o cs) (hb:Below w.heap.size w w'):w'.rangeAt g o cs:=fun j v hv => by
 have h1:=h j v hv
 rw [hb.cell (World.block_lt_of_cell? w _ h1)]
 exact h1
mutual
theorem TrAt.later {w w':World} (hb:Below w.heap.size w w'):∀ {x:Tr} {v:Value},TrAt w x v → TrAt w' x v
 | .node k n ks,v,h => by
  unfold TrAt at h ⊢
  obtain ⟨A,cap,h1,hm,h2⟩:=h
  exact ⟨A,cap,h1,hm,KsAt.later hb h2⟩
theorem KsAt.later {w w':World} (hb:Below w.heap.size w w'):∀ {xs:List Tr} {A:Option Addr} {i:Nat},KsAt w A i xs → KsAt w' A i xs
 | [],A,i,h => by unfold KsAt;trivial
 | x :: xs,A,i,h => by
  unfold KsAt at h ⊢
  obtain ⟨⟨g,o,cs,h1,h2,h3⟩,h4⟩:=h
  exact ⟨⟨g,o,cs,h1,range_below h2 hb,TrAt.later hb h3⟩,KsAt.later hb h4⟩
end
theorem TrAt.shape {w:World} {x:Tr} {v:Value} (h:TrAt w x v):∃ k n A len cap,v = .agg (c3 k n A len cap).toArray:=by
 cases x with
 | node k n ks =>
  unfold TrAt at h
  obtain ⟨A,cap,h1,_⟩:=h
  exact ⟨k,n,A,_,cap,h1⟩
mutual
def Tr.sz:Tr → Int
 | .node _ _ ks => szL 1 ks
def szL (a:Int):List Tr → Int
 | [] => a
 | x :: xs => szL (wrap64 (a + x.sz)) xs
end
theorem szL_snoc:∀ (xs:List Tr) (a:Int) (x:Tr),szL a (xs ++ [x]) = wrap64 (szL a xs + x.sz)
 | [],a,x => by simp [szL]
 | y :: ys,a,x => by rw [List.cons_append];unfold szL;exact szL_snoc ys _ x
def wtOf (k n len sum:Int):Int:=if k = 0 then (if n < 0 then wrap64 (-n) else n) else if k = 1 then n else if k = 2 then sum else if k = 3 then wrap64 (n + sum) else if k = 4 then wrap64 (len + sum) else 0
mutual
def Tr.wt:Tr → Int
 | .node k n ks => wtOf k n (ks.length:Int) (wtL 0 ks)
def wtL (a:Int):List Tr → Int
 | [] => a
 | x :: xs => wtL (wrap64 (a + x.wt)) xs
end
theorem wtL_snoc:∀ (xs:List Tr) (a:Int) (x:Tr),wtL a (xs ++ [x]) = wrap64 (wtL a xs + x.wt)
 | [],a,x => by simp [wtL]
 | y :: ys,a,x => by rw [List.cons_append];unfold wtL;exact wtL_snoc ys _ x
mutual
def Tr.dp:Tr → Int
 | .node _ _ ks => wrap64 (dpL 0 ks + 1)
def dpL (a:Int):List Tr → Int
 | [] => a
 | x :: xs => dpL (max a x.dp) xs
end
theorem dpL_snoc:∀ (xs:List Tr) (a:Int) (x:Tr),dpL a (xs ++ [x]) = max (dpL a xs) x.dp
 | [],a,x => by simp [dpL]
 | y :: ys,a,x => by rw [List.cons_append];unfold dpL;exact dpL_snoc ys _ x
def cmpI (x y:Int):Int:=if x < y then -1 else if y < x then 1 else 0
mutual
def Tr.cp:Tr → Tr → Int
 | .node k n ks,.node k' n' ks' => if cmpI k k' ≠ 0 then cmpI k k' else if cmpI n n' ≠ 0 then cmpI n n' else if cmpI (ks.length:Int) (ks'.length:Int) ≠ 0 then cmpI (ks.length:Int) (ks'.length:Int) else cpL ks ks'
def cpL:List Tr → List Tr → Int
 | [],_ => 0
 | _ :: _,[] => 0
 | x :: xs,y :: ys => if x.cp y ≠ 0 then x.cp y else cpL xs ys
end
theorem cpL_drop (xs ys:List Tr) (j:Nat) (hx:j < xs.length) (hy:j < ys.length):cpL (xs.drop j) (ys.drop j) = if xs[j].cp ys[j] ≠ 0 then xs[j].cp ys[j] else cpL (xs.drop (j + 1)) (ys.drop (j + 1)):=by
 rw [List.drop_eq_getElem_cons hx,List.drop_eq_getElem_cons hy,cpL]
end Go.Proofs.YtmfihlcibephlaaDoor
