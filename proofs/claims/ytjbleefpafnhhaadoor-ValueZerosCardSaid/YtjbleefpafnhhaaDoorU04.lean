import Derived.Test.YtjbleefpafnhhaaDoorX01
import Derived.Test.YtjbleefpafnhhaaDoorX02
import Derived.Test.YtjbleefpafnhhaaDoorX03
import Derived.Test.YtjbleefpafnhhaaDoorX04
import Derived.Test.YtjbleefpafnhhaaDoorX05
import Derived.Test.YtjbleefpafnhhaaDoorX06
import Derived.Test.YtjbleefpafnhhaaDoorX07
import Derived.Test.YtjbleefpafnhhaaDoorX08
import Derived.Test.YtjbleefpafnhhaaDoorX09
import Derived.Test.YtjbleefpafnhhaaDoorX10
import Derived.Test.YtjbleefpafnhhaaDoorX11
import Derived.Test.YtjbleefpafnhhaaDoorX12
import Derived.Test.YtjbleefpafnhhaaDoorX13
import Derived.Test.YtjbleefpafnhhaaDoorX14
import Derived.Test.YtjbleefpafnhhaaDoorX15
import Derived.Test.YtjbleefpafnhhaaDoorX16
import Derived.Test.YtjbleefpafnhhaaDoorX17
import Derived.Test.YtjbleefpafnhhaaDoorX18
import Derived.Test.YtjbleefpafnhhaaDoorX19
import Derived.Test.YtjbleefpafnhhaaDoorX20
import Derived.Test.YtjbleefpafnhhaaDoorX21
import Derived.Test.YtjbleefpafnhhaaDoorX22
import Derived.Test.YtjbleefpafnhhaaDoorX23
import Derived.Test.YtjbleefpafnhhaaDoorX24
import Derived.Test.YtjbleefpafnhhaaDoorX25
import Derived.Test.YtjbleefpafnhhaaDoorX26
import Derived.Test.YtjbleefpafnhhaaDoorX27
import Derived.Test.YtjbleefpafnhhaaDoorX28
import Derived.Test.YtjbleefpafnhhaaDoorX29
import Derived.Test.YtjbleefpafnhhaaDoorX30
import Derived.Test.YtjbleefpafnhhaaDoorX31
import Derived.Test.YtjbleefpafnhhaaDoorX32
import Derived.Test.YtjbleefpafnhhaaDoorX33
import Derived.Test.YtjbleefpafnhhaaDoorU03

set_option linter.unusedVariables false
set_option linter.unusedSimpArgs false
namespace Go.Proofs.YtjbleefpafnhhaaDoor
open Go.RowKit
theorem pr_get {w : World} {P : List Df} {mv : Value} {g o n cap : Nat} (h : PrAt w P (.agg #[mv, .slice (some ⟨g, o, none⟩) n cap])) {j : Nat} (hj : j < P.length) : ∃ C, w.rangeAt g (o + j * 31) C ∧ DfAt w P[j] C := by
  obtain ⟨mv', A, cap', e, _, hd⟩ := h
  obtain ⟨g', o', C, hA, hr, hd⟩ := hd j _ (List.getElem?_eq_getElem hj)
  simp at e
  obtain ⟨rfl, e, _, _⟩ := e
  rw [← e] at hA
  cases hA
  exact ⟨C, hr, hd⟩
theorem df_id {w : World} {d : Df} {C : List Value} (h : DfAt w d C) : ∃ R, C = [.int .i64 d.a, .int .i64 d.b, .int .i64 d.c] ++ R := by
  obtain ⟨sv, T, E, lv, rfl, _⟩ := h
  exact ⟨_, rfl⟩
structure VPs (W : World) (P : List Df) (mv dv : Value) (gP gD gv : Nat) (d : Df) (C : List Value) (x : Tr) (xk xn : Int) (xA : Option Addr) (xl xc : Nat) : Prop where
  hp : Arr W gP 2 26 [mv, dv]
  hpr : PrAt W P (.agg #[mv, dv])
  hk : Kv W
  hd : Arr W gD 31 46 C
  hdf : DfAt W d C
  hv : Arr W gv 3 53 [.int .i64 xk, .int .i64 xn, .slice xA xl xc]
  ht : TrAt W x (.agg #[.int .i64 xk, .int .i64 xn, .slice xA xl xc])
theorem VPs.later {W W' : World} {P : List Df} {mv dv : Value} {gP gD gv : Nat} {d : Df} {C : List Value} {x : Tr} {xk xn : Int} {xA : Option Addr} {xl xc : Nat} (h : VPs W P mv dv gP gD gv d C x xk xn xA xl xc) (hb : Below W.heap.size W W') : VPs W' P mv dv gP gD gv d C x xk xn xA xl xc :=
  ⟨h.hp.later hb, h.hpr.later hb, h.hk.later hb, h.hd.later hb, h.hdf.later hb, h.hv.later hb, h.ht.later hb⟩
theorem VPs.node {W : World} {P : List Df} {mv dv : Value} {gP gD gv : Nat} {d : Df} {C : List Value} {x : Tr} {xk xn : Int} {xA : Option Addr} {xl xc : Nat} (h : VPs W P mv dv gP gD gv d C x xk xn xA xl xc) : ∃ ks, x = .node xk xn ks ∧ xl = ks.length ∧ xl ≤ xc ∧ xc ≤ maxLen ∧ KsAt W xA 0 ks := by
  cases x with
  | node kx nx ks =>
    have ht := h.ht
    unfold TrAt at ht
    obtain ⟨A, cap, e, hm, hK⟩ := ht
    simp [c3] at e
    obtain ⟨rfl, rfl, rfl, rfl, rfl⟩ := e
    exact ⟨ks, rfl, rfl, hm.1, hm.2.1, hK⟩
end Go.Proofs.YtjbleefpafnhhaaDoor

namespace Go.Proofs.YtjbleefpafnhhaaDoor
open Go.RowKit
theorem setAll_get (ys vs : List Value) (o : Nat) (h : o + vs.length ≤ ys.length) (i : Nat) : (setAll ys o vs)[i]? = if i < o then ys[i]? else if i < o + vs.length then vs[i - o]? else ys[i]? := by
  rw [setAll_eq _ _ _ h]
  have hl : (ys.take o ++ vs).length = o + vs.length := by simp; omega
  split
  · rw [List.append_assoc, List.getElem?_append_left (by simp; omega), List.getElem?_take]; simp; omega
  · split
    · rw [List.append_assoc, List.getElem?_append_right (by simp; omega), List.length_take, Nat.min_eq_left (by omega), List.getElem?_append_left (by omega)]
    · rw [List.getElem?_append_right (by omega), hl, List.getElem?_drop]
      congr 1; omega
theorem flat_inv (sz : Nat) (h0 : 0 < sz) (L : List (List Value)) (hl : ∀ C ∈ L, C.length = sz) (p : Nat) (v : Value) (h : L.flatten[p]? = some v) : ∃ j q C, p = j * sz + q ∧ L[j]? = some C ∧ C[q]? = some v := by
  have hp : p < L.flatten.length := (List.getElem?_eq_some_iff.1 h).1
  have hlen : ∀ (L : List (List Value)), (∀ C ∈ L, C.length = sz) → L.flatten.length = L.length * sz := by
    intro L
    induction L with
    | nil => intro _; simp
    | cons D L ih => intro hl; rw [List.flatten_cons, List.length_append, ih (fun C hC => hl C (by simp [hC])), hl D (by simp), List.length_cons, Nat.succ_mul]; omega
  rw [hlen L hl] at hp
  have hj : p / sz < L.length := Nat.div_lt_of_lt_mul (by rw [Nat.mul_comm]; exact hp)
  have hq : p % sz < sz := Nat.mod_lt _ h0
  have hC := List.getElem?_eq_getElem hj
  have hCl := hl _ (List.getElem_mem hj)
  have hu := List.getElem?_eq_getElem (show p % sz < L[p / sz].length by omega)
  have e : p = p / sz * sz + p % sz := by rw [Nat.mul_comm]; exact (Nat.div_add_mod p sz).symm
  have h2 := flat_at sz L hl _ _ hC _ _ hu
  rw [← e, h] at h2
  exact ⟨_, _, _, e, hC, hu.trans h2.symm⟩
theorem flat_range {w : World} {g o sz : Nat} (h0 : 0 < sz) {L : List (List Value)} (hl : ∀ C ∈ L, C.length = sz) (h : ∀ (j : Nat) (C : List Value), L[j]? = some C → w.rangeAt g (o + j * sz) C) : w.rangeAt g o L.flatten := by
  intro p v hv
  obtain ⟨j, q, C, rfl, hC, hq⟩ := flat_inv sz h0 L hl p v hv
  have := h j C hC q v hq
  rwa [Nat.add_assoc] at this
theorem sls_list {w : World} {g o : Nat} : ∀ (L : List Sl) (i : Nat), (∀ j x, L[j]? = some x → ∃ C, w.rangeAt g (o + (i + j) * 11) C ∧ SlAt w x C) → ∃ Ds : List (List Value), Ds.length = L.length ∧ ∀ (j : Nat) (x : Sl) (D : List Value), L[j]? = some x → Ds[j]? = some D → SlAt w x D ∧ w.rangeAt g (o + (i + j) * 11) D
  | [], i, h => ⟨[], rfl, fun j x D hx => by simp at hx⟩
  | x :: L, i, h => by
    obtain ⟨C, hC, hS⟩ := h 0 x rfl
    obtain ⟨Ds, h1, h2⟩ := sls_list (w := w) (g := g) (o := o) L (i + 1) (fun j y hy => by
      have := h (j + 1) y (by simpa using hy)
      rwa [show i + 1 + j = i + (j + 1) by omega])
    refine ⟨C :: Ds, by simp [h1], fun j y D hy hD => ?_⟩
    cases j with
    | zero => simp at hy hD; subst hy; subst hD; exact ⟨hS, hC⟩
    | succ j =>
      have := h2 j y D (by simpa using hy) (by simpa using hD)
      rwa [show i + 1 + j = i + (j + 1) by omega] at this
def slTy (s : Sl) (t : Ty) : Sl := { s with ty := t }
theorem SlAt.cells {w : World} {x : Sl} {C : List Value} (h : SlAt w x C) : ∀ v ∈ C, v.oneCell' = true := by
  obtain ⟨T, rfl, h5, hT⟩ := h
  obtain ⟨k', s', q', i', B, len', cp, hsh⟩ := hT.shape
  have hT' : T = t5 k' s' q' i' B len' cp := by simpa using hsh
  subst hT'
  exact List.all_eq_true.mp (by rfl)
theorem tyD_at (w : World) (q : Nat) (hq : q < 10) : TyAt w (tD q) (.agg #[.int .i64 3, .int .i64 0, .int .i64 1, .int .i64 ((1 + q : Nat) : Int), .slice none 0 0]) := by
  have := tD_at w q hq
  rwa [show (1 + (q : Int)) = ((1 + q : Nat) : Int) by omega] at this
def TD5 (q : Nat) : List Value := [.int .i64 3, .int .i64 0, .int .i64 1, .int .i64 ((1 + q : Nat) : Int), .slice none 0 0]
theorem sls_new {w : World} {B gN sn capN t q : Nat} {L : List Sl} {Ds : List (List Value)} (hn : sn = L.length) (hcap : sn ≤ capN ∧ capN ≤ maxLen) (hq : q < 10) (hl : Ds.length = L.length) (hD : ∀ (j : Nat) (x : Sl) (D : List Value), L[j]? = some x → Ds[j]? = some D → SlAt w x D)
    (ho : w.ownsRow B 66 11 (.slice (some ⟨gN, 0, none⟩) sn capN) sn (setAll Ds.flatten (t * 11 + 4) (TD5 q))) (ht : t < sn) (x : Sl) (hx : L[t]? = some x) : SlsAt w (.slice (some ⟨gN, 0, none⟩) sn capN) (L.set t (slTy x (tD q))) := by
  have hl11 : ∀ C ∈ Ds, C.length = 11 := by
    intro C hC
    obtain ⟨j, hj⟩ := List.getElem?_of_mem hC
    have hjl : j < L.length := by have := (List.getElem?_eq_some_iff.1 hj).1; omega
    exact (hD j _ C (List.getElem?_eq_getElem hjl) hj).len
  have hfl : Ds.flatten.length = sn * 11 := by
    have : ∀ (M : List (List Value)), (∀ C ∈ M, C.length = 11) → M.flatten.length = M.length * 11 := by
      intro M
      induction M with
      | nil => intro _; simp
      | cons D M ih => intro h; rw [List.flatten_cons, List.length_append, ih (fun C hC => h C (by simp [hC])), h D (by simp), List.length_cons]; omega
    rw [this Ds hl11, hl, hn]
  have hT5 : (TD5 q).length = 5 := rfl
  have hg := fun i => setAll_get Ds.flatten (TD5 q) (t * 11 + 4) (by rw [hT5]; omega) i
  rw [hT5] at hg
  refine ⟨some ⟨gN, 0, none⟩, capN, by rw [List.length_set, ← hn], ⟨by rw [List.length_set, ← hn]; exact hcap.1, hcap.2⟩, fun j y hy => ?_⟩
  have hjl : j < sn := by have := (List.getElem?_eq_some_iff.1 hy).1; rw [List.length_set] at this; omega
  obtain ⟨D, hDj⟩ : ∃ D, Ds[j]? = some D := ⟨_, List.getElem?_eq_getElem (by omega)⟩
  have hcell : ∀ (i : Nat) (v : Value), (setAll Ds.flatten (t * 11 + 4) (TD5 q))[i]? = some v → w.cell? ⟨gN, 0 + i, none⟩ = some v := fun i v hv => by
    have h := ho.cells (g := gN) rfl _ _ hv
    have ha : (⟨gN, 0, none⟩ : Addr).add i = ⟨gN, 0 + i, none⟩ := by unfold Addr.add; split <;> simp_all
    rwa [ha] at h
  by_cases e : j = t
  · subst e
    rw [List.getElem?_set_self (by omega)] at hy
    obtain rfl := Option.some.inj hy
    obtain ⟨T, hDe, hT, hTy⟩ := hD j x D hx hDj
    subst hDe
    refine ⟨gN, 0, [.int .i64 x.a, .int .i64 x.b, .int .i64 x.c, .string x.name] ++ TD5 q ++ [.int .i64 x.most, .int .i64 x.place], rfl, fun p u hu => ?_, TD5 q, rfl, rfl, tyD_at w q hq⟩
    rw [Nat.add_assoc]
    refine hcell _ _ ?_
    rw [hg]
    have hp : p < 11 := by have := (List.getElem?_eq_some_iff.1 hu).1; simpa [TD5] using this
    have old : ∀ u', ([.int .i64 x.a, .int .i64 x.b, .int .i64 x.c, .string x.name] ++ T ++ [.int .i64 x.most, .int .i64 x.place] : List Value)[p]? = some u' → Ds.flatten[j * 11 + p]? = some u' := fun u' h => flat_at 11 Ds hl11 j _ hDj p u' h
    by_cases h4 : p < 4
    · rw [if_pos (by omega)]
      refine old u ?_
      rw [List.append_assoc, List.getElem?_append_left (by simpa using h4)] at hu ⊢
      exact hu
    · by_cases h9 : p < 9
      · rw [if_neg (by omega), if_pos (by omega), show j * 11 + p - (j * 11 + 4) = p - 4 by omega]
        rw [List.append_assoc, List.getElem?_append_right (by simp; omega), List.getElem?_append_left (by simp [TD5]; omega)] at hu
        exact hu
      · rw [if_neg (by omega), if_neg (by omega)]
        refine old u ?_
        rw [List.getElem?_append_right (by simp [TD5]; omega)] at hu
        rw [List.getElem?_append_right (by simp [hT]; omega)]
        have e1 : ([.int .i64 x.a, .int .i64 x.b, .int .i64 x.c, .string x.name] ++ TD5 q : List Value).length = 9 := rfl
        have e2 : ([.int .i64 x.a, .int .i64 x.b, .int .i64 x.c, .string x.name] ++ T : List Value).length = 9 := by simp [hT]
        rw [e1] at hu
        rw [e2]
        exact hu
  · rw [List.getElem?_set_ne (fun h => e h.symm)] at hy
    have hS := hD j y D hy hDj
    refine ⟨gN, 0, D, rfl, fun p u hu => ?_, hS⟩
    rw [Nat.add_assoc]
    refine hcell _ _ ?_
    have hp : p < 11 := by have := (List.getElem?_eq_some_iff.1 hu).1; have := hS.len; omega
    rw [hg]
    have := flat_at 11 Ds hl11 j D hDj p u hu
    split
    · exact this
    · rw [if_neg (by omega)]; exact this
end Go.Proofs.YtjbleefpafnhhaaDoor

namespace Go.Proofs.YtjbleefpafnhhaaDoor
open Go.RowKit
def dfSl (d : Df) (sl : List Sl) : Df := { d with slots := sl }
theorem pr_new {W : World} {B gd0 n cap k : Nat} {P : List Df} {L : List (List Value)} {mv sv' : Value} (hn : n = P.length) (hcap : n ≤ cap ∧ cap ≤ maxLen) (hm : mv.oneCell' = true) (hl : L.length = n) (hL : ∀ C ∈ L, C.length = 31) (hD : ∀ (j : Nat) (d : Df) (C : List Value), P[j]? = some d → L[j]? = some C → DfAt W d C)
    (hr : W.ownsRow B 46 31 (.slice (some ⟨gd0, 0, none⟩) n cap) n (L.flatten.set (k * 31 + 8) sv')) (d : Df) (hk : P[k]? = some d) (sl' : List Sl) (hs : SlsAt W sv' sl') : PrAt W (P.set k (dfSl d sl')) (.agg #[mv, .slice (some ⟨gd0, 0, none⟩) n cap]) := by
  refine ⟨mv, some ⟨gd0, 0, none⟩, cap, by rw [List.length_set, ← hn], ⟨hm, by rw [List.length_set, ← hn]; exact hcap.1, hcap.2⟩, fun j y hy => ?_⟩
  have hjl : j < n := by have := (List.getElem?_eq_some_iff.1 hy).1; rw [List.length_set] at this; omega
  obtain ⟨C, hC⟩ : ∃ C, L[j]? = some C := ⟨_, List.getElem?_eq_getElem (by omega)⟩
  have hC31 := hL C (List.mem_of_getElem? hC)
  have hcell : ∀ (i : Nat) (v : Value), (L.flatten.set (k * 31 + 8) sv')[i]? = some v → W.cell? ⟨gd0, 0 + i, none⟩ = some v := fun i v hv => by
    have h := hr.cells (g := gd0) rfl _ _ hv
    have ha : (⟨gd0, 0, none⟩ : Addr).add i = ⟨gd0, 0 + i, none⟩ := by unfold Addr.add; split <;> simp_all
    rwa [ha] at h
  by_cases e : j = k
  · subst e
    rw [List.getElem?_set_self (by omega)] at hy
    obtain rfl := Option.some.inj hy
    have hd := hD j d C hk hC
    refine ⟨gd0, 0, C.set 8 sv', rfl, fun p u hu => ?_, ?_⟩
    · rw [Nat.add_assoc]
      refine hcell _ _ ?_
      by_cases h8 : p = 8
      · subst h8
        have hlt : j * 31 + 8 < L.flatten.length := (List.getElem?_eq_some_iff.1 (flat_at 31 L hL j C hC 8 _ (List.getElem?_eq_getElem (by omega)))).1
        rw [List.getElem?_set_self hlt]
        rw [List.getElem?_set_self (by omega)] at hu
        exact hu
      · rw [List.getElem?_set_ne (by omega)]
        rw [List.getElem?_set_ne (by omega)] at hu
        exact flat_at 31 L hL j C hC p u hu
    · obtain ⟨sv, T, E, lv, rfl, h2, h3, h4, h5, h6⟩ := hd
      exact ⟨sv', T, E, lv, rfl, h2, hs, h4, h5, h6⟩
  · rw [List.getElem?_set_ne (fun h => e h.symm)] at hy
    have hd := hD j y C hy hC
    refine ⟨gd0, 0, C, rfl, fun p u hu => ?_, hd⟩
    rw [Nat.add_assoc]
    refine hcell _ _ ?_
    have hp : p < 31 := by have := (List.getElem?_eq_some_iff.1 hu).1; omega
    rw [List.getElem?_set_ne (by omega)]
    exact flat_at 31 L hL j C hC p u hu
structure TyR (W : World) (P : List Df) (L : List (List Value)) (mv : Value) (gd0 n cap B : Nat) : Prop where
  hn : n = P.length
  hcap : n ≤ cap ∧ cap ≤ maxLen
  hm : mv.oneCell' = true
  hl : L.length = n
  hL : ∀ C ∈ L, C.length = 31
  hr : W.ownsRow B 46 31 (.slice (some ⟨gd0, 0, none⟩) n cap) n L.flatten
  hf : ∀ (j : Nat) (d : Df) (C : List Value), P[j]? = some d → L[j]? = some C → Foot (fun g => g ≠ gd0) (PD d C) W
theorem TyR.later {W W' : World} {P : List Df} {L : List (List Value)} {mv : Value} {gd0 n cap B : Nat} (h : TyR W P L mv gd0 n cap B) (hb : Below W.heap.size W W') : TyR W' P L mv gd0 n cap B :=
  ⟨h.hn, h.hcap, h.hm, h.hl, h.hL, own_below h.hr hb (fun g e => (h.hr.lt g e).2), fun j d C hd hC => (h.hf j d C hd hC).keep (fun g hg _ => hg) (hb.mono (Nat.zero_le _)) (fun g _ hl => hb.block g hl)⟩
theorem TyR.pr {W : World} {P : List Df} {L : List (List Value)} {mv : Value} {gd0 n cap B : Nat} (h : TyR W P L mv gd0 n cap B) : PrAt W P (.agg #[mv, .slice (some ⟨gd0, 0, none⟩) n cap]) := by
  refine ⟨mv, some ⟨gd0, 0, none⟩, cap, by rw [← h.hn], ⟨h.hm, by rw [← h.hn]; exact h.hcap.1, h.hcap.2⟩, fun j d hd => ?_⟩
  have hjl : j < n := by have := (List.getElem?_eq_some_iff.1 hd).1; rw [h.hn]; omega
  obtain ⟨C, hC⟩ : ∃ C, L[j]? = some C := ⟨_, List.getElem?_eq_getElem (by rw [h.hl]; exact hjl)⟩
  refine ⟨gd0, 0, C, rfl, fun p u hu => ?_, (h.hf j d C hd hC).now⟩
  have h2 := h.hr.cells (g := gd0) rfl _ _ (flat_at 31 L h.hL j C hC p u hu)
  have ha : (⟨gd0, 0, none⟩ : Addr).add (j * 31 + p) = ⟨gd0, 0 + (j * 31 + p), none⟩ := by unfold Addr.add; split <;> simp_all
  rw [ha] at h2
  rwa [Nat.add_assoc]
def TysR (w : World) (e : Ending) (w' : World) : Prop := ∃ (P : List Df) (L : List (List Value)) (mv : Value) (gd0 n cap B : Nat), e = .returned (.agg #[mv, .slice (some ⟨gd0, 0, none⟩) n cap]) ∧ TyR w' P L mv gd0 n cap B ∧ Snd P ∧ Below w.heap.size w w' ∧ w.heap.size ≤ gd0
theorem Types_row (ls : List Int) (LA : Option Addr) (ln lc : Nat) (w : World) (hN : Nums w ls LA ln) :
    Calls Tryd.prog 10 #[.slice LA ln lc] w (TysR w) := by
  refine (Types_any ls LA ln lc w hN).mono ?_
  rintro e w' ⟨P, gm, B, M, dv, rfl, ⟨L, h1, h2, h3, h4⟩, ⟨hB, _⟩, hS, _, hb⟩
  obtain ⟨gd0, cap, rfl, hg, hc1, hc2⟩ := own_some h1 hS.len.1
  exact ⟨P, L, _, gd0, P.length, cap, B, rfl, ⟨rfl, ⟨hc1, hc2⟩, rfl, h2, h3, h1, fun j d C hd hC => (h4 j d C hd hC).mono (fun g hg e => hg.2 (by rw [e]; rfl))⟩, hS, hb, Nat.le_trans hB hg⟩
end Go.Proofs.YtjbleefpafnhhaaDoor

