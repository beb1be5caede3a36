import Derived.Test.YtjbleefpafnhhaaDoorY02
import Derived.Test.YtjbleefpafnhhaaDoorY15
import Derived.Test.YtjbleefpafnhhaaDoorY24
import Derived.Test.YtjbleefpafnhhaaDoorY34
import Derived.Test.YtjbleefpafnhhaaDoorY35

set_option linter.unusedVariables false
set_option linter.unusedSimpArgs false
namespace Go.Proofs.YtjbleefpafnhhaaDoor
open Go.RowKit
theorem cmpI_cases (x y : Int) : (x < y ∧ cmpI x y = -1) ∨ (x = y ∧ cmpI x y = 0) ∨ (y < x ∧ cmpI x y = 1) := by
  unfold cmpI
  by_cases h : x < y
  · exact .inl ⟨h, by rw [if_pos h]⟩
  · by_cases h2 : y < x
    · exact .inr (.inr ⟨h2, by rw [if_neg h, if_pos h2]⟩)
    · exact .inr (.inl ⟨by omega, by rw [if_neg h, if_neg h2]⟩)
def lex4 (a b c d : Int) : Int := if a ≠ 0 then a else if b ≠ 0 then b else if c ≠ 0 then c else d
theorem cp_lex (k n k' n' : Int) (ks ks' : List Tr) : (Tr.node k n ks).cp (.node k' n' ks') = lex4 (cmpI k k') (cmpI n n') (cmpI (ks.length : Int) (ks'.length : Int)) (cpL ks ks') := by rw [Tr.cp]; rfl
theorem lex4_cases (a b c d : Int) : (a ≠ 0 ∧ lex4 a b c d = a) ∨ (a = 0 ∧ b ≠ 0 ∧ lex4 a b c d = b) ∨ (a = 0 ∧ b = 0 ∧ c ≠ 0 ∧ lex4 a b c d = c) ∨ (a = 0 ∧ b = 0 ∧ c = 0 ∧ lex4 a b c d = d) := by
  unfold lex4
  by_cases ha : a = 0
  · by_cases hb : b = 0
    · by_cases hc : c = 0
      · exact .inr (.inr (.inr ⟨ha, hb, hc, by rw [if_neg (by simp [ha]), if_neg (by simp [hb]), if_neg (by simp [hc])]⟩))
      · exact .inr (.inr (.inl ⟨ha, hb, hc, by rw [if_neg (by simp [ha]), if_neg (by simp [hb]), if_pos hc]⟩))
    · exact .inr (.inl ⟨ha, hb, by rw [if_neg (by simp [ha]), if_pos hb]⟩)
  · exact .inl ⟨ha, by rw [if_pos ha]⟩
theorem cpL_cons (x y : Tr) (xs ys : List Tr) : (x.cp y ≠ 0 ∧ cpL (x :: xs) (y :: ys) = x.cp y) ∨ (x.cp y = 0 ∧ cpL (x :: xs) (y :: ys) = cpL xs ys) := by
  rw [cpL]
  by_cases h : x.cp y = 0
  · exact .inr ⟨h, by rw [if_neg (by simp [h])]⟩
  · exact .inl ⟨h, by rw [if_pos h]⟩
mutual
theorem cp_anti : ∀ (x y : Tr), y.cp x = -(x.cp y)
  | .node k n ks, .node k' n' ks' => by
    have h := cpL_anti ks ks'
    rw [cp_lex, cp_lex]
    have a2 := cmpI_cases k' k
    have b2 := cmpI_cases n' n
    have c2 := cmpI_cases (ks'.length : Int) (ks.length : Int)
    rcases cmpI_cases k k' with a | a | a <;> rcases cmpI_cases n n' with b | b | b <;> rcases cmpI_cases (ks.length : Int) (ks'.length : Int) with c | c | c <;> rcases lex4_cases (cmpI k k') (cmpI n n') (cmpI (ks.length : Int) (ks'.length : Int)) (cpL ks ks') with e | e | e | e <;> rcases lex4_cases (cmpI k' k) (cmpI n' n) (cmpI (ks'.length : Int) (ks.length : Int)) (cpL ks' ks) with f | f | f | f <;> omega
theorem cpL_anti : ∀ (xs ys : List Tr), cpL ys xs = -(cpL xs ys)
  | [], [] => by simp [cpL]
  | [], _ :: _ => by simp [cpL]
  | _ :: _, [] => by simp [cpL]
  | x :: xs, y :: ys => by
    have h1 := cp_anti x y
    have h2 := cpL_anti xs ys
    rcases cpL_cons x y xs ys with h | h <;> rcases cpL_cons y x ys xs with h' | h' <;> omega
end
mutual
theorem cp_eq : ∀ (x y : Tr), x.cp y = 0 → x = y
  | .node k n ks, .node k' n' ks' => by
    intro h0
    rw [cp_lex] at h0
    have h : k = k' ∧ n = n' ∧ (ks.length : Int) = (ks'.length : Int) ∧ cpL ks ks' = 0 := by
      rcases cmpI_cases k k' with a | a | a <;> rcases cmpI_cases n n' with b | b | b <;> rcases cmpI_cases (ks.length : Int) (ks'.length : Int) with c | c | c <;> rcases lex4_cases (cmpI k k') (cmpI n n') (cmpI (ks.length : Int) (ks'.length : Int)) (cpL ks ks') with e | e | e | e <;> omega
    obtain ⟨rfl, rfl, hl, hc⟩ := h
    rw [cpL_eq ks ks' (by omega) hc]
theorem cpL_eq : ∀ (xs ys : List Tr), xs.length = ys.length → cpL xs ys = 0 → xs = ys
  | [], [], _, _ => rfl
  | [], _ :: _, h, _ => by simp at h
  | _ :: _, [], h, _ => by simp at h
  | x :: xs, y :: ys, hl, h0 => by
    rcases cpL_cons x y xs ys with h | h
    · omega
    · rw [cp_eq x y h.1, cpL_eq xs ys (by simpa using hl) (by omega)]
end
theorem cp_self (x : Tr) : x.cp x = 0 := by have := cp_anti x x; omega
end Go.Proofs.YtjbleefpafnhhaaDoor

namespace Go.Proofs.YtjbleefpafnhhaaDoor
open Go.RowKit
theorem enc_lt2 (n : Int) (hn : i64r n) : (∀ d ∈ enc n, d < 256) ∧ (enc n).length ≤ 9 := ⟨enc_lt n hn, (enc_len n hn).2⟩
mutual
theorem en_lt : ∀ (x : Tr), x.ok → (∀ d ∈ x.en, d < 256) ∧ x.en.length ≤ 27 * x.nodes
  | .node k n ks, ho => by
    unfold Tr.ok at ho
    obtain ⟨⟨hk, hn, hl⟩, hks⟩ := ho
    obtain ⟨a1, a2⟩ := enc_lt2 k hk
    obtain ⟨b1, b2⟩ := enc_lt2 n hn
    obtain ⟨c1, c2⟩ := enc_lt2 _ (len_i64 hl)
    obtain ⟨d1, d2⟩ := enL_lt ks hks
    have e : (Tr.node k n ks).en = enc k ++ (enc n ++ (enc (ks.length : Int) ++ enL ks)) := by rw [Tr.en]
    rw [e, Tr.nodes]
    refine ⟨fun d hd => ?_, by simp only [List.length_append]; omega⟩
    simp only [List.mem_append] at hd
    rcases hd with h | h | h | h
    · exact a1 d h
    · exact b1 d h
    · exact c1 d h
    · exact d1 d h
theorem enL_lt : ∀ (xs : List Tr), okL xs → (∀ d ∈ enL xs, d < 256) ∧ (enL xs).length ≤ 27 * nodesL xs
  | [], _ => by simp [enL, nodesL]
  | x :: xs, ho => by
    unfold okL at ho
    obtain ⟨a1, a2⟩ := en_lt x ho.1
    obtain ⟨b1, b2⟩ := enL_lt xs ho.2
    rw [enL, nodesL]
    refine ⟨fun d hd => ?_, by simp only [List.length_append]; omega⟩
    rcases List.mem_append.1 hd with h | h
    · exact a1 d h
    · exact b1 d h
end
theorem str_eq (a b : ByteArray) (p : Bool) (hp : decide (a = b) = p) : (a.toList == b.toList) = p := by
  rw [← hp, ByteArray.toList_eq, ByteArray.toList_eq]
  by_cases h : a = b
  · subst h; simp
  · have h2 : ¬ a.data = b.data := fun e => h (ByteArray.ext e)
    simp [h, h2]
theorem mkS_inj {a b : List Nat} (ha : ∀ d ∈ a, d < 256) (hb : ∀ d ∈ b, d < 256) (h : mkS a = mkS b) : a = b := by
  rw [← sb_mkS a ha, ← sb_mkS b hb, h]
structure BV (x : Tr) : Prop where
  ok : x.ok
  n : x.nodes ≤ 256
  d : x.dep ≤ 24
theorem BV.len {x : Tr} (h : BV x) : x.en.length ≤ 6912 := by have := (en_lt x h.ok).2; have := h.n; omega
theorem BV.lt {x : Tr} (h : BV x) : ∀ d ∈ x.en, d < 256 := (en_lt x h.ok).1
theorem BV.eq {x y : Tr} (hx : BV x) (hy : BV y) : x.en = y.en → x = y := fun h => (en_inj hx.ok hy.ok hx.n hy.n hx.d hy.d (rest := []) (by rw [h]; simp)).1
theorem BV.str {x y : Tr} (hx : BV x) (hy : BV y) (q : Bool) (hq : decide (x.cp y = 0) = q) : decide (mkS x.en = mkS y.en) = q := by
  rw [← hq]
  by_cases h : x.cp y = 0
  · rw [cp_eq x y h, cp_self, decide_eq_true rfl, decide_eq_true rfl]
  · rw [decide_eq_false h, decide_eq_false]
    intro e
    have := hx.eq hy (mkS_inj hx.lt hy.lt e)
    rw [this, cp_self] at h
    exact h rfl
theorem BV.pre {x y : Tr} (hx : BV x) (hy : BV y) (hl : x.en.length < y.en.length) : decide (mkS (y.en.take x.en.length) = mkS x.en) = false := by
  rw [decide_eq_false]
  intro e
  have h := mkS_inj (fun d hd => hy.lt d (List.mem_of_mem_take hd)) hx.lt e
  have h2 : y.en = x.en ++ y.en.drop x.en.length := by
    have := List.take_append_drop x.en.length y.en
    rw [h] at this
    exact this.symm
  have h3 := (en_inj hx.ok hy.ok hx.n hy.n hx.d hy.d h2).2
  have h4 := congrArg List.length h3
  rw [List.length_drop] at h4
  simp at h4
  omega
def bst (l : List Nat) : List Nat := enc (l.length : Int) ++ l
theorem bst_lt {l : List Nat} (h : ∀ d ∈ l, d < 256) (hl : l.length ≤ 6912) : ∀ d ∈ bst l, d < 256 := by
  intro d hd
  rcases List.mem_append.1 hd with h1 | h1
  · exact (enc_lt2 _ (by unfold i64r; omega)).1 d h1
  · exact h d h1
theorem bst_inj {a b : List Nat} (ha : a.length ≤ 6912) (hb : b.length ≤ 6912) (h : bst a = bst b) : a = b := by
  have h1 := dec_enc (a.length : Int) (by omega) (by omega) a
  have h2 := dec_enc (b.length : Int) (by omega) (by omega) b
  unfold bst at h
  rw [h, h2] at h1
  simp only [Prod.mk.injEq] at h1
  have hl : (enc (b.length : Int)).length = (enc (a.length : Int)).length := h1.2.1
  exact (List.append_inj h hl.symm).2
theorem BV.byt {x y : Tr} (hx : BV x) (hy : BV y) (q : Bool) (hq : decide (x.cp y = 0) = q) : decide (mkS (bst x.en) = mkS (bst y.en)) = q := by
  rw [← hq]
  by_cases h : x.cp y = 0
  · rw [cp_eq x y h, cp_self, decide_eq_true rfl, decide_eq_true rfl]
  · rw [decide_eq_false h, decide_eq_false]
    intro e
    have := hx.eq hy (bst_inj hx.len hy.len (mkS_inj (bst_lt hx.lt hx.len) (bst_lt hy.lt hy.len) e))
    rw [this, cp_self] at h
    exact h rfl
theorem decode_round (x : Tr) (r : List Nat) (hx : BV x) (hr : ∀ d ∈ r, d < 256) (A : Option Addr) (m cap : Nat) (W : World) (hm : (x.en ++ r).length = m) (hcap : m ≤ cap ∧ cap ≤ maxLen) (hrd : Rd W W.heap.size A (bs (x.en ++ r))) :
    Calls Tryd.prog 40 #[.slice A m cap] W (fun e w' => ∃ xk xn xA xl xc, e = .returned (.tuple #[.agg #[.int .i64 xk, .int .i64 xn, .slice xA xl xc], .int .i64 (x.en.length : Int), .int .i64 0]) ∧ TrAt w' x (.agg #[.int .i64 xk, .int .i64 xn, .slice xA xl xc]) ∧ Below W.heap.size W w') := by
  have hall : ∀ d ∈ x.en ++ r, d < 256 := fun d hd => by
    rcases List.mem_append.1 hd with h | h
    · exact hx.lt d h
    · exact hr d h
  refine (decode_any (x.en ++ r) A m cap W hm hall hcap hrd).mono ?_
  rw [dz_round x r hx.ok hx.n hx.d]
  rintro e w' ⟨xk, xn, xA, xl, xc, h1, ht, hb⟩
  exact ⟨xk, xn, xA, xl, xc, by simpa using h1, by simpa using ht.at_, hb⟩
end Go.Proofs.YtjbleefpafnhhaaDoor

namespace Go.Proofs.YtjbleefpafnhhaaDoor
open Go.RowKit
def TypPr (w : World) (e : Ending) (w' : World) : Prop := ∃ (P : List Df) (mv : Value) (gd0 o n cap : Nat), n = P.length ∧ e = .returned (.agg #[mv, .slice (some ⟨gd0, o, none⟩) n cap]) ∧ PrAt w' P (.agg #[mv, .slice (some ⟨gd0, o, none⟩) n cap]) ∧ mv.oneCell' = true ∧ Snd P ∧ (∀ d : Df, P[0]? = some d → d.name = ⟨#[80, 111, 105, 110, 116]⟩) ∧ Below w.heap.size w w'
theorem Types_pr (ls : List Int) (LA : Option Addr) (ln lc : Nat) (w : World) (hN : Nums w ls LA ln) :
    Calls Tryd.prog 10 #[.slice LA ln lc] w (TypPr w) := by
  refine (Types_any ls LA ln lc w hN).mono ?_
  rintro e w' ⟨P, gm, B, M, dv, rfl, hG, _, hS, hn, hb⟩
  have hP := pr_of hG (show (Value.slice (some ⟨gm, 0, none⟩) 1 1).oneCell' = true from rfl)
  have hP2 := hP
  obtain ⟨mv, A, cap, he, hm, hd⟩ := hP
  have h0 : 0 < P.length := hS.len.1
  obtain ⟨g, o, C, rfl, _⟩ := hd 0 _ (List.getElem?_eq_getElem h0)
  have e1 : dv = .slice (some ⟨g, o, none⟩) P.length cap := by simp at he; exact he.2
  subst e1
  exact ⟨P, _, g, o, _, cap, rfl, rfl, hP2, rfl, hS, hn, hb⟩
theorem pr_get {w : World} {P : List Df} {mv : Value} {g o n cap : Nat} (h : PrAt w P (.agg #[mv, .slice (some ⟨g, o, none⟩) n cap])) {j : Nat} (hj : j < P.length) : ∃ C, w.rangeAt g (o + j * 31) C ∧ DfAt w P[j] C := by
  obtain ⟨mv', A, cap', e, _, hd⟩ := h
  obtain ⟨g', o', C, hA, hr, hd⟩ := hd j _ (List.getElem?_eq_getElem hj)
  simp at e
  obtain ⟨rfl, e, _, _⟩ := e
  rw [← e] at hA
  cases hA
  exact ⟨C, hr, hd⟩
theorem df_id {w : World} {d : Df} {C : List Value} (h : DfAt w d C) : ∃ R, C = [.int .i64 d.a, .int .i64 d.b, .int .i64 d.c] ++ R := by
  obtain ⟨sv, T, E, lv, rfl, _⟩ := h
  exact ⟨_, rfl⟩
structure VPs (W : World) (P : List Df) (mv dv : Value) (gP gD gv : Nat) (d : Df) (C : List Value) (x : Tr) (xk xn : Int) (xA : Option Addr) (xl xc : Nat) : Prop where
  hp : Arr W gP 2 26 [mv, dv]
  hpr : PrAt W P (.agg #[mv, dv])
  hk : Kv W
  hd : Arr W gD 31 46 C
  hdf : DfAt W d C
  hv : Arr W gv 3 53 [.int .i64 xk, .int .i64 xn, .slice xA xl xc]
  ht : TrAt W x (.agg #[.int .i64 xk, .int .i64 xn, .slice xA xl xc])
theorem VPs.later {W W' : World} {P : List Df} {mv dv : Value} {gP gD gv : Nat} {d : Df} {C : List Value} {x : Tr} {xk xn : Int} {xA : Option Addr} {xl xc : Nat} (h : VPs W P mv dv gP gD gv d C x xk xn xA xl xc) (hb : Below W.heap.size W W') : VPs W' P mv dv gP gD gv d C x xk xn xA xl xc :=
  ⟨h.hp.later hb, h.hpr.later hb, h.hk.later hb, h.hd.later hb, h.hdf.later hb, h.hv.later hb, h.ht.later hb⟩
theorem VPs.node {W : World} {P : List Df} {mv dv : Value} {gP gD gv : Nat} {d : Df} {C : List Value} {x : Tr} {xk xn : Int} {xA : Option Addr} {xl xc : Nat} (h : VPs W P mv dv gP gD gv d C x xk xn xA xl xc) : ∃ ks, x = .node xk xn ks ∧ xl = ks.length ∧ xl ≤ xc ∧ xc ≤ maxLen ∧ KsAt W xA 0 ks := by
  cases x with
  | node kx nx ks =>
    have ht := h.ht
    unfold TrAt at ht
    obtain ⟨A, cap, e, hm, hK⟩ := ht
    simp [c3] at e
    obtain ⟨rfl, rfl, rfl, rfl, rfl⟩ := e
    exact ⟨ks, rfl, rfl, hm.1, hm.2.1, hK⟩
end Go.Proofs.YtjbleefpafnhhaaDoor

