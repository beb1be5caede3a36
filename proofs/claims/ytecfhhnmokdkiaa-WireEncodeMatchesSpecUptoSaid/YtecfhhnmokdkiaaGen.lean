import Derived.Test.YtecfhhnmokdkiaaV
import Derived.Test.YtecfhhnmokdkiaaPure6
import Derived.Test.YtecfhhnmokdkiaaPure4
import Derived.Test.YtecfhhnmokdkiaaPure3
set_option linter.unusedVariables false
namespace Go.Proofs.Ytecfhhnmokdkiaa
open Go.RowKit

/-- 'append(x[:len(x):len(x)], y...)': a new row, or x itself where y is empty. -/
theorem wpList_joinL {w : World} {B B' n m c : Nat} {A A' : Option Addr} {xs ys : List Nat} {ops : Array Oper} {rest : List Oper} {o : Oper} {a : Act} {Q : Exit → Act → World → Prop}
    (hr : Rd w B A (bs xs)) (hr' : Rd w B' A' (bs ys)) (hB : B ≤ w.heap.size) (hn : n = xs.length) (hm : m = ys.length) (hbytes : n + m ≤ 140737488355328)
    (hgd : o.guard = none) (x y : Operand) (ho : o.op = .call { callee := .builtin .append, args := #[x, y], argTypes := #[28, 28] })
    (hs : a.eval x = .slice A n n) (hy : a.eval y = .slice A' m c)
    (h : ∀ A'' c' w', Rd w' w'.heap.size A'' (bs (xs ++ ys)) → n + m ≤ c' → c' ≤ maxLen → Below w.heap.size w w' → wpList Try.prog ops Q rest (a.put o.dst (.slice A'' (n + m) c')) w') :
    wpList Try.prog ops Q (o :: rest) a w := by
  subst hn hm
  obtain ⟨i0, hi0, hz0, hz1, hz2⟩ := info_parts info_u8
  by_cases hys : ys = []
  · subst hys
    have hrun : (Builtin.append_ #[28, 28] o.type #[.slice A xs.length xs.length, .slice A' 0 c]).run Try.prog w = .ok (.slice A xs.length xs.length) w := by
      rcases A with _ | ad <;> rcases A' with _ | ad' <;> simp [Builtin.append_, run_underlying Try.underlying28, sizeOf, typeInfo, hi0, Builtin.lenOf, Builtin.firstCells, storeCells, loadCells, loadCellsFrom]
    refine wpList_plain hgd fun K hK => ?_
    unfold Oper.wp execOp
    simp only [ho, resolve, invoke, builtin, Sem.run_bind, Sem.run_pure, Result.andThen_ok, List.map_toArray, List.map_cons, List.map_nil, hs, hy, List.length_nil, hrun]
    exact hK _ _ (by have := h A xs.length w (by simpa using hr.more hB) (Nat.le_refl _) (by simp only [maxLen]; simp at hbytes; omega) (Below.refl _ _); simpa using this)
  · have hpos : 0 < ys.length := List.length_pos_iff.2 hys
    obtain ⟨b, k, rfl, _, hc⟩ := hr'.at_ (by simpa [bs] using hys)
    have hadd : ∀ (b k j : Nat), (⟨b, k, none⟩ : Addr).add j = ⟨b, k + j, none⟩ := fun b k j => by unfold Addr.add; split <;> simp_all
    have hAn : A = none → xs.length = 0 ∧ xs.length = 0 := fun e => by
      rcases hr with h0 | ⟨b', k', h1, _⟩
      · have : xs = [] := by simpa [bs] using h0
        simp [this]
      · rw [h1] at e; cases e
    refine wpList_append_grows w hgd x y _ ho _ i0 (.int .u8 0) 1 1 Try.underlying28 hi0 hz0 hz1 hz2 rfl (by decide) A xs.length xs.length (bs xs) hs hAn (by simp [bs]) ?_ ⟨b, k, none⟩ ys.length c (bs ys) hy (by simp [bs]) (fun j u hu => by rw [hadd]; exact hc j u hu) (bs_cell ys) (by omega) (by simp only [maxLen]; omega) (by omega) ?_
    · intro b' hb' j u hu
      rcases hr with h0 | ⟨b2, k2, h1, _, hc2⟩
      · rw [h0] at hu; simp at hu
      · rw [h1] at hb'
        cases hb'
        rw [hadd]; exact hc2 j u hu
    · intro v' w' h1 hg
      rw [← bs_app] at h1
      obtain ⟨A'', c', rfl, h2, h3, _⟩ := own_shape h1
      exact h A'' c' w' (Rd.own h1) h2 h3 ((Below.refl _ w).grown hg (Nat.le_refl _) (fun k h => by cases h))

def LawRes (w : World) (e : Ending) (w' : World) : Prop := e = .returned (.bool true) ∧ Below w.heap.size w w'

theorem encS_sb (s : ByteArray) : encS s = encB (sb s) := by unfold encS encB; rw [sb_len]
theorem encS_ge (s : ByteArray) (h : s.size ≤ 9223372036854775807) : 1 ≤ (encS s).length := by
  have := (enc_len s.size (by omega)).1
  unfold encS; rw [List.length_append]; omega
theorem encL_ge {α : Type} (f : α → List Nat) (l : List α) (h : l.length ≤ 9223372036854775807) : 1 ≤ (encL f l).length := by
  have := (enc_len l.length (by omega)).1
  unfold encL; rw [List.length_append]; omega
theorem encL_le {α : Type} (f : α → List Nat) (l : List α) (c : Nat) (hc : ∀ x ∈ l, (f x).length ≤ c) (h : l.length ≤ 9223372036854775807) : (encL f l).length ≤ 9 + c * l.length := by
  rw [← part_all]; exact part_len_le f c l _ hc h
theorem encL_lt {α : Type} (f : α → List Nat) (l : List α) (hc : ∀ x ∈ l, ∀ d ∈ f x, d < 256) (h : l.length ≤ 9223372036854775807) : ∀ d ∈ encL f l, d < 256 := by
  intro d hd
  unfold encL at hd
  rw [List.mem_append, List.mem_flatMap] at hd
  rcases hd with hd | ⟨x, hx, hd⟩
  · exact enc_lt l.length (by omega) d hd
  · exact hc x hx d hd
theorem encS_lt (s : ByteArray) (h : s.size ≤ 9223372036854775807) : ∀ d ∈ encS s, d < 256 := by
  intro d hd
  unfold encS at hd
  rw [List.mem_append] at hd
  rcases hd with hd | hd
  · exact enc_lt s.size (by omega) d hd
  · exact sb_lt s d hd
theorem own_empty (w : World) : OwnB (w.alloc (.cells #[] 5)) w.heap.size (.slice (some ⟨w.heap.size, 0, none⟩) 0 0) [] :=
  ⟨by simp [bs], .inr ⟨w.heap.size, 0, #[], rfl, Nat.le_refl _, heap_alloc_new w _, Nat.le_refl _, by simp [maxLen], rfl, rfl⟩⟩
theorem GetInts_call {l : List Int} {u er : Nat} (m cap : Nat) (A : Option Addr) (zs : List Nat) (w : World) (hd : getL 1 dec zs = (l, u, er)) (hm : m = zs.length) (hr : Rd w w.heap.size A (bs zs)) (hb : ∀ d ∈ zs, d < 256) (hcap : m ≤ cap) (hcap2 : cap ≤ maxLen) (hm2 : m ≤ 100000) :
    Calls Try.prog 22 #[.slice A m cap] w fun e w' => ∃ A' c', e = .returned (.tuple #[.slice A' l.length c', .int .i64 (u : Int), .int .i64 (er : Int)]) ∧ Rd w' w'.heap.size A' (is l) ∧ Below w.heap.size w w' := by
  have h := GetInts_any m cap A zs w hm hr hb hcap hcap2 hm2
  rw [hd] at h
  refine h.mono fun e w' ⟨v', h1, h2, h3⟩ => ?_
  obtain ⟨A', c', rfl, _⟩ := own_shape h2
  exact ⟨A', c', by rw [h1]; simp [is], Rd.own h2, h3⟩
theorem dec_all (l : List Int) (h : ∀ n ∈ l, InR n) : ∀ n ∈ l, ∀ t : List Nat, dec (enc n ++ t) = (n, (enc n).length, 0) := fun n hn t => dec_enc n (h n hn).1 (h n hn).2 t

theorem GetStrings_call {l : List (List Nat)} {u er : Nat} (m cap : Nat) (A : Option Addr) (zs : List Nat) (w : World) (hd : getL 1 getBytes zs = (l, u, er)) (hm : m = zs.length) (hr : Rd w w.heap.size A (bs zs)) (hb : ∀ d ∈ zs, d < 256) (hcap : m ≤ cap) (hcap2 : cap ≤ maxLen) (hm2 : m ≤ 100000) :
    Calls Try.prog 25 #[.slice A m cap] w fun e w' => ∃ A' c', e = .returned (.tuple #[.slice A' l.length c', .int .i64 (u : Int), .int .i64 (er : Int)]) ∧ Rd w' w'.heap.size A' (ss (l.map mkS)) ∧ Below w.heap.size w w' := by
  have h := GetStrings_any m cap A zs w hm hr hb hcap hcap2 hm2
  rw [hd] at h
  refine h.mono fun e w' ⟨v', h1, h2, h3⟩ => ?_
  obtain ⟨A', c', rfl, _⟩ := own_shape h2
  have h4 := Rd.own h2
  have e1 : l.map sv = ss (l.map mkS) := by simp [ss]; intro a _; rfl
  simp only [e1] at h4
  exact ⟨A', c', by rw [h1]; simp, h4, h3⟩
theorem GetDigests_call {l : List (List Nat)} {u er : Nat} (m cap : Nat) (A : Option Addr) (zs : List Nat) (w : World) (hd : getL 16 digD zs = (l, u, er)) (hm : m = zs.length) (hr : Rd w w.heap.size A (bs zs)) (hb : ∀ d ∈ zs, d < 256) (hcap : m ≤ cap) (hcap2 : cap ≤ maxLen) (hm2 : m ≤ 100000) :
    Calls Try.prog 28 #[.slice A m cap] w fun e w' => ∃ A' c', e = .returned (.tuple #[.slice A' l.length c', .int .i64 (u : Int), .int .i64 (er : Int)]) ∧ Rd w' w'.heap.size A' (ds l) ∧ Below w.heap.size w w' := by
  have h := GetDigests_any m cap A zs w hm hr hb hcap hcap2 hm2
  rw [hd] at h
  refine h.mono fun e w' ⟨v', h1, h2, h3⟩ => ?_
  obtain ⟨A', c', rfl, _⟩ := own_shape h2
  exact ⟨A', c', h1, Rd.own h2, h3⟩

/-- A new row of these bytes. -/
def RowRes (X : List Nat) (w : World) (e : Ending) (w' : World) : Prop := ∃ A c, e = .returned (.slice A X.length c) ∧ Rd w' w'.heap.size A (bs X) ∧ X.length ≤ c ∧ c ≤ maxLen ∧ Below w.heap.size w w'
theorem RowRes.of {X : List Nat} {w : World} {f : FuncId} {args : Array Value} (h : Calls Try.prog f args w fun e w' => ∃ v', e = .returned v' ∧ OwnB w' w.heap.size v' X ∧ Below w.heap.size w w') : Calls Try.prog f args w (RowRes X w) := by
  refine h.mono fun e w' ⟨v', h1, h2, h3⟩ => ?_
  obtain ⟨A, c, rfl, hc1, hc2⟩ := h2.shape
  exact ⟨A, c, h1, h2.rd, hc1, hc2, h3⟩

/-- What stays as it is, from the time on when the decoders have been called. -/
structure Kept (w0 : World) (m cap : Nat) (A : Option Addr) (zs : List Nat) (W : World) : Prop where
  bel : Below w0.heap.size w0 W
  box : W.heap[w0.heap.size]? = some (.cells #[.slice A m cap] 28 (0, 0))
  rd : Rd W W.heap.size A (bs zs)
theorem Kept.later {w0 : World} {m cap : Nat} {A : Option Addr} {zs : List Nat} {W W' : World} (h : Kept w0 m cap A zs W) (hb : Below W.heap.size W W') : Kept w0 m cap A zs W' := ⟨Go.Proofs.Ytecfhhnmokdkiaa.later h.bel hb, row_later h.box hb, h.rd.later hb⟩
theorem Kept.cell {w0 : World} {m cap : Nat} {A : Option Addr} {zs : List Nat} {W : World} (h : Kept w0 m cap A zs W) : W.cell? ⟨w0.heap.size, 0, none⟩ = some (.slice A m cap) := by
  rw [cell_of_row W _ _ _ _ _ h.box]; rfl
theorem quiet (W : World) (k : Nat) : Below W.heap.size W (W.drewN k) := below_drewN (Below.refl _ _) k
structure Lists (A1 A2 A3 : Option Addr) (l : List Int) (x : List (List Nat)) (d : List (List Nat)) (W : World) : Prop where
  l : Rd W W.heap.size A1 (is l)
  x : Rd W W.heap.size A2 (ss (x.map mkS))
  d : Rd W W.heap.size A3 (ds d)
theorem Lists.later {A1 A2 A3 : Option Addr} {l : List Int} {x d : List (List Nat)} {W W' : World} (h : Lists A1 A2 A3 l x d W) (hb : Below W.heap.size W W') : Lists A1 A2 A3 l x d W' := ⟨h.l.later hb, h.x.later hb, h.d.later hb⟩

theorem encS_mkS {l : List Nat} (h : ∀ d ∈ l, d < 256) : encS (mkS l) = encB l := by rw [encS_sb, sb_mkS l h]
theorem encL_mkS {l : List (List Nat)} (h : ∀ x ∈ l, ∀ d ∈ x, d < 256) : encL encS (l.map mkS) = encL encB l := by
  unfold encL
  rw [List.length_map, List.flatMap_map]
  congr 1
  induction l with
  | nil => rfl
  | cons x l ih => simp only [List.flatMap_cons]; rw [encS_mkS (h x (by simp)), ih (fun y hy => h y (by simp [hy]))]
theorem encB_ge (l : List Nat) (h : l.length ≤ 9223372036854775807) : 1 ≤ (encB l).length := by
  have := (enc_len l.length (by omega)).1
  unfold encB; rw [List.length_append]; omega
theorem encB_le (l : List Nat) (h : l.length ≤ 9223372036854775807) : (encB l).length ≤ 9 + l.length := by
  have := (enc_len l.length (by omega)).2
  unfold encB; rw [List.length_append]; omega

/-- The bytes of these strings, taken together. -/
def tot (l : List ByteArray) : Nat := (l.map ByteArray.size).sum
theorem tot_take {l : List ByteArray} {k : Nat} (h : k < l.length) : tot (l.take (k + 1)) = tot (l.take k) + l[k].size := by
  unfold tot; rw [List.take_succ_eq_append_getElem h, List.map_append, List.sum_append]; simp
theorem tot_le {l : List ByteArray} (k : Nat) : tot (l.take k) ≤ tot l := by
  have h : l = l.take k ++ l.drop k := (List.take_append_drop k l).symm
  have e : tot l = tot (l.take k) + tot (l.drop k) := by
    conv => lhs; rw [h]
    unfold tot; rw [List.map_append, List.sum_append]
  omega
theorem tot_mem {l : List ByteArray} : ∀ s ∈ l, s.size ≤ tot l := by
  intro s hs
  induction l with
  | nil => cases hs
  | cons x l ih =>
    unfold tot at ih ⊢
    simp only [List.map_cons, List.sum_cons]
    rcases List.mem_cons.1 hs with rfl | hs
    · omega
    · have := ih hs; omega
theorem tot_bound {l : List ByteArray} {c : Nat} (h : ∀ s ∈ l, s.size ≤ c) : tot l ≤ l.length * c := by
  induction l with
  | nil => simp [tot]
  | cons x l ih =>
    have h1 := h x (by simp)
    have h2 := ih (fun s hs => h s (by simp [hs]))
    unfold tot at h2 ⊢
    simp only [List.map_cons, List.sum_cons, List.length_cons, Nat.add_mul, Nat.one_mul]
    omega

/-- Rows that are read. -/
def Many (L : List (Option Addr × List Value)) (W : World) : Prop := ∀ p ∈ L, Rd W W.heap.size p.1 p.2
theorem Many.later {L : List (Option Addr × List Value)} {W W' : World} (h : Many L W) (hb : Below W.heap.size W W') : Many L W' := fun p hp => (h p hp).later hb
theorem Many.cons {L : List (Option Addr × List Value)} {W : World} {A : Option Addr} {xs : List Value} (h : Many L W) (hr : Rd W W.heap.size A xs) : Many ((A, xs) :: L) W := fun p hp => by
  rcases List.mem_cons.1 hp with rfl | hp
  · exact hr
  · exact h p hp
theorem Many.nil (W : World) : Many [] W := fun p hp => by cases hp
theorem Many.at0 {L : List (Option Addr × List Value)} {W : World} {A : Option Addr} {xs : List Value} (h : Many ((A, xs) :: L) W) : Rd W W.heap.size A xs := h (A, xs) (by simp)
theorem Many.tl {L : List (Option Addr × List Value)} {W : World} {q : Option Addr × List Value} (h : Many (q :: L) W) : Many L W := fun p hp => h p (List.mem_cons_of_mem _ hp)

theorem encL_sb (x : List ByteArray) : encL encS x = encL encB (x.map sb) := by
  unfold encL
  rw [List.length_map, List.flatMap_map]
  congr 1
  induction x with
  | nil => rfl
  | cons y l ih => simp only [List.flatMap_cons]; rw [encS_sb, ih]
theorem digD_enc (x t : List Nat) (h : x.length = 16) : digD (x ++ t) = (x, (id x).length, 0) := by
  unfold digD
  rw [List.take_append_of_le_length (by omega), List.take_of_length_le (by omega)]
  simp [h]
theorem map_mkS_sb (x : List ByteArray) : (x.map sb).map mkS = x := by
  rw [List.map_map]
  conv => rhs; rw [← List.map_id x]
  exact List.map_congr_left fun s _ => mkS_sb s
theorem app_lt {X Y : List Nat} (h : ∀ d ∈ X, d < 256) (h' : ∀ d ∈ Y, d < 256) : ∀ d ∈ X ++ Y, d < 256 := fun d hd => by
  rcases List.mem_append.1 hd with h1 | h1
  · exact h d h1
  · exact h' d h1

theorem encL_tot {x : List ByteArray} (h : ∀ y ∈ x, y.size ≤ 9223372036854775807) (hx : x.length ≤ 9223372036854775807) : (encL encS x).length ≤ 9 + 9 * x.length + tot x := by
  have h1 : (x.flatMap encS).length ≤ 9 * x.length + tot x := by
    clear hx
    induction x with
    | nil => simp [tot]
    | cons y l ih =>
      have h1 := ih (fun z hz => h z (by simp [hz]))
      have h2 := encB_le (sb y) (by rw [sb_len]; exact h y (by simp))
      rw [← encS_sb, sb_len] at h2
      unfold tot at h1 ⊢
      simp only [List.flatMap_cons, List.length_append, List.map_cons, List.sum_cons, List.length_cons]
      omega
  have h2 := (enc_len x.length (by omega)).2
  unfold encL
  rw [List.length_append]
  omega

/-- A new row of these bytes, which are some. -/
def RowAt (X : List Nat) (w : World) (e : Ending) (w' : World) : Prop := ∃ g c, e = .returned (.slice (some ⟨g, 0, none⟩) X.length c) ∧ Rd w' w'.heap.size (some ⟨g, 0, none⟩) (bs X) ∧ X.length ≤ c ∧ c ≤ maxLen ∧ Below w.heap.size w w'
theorem RowAt.of {X : List Nat} {w : World} {f : FuncId} {args : Array Value} (h0 : 1 ≤ X.length) (h : Calls Try.prog f args w fun e w' => ∃ v', e = .returned v' ∧ OwnB w' w.heap.size v' X ∧ Below w.heap.size w w') : Calls Try.prog f args w (RowAt X w) := by
  refine h.mono fun e w' ⟨v', h1, h2, h3⟩ => ?_
  obtain ⟨g, c, rfl, _, _, hc1, hc2⟩ := h2.some_ (by omega)
  exact ⟨g, c, h1, h2.rd, hc1, hc2, h3⟩
end Go.Proofs.Ytecfhhnmokdkiaa
