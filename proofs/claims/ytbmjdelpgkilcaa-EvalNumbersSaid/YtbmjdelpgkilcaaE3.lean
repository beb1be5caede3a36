/-
  A machine on plain data, nine: append, as the machine has it.
-/
import Derived.Test.YtbmjdelpgkilcaaE2
import Derived.Lib.AppendStr
set_option linter.unusedVariables false
section
set_option linter.unusedVariables false
set_option linter.unusedSimpArgs false
namespace Go.Eng
open Go.RowKit
def flatD (xs : List (List Dt)) : List TV := (xs.map fun x => x.map unf).flatten
def srcR (hp : List Ob) (size : Nat) : TV → Option (Nat × List TV × Nat)
  | .fr sz xs _ => if sz = size then some (xs.length, flatD xs, 0) else none
  | .vw id sz off len _ => match hp[id]? with
    | some (.ro _ sz' n cs _) => if sz = size ∧ sz' = size ∧ off + len ≤ n then some (len, (cs.drop (off * size)).take (len * size), 2 ^ id) else none
    | _ => none
  | .lf (.slice none 0 0) => some (0, [], 0)
  | _ => none
def isNil : TV → Bool
  | .lf (.slice none 0 0) => true
  | _ => false
theorem isNil_eq {t : TV} (h : isNil t = true) : t = .lf (.slice none 0 0) := by
  unfold isNil at h
  split at h
  · rfl
  · cases h
theorem isNil_rep {G : Gh} {Z : Zn} {w : World} {t : TV} {v : Value} (h : isNil t = true) (hr : Rep G Z w t v) : v = .slice none 0 0 := by
  rw [isNil_eq h] at hr
  exact rep_lf.1 hr
def fits (n bytes : Nat) : Bool := decide (n ≤ maxLen) && decide (n * bytes ≤ 140737488355328)
def absApp (hp : List Ob) (e size bytes : Nat) (s : TV) (m : Nat) (ys : List TV) (R : Nat) : AR :=
  match s with
  | .vw id sz off len false => match hp[id]? with
    | some (.ro e' sz' n cs fz) => if (e' = e ∧ sz' = size ∧ sz = size ∧ off = 0) ∧ len ≤ n ∧ fz ≤ len ∧ fits (len + m) bytes = true then some (.vw hp.length size 0 (len + m) false, hp.set id (.ot none) ++ [.ro e size (len + m) (cs.take (len * size) ++ ys) fz], R, 2 ^ id) else none
    | _ => none
  | .vw id sz off len true => match hp[id]? with
    | some (.ro _ sz' n cs _) => if (sz' = size ∧ sz = size ∧ off + len ≤ n) ∧ 0 < m ∧ fits (len + m) bytes = true then some (.vw hp.length size 0 (len + m) false, hp ++ [.ro e size (len + m) ((cs.drop (off * size)).take (len * size) ++ ys) 0], R ||| 2 ^ id, 0) else none
    | _ => none
  | .fr sz xs true => if sz = size ∧ 0 < m ∧ fits (xs.length + m) bytes = true then some (.vw hp.length size 0 (xs.length + m) false, hp ++ [.ro e size (xs.length + m) (flatD xs ++ ys) 0], R, 0) else none
  | s => if isNil s = true ∧ fits m bytes = true then some (.vw hp.length size 0 m false, hp ++ [.ro e size m ys 0], R, 0) else none
def byT (s : ByteArray) : List TV := s.data.toList.map fun b => .lf (.int .u8 b.toNat)
def absAppS (hp : List Ob) (e : TypeId) (s : TV) (m : Nat) (ys : List TV) : AR :=
  match s with
  | .vw id sz off len false => match hp[id]? with
    | some (.ro e' sz' n cs fz) => if (e' = e ∧ sz' = 1 ∧ sz = 1 ∧ off = 0) ∧ len ≤ n ∧ fz ≤ len ∧ fits (len + m) 1 = true then some (.vw hp.length 1 0 (len + m) false, hp.set id (.ot none) ++ [.ro e 1 (len + m) (cs.take (len * 1) ++ ys) fz], 0, 2 ^ id) else none
    | _ => none
  | s => if isNil s = true ∧ fits m 1 = true then some (.vw hp.length 1 0 m false, hp ++ [.ro e 1 m ys 0], 0, 0) else none
def isB0 : Option Value → Bool
  | some (.int .u8 0) => true
  | _ => false
def absAppendS (P : Program) (hp : List Ob) (t t' : TypeId) (s x : TV) : AR :=
  match P.underlying t, P.underlying t', x with
  | some (.slice e), some .string, .lf (.string b) => match P.info? e with
    | some ie => if isB0 ie.zero = true ∧ ie.size = 1 ∧ ie.bytes = 1 then absAppS hp e s b.size (byT b) else none
    | none => none
  | _, _, _ => none
def absAppend (P : Program) (hp : List Ob) (ats : Array TypeId) (s x : TV) : AR :=
  match ats.toList with
  | [t, t'] => if t = t' then match P.underlying t with
    | some (.slice e) => match P.info? e with
      | some ie => match ie.zero with
        | some z => if z.cells.size = ie.size ∧ 0 < ie.size then match srcR hp ie.size x with
          | some (m, ys, R) => absApp hp e ie.size ie.bytes s m ys R
          | none => none else none
        | none => none
      | none => none
    | _ => none else absAppendS P hp t t' s x
  | _ => none
section
variable {P : Program} {GL : Nat → Option (List Dt)} {G : Gh} {Z : Zn} {w : World} {HP : Nat → Ob → Prop} {tm : List TV} {hp : List Ob} {o : Oper} {a : Act}
theorem repl_map_unf : ∀ {ds : List Dt} {vs : List Value}, FsR Z w ds vs → RepL G Z w (ds.map unf) vs := fun h => unfs_rep h
theorem flatD_rep {sz : Nat} : ∀ {xs : List (List Dt)} {L : List (List Value)}, L.length = xs.length → (∀ (j : Nat) (x : List Dt) (C : List Value), xs[j]? = some x → L[j]? = some C → FsR Z w x C) → RepL G Z w (flatD xs) L.flatten
  | [], [], _, _ => repl_nil.2 rfl
  | [], _ :: _, h, _ => by simp at h
  | _ :: _, [], h, _ => by simp at h
  | x :: xs, C :: L, h, hf => by
    have ih := flatD_rep (sz := sz) (xs := xs) (L := L) (by simpa using h) fun j y D hy hD => hf (j + 1) y D (by simpa using hy) (by simpa using hD)
    exact repl_app (unfs_rep (hf 0 x C rfl rfl)) ih
theorem vw_at (hI : Inv GL G Z w HP) {id sz off len n fz : Nat} {full : Bool} {e : TypeId} {cs : List TV} {v : Value} (hob : HP id (.ro e sz n cs fz)) (hv : Rep G Z w (.vw id sz off len full) v) (hle : off + len ≤ n) :
    ∃ A' cap' v0 cells, v = .slice A' len cap' ∧ G id = some v0 ∧ isSl v0 = true ∧ w.ownsRow 0 e sz v0 n cells ∧ RepL G Z w cs cells ∧ (∀ u ∈ cells, u.oneCell' = true) ∧ len ≤ cap' ∧ cap' ≤ maxLen ∧ (full = true → cap' = len) ∧
    (0 < len → ∃ g, A' = some ⟨g, off * sz, none⟩ ∧ ∀ j u, ((cells.drop (off * sz)).take (len * sz))[j]? = some u → w.cell? ⟨g, off * sz + j, none⟩ = some u) ∧
    (off = 0 → full = false → w.ownsRow 0 e sz v len (cells.take (len * sz)) ∧ v.ownBlock = v0.ownBlock) := by
  obtain ⟨v1, cells, k1, k2, k3, k4, k5, k6⟩ := hI.good id _ hob
  rw [Rep] at hv
  obtain ⟨h0, v0, h1, A, n', cap, A', cap', e0, hv, hn, hc1, hc2, hc3, hc4, hc5, _⟩ := hv
  have e01 : v0 = v1 := by rw [h1] at k1; injection k1
  subst e01
  refine ⟨A', cap', v0, cells, hv, h1, k2, k3, k4, k5, hc1, hc2, hc3, fun hpos => ?_, fun ho hf => ?_⟩
  · rcases k3.2 with ⟨rfl, hz⟩ | ⟨g, cap2, cur, e1, _⟩
    · cases e0; omega
    · rw [e0] at e1; cases e1
      have hA := hc5 hpos
      rw [Option.map_some, Addr.add_mid, Nat.zero_add] at hA
      refine ⟨g, hA, fun j u hu => ?_⟩
      rw [List.getElem?_take] at hu
      split at hu
      · rw [List.getElem?_drop] at hu
        have := k3.cells (g := g) (by rw [e0]; rfl) _ u hu
        rw [Addr.add_mid, Nat.zero_add] at this
        exact this
      · cases hu
  · subst ho
    obtain ⟨q1, q2⟩ := hc4 rfl
    have q2 := q2 hf
    subst q1 q2
    rcases k3.2 with ⟨rfl, hz⟩ | ⟨g, cap2, cur, e1, hg0, hgg, hnc, hcm, hcs, htake⟩
    · cases e0
      have : len = 0 := by omega
      subst this
      rw [hv, Nat.zero_mul, List.take_zero]
      exact ⟨World.ownsRow_nil w 0 e sz, rfl⟩
    · rw [e0] at e1; cases e1
      have hcl : cells.length = n * sz := k3.1
      have hm : len * sz ≤ n * sz := Nat.mul_le_mul_right _ (by omega)
      refine ⟨⟨by rw [List.length_take]; omega, .inr ⟨g, cap', cur, hv, hg0, hgg, hc1, hc2, hcs, ?_⟩⟩, by rw [hv, e0]; rfl⟩
      rw [← htake, List.take_take, Nat.min_eq_left hm]
theorem srcR_rep {size m R : Nat} {t : TV} {ys : List TV} {v : Value} (hI : Inv GL G Z w HP) (h0 : 0 < size) (h : srcR hp size t = some (m, ys, R)) (hh : ∀ id ob, R.testBit id = true → hp[id]? = some ob → HP id ob) (hr : Rep G Z w t v) :
    ∃ B c news, v = .slice B m c ∧ news.length = m * size ∧ RepL G Z w ys news ∧ (∀ u ∈ news, u.oneCell' = true) ∧ (0 < m → ∃ g o, B = some ⟨g, o, none⟩ ∧ ∀ j u, news[j]? = some u → w.cell? ⟨g, o + j, none⟩ = some u) := by
  unfold srcR at h
  split at h
  · rename_i sz xs full
    split at h
    · rename_i e
      subst e
      simp only [Option.some.injEq, Prod.mk.injEq] at h
      obtain ⟨rfl, rfl, rfl⟩ := h
      rw [Rep] at hr
      obtain ⟨A, cap, h1, _, _, h2⟩ := hr
      obtain ⟨L, l1, l2, l3, l4, l5⟩ := row_flat h0 h2
      refine ⟨A, cap, L.flatten, h1, by rw [flat_len sz L l2, l1], flatD_rep (sz := sz) l1 l3, l4, fun hpos => ?_⟩
      obtain ⟨g, o', _, hA, _⟩ := h2.get (j := 0) (List.getElem?_eq_getElem hpos)
      exact ⟨g, o', hA, fun j u hu => (l5 g o' hA j u hu).1⟩
    · cases h
  · rename_i id sz off len full
    split at h
    · rename_i e' sz' n cs fz hid
      split at h
      · rename_i hc
        obtain ⟨rfl, rfl, hle⟩ := hc
        simp only [Option.some.injEq, Prod.mk.injEq] at h
        obtain ⟨rfl, rfl, rfl⟩ := h
        obtain ⟨A', cap', v0, cells, k1, k2, k3, k4, k5, k6, _, _, _, k7, _⟩ := vw_at hI (hh id _ (Nat.testBit_two_pow_self ..) hid) hr hle
        have hm : off * sz' + len * sz' ≤ n * sz' := by rw [← Nat.add_mul]; exact Nat.mul_le_mul_right _ hle
        refine ⟨A', cap', (cells.drop (off * sz')).take (len * sz'), k1, by rw [List.length_take, List.length_drop, k4.1]; omega, repl_take (repl_drop k5 _) _, fun u hu => k6 u (List.mem_of_mem_drop (List.mem_of_mem_take hu)), fun hpos => ?_⟩
        obtain ⟨g, q1, q2⟩ := k7 hpos
        exact ⟨g, off * sz', q1, q2⟩
      · cases h
    · cases h
  · simp only [Option.some.injEq, Prod.mk.injEq] at h
    obtain ⟨rfl, rfl, rfl⟩ := h
    exact ⟨none, 0, [], rep_lf.1 hr, by simp, repl_nil.2 rfl, by simp, fun h => absurd h (by omega)⟩
  · cases h
theorem res_newrow {e sz n : Nat} {cs : List TV} {cells : List Value} {v' : Value} {w' : World} (hI : Inv GL G Z w HP) (hn : G hp.length = none) (h0 : 0 < sz) (hr : RepL G Z w cs cells) (h1 : ∀ u ∈ cells, u.oneCell' = true)
    (hown : w'.ownsRow 0 e sz v' n cells) (hb : Below w.heap.size w w') (hb2 : v'.ownBlock = none ∨ ∃ b, v'.ownBlock = some b ∧ w.heap.size ≤ b) :
    ∃ G' Z', Res G Z w hp.length (hp ++ [.ro e sz n cs 0]) 0 (.vw hp.length sz 0 n false) G' Z' w' v' := by
  have hsl := own_isSl hown
  have hbk : ∀ b, blk v' = some b → w.heap.size ≤ b := fun b hbb => by
    rw [isSl_blk hsl] at hbb
    rcases hb2 with h | ⟨b', h, hge⟩
    · rw [h] at hbb; cases hbb
    · rw [h] at hbb; cases hbb; exact hge
  have st := stp_new (n := hp.length) (k := 0) (i0 := v') hI.zlt hn hbk hb 0 (.inl rfl)
  refine ⟨_, _, res_new (i0 := v') (k := 0) hI hn hbk hb 0 (.inl rfl) ?_ ⟨v', cells, gup_self, hsl, hown, hr.keep st.gle st.kp, h1, h0⟩ ?_⟩
  · rw [Rep]
    refine ⟨h0, v', gup_self, ?_⟩
    rcases hown.2 with ⟨rfl, rfl⟩ | ⟨g, cap, cur, rfl, _, hgg, h2, h3, _⟩
    · exact ⟨none, 0, 0, none, 0, rfl, rfl, by omega, by omega, by simp [maxLen], by simp, fun _ => ⟨rfl, fun _ => rfl⟩, fun h => absurd h (by omega), rfl⟩
    · exact ⟨some ⟨g, 0, none⟩, n, cap, some ⟨g, 0, none⟩, cap, rfl, rfl, by omega, h2, h3, by simp, fun _ => ⟨rfl, fun _ => rfl⟩, fun _ => by simp [Addr.add], rfl⟩
  · intro i b hi hbb x hx hz
    rw [gup_self] at hi; cases hi
    rcases hz with hz | ⟨_, hz⟩
    · have := hI.zlt _ _ hz
      have := hbk b hbb
      omega
    · omega
theorem append_exec {t : TypeId} {s x : Operand} {v' : Value} {w' : World} (ho : o.op = .call { callee := .builtin .append, args := #[s, x], argTypes := #[t, t] }) (h : (Builtin.append_ #[t, t] o.type #[a.eval s, a.eval x]).run P w = .ok v' w') : (execOp a.eval o).run P w = .ok (.value v') w' := by
  unfold execOp
  simp only [ho, resolve, invoke, builtin, Sem.run_bind, Sem.run_pure, Result.andThen_ok, List.map_toArray, List.map_cons, List.map_nil, h]
theorem fits_iff {n b : Nat} (h : fits n b = true) : n ≤ maxLen ∧ n * b ≤ 140737488355328 := by simpa [fits] using h
theorem app_new {t ty e : TypeId} {ie : TypeInfo} {z : Value} (hu : P.underlying t = some (.slice e)) (hie : P.info? e = some ie) (hz : ie.zero = some z) (hzs : z.cells.size = ie.size ∧ 0 < ie.size) {A : Option Addr} {n m c : Nat} {olds news : List Value} (hlo : olds.length = n * ie.size) (ho : 0 < n → ∃ g o, A = some ⟨g, o, none⟩ ∧ ∀ j u, olds[j]? = some u → w.cell? ⟨g, o + j, none⟩ = some u) {B : Option Addr} (hl : news.length = m * ie.size) (hm : 0 < m) (hB : 0 < m → ∃ g o, B = some ⟨g, o, none⟩ ∧ ∀ j u, news[j]? = some u → w.cell? ⟨g, o + j, none⟩ = some u) (h1 : ∀ u ∈ news, u.oneCell' = true) (hf1 : n + m ≤ maxLen) (hf2 : (n + m) * ie.bytes ≤ 140737488355328) :
    ∃ v' w', (Builtin.append_ #[t, t] ty #[.slice A n n, .slice B m c]).run P w = .ok v' w' ∧ w'.ownsRow 0 e ie.size v' (n + m) (olds ++ news) ∧ Below w.heap.size w w' ∧ (v'.ownBlock = none ∨ ∃ b, v'.ownBlock = some b ∧ w.heap.size ≤ b) := by
  obtain ⟨gb, ob, rfl, hnews⟩ := hB hm
  have hnews' : ∀ j u, news[j]? = some u → w.cell? ((⟨gb, ob, none⟩ : Addr).add j) = some u := fun j u hu => by rw [Addr.add_mid]; exact hnews j u hu
  obtain ⟨v', w', hrun, k2, k3⟩ : ∃ v' w', (Builtin.append_ #[t, t] ty #[.slice A n n, .slice (some ⟨gb, ob, none⟩) m c]).run P w = .ok v' w' ∧ w'.ownsRow w.heap.size e ie.size v' (n + m) (olds ++ news) ∧ w.grownBy w' none := by
    cases A with
    | none =>
      have hn0 : n = 0 := Nat.eq_zero_of_not_pos fun hp => by obtain ⟨_, _, e, _⟩ := ho hp; cases e
      subst hn0
      have holds : olds = [] := List.eq_nil_of_length_eq_zero (by simpa using hlo)
      subst holds
      obtain ⟨v', w', j1, j2, j3, j4, j5⟩ := run_append_own_at (P := P) w w.heap.size t ty e ie z ie.size ie.bytes hu hie hz rfl rfl hzs.1 hzs.2 (.slice none 0 0) 0 [] (World.ownsRow_nil w _ e ie.size) ⟨gb, ob, none⟩ m c news hl hnews' h1 hf1 hf2 (Nat.le_refl _)
      exact ⟨v', w', j1, j2, by simpa [Value.ownBlock] using j3⟩
    | some A0 =>
      obtain ⟨ga, oa, sa⟩ := A0
      exact run_append_arg_grows (P := P) w t ty e ie z ie.size ie.bytes hu hie hz rfl rfl hzs.1 hzs.2 ⟨ga, oa, sa⟩ n n olds hlo (fun j u hu => by
        have hj := (List.getElem?_eq_some_iff.1 hu).1
        have hpos : 0 < n := Nat.pos_of_ne_zero fun e => by rw [hlo, e] at hj; simp at hj
        obtain ⟨g, o', e, hc⟩ := ho hpos
        cases e
        rw [Addr.add_mid]; exact hc j u hu) ⟨gb, ob, none⟩ m c news hl hnews' (by omega) hf1 hf2
  refine ⟨v', w', hrun, own_base k2, ⟨k3.os, k3.tape, k3.output, k3.size, fun k hk => k3.block k hk (by simp)⟩, ?_⟩
  rcases k2.2 with ⟨rfl, h0⟩ | ⟨g', cap', cur', rfl, hge, _⟩
  · exact .inl rfl
  · exact .inr ⟨g', rfl, hge⟩
theorem byT_rep (G : Gh) (Z : Zn) (w : World) (b : ByteArray) : RepL G Z w (byT b) (Lib.strCells b) := by
  unfold byT Lib.strCells
  generalize b.data.toList = l
  induction l with
  | nil => exact repl_nil.2 rfl
  | cons x l ih => exact repl_cons.2 ⟨_, _, rfl, rep_lf.2 rfl, ih⟩
theorem append_execS {t t' : TypeId} {s x : Operand} {v' : Value} {w' : World} (ho : o.op = .call { callee := .builtin .append, args := #[s, x], argTypes := #[t, t'] }) (h : (Builtin.append_ #[t, t'] o.type #[a.eval s, a.eval x]).run P w = .ok v' w') : (execOp a.eval o).run P w = .ok (.value v') w' := by
  unfold execOp
  simp only [ho, resolve, invoke, builtin, Sem.run_bind, Sem.run_pure, Result.andThen_ok, List.map_toArray, List.map_cons, List.map_nil, h]
theorem apd_str {t u ty e : TypeId} {i : TypeInfo} (ht : P.underlying t = some (.slice e)) (hu : P.underlying u = some .string) (hi : P.info? e = some i) (hz : i.zero = some (.int .u8 0)) (hs1 : i.size = 1) (hby1 : i.bytes = 1)
    {v0 : Value} {n : Nat} {cells : List Value} {s : ByteArray} (hown : w.ownsRow 0 e 1 v0 n cells)
    (h63 : n + s.size ≤ maxLen) (hby : n + s.size ≤ 140737488355328) :
    ∃ v' w', (Builtin.append_ #[t, u] ty #[v0, .string s]).run P w = .ok v' w' ∧ Apd w e 1 n v0 cells (Lib.strCells s) s.size v' w' := by
  rcases hown.2 with ⟨rfl, rfl⟩ | ⟨g, cap, cur, rfl, _, hg, hnc, hcm, hcs, htake⟩
  · obtain ⟨v', w', k1, k2, k3, k4⟩ := Lib.run_append_own_string (P := P) w w.heap.size t u ty e i ht hu hi hz hs1 hby1 _ 0 cells ⟨hown.1, .inl ⟨rfl, rfl⟩⟩ s (by simpa using h63) (by simpa using hby) (Nat.le_refl _)
    have hbel : Below w.heap.size w w' := ⟨k3.os, k3.tape, k3.output, k3.size, fun k hk => k3.block k hk (by simp [Value.ownBlock])⟩
    by_cases hs0 : s.size = 0
    · have hcl : cells = [] := List.eq_nil_of_length_eq_zero (by simpa using hown.1)
      have hsc : Lib.strCells s = [] := List.eq_nil_of_length_eq_zero (by rw [Lib.strCells_length, hs0])
      refine ⟨.slice none 0 0, w, ?_, ?_, rfl, Below.refl _ _, fun _ _ _ => rfl, .inl rfl, fun _ => ⟨rfl, rfl⟩⟩
      · simp [Builtin.append_, run_underlying ht, run_underlying hu, sizeOf, typeInfo, hi, hs1, Builtin.lenOf, hs0, Builtin.firstCells]
      · rw [hs0, hsc, hcl]; exact World.ownsRow_nil w 0 e 1
    · refine ⟨v', w', k1, own_base k2, own_isSl (own_base k2), hbel.mono (Nat.zero_le _), fun b hb _ => hbel.block b hb, .inr ⟨hbel, ?_⟩, fun e => absurd e hs0⟩
      rcases k2.2 with ⟨rfl, h0⟩ | ⟨g, cap, cur, rfl, hge, _⟩
      · omega
      · exact ⟨g, rfl, hge⟩
  · by_cases hroom : n + s.size ≤ cap
    · have hfit : n + s.size ≤ cur.size := by omega
      have hr := Lib.run_append_room_string (P := P) w t u ty e i ht hu hi hs1 g n cap cur hg s hroom hfit
      have hlen : (cells ++ Lib.strCells s).length = (n + s.size) * 1 := by rw [List.length_append, hown.1, Lib.strCells_length]; omega
      have hcn : cur.toList.take n = cells := by simpa using htake
      refine ⟨_, _, hr, ⟨hlen, .inr ⟨g, cap, _, rfl, Nat.zero_le _, setRow_heap w g cur _ e _ hg, hroom, hcm, ?_, ?_⟩⟩, rfl, below_setRow (Below.refl 0 w) (Nat.zero_le _) _, fun b hb hne => setRow_other w g b _ (fun e => hne (by rw [e]; rfl)), .inl rfl, fun h0 => ⟨by rw [h0]; rfl, ?_⟩⟩
      · simp only [List.size_toArray, List.length_append, List.length_take, List.length_drop, Array.length_toList, Lib.strCells_length]
        omega
      · rw [hcn, ← hlen]
        exact List.take_left
      · have hsc : Lib.strCells s = [] := List.eq_nil_of_length_eq_zero (by rw [Lib.strCells_length, h0])
        rw [hsc, h0, List.append_nil, Nat.add_zero, List.take_append_drop, Array.toArray_toList, setRow_self w g cur e (0, 0) hg]
    · have holds : ∀ j u, cells[j]? = some u → w.cell? ((⟨g, 0, none⟩ : Addr).add j) = some u := fun j u hu => hown.cells (g := g) rfl _ _ hu
      have hxl : cells.length = n := by simpa using hown.1
      have hr := Lib.run_append_grow_string (P := P) w t u ty e i (.int .u8 0) ht hu hi hz ⟨g, 0, none⟩ n cap cells (by rw [hs1]; simpa using hxl) holds s (by omega) (by unfold maxLen at h63; omega) (by rw [hby1]; exact growslice_fits (by omega) (by omega))
      have hge := grownCap_ge w (n + s.size) cap e
      have hcm2 : grownCap w (n + s.size) cap e ≤ maxLen := grownCap_le_maxLen w (n + s.size) cap e h63
      have hlen : (cells ++ Lib.strCells s).length = (n + s.size) * 1 := by rw [List.length_append, hxl, Lib.strCells_length, Nat.mul_one]
      refine ⟨_, _, hr, ⟨hlen, .inr ⟨w.heap.size, _, _, rfl, Nat.zero_le _, heap_alloc_new w.drew _, hge, hcm2, ?_, ?_⟩⟩, rfl, ?_, fun b hb _ => heap_alloc_old w.drew _ b hb, .inr ⟨?_, w.heap.size, rfl, Nat.le_refl _⟩, fun h0 => absurd h0 (by omega)⟩
      · have hz1 : (Value.int IntKind.u8 0).cells.size = 1 := rfl
        simp only [Array.size_append, List.size_toArray, size_zeroCells, hz1, hxl, Lib.strCells_length]
        omega
      · simp only [Array.toList_append, List.append_assoc]
        rw [← List.append_assoc, ← hlen]
        exact List.take_left
      · exact ⟨rfl, rfl, rfl, by simp, fun k hk => absurd hk (Nat.not_lt_zero _)⟩
      · exact ⟨rfl, rfl, rfl, by simp, fun k hk => heap_alloc_old w.drew _ k hk⟩
theorem does_appS {r : TV × List Ob × Nat × Nat} {s x : Operand} {t t' : TypeId} (hI : Inv GL G Z w HP) (hn : ∀ id, hp.length ≤ id → id < r.2.1.length → G id = none) (ho : o.op = .call { callee := .builtin .append, args := #[s, x], argTypes := #[t, t'] }) {S X : TV} (hs : Rep G Z w S (a.eval s)) (hx : Rep G Z w X (a.eval x)) (hh : ∀ id ob, (r.2.2.1 ||| r.2.2.2).testBit id = true → hp[id]? = some ob → HP id ob) (h : absAppendS P hp t t' S X = some r) : Does P GL G Z w a o hp.length r := by
  unfold absAppendS at h
  split at h
  · rename_i e str hu hu2
    split at h
    · rename_i ie hie
      split at h
      · rename_i hzz
        obtain ⟨hz0, hzs⟩ := hzz
        have hz : ie.zero = some (.int .u8 0) := by
          unfold isB0 at hz0
          split at hz0
          · assumption
          · cases hz0
        have hxv : a.eval x = .string str := rep_lf.1 hx
        have byL : (Lib.strCells str).length = str.size * 1 := by rw [Lib.strCells_length, Nat.mul_one]
        have hnr := byT_rep G Z w str
        have hn1 := Lib.strCells_oneCell str
        unfold absAppS at h
        split at h
        · rename_i id sz off len
          split at h
          · rename_i e' sz' n cs fz hid
            split at h
            · rename_i hc
              obtain ⟨⟨rfl, rfl, rfl, rfl⟩, hln, hfz, hfit⟩ := hc
              obtain ⟨hf1, hf2⟩ := fits_iff hfit
              cases h
              have hnl := byL
              have hlt := (List.getElem?_eq_some_iff.1 hid).1
              have hob := hh id _ (by simp [Nat.testBit_two_pow_self]) hid
              obtain ⟨A', cap', v0, cells, hv, hG0, hsl0, hown, hrc, hc1, _, _, _, _, k7⟩ := vw_at hI hob hs (by omega)
              obtain ⟨hown', hbb⟩ := k7 rfl rfl
              have hcl : cells.length = n * 1 := hown.1
              have hmul : len * 1 ≤ n * 1 := Nat.mul_le_mul_right _ hln
              obtain ⟨v', w', hrun, ap⟩ := apd_str (P := P) hu hu2 hie hz hzs.1 hzs.2 (s := str) hown' (ty := o.type) hf1 (by simpa using hf2)
              have hnz := hI.free id _ hob
              have hkp : Kp Z Z w w' := ⟨fun _ _ h => h, fun b x hz => by
                by_cases hb : (a.eval s).ownBlock = some b
                · rcases ap.old with h1 | ⟨h1, _⟩
                  · have hxlt : x < len * 1 := by
                      refine Nat.lt_of_not_le fun hle => ?_
                      exact hnz _ b hG0 (by rw [isSl_blk hsl0, ← hbb]; exact hb) x (Nat.le_trans (Nat.mul_le_mul_right _ hfz) hle) hz
                    have hll : (cells.take (len * 1)).length = len * 1 := by rw [List.length_take]; omega
                    have h4 : (cells.take (len * 1))[x]? = some ((cells.take (len * 1))[x]'(by omega)) := List.getElem?_eq_getElem (by omega)
                    have h6 := hown'.cells hb x _ h4
                    have h7 := ap.own.cells (h1.trans hb) x _ (by rw [List.getElem?_append_left (by omega)]; exact h4)
                    rw [Addr.add_mid, Nat.zero_add] at h6 h7
                    rw [h6, h7]
                  · exact World.cell?_of_block (a := ⟨b, x, none⟩) (h1.block b (hI.zlt b x hz))
                · exact World.cell?_of_block (a := ⟨b, x, none⟩) (ap.far b (hI.zlt b x hz) hb)⟩
              have hblk : ∀ b, v'.ownBlock = some b → w.heap.size ≤ b ∨ v0.ownBlock = some b := fun b hb => by
                rcases ap.old with h1 | ⟨_, b', h1, h2⟩
                · exact .inr (by rw [← hbb, ← h1]; exact hb)
                · rw [h1] at hb; cases hb; exact .inl h2
              have hGn : G hp.length = none := hn _ (Nat.le_refl _) (by simp)
              have hlen' : (hp.set id (.ot none) ++ [Ob.ro e' 1 (len + str.size) (cs.take (len * 1) ++ byT str) fz]).length = hp.length + 1 := by simp
              have hT : ∀ k, TT (2 ^ id) hp.length (hp.set id (.ot none) ++ [Ob.ro e' 1 (len + str.size) (cs.take (len * 1) ++ byT str) fz]).length k ↔ k = id ∨ k = hp.length := fun k => by
                rw [hlen']
                unfold TT
                rw [Nat.testBit_two_pow, decide_eq_true_eq]
                constructor
                · rintro (h | h)
                  · exact .inl h.symm
                  · exact .inr (by omega)
                · rintro (h | h)
                  · exact .inl h.symm
                  · exact .inr (by omega)
              have get1 : (hp.set id (.ot none) ++ [Ob.ro e' 1 (len + str.size) (cs.take (len * 1) ++ byT str) fz])[id]? = some (.ot none) := by rw [List.getElem?_append_left (by simpa using hlt), List.getElem?_set_self hlt]
              have get2 : (hp.set id (.ot none) ++ [Ob.ro e' 1 (len + str.size) (cs.take (len * 1) ++ byT str) fz])[hp.length]? = some (.ro e' 1 (len + str.size) (cs.take (len * 1) ++ byT str) fz) := by rw [List.getElem?_append_right (by simp)]; simp
              have gle : Gle G (Gup G hp.length v') := fun k i hi => by rw [gup_ne (by rintro rfl; rw [hGn] at hi; cases hi)]; exact hi
              refine ⟨v', Gup G hp.length v', Z, w', .inl (append_execS ho (by rw [hxv]; exact hrun)), ?_⟩
              refine ⟨⟨gle, fun k hk hi => by rw [gup_ne (fun e => hk ((hT k).2 (.inr e)))]; exact hi, hkp, ap.bel, ?_, ?_, fun _ _ h => .inl h, fun b x hz => Nat.lt_of_lt_of_le (hI.zlt b x hz) ap.bel.size⟩, ?_, ?_, ?_, ?_, ?_⟩
              · intro b hb hTT
                exact ap.far b hb fun e => hTT id _ ((hT id).2 (.inl rfl)) hG0 (by rw [isSl_blk hsl0, ← hbb]; exact e)
              · intro k i' b hi' he
                by_cases ek : k = hp.length
                · subst ek
                  rw [gup_self] at hi'; cases hi'
                  rw [isSl_blk ap.sl] at he
                  rcases hblk b he with h1 | h1
                  · exact .inl h1
                  · exact .inr ⟨id, _, .inl ((hT id).2 (.inl rfl)), hG0, by rw [isSl_blk hsl0]; exact h1⟩
                · rw [gup_ne ek] at hi'
                  exact .inr ⟨k, i', .inr rfl, hi', he⟩
              · rw [Rep]
                refine ⟨Nat.one_pos, v', gup_self, ?_⟩
                rcases ap.own.2 with ⟨h1, h2⟩ | ⟨g, cap2, cur, h1, _, hgg, h2, h3, _⟩
                · have hl0 : len = 0 := by omega
                  have hm0 : str.size = 0 := by omega
                  subst hl0; rw [hm0]
                  exact ⟨none, 0, 0, none, 0, h1, h1, by omega, by omega, by simp [maxLen], by simp, fun _ => ⟨rfl, fun _ => rfl⟩, fun h => absurd h (by omega), rfl⟩
                · exact ⟨some ⟨g, 0, none⟩, len + str.size, cap2, some ⟨g, 0, none⟩, cap2, h1, h1, by omega, h2, h3, by simp, fun _ => ⟨rfl, fun _ => rfl⟩, fun _ => by simp [Addr.add], rfl⟩
              · intro k ob hk hob'
                rcases (hT k).1 hk with rfl | rfl
                · rw [get1] at hob'; cases hob'; exact fun x hx => (by cases hx)
                · rw [get2] at hob'; cases hob'
                  refine ⟨v', _, gup_self, ap.sl, ap.own, (repl_app (repl_take hrc _) hnr).keep gle hkp, fun u hu => ?_, Nat.one_pos⟩
                  rcases List.mem_append.1 hu with hu | hu
                  · exact hc1 u (List.mem_of_mem_take hu)
                  · exact hn1 u hu
              · intro k ob hk hob'
                rcases (hT k).1 hk with rfl | rfl
                · rw [get1] at hob'; cases hob'; exact fun h => (by cases h)
                · rw [get2] at hob'; cases hob'
                  intro i b hi hb x hx hz
                  rw [gup_self] at hi; cases hi
                  rw [isSl_blk ap.sl] at hb
                  rcases hblk b hb with h1 | h1
                  · have := hI.zlt b x hz; omega
                  · exact hnz _ b hG0 (by rw [isSl_blk hsl0]; exact h1) x hx hz
              · intro k k' ob ob' i i' b hk hk' hob1 hl1 hob2 hl2 _ _ _ _
                have alive : ∀ k ob, TT (2 ^ id) hp.length (hp.set id (.ot none) ++ [Ob.ro e' 1 (len + str.size) (cs.take (len * 1) ++ byT str) fz]).length k → (hp.set id (.ot none) ++ [Ob.ro e' 1 (len + str.size) (cs.take (len * 1) ++ byT str) fz])[k]? = some ob → ob.live = true → k = hp.length := fun k ob hk ho hl => by
                  rcases (hT k).1 hk with rfl | rfl
                  · rw [get1] at ho; cases ho; cases hl
                  · rfl
                rw [alive k ob hk hob1 hl1, alive k' ob' hk' hob2 hl2]
              · intro k i' hk _
                rcases (hT k).1 hk with rfl | rfl
                · exact ⟨_, get1⟩
                · exact ⟨_, get2⟩
            · cases h
          · cases h
        · split at h
          · rename_i hc
            obtain ⟨hnil, hfit⟩ := hc
            obtain ⟨hf1, hf2⟩ := fits_iff hfit
            cases h
            have hnl := byL
            have hv : a.eval s = .slice none 0 0 := isNil_rep hnil hs
            obtain ⟨v', w', hrun, ap⟩ := apd_str (P := P) hu hu2 hie hz hzs.1 hzs.2 (s := str) (World.ownsRow_nil w 0 e 1) (ty := o.type) (by simpa using hf1) (by simpa using hf2)
            have hbel : Below w.heap.size w w' := ⟨ap.bel.os, ap.bel.tape, ap.bel.output, ap.bel.size, fun k hk => ap.far k hk (by simp [Value.ownBlock])⟩
            obtain ⟨G', Z', hres⟩ := res_newrow (hp := hp) (cs := byT str) hI (hn _ (Nat.le_refl _) (by simp)) Nat.one_pos hnr hn1 (by simpa using ap.own) hbel (by
              rcases ap.old with h1 | ⟨_, b, h1, h2⟩
              · exact .inl h1
              · exact .inr ⟨b, h1, h2⟩)
            exact ⟨v', G', Z', w', .inl (append_execS ho (by rw [hv, hxv]; exact hrun)), hres⟩
          · cases h
      · cases h
    · cases h
  · cases h
theorem does_append {r : TV × List Ob × Nat × Nat} {s x : Operand} {ats : Array TypeId} (hI : Inv GL G Z w HP) (hn : ∀ id, hp.length ≤ id → id < r.2.1.length → G id = none) (ho : o.op = .call { callee := .builtin .append, args := #[s, x], argTypes := ats }) (hs : Rep G Z w (evT GL tm s) (a.eval s)) (hx : Rep G Z w (evT GL tm x) (a.eval x)) (hh : ∀ id ob, (r.2.2.1 ||| r.2.2.2).testBit id = true → hp[id]? = some ob → HP id ob) (h : absAppend P hp ats (evT GL tm s) (evT GL tm x) = some r) : Does P GL G Z w a o hp.length r := by
  generalize evT GL tm s = S at hs h
  generalize evT GL tm x = X at hx h
  unfold absAppend at h
  split at h
  · rename_i t t' hats
    split at h
    · rename_i htt
      subst htt
      obtain rfl : ats = #[t, t] := by rw [← Array.toArray_toList (xs := ats), hats]
      split at h
      · rename_i e hu
        split at h
        · rename_i ie hie
          split at h
          · rename_i z hz
            split at h
            · rename_i hzs
              split at h
              · rename_i m ys R hys
                have src : (∀ id ob, R.testBit id = true → hp[id]? = some ob → HP id ob) → _ := fun hR => srcR_rep hI hzs.2 hys hR hx
                unfold absApp at h
                split at h
                · rename_i id sz off len
                  split at h
                  · rename_i e' sz' n cs fz hid
                    split at h
                    · rename_i hc
                      obtain ⟨⟨rfl, rfl, rfl, rfl⟩, hln, hfz, hfit⟩ := hc
                      obtain ⟨hf1, hf2⟩ := fits_iff hfit
                      cases h
                      obtain ⟨B, c, news, hxv, hnl, hnr, hn1, hB⟩ := src (fun i ob hb => hh i ob (by simp only [Nat.testBit_or, Bool.or_eq_true]; exact .inl hb))
                      have hlt := (List.getElem?_eq_some_iff.1 hid).1
                      have hob := hh id _ (by simp [Nat.testBit_two_pow_self]) hid
                      obtain ⟨A', cap', v0, cells, hv, hG0, hsl0, hown, hrc, hc1, _, _, _, _, k7⟩ := vw_at hI hob hs (by omega)
                      obtain ⟨hown', hbb⟩ := k7 rfl rfl
                      have hcl : cells.length = n * ie.size := hown.1
                      have hmul : len * ie.size ≤ n * ie.size := Nat.mul_le_mul_right _ hln
                      obtain ⟨v', w', hrun, ap⟩ := apd_any (P := P) hu hie hz hzs.1 hzs.2 hown' (B := B) (c := c) (ty := o.type) hnl hB hn1 hf1 hf2
                      have hnz := hI.free id _ hob
                      have hkp : Kp Z Z w w' := ⟨fun _ _ h => h, fun b x hz => by
                        by_cases hb : (a.eval s).ownBlock = some b
                        · rcases ap.old with h1 | ⟨h1, _⟩
                          · have hxlt : x < len * ie.size := by
                              refine Nat.lt_of_not_le fun hle => ?_
                              exact hnz _ b hG0 (by rw [isSl_blk hsl0, ← hbb]; exact hb) x (Nat.le_trans (Nat.mul_le_mul_right _ hfz) hle) hz
                            have hll : (cells.take (len * ie.size)).length = len * ie.size := by rw [List.length_take]; omega
                            have h4 : (cells.take (len * ie.size))[x]? = some ((cells.take (len * ie.size))[x]'(by omega)) := List.getElem?_eq_getElem (by omega)
                            have h6 := hown'.cells hb x _ h4
                            have h7 := ap.own.cells (h1.trans hb) x _ (by rw [List.getElem?_append_left (by omega)]; exact h4)
                            rw [Addr.add_mid, Nat.zero_add] at h6 h7
                            rw [h6, h7]
                          · exact World.cell?_of_block (a := ⟨b, x, none⟩) (h1.block b (hI.zlt b x hz))
                        · exact World.cell?_of_block (a := ⟨b, x, none⟩) (ap.far b (hI.zlt b x hz) hb)⟩
                      have hblk : ∀ b, v'.ownBlock = some b → w.heap.size ≤ b ∨ v0.ownBlock = some b := fun b hb => by
                        rcases ap.old with h1 | ⟨_, b', h1, h2⟩
                        · exact .inr (by rw [← hbb, ← h1]; exact hb)
                        · rw [h1] at hb; cases hb; exact .inl h2
                      have hGn : G hp.length = none := hn _ (Nat.le_refl _) (by simp)
                      have hlen' : (hp.set id (.ot none) ++ [Ob.ro e' ie.size (len + m) (cs.take (len * ie.size) ++ ys) fz]).length = hp.length + 1 := by simp
                      have hT : ∀ k, TT (2 ^ id) hp.length (hp.set id (.ot none) ++ [Ob.ro e' ie.size (len + m) (cs.take (len * ie.size) ++ ys) fz]).length k ↔ k = id ∨ k = hp.length := fun k => by
                        rw [hlen']
                        unfold TT
                        rw [Nat.testBit_two_pow, decide_eq_true_eq]
                        constructor
                        · rintro (h | h)
                          · exact .inl h.symm
                          · exact .inr (by omega)
                        · rintro (h | h)
                          · exact .inl h.symm
                          · exact .inr (by omega)
                      have get1 : (hp.set id (.ot none) ++ [Ob.ro e' ie.size (len + m) (cs.take (len * ie.size) ++ ys) fz])[id]? = some (.ot none) := by rw [List.getElem?_append_left (by simpa using hlt), List.getElem?_set_self hlt]
                      have get2 : (hp.set id (.ot none) ++ [Ob.ro e' ie.size (len + m) (cs.take (len * ie.size) ++ ys) fz])[hp.length]? = some (.ro e' ie.size (len + m) (cs.take (len * ie.size) ++ ys) fz) := by rw [List.getElem?_append_right (by simp)]; simp
                      have gle : Gle G (Gup G hp.length v') := fun k i hi => by rw [gup_ne (by rintro rfl; rw [hGn] at hi; cases hi)]; exact hi
                      refine ⟨v', Gup G hp.length v', Z, w', .inl (append_exec ho (by rw [hxv]; exact hrun)), ?_⟩
                      refine ⟨⟨gle, fun k hk hi => by rw [gup_ne (fun e => hk ((hT k).2 (.inr e)))]; exact hi, hkp, ap.bel, ?_, ?_, fun _ _ h => .inl h, fun b x hz => Nat.lt_of_lt_of_le (hI.zlt b x hz) ap.bel.size⟩, ?_, ?_, ?_, ?_, ?_⟩
                      · intro b hb hTT
                        exact ap.far b hb fun e => hTT id _ ((hT id).2 (.inl rfl)) hG0 (by rw [isSl_blk hsl0, ← hbb]; exact e)
                      · intro k i' b hi' he
                        by_cases ek : k = hp.length
                        · subst ek
                          rw [gup_self] at hi'; cases hi'
                          rw [isSl_blk ap.sl] at he
                          rcases hblk b he with h1 | h1
                          · exact .inl h1
                          · exact .inr ⟨id, _, .inl ((hT id).2 (.inl rfl)), hG0, by rw [isSl_blk hsl0]; exact h1⟩
                        · rw [gup_ne ek] at hi'
                          exact .inr ⟨k, i', .inr rfl, hi', he⟩
                      · rw [Rep]
                        refine ⟨hzs.2, v', gup_self, ?_⟩
                        rcases ap.own.2 with ⟨h1, h2⟩ | ⟨g, cap2, cur, h1, _, hgg, h2, h3, _⟩
                        · have hl0 : len = 0 := by omega
                          have hm0 : m = 0 := by omega
                          subst hl0 hm0
                          exact ⟨none, 0, 0, none, 0, h1, h1, by omega, by omega, by simp [maxLen], by simp, fun _ => ⟨rfl, fun _ => rfl⟩, fun h => absurd h (by omega), rfl⟩
                        · exact ⟨some ⟨g, 0, none⟩, len + m, cap2, some ⟨g, 0, none⟩, cap2, h1, h1, by omega, h2, h3, by simp, fun _ => ⟨rfl, fun _ => rfl⟩, fun _ => by simp [Addr.add], rfl⟩
                      · intro k ob hk hob'
                        rcases (hT k).1 hk with rfl | rfl
                        · rw [get1] at hob'; cases hob'; exact fun x hx => (by cases hx)
                        · rw [get2] at hob'; cases hob'
                          refine ⟨v', _, gup_self, ap.sl, ap.own, (repl_app (repl_take hrc _) hnr).keep gle hkp, fun u hu => ?_, hzs.2⟩
                          rcases List.mem_append.1 hu with hu | hu
                          · exact hc1 u (List.mem_of_mem_take hu)
                          · exact hn1 u hu
                      · intro k ob hk hob'
                        rcases (hT k).1 hk with rfl | rfl
                        · rw [get1] at hob'; cases hob'; exact fun h => (by cases h)
                        · rw [get2] at hob'; cases hob'
                          intro i b hi hb x hx hz
                          rw [gup_self] at hi; cases hi
                          rw [isSl_blk ap.sl] at hb
                          rcases hblk b hb with h1 | h1
                          · have := hI.zlt b x hz; omega
                          · exact hnz _ b hG0 (by rw [isSl_blk hsl0]; exact h1) x hx hz
                      · intro k k' ob ob' i i' b hk hk' hob1 hl1 hob2 hl2 _ _ _ _
                        have alive : ∀ k ob, TT (2 ^ id) hp.length (hp.set id (.ot none) ++ [Ob.ro e' ie.size (len + m) (cs.take (len * ie.size) ++ ys) fz]).length k → (hp.set id (.ot none) ++ [Ob.ro e' ie.size (len + m) (cs.take (len * ie.size) ++ ys) fz])[k]? = some ob → ob.live = true → k = hp.length := fun k ob hk ho hl => by
                          rcases (hT k).1 hk with rfl | rfl
                          · rw [get1] at ho; cases ho; cases hl
                          · rfl
                        rw [alive k ob hk hob1 hl1, alive k' ob' hk' hob2 hl2]
                      · intro k i' hk _
                        rcases (hT k).1 hk with rfl | rfl
                        · exact ⟨_, get1⟩
                        · exact ⟨_, get2⟩
                    · cases h
                  · cases h
                · rename_i id sz off len
                  split at h
                  · rename_i e' sz' n cs fz hid
                    split at h
                    · rename_i hc
                      obtain ⟨⟨rfl, rfl, hln⟩, hm, hfit⟩ := hc
                      obtain ⟨hf1, hf2⟩ := fits_iff hfit
                      cases h
                      obtain ⟨B, c, news, hxv, hnl, hnr, hn1, hB⟩ := src (fun i ob hb => hh i ob (by simp only [Nat.testBit_or, Bool.or_eq_true]; exact .inl (.inl hb)))
                      have hob := hh id _ (by simp [Nat.testBit_or, Nat.testBit_two_pow_self]) hid
                      obtain ⟨A', cap', v0, cells, hv, hG0, hsl0, hown, hrc, hc1, _, _, hfull, k6, _⟩ := vw_at hI hob hs hln
                      obtain rfl := hfull rfl
                      have hcl : cells.length = n * ie.size := hown.1
                      have hmul : off * ie.size + cap' * ie.size ≤ n * ie.size := by rw [← Nat.add_mul]; exact Nat.mul_le_mul_right _ hln
                      obtain ⟨v', w', hrun, k1, k2, k3⟩ := app_new (P := P) (w := w) (ty := o.type) (c := c) hu hie hz hzs (olds := (cells.drop (off * ie.size)).take (cap' * ie.size)) (n := cap') (A := A') (by rw [List.length_take, List.length_drop]; omega) (fun hp => by obtain ⟨g, q1, q2⟩ := k6 hp; exact ⟨g, _, q1, q2⟩) hnl hm hB hn1 hf1 hf2
                      obtain ⟨G', Z', hres⟩ := res_newrow (hp := hp) (cs := (cs.drop (off * ie.size)).take (cap' * ie.size) ++ ys) hI (hn _ (Nat.le_refl _) (by simp)) hzs.2 (repl_app (repl_take (repl_drop hrc _) _) hnr) (fun u hu => by
                        rcases List.mem_append.1 hu with hu | hu
                        · exact hc1 u (List.mem_of_mem_drop (List.mem_of_mem_take hu))
                        · exact hn1 u hu) k1 k2 k3
                      exact ⟨v', G', Z', w', .inl (append_exec ho (by rw [hv, hxv]; exact hrun)), hres⟩
                    · cases h
                  · cases h
                · rename_i sz xs
                  split at h
                  · rename_i hc
                    obtain ⟨rfl, hm, hfit⟩ := hc
                    obtain ⟨hf1, hf2⟩ := fits_iff hfit
                    cases h
                    obtain ⟨B, c, news, hxv, hnl, hnr, hn1, hB⟩ := src (fun i ob hb => hh i ob (by simp only [Nat.testBit_or, Bool.or_eq_true]; exact .inl hb))
                    rw [Rep] at hs
                    obtain ⟨A, cap, hv, hcap, hfull, hrw⟩ := hs
                    obtain rfl := hfull rfl
                    obtain ⟨L, l1, l2, l3, l4, l5⟩ := row_flat hzs.2 hrw
                    obtain ⟨v', w', hrun, k1, k2, k3⟩ := app_new (P := P) (w := w) (ty := o.type) (c := c) hu hie hz hzs (olds := L.flatten) (n := xs.length) (A := A) (by rw [flat_len _ L l2, l1]) (fun hp => by
                      obtain ⟨g, o', _, hA, _⟩ := hrw.get (j := 0) (List.getElem?_eq_getElem hp)
                      exact ⟨g, o', hA, fun j u hu => (l5 g o' hA j u hu).1⟩) hnl hm hB hn1 hf1 hf2
                    obtain ⟨G', Z', hres⟩ := res_newrow (hp := hp) (cs := flatD xs ++ ys) hI (hn _ (Nat.le_refl _) (by simp)) hzs.2 (repl_app (flatD_rep (sz := ie.size) l1 l3) hnr) (fun u hu => by
                      rcases List.mem_append.1 hu with hu | hu
                      · exact l4 u hu
                      · exact hn1 u hu) k1 k2 k3
                    exact ⟨v', G', Z', w', .inl (append_exec ho (by rw [hv, hxv]; exact hrun)), hres⟩
                  · cases h
                · split at h
                  · rename_i hc
                    obtain ⟨hnil, hfit⟩ := hc
                    obtain ⟨hf1, hf2⟩ := fits_iff hfit
                    cases h
                    obtain ⟨B, c, news, hxv, hnl, hnr, hn1, hB⟩ := src (fun i ob hb => hh i ob (by simp only [Nat.testBit_or, Bool.or_eq_true]; exact .inl hb))
                    have hv : a.eval s = .slice none 0 0 := isNil_rep hnil hs
                    obtain ⟨v', w', hrun, ap⟩ := apd_any (P := P) hu hie hz hzs.1 hzs.2 (World.ownsRow_nil w 0 e ie.size) (B := B) (c := c) (ty := o.type) hnl hB hn1 (by simpa using hf1) (by simpa using hf2)
                    have hbel : Below w.heap.size w w' := ⟨ap.bel.os, ap.bel.tape, ap.bel.output, ap.bel.size, fun k hk => ap.far k hk (by simp [Value.ownBlock])⟩
                    obtain ⟨G', Z', hres⟩ := res_newrow (hp := hp) (cs := ys) hI (hn _ (Nat.le_refl _) (by simp)) hzs.2 hnr hn1 (by simpa using ap.own) hbel (by
                      rcases ap.old with h1 | ⟨_, b, h1, h2⟩
                      · exact .inl h1
                      · exact .inr ⟨b, h1, h2⟩)
                    exact ⟨v', G', Z', w', .inl (append_exec ho (by rw [hv, hxv]; exact hrun)), hres⟩
                  · cases h
              · cases h
            · cases h
          · cases h
        · cases h
      · cases h
    · obtain rfl : ats = #[t, t'] := by rw [← Array.toArray_toList (xs := ats), hats]
      exact does_appS hI hn ho hs hx hh h
  · cases h
end
end Go.Eng
end

section
set_option linter.unusedVariables false
set_option linter.unusedSimpArgs false
namespace Go.Eng
open Go.RowKit
mutual
def ren (f : Nat → Nat) : TV → TV
  | .vw id sz off len full => .vw (f id) sz off len full
  | .pt id off => .pt (f id) off
  | .mp id => .mp (f id)
  | .ag cs => .ag (renL f cs)
  | .tu cs => .tu (renL f cs)
  | .fn k a b => .fn k (renL f a) (renL f b)
  | .bad => .bad
  | .lf v => .lf v
  | .fr sz xs full => .fr sz xs full
  | .ep cs off => .ep cs off
  | .ic t x => .ic t (ren f x)
def renL (f : Nat → Nat) : List TV → List TV
  | [] => []
  | t :: ts => ren f t :: renL f ts
end
mutual
def ids : TV → List Nat
  | .vw id _ _ _ _ => [id]
  | .pt id _ => [id]
  | .mp id => [id]
  | .ag cs => idsL cs
  | .tu cs => idsL cs
  | .fn _ a b => idsL a ++ idsL b
  | .ic _ x => ids x
  | _ => []
def idsL : List TV → List Nat
  | [] => []
  | t :: ts => ids t ++ idsL ts
end
section
variable {G G' : Gh} {Z : Zn} {w : World}
mutual
theorem Rep.ren {f : Nat → Nat} : ∀ {t : TV} {v : Value}, (∀ i x, i ∈ ids t → G i = some x → G' (f i) = some x) → Rep G Z w t v → Rep G' Z w (ren f t) v
  | .bad, v, hf, h => by rw [Eng.ren]; exact rep_bad
  | .lf u, v, hf, h => by rw [Eng.ren]; exact rep_lf.2 (rep_lf.1 h)
  | .fr sz xs full, v, hf, h => by rw [Eng.ren, Rep]; rw [Rep] at h; exact h
  | .vw id sz off len full, v, hf, h => by
    rw [Eng.ren, Rep]
    rw [Rep] at h
    obtain ⟨h0, v0, h1, h2⟩ := h
    exact ⟨h0, v0, hf id v0 (by simp [ids]) h1, h2⟩
  | .pt id off, v, hf, h => by
    rw [Eng.ren, Rep]
    rw [Rep] at h
    obtain ⟨g, ⟨v0, h1, h3⟩, h2⟩ := h
    exact ⟨g, ⟨v0, hf id _ (by simp [ids]) h1, h3⟩, h2⟩
  | .ep cs off, v, hf, h => by rw [Eng.ren, Rep]; rw [Rep] at h; exact h
  | .ag cs, v, hf, h => by
    rw [Eng.ren, Rep]
    rw [Rep] at h
    obtain ⟨vs, h1, h2⟩ := h
    exact ⟨vs, h1, RepL.ren (fun i x hi => hf i x (by rw [ids]; exact hi)) h2⟩
  | .tu cs, v, hf, h => by
    rw [Eng.ren, Rep]
    rw [Rep] at h
    obtain ⟨vs, h1, h2⟩ := h
    exact ⟨vs, h1, RepL.ren (fun i x hi => hf i x (by rw [ids]; exact hi)) h2⟩
  | .fn k a b, v, hf, h => by
    rw [Eng.ren, Rep]
    rw [Rep] at h
    obtain ⟨va, vb, h1, h2, h3⟩ := h
    exact ⟨va, vb, h1, RepL.ren (fun i x hi => hf i x (by rw [ids]; exact List.mem_append_left _ hi)) h2, RepL.ren (fun i x hi => hf i x (by rw [ids]; exact List.mem_append_right _ hi)) h3⟩
  | .mp id, v, hf, h => by
    rw [Eng.ren, Rep]
    rw [Rep] at h
    obtain ⟨g, h1, h2⟩ := h
    exact ⟨g, hf id _ (by simp [ids]) h1, h2⟩
  | .ic t x, v, hf, h => by
    rw [Eng.ren, Rep]
    rw [Rep] at h
    obtain ⟨u, h1, h2⟩ := h
    exact ⟨u, h1, Rep.ren (fun i x hi => hf i x (by rw [ids]; exact hi)) h2⟩
theorem RepL.ren {f : Nat → Nat} : ∀ {ts : List TV} {vs : List Value}, (∀ i x, i ∈ idsL ts → G i = some x → G' (f i) = some x) → RepL G Z w ts vs → RepL G' Z w (renL f ts) vs
  | [], vs, hf, h => by rw [renL]; exact repl_nil.2 (repl_nil.1 h)
  | t :: ts, vs, hf, h => by
    obtain ⟨v, vs', h1, h2, h3⟩ := repl_cons.1 h
    rw [renL]
    exact repl_cons.2 ⟨v, vs', h1, Rep.ren (fun i x hi => hf i x (by rw [idsL]; exact List.mem_append_left _ hi)) h2, RepL.ren (fun i x hi => hf i x (by rw [idsL]; exact List.mem_append_right _ hi)) h3⟩
end
end
def renO (f : Nat → Nat) : Ob → Ob
  | .vr e cs => .vr e (renL f cs)
  | .ro e sz n cs fz => .ro e sz n (renL f cs) fz
  | .ot m => .ot m
def idsO : Ob → List Nat
  | .vr _ cs => idsL cs
  | .ro _ _ _ cs _ => idsL cs
  | _ => []
theorem live_ren {f : Nat → Nat} {ob : Ob} : (renO f ob).live = ob.live := by cases ob <;> rfl
theorem Good.ren {G G' : Gh} {Z : Zn} {w : World} {f : Nat → Nat} {id id' : Nat} {ob : Ob} (hf : ∀ i x, i ∈ idsO ob → G i = some x → G' (f i) = some x) (hid : ∀ x, G id = some x → G' id' = some x) (h : Good G Z w id ob) : Good G' Z w id' (renO f ob) := by
  cases ob with
  | vr e cs =>
    obtain ⟨g, vs, h1, h2, h3, h4⟩ := h
    exact ⟨g, vs, hid _ h1, h2, h3.ren hf, h4⟩
  | ro e sz n cs fz =>
    obtain ⟨v, cells, h1, h2, h3, h4, h5⟩ := h
    exact ⟨v, cells, hid _ h1, h2, h3, h4.ren hf, h5⟩
  | ot m =>
    intro x hx
    obtain ⟨r, h1, h2⟩ := h x hx
    exact ⟨r, hid _ h1, h2⟩
theorem NoZ.ren {G G' : Gh} {Z : Zn} {f : Nat → Nat} {id id' : Nat} {ob : Ob} (hid : G' id' = G id) (h : NoZ G Z id ob) : NoZ G' Z id' (renO f ob) := by
  cases ob with
  | vr e cs => intro i b hi; rw [hid] at hi; exact h i b hi
  | ro e sz n cs fz => intro i b hi; rw [hid] at hi; exact h i b hi
  | ot m => intro hm i b hi; rw [hid] at hi; exact h hm i b hi
def idx (L : List Nat) (id : Nat) : Nat := L.idxOf id
def Gsub (G : Gh) (L : List Nat) : Gh := fun i => (L[i]?).bind G
def HPl (hp : List Ob) (id : Nat) (ob : Ob) : Prop := hp[id]? = some ob
theorem gsub_idx {G : Gh} {L : List Nat} {id : Nat} (h : id ∈ L) : Gsub G L (idx L id) = G id := by
  unfold Gsub idx
  have hlt : L.idxOf id < L.length := List.idxOf_lt_length_of_mem h
  rw [List.getElem?_eq_getElem hlt, List.getElem_idxOf hlt]; rfl
theorem gsub_get {G : Gh} {L : List Nat} {i id : Nat} (h : L[i]? = some id) : Gsub G L i = G id := by
  unfold Gsub
  rw [h]; rfl
theorem Inv.sub {GL : Nat → Option (List Dt)} {G : Gh} {Z : Zn} {w : World} {HP : Nat → Ob → Prop} {hp : List Ob} {L : List Nat} (hI : Inv GL G Z w HP) (hnd : L.Nodup) (hH : ∀ id ob, id ∈ L → hp[id]? = some ob → HP id ob) (hex : ∀ id ∈ L, ∃ ob, hp[id]? = some ob) (hcl : ∀ id ob, id ∈ L → hp[id]? = some ob → ∀ i ∈ idsO ob, i ∈ L) :
    Inv GL (Gsub G L) Z w (HPl (L.map fun id => renO (idx L) (hp.getD id (.ot none)))) := by
  have get : ∀ {i : Nat} {ob : Ob}, HPl (L.map fun id => renO (idx L) (hp.getD id (.ot none))) i ob → ∃ id ob', L[i]? = some id ∧ id ∈ L ∧ hp[id]? = some ob' ∧ ob = renO (idx L) ob' := fun {i ob} h => by
    unfold HPl at h
    rw [List.getElem?_map] at h
    cases hL : L[i]? with
    | none => rw [hL] at h; cases h
    | some id =>
      rw [hL] at h
      have hm := List.mem_of_getElem? hL
      obtain ⟨ob', ho⟩ := hex id hm
      refine ⟨id, ob', rfl, hm, ho, ?_⟩
      simp only [Option.map_some, Option.some.injEq, List.getD_eq_getElem?_getD, ho, Option.getD_some] at h
      exact h.symm
  refine ⟨fun i ob h => ?_, fun i ob h => ?_, fun i i' ob ob' x x' b p1 l1 p2 l2 h1 h2 h3 h4 => ?_, fun i x h => ?_, hI.zlt, hI.glo⟩
  · obtain ⟨id, ob', k1, k2, k3, rfl⟩ := get h
    exact Good.ren (fun j x hj hx => by rw [gsub_idx (hcl id ob' k2 k3 j hj)]; exact hx) (fun x hx => by rw [gsub_get k1]; exact hx) (hI.good id ob' (hH id ob' k2 k3))
  · obtain ⟨id, ob', k1, k2, k3, rfl⟩ := get h
    exact NoZ.ren (gsub_get k1) (hI.free id ob' (hH id ob' k2 k3))
  · obtain ⟨id, oa, k1, k2, k3, rfl⟩ := get p1
    obtain ⟨id', oa', k1', k2', k3', rfl⟩ := get p2
    rw [gsub_get k1] at h1
    rw [gsub_get k1'] at h2
    rw [live_ren] at l1 l2
    have := hI.dist id id' oa oa' x x' b (hH id oa k2 k3) l1 (hH id' oa' k2' k3') l2 h1 h2 h3 h4
    subst this
    exact (List.getElem?_inj (List.getElem?_eq_some_iff.1 k1).1 hnd).1 (k1.trans k1'.symm)
  · unfold Gsub at h
    cases hL : L[i]? with
    | none => rw [hL] at h; cases h
    | some id => exact ⟨_, by unfold HPl; rw [List.getElem?_map, hL]; rfl⟩
def reach (hp : List Ob) : Nat → List Nat → List Nat → List Nat
  | 0, _, acc => acc
  | _, [], acc => acc
  | n + 1, i :: todo, acc => if acc.contains i then reach hp n todo acc else reach hp n (idsO (hp.getD i (.ot none)) ++ todo) (acc ++ [i])
def closed (hp : List Ob) (L : List Nat) : Bool := decide L.Nodup && L.all fun id => match hp[id]? with
  | some ob => ob.live && (idsO ob).all fun i => L.contains i
  | none => false
theorem closed_iff {hp : List Ob} {L : List Nat} (h : closed hp L = true) : L.Nodup ∧ (∀ id ∈ L, ∃ ob, hp[id]? = some ob ∧ ob.live = true) ∧ ∀ id ob, id ∈ L → hp[id]? = some ob → ∀ i ∈ idsO ob, i ∈ L := by
  unfold closed at h
  rw [Bool.and_eq_true, decide_eq_true_eq, List.all_eq_true] at h
  refine ⟨h.1, fun id hid => ?_, fun id ob hid ho i hi => ?_⟩
  · have := h.2 id hid
    split at this
    · rename_i ob ho
      rw [Bool.and_eq_true] at this
      exact ⟨ob, ho, this.1⟩
    · cases this
  · have := h.2 id hid
    rw [ho] at this
    simp only [Bool.and_eq_true] at this
    have := List.all_eq_true.1 this.2 i hi
    simpa using this
def closed0 (hp : List Ob) (L : List Nat) : Bool := decide L.Nodup && L.all fun id => match hp[id]? with
  | some ob => (idsO ob).all fun i => L.contains i
  | none => false
theorem closed0_iff {hp : List Ob} {L : List Nat} (h : closed0 hp L = true) : L.Nodup ∧ (∀ id ∈ L, ∃ ob, hp[id]? = some ob) ∧ ∀ id ob, id ∈ L → hp[id]? = some ob → ∀ i ∈ idsO ob, i ∈ L := by
  unfold closed0 at h
  rw [Bool.and_eq_true, decide_eq_true_eq, List.all_eq_true] at h
  refine ⟨h.1, fun id hid => ?_, fun id ob hid ho i hi => ?_⟩
  · have := h.2 id hid
    split at this
    · rename_i ob ho; exact ⟨ob, ho⟩
    · cases this
  · have := h.2 id hid
    rw [ho] at this
    simp only at this
    have := List.all_eq_true.1 this i hi
    simpa using this
def mask (L : List Nat) : Nat := L.foldr (fun i m => 2 ^ i ||| m) 0
theorem mask_iff {id : Nat} : ∀ {L : List Nat}, (mask L).testBit id = true ↔ id ∈ L
  | [] => by simp [mask]
  | i :: L => by
    have ih := mask_iff (id := id) (L := L)
    unfold mask at ih ⊢
    rw [List.foldr_cons, Nat.testBit_or, Nat.testBit_two_pow, Bool.or_eq_true, ih, List.mem_cons, decide_eq_true_eq]
    exact or_congr_left eq_comm
end Go.Eng
end
