import Derived.Test.YtjbleefpafnhhaaDoorZ01
import Derived.Deep.RegionWith
import Derived.Deep.RegionHeld3
import Derived.Deep.DeepCutAuto
import Derived.StillTailTactics
set_option linter.unusedVariables false
namespace Go.Proofs.YtjbleefpafnhhaaDoor
open Go.RowKit

def InR (n : Int) : Prop := -9223372036854775808 ≤ n ∧ n ≤ 9223372036854775807
/-- Strings as values. -/
def ss (l : List ByteArray) : List Value := l.map Value.string
theorem ss_get (l : List ByteArray) (j : Nat) (h : j < l.length) : (ss l)[j]? = some (.string (l[j]?.getD ByteArray.empty)) := by
  simp [ss, List.getElem?_map, List.getElem?_eq_getElem h]
/-- P1.3. -/
def encS (s : ByteArray) : List Nat := enc s.size ++ sb s
theorem encS_len (s : ByteArray) (h : s.size ≤ 100000) : (encS s).length ≤ 100009 := by
  have := (enc_len s.size (by omega)).2
  unfold encS; rw [List.length_append, sb_len]; omega

/-- The string of these bytes. -/
def mkS (l : List Nat) : ByteArray := ⟨(l.map UInt8.ofNat).toArray⟩
theorem mkS_nil : mkS [] = ⟨#[]⟩ := rfl
theorem sb_mkS (l : List Nat) (h : ∀ d ∈ l, d < 256) : sb (mkS l) = l := by
  simp only [sb, mkS, List.map_map]
  conv => rhs; rw [← List.map_id l]
  refine List.map_congr_left fun d hd => ?_
  simp [Nat.mod_eq_of_lt (h d hd)]
theorem mkS_sb (s : ByteArray) : mkS (sb s) = s := by
  apply sb_inj
  exact sb_mkS _ (sb_lt s)
theorem mkS_size (l : List Nat) : (mkS l).size = l.length := by simp [mkS, ByteArray.size]

theorem run_conv (B n c : Nat) (A : Option Addr) (ys : List Nat) (w : World) (hn : n = ys.length) (hr : Rd w B A (bs ys)) :
    (convert 69 9 (.slice A n c)).run Tryd.prog w = .ok (.string (mkS ys)) w := by
  subst hn
  rcases hr with h | ⟨b, o, rfl, _, hc⟩
  · have : ys = [] := by simpa [bs] using h
    subst this
    rcases A with _ | ad
    · rw [run_convert_bytes_nil w _ _ Tryd.underlying69 Tryd.underlying5 _ _ _ Tryd.underlying9]; rfl
    · have hl : (loadCells ad 0).run Tryd.prog w = .ok (([] : List Int).map (Value.int .u8)).toArray w := by
        have := run_loadCells_list (P := Tryd.prog) w ad [] (by simp)
        simpa using this
      rw [List.length_nil, run_convert_bytes_string w _ _ _ _ _ _ Tryd.underlying69 Tryd.underlying5 Tryd.underlying9, run_bytesToString w ad 0 c [] hl]
      rfl
  · rw [run_convert_bytes_arg w _ _ Tryd.underlying69 Tryd.underlying5 b o ys.length c (ys.map Int.ofNat) (by simp) ?_ _ Tryd.underlying9]
    · simp [strOfNums, mkS, List.map_map, Function.comp_def]
    · intro i hi
      rw [hc i _ (bs_get ys i hi)]
      simp [List.getD, List.getElem?_eq_getElem hi]

def BoolRes (w : World) (p : Bool) (e : Ending) (w' : World) : Prop := e = .returned (.bool p) ∧ ∃ k, w' = w.drewN k
theorem BoolRes.mk {w : World} {p q : Bool} {k : Nat} (h : q = p) : BoolRes w p (.returned (.bool q)) (w.drewN k) := by subst h; exact ⟨rfl, k, rfl⟩
theorem run_part {P : Program} (w : World) (e : TypeId) (k : IntKind) (he : P.underlying e = some (.int k)) (cs : Array Value) (o : Nat) (v : Value) (hv : cs[o]? = some v) : (Go.part e cs o).run P w = .ok v w := by
  have hagg : (isAgg e).run P w = .ok false w := by
    unfold isAgg
    rw [Sem.run_bind, run_underlying he w]
    rfl
  unfold Go.part
  rw [Sem.run_bind, hagg]
  simp [hv]

theorem run_forIn_eq {P : Program} (w : World) (f : Nat → (Option Bool × Unit) → Sem (ForInStep (Option Bool × Unit))) (q : Nat → Bool)
    : ∀ (l : List Nat) (hf : ∀ i, i ∈ l → (f i (none, ())).run P w = .ok (if q i then .yield (none, ()) else .done (some false, ())) w), (forIn l ((none : Option Bool), ()) f).run P w = .ok (if l.all q then (none, ()) else (some false, ())) w
  | [], _ => by simp
  | i :: l, hf => by
    rw [List.forIn_cons, Sem.run_bind, hf i (by simp)]
    by_cases h : q i = true
    · simp only [h, if_true, Result.andThen_ok]
      rw [run_forIn_eq w f q l (fun j hj => hf j (by simp [hj]))]
      simp [h]
    · simp [h]

theorem run_eqArr {P : Program} (w : World) (d n : Nat) (t e : TypeId) (k : IntKind) (ht : P.underlying t = some (.array n e)) (he : P.underlying e = some (.int k)) (hi : (P.info? e).map (·.size) = some 1) (xs ys : List Int) (hx : xs.length = n) (hy : ys.length = n) :
    (Op.equalIn (d + 2) t (.agg (xs.map (Value.int k)).toArray) (.agg (ys.map (Value.int k)).toArray)).run P w = .ok (decide (xs = ys)) w := by
  obtain ⟨i0, hi0, hi1⟩ := Option.map_eq_some_iff.1 hi
  unfold Op.equalIn
  simp only [Sem.run_bind, run_underlying ht, Result.andThen_ok, sizeOf, typeInfo, hi0, hi1, run_program, Sem.run_pure]
  rw [Std.Legacy.Range.forIn_eq_forIn_range']
  rw [run_forIn_eq w _ (fun i => decide (xs[i]? = ys[i]?))]
  · have hq : (List.range' ([:n] : Std.Legacy.Range).start ([:n] : Std.Legacy.Range).size ([:n] : Std.Legacy.Range).step).all (fun i => decide (xs[i]? = ys[i]?)) = decide (xs = ys) := by
      rw [Bool.eq_iff_iff, List.all_eq_true, decide_eq_true_iff]
      constructor
      · intro h
        apply List.ext_getElem?
        intro i
        by_cases hi : i < n
        · have := h i (by simp [Std.Legacy.Range.size]; omega)
          simpa using this
        · rw [List.getElem?_eq_none (by omega), List.getElem?_eq_none (by omega)]
      · rintro rfl i _; simp
    rw [hq]
    by_cases h : xs = ys <;> simp [h]
  · intro i hi
    have hin : i < n := by simp [Std.Legacy.Range.size] at hi; omega
    have hxi : xs[i]? = some xs[i] := List.getElem?_eq_getElem (by omega)
    have hyi : ys[i]? = some ys[i] := List.getElem?_eq_getElem (by omega)
    rw [Sem.run_bind, run_part w e k he _ _ (.int k xs[i]) (by simp [hxi])]
    simp only [Result.andThen_ok]
    rw [Sem.run_bind, run_part w e k he _ _ (.int k ys[i]) (by simp [hyi])]
    simp only [Result.andThen_ok]
    rw [Sem.run_bind, run_equalIn_int w d e k k _ _ he]
    simp only [Result.andThen_ok, hxi, hyi, Option.some.injEq]
    by_cases h : xs[i] = ys[i] <;> simp [h]

/-- In a region that draws its order and only reads: a whole array is read. -/
theorem wpQuiet_load {P : Program} {ops : Array Oper} {C : World → Prop} {Q : Act → Prop} {a : Act} {o : Oper} {rest : List Oper} (hgd : o.guard = none) (ty : TypeId) (x : Operand) (ho : o.op = .load ty x)
    (b k : Nat) (hx : a.eval x = .pointer (some ⟨b, k, none⟩)) (cs : List Value) (d : TypeDesc) (hc : ∀ w, C w → w.rangeAt b k cs)
    (hu : P.underlying ty = some d) (hd : d.isRow = true) (hi : (P.info? ty).map (·.size) = some cs.length)
    (h : wpQuiet P ops C Q rest (a.put o.dst (.agg cs.toArray))) : wpQuiet P ops C Q (o :: rest) a := by
  refine wpQuiet_step fun K hK => ?_
  have hw : Region.wanted o (yielded ops a.tmps) = true := by simp [Region.wanted, hgd]
  rw [if_pos hw]
  refine ⟨_, fun w hCw => ?_, hK _ h⟩
  unfold Oper.quietAt execOp
  simp only [ho, hx, Instr.loadAt, Instr.sureAddr, Sem.run_bind, Sem.run_pure, Result.andThen_ok, run_loadVar_mid w b k ty cs d (hc w hCw) hu hd hi]
  exact ⟨rfl, rfl⟩
theorem later {w w' w'' : World} (h : Below w.heap.size w w') (h' : Below w'.heap.size w' w'') : Below w.heap.size w w'' := h.trans (h'.mono h.size)
theorem new_later (w : World) (o : Obj) : Below w.heap.size w (w.alloc o) := (Below.refl _ w).alloc (Nat.le_refl _) o
theorem Rd.later {w w' : World} {A : Option Addr} {xs : List Value} (h : Rd w w.heap.size A xs) (hb : Below w.heap.size w w') : Rd w' w'.heap.size A xs := (h.below hb).more hb.size
theorem row_later {w w' : World} {g : Nat} {o : Obj} (h : w.heap[g]? = some o) (hb : Below w.heap.size w w') : w'.heap[g]? = some o := (hb.block g (Array.getElem?_eq_some_iff.1 h).1).trans h
theorem quiet (W : World) (k : Nat) : Below W.heap.size W (W.drewN k) := below_drewN (Below.refl _ _) k
/-- A new row of these bytes. -/
def RowRes (X : List Nat) (w : World) (e : Ending) (w' : World) : Prop := ∃ A c, e = .returned (.slice A X.length c) ∧ Rd w' w'.heap.size A (bs X) ∧ X.length ≤ c ∧ c ≤ maxLen ∧ Below w.heap.size w w'
theorem RowRes.of {X : List Nat} {w : World} {f : FuncId} {args : Array Value} (h : Calls Tryd.prog f args w fun e w' => ∃ v', e = .returned v' ∧ OwnB w' w.heap.size v' X ∧ Below w.heap.size w w') : Calls Tryd.prog f args w (RowRes X w) := by
  refine h.mono fun e w' ⟨v', h1, h2, h3⟩ => ?_
  obtain ⟨A, c, rfl, hc1, hc2⟩ := h2.shape
  exact ⟨A, c, h1, h2.rd, hc1, hc2, h3⟩

theorem fold_zip : ∀ (us pre z : List Value), us.length = z.length → List.foldl (fun (cs : Array Value) (x : Value × Nat) => cs.setIfInBounds x.snd x.fst) (pre ++ z).toArray (us.zipIdx pre.length) = (pre ++ us).toArray
  | [], pre, z, h => by
    have : z = [] := List.eq_nil_of_length_eq_zero h.symm
    subst this; rfl
  | u :: us, pre, z, h => by
    cases z with
    | nil => simp at h
    | cons y z =>
      have ih := fold_zip us (pre ++ [u]) z (by simpa using h)
      rw [List.zipIdx_cons, List.foldl_cons]
      have e : (pre ++ y :: z).toArray.setIfInBounds pre.length u = (pre ++ [u] ++ z).toArray := by
        rw [List.setIfInBounds_toArray, List.set_append_right _ _ (Nat.le_refl _)]
        simp
      simp only [e]
      rw [List.length_append, List.length_singleton] at ih
      rw [ih]; simp
theorem fold_agg (us : List Value) (z : List Value) (h : us.length = z.length) : List.foldl (fun (cs : Array Value) (x : Value × Nat) => cs.setIfInBounds x.snd x.fst) z.toArray us.zipIdx = us.toArray := fold_zip us [] z h

/-- 'append(out, x)', x of several cells in a block of its own, which was laid just before. -/
theorem wpList_putN {P : Program} {w : World} {base : Nat} {e t : TypeId} {z : Value} {bytes size : Nat} {v : Value} {n : Nat} {xs us : List Value} {cs : Array Value} {ops : Array Oper} {rest : List Oper} {o : Oper} {a : Act} {Q : Exit → Act → World → Prop} {c : Nat}
    (hcs : cs = us.toArray) (hown : w.ownsRow base e size v n xs) (ht : P.underlying t = some (.slice e)) (hi : (P.info? e).map (fun i => (i.zero, i.size, i.bytes)) = some (some z, size, bytes)) (hzs : z.cells.size = size) (hsz : 0 < size) (hul : us.length = size)
    (hu : ∀ u ∈ us, u.oneCell' = true) (hbase : base ≤ w.heap.size) (h63 : n + 1 ≤ maxLen) (hbytes : (n + 1) * bytes ≤ 140737488355328)
    (hgd : o.guard = none) (s x : Operand) (ho : o.op = .call { callee := .builtin .append, args := #[s, x], argTypes := #[t, t] })
    (hs : a.eval s = v) (hx : a.eval x = .slice (some ⟨w.heap.size, 0, none⟩) 1 c)
    (h : ∀ v' w', w'.ownsRow base e size v' (n + 1) (xs ++ us) → Below base w w' → wpList P ops Q rest (a.put o.dst v') w') :
    wpList P ops Q (o :: rest) a (w.alloc (.cells cs e)) := by
  subst hcs
  obtain ⟨i0, hi0, hz0, hz1, hz2⟩ := info_parts hi
  refine wpList_append_own _ hgd s x t ho base e i0 z size bytes ht hi0 hz0 hz1 hz2 hzs hsz v n xs hs (hown.alloc _) ⟨w.heap.size, 0, none⟩ 1 c us hx (by omega) ?_ hu h63 hbytes (by simp; omega) ?_
  · intro j y hj
    have ha : (⟨w.heap.size, 0, none⟩ : Addr).add j = ⟨w.heap.size, 0 + j, none⟩ := by unfold Addr.add; split <;> simp_all
    rw [ha, cell_of_row (w.alloc (.cells us.toArray e)) w.heap.size (0 + j) us.toArray e (0, 0) (heap_alloc_new w _)]
    simpa using hj
  · intro v' w' ho' hg _
    exact h v' w' ho' (((Below.refl base w).alloc hbase _).grown hg (by simp; omega) (fun k hk => (hown.lt k hk).1))
/-- A variable of several cells, just laid. -/
theorem arr_new (w : World) (e : TypeId) (cs : Array Value) (n : Nat) (hn : cs.size = n) (hm : n ≤ maxLen) : (w.alloc (.cells cs e)).ownsRow w.heap.size e 1 (.slice (some ⟨w.heap.size, 0, none⟩) n n) n cs.toList :=
  ⟨by simp [hn], .inr ⟨w.heap.size, n, cs, rfl, Nat.le_refl _, heap_alloc_new w _, Nat.le_refl _, hm, by omega, by rw [List.take_of_length_le (by simp; omega)]⟩⟩
theorem arr_range {w : World} {g n : Nat} {e : TypeId} {xs : List Value} (h : w.ownsRow g e 1 (.slice (some ⟨g, 0, none⟩) n n) n xs) : w.rangeAt g 0 xs := by
  intro j v hv
  have hj : j < n := by have := (List.getElem?_eq_some_iff.1 hv).1; have := h.1; omega
  rw [Nat.zero_add, h.cellAt j (by omega)]
  exact hv

end Go.Proofs.YtjbleefpafnhhaaDoor
/-
  A variable of the call's own: n cells in a block.
-/
set_option linter.unusedVariables false
namespace Go.Proofs.YtjbleefpafnhhaaDoor
open Go.RowKit

/-- A variable of the call's own: n words in block g. -/
def Arr (W : World) (g n : Nat) (e : TypeId) (xs : List Value) : Prop := W.ownsRow g e 1 (.slice (some ⟨g, 0, none⟩) n n) n xs
theorem Arr.new (w : World) (e : TypeId) (cs : Array Value) (n : Nat) (hn : cs.size = n) (hm : n ≤ 1000) : Arr (w.alloc (.cells cs e)) w.heap.size n e cs.toList := arr_new w e cs n hn (by simp [maxLen]; omega)
theorem Arr.new' (w : World) (e : TypeId) (cs : Array Value) (n : Nat) (xs : List Value) (hx : cs.toList = xs) (hn : xs.length = n) (hm : n ≤ 1000) : Arr (w.alloc (.cells cs e)) w.heap.size n e xs := by
  subst hx; exact Arr.new w e cs n (by simpa using hn) hm
theorem Arr.below {W W' : World} {g n B : Nat} {e : TypeId} {xs : List Value} (h : Arr W g n e xs) (hb : Below B W W') (hg : g < B) : Arr W' g n e xs :=
  own_below h hb (fun k hk => by simp [Value.ownBlock] at hk; omega)
theorem Arr.later {W W' : World} {g n : Nat} {e : TypeId} {xs : List Value} (h : Arr W g n e xs) (hb : Below W.heap.size W W') : Arr W' g n e xs := own_below' h hb
theorem Arr.cell {W : World} {g n : Nat} {e : TypeId} {xs : List Value} (h : Arr W g n e xs) {j : Nat} {v : Value} (hv : xs[j]? = some v) : W.cell? ⟨g, j, none⟩ = some v := by
  have hj : j < n := by have := (List.getElem?_eq_some_iff.1 hv).1; have := h.1; omega
  rw [World.ownsRow.cellAt h j (by omega)]; exact hv
theorem Arr.free {W : World} {g n : Nat} {e : TypeId} {xs : List Value} (h : Arr W g n e xs) (j : Nat) : W.frozen? ⟨g, j, none⟩ = false := World.ownsRow.frozenAt h j
theorem Arr.set_ {W : World} {g n : Nat} {e : TypeId} {xs : List Value} (h : Arr W g n e xs) (j : Nat) (v : Value) : Arr (W.setCell ⟨g, j, none⟩ v) g n e (xs.set j v) := (World.ownsRow.stored h j v).1
theorem Arr.lt {W : World} {g n : Nat} {e : TypeId} {xs : List Value} (h : Arr W g n e xs) : g < W.heap.size := (World.ownsRow.lt h g rfl).2
theorem Arr.range {W : World} {g n : Nat} {e : TypeId} {xs : List Value} (h : Arr W g n e xs) : W.rangeAt g 0 xs := arr_range h
theorem Arr.other {W : World} {g n b j : Nat} {e : TypeId} {xs : List Value} (h : Arr W g n e xs) (hb : b ≠ g) (v : Value) : Arr (W.setCell ⟨b, j, none⟩ v) g n e xs := by
  refine ⟨h.1, ?_⟩
  rcases h.2 with h2 | ⟨g', cap, cur, hv, hg, hh, r⟩
  · exact .inl h2
  · refine .inr ⟨g', cap, cur, hv, hg, ?_, r⟩
    rw [Below.heap_setCell _ _ _ _ (by cases hv; simp; omega)]
    exact hh
theorem Arr.there {W : World} {g n : Nat} {e : TypeId} {xs : List Value} (h : Arr W g n e xs) : W.there g 0 n := fun j hj => by
  refine ⟨?_, by rw [Nat.zero_add]; exact h.free j⟩
  rw [Nat.zero_add, World.ownsRow.cellAt h j (by omega), List.getElem?_eq_getElem (by have := h.1; omega)]
  rfl

theorem Arr.of_row {W : World} {g n : Nat} {e : TypeId} {xs : List Value} (h : W.heap[g]? = some (.cells xs.toArray e (0, 0))) (hn : xs.length = n) (hm : n ≤ 1000) : Arr W g n e xs :=
  ⟨by omega, .inr ⟨g, n, xs.toArray, rfl, Nat.le_refl _, h, Nat.le_refl _, by simp only [maxLen]; omega, by simpa using hn, by simp [hn.symm]⟩⟩

end Go.Proofs.YtjbleefpafnhhaaDoor
/-
  Trees: values of the document's type Value, as plain data, and how they lie in a world (three cells a node: kind, number, kids).
-/
set_option linter.unusedVariables false
namespace Go.Proofs.YtjbleefpafnhhaaDoor
open Go.RowKit

/-- A value: kind, number, kids. -/
inductive Tr where
  | node (k n : Int) (ks : List Tr)
mutual
def Tr.nodes : Tr → Nat
  | .node _ _ ks => nodesL ks + 1
def nodesL : List Tr → Nat
  | [] => 0
  | x :: xs => x.nodes + nodesL xs
end
theorem Tr.nodes_pos (x : Tr) : 0 < x.nodes := by cases x; unfold Tr.nodes; omega
theorem nodesL_get : ∀ {xs : List Tr} {j : Nat} {x : Tr}, xs[j]? = some x → x.nodes ≤ nodesL xs
  | [], j, x, h => by simp at h
  | y :: ys, 0, x, h => by simp at h; subst h; unfold nodesL; omega
  | y :: ys, j + 1, x, h => by
    have := nodesL_get (xs := ys) (j := j) (x := x) (by simpa using h)
    unfold nodesL; omega
def Tr.kids : Tr → List Tr
  | .node _ _ ks => ks
theorem Tr.kid_less {k n : Int} {ks : List Tr} {j : Nat} {x : Tr} (h : ks[j]? = some x) : x.nodes < (Tr.node k n ks).nodes := by
  have h1 := nodesL_get h
  have e : (Tr.node k n ks).nodes = nodesL ks + 1 := by rw [Tr.nodes]
  omega

/-- The three cells of a node. -/
def c3 (k n : Int) (A : Option Addr) (len cap : Nat) : List Value := [.int .i64 k, .int .i64 n, .slice A len cap]
/-- A number of the type int. -/
def i64r (x : Int) : Prop := -9223372036854775808 ≤ x ∧ x ≤ 9223372036854775807
mutual
/-- The value v is the tree x in the world w. -/
def TrAt (w : World) : Tr → Value → Prop
  | .node k n ks, v => ∃ A cap, v = .agg (c3 k n A ks.length cap).toArray ∧ (ks.length ≤ cap ∧ cap ≤ maxLen ∧ i64r k ∧ i64r n) ∧ KsAt w A 0 ks
/-- The list of kids lies at A, from the i-th on. -/
def KsAt (w : World) (A : Option Addr) : Nat → List Tr → Prop
  | _, [] => True
  | i, x :: xs => (∃ g o cs, A = some ⟨g, o, none⟩ ∧ w.rangeAt g (o + i * 3) cs ∧ TrAt w x (.agg cs.toArray)) ∧ KsAt w A (i + 1) xs
end
theorem KsAt.get {w : World} {A : Option Addr} : ∀ {xs : List Tr} {i j : Nat} {x : Tr}, KsAt w A i xs → xs[j]? = some x → ∃ g o cs, A = some ⟨g, o, none⟩ ∧ w.rangeAt g (o + (i + j) * 3) cs ∧ TrAt w x (.agg cs.toArray)
  | [], i, j, x, _, h => by simp at h
  | y :: ys, i, 0, x, hk, h => by
    simp at h; subst h
    unfold KsAt at hk
    exact hk.1
  | y :: ys, i, j + 1, x, hk, h => by
    unfold KsAt at hk
    have := KsAt.get hk.2 (j := j) (x := x) (by simpa using h)
    rwa [show i + 1 + j = i + (j + 1) by omega] at this
theorem range_below {w w' : World} {g o : Nat} {cs : List Value} (h : w.rangeAt g o cs) (hb : Below w.heap.size w w') : w'.rangeAt g o cs := fun j v hv => by
  have h1 := h j v hv
  rw [hb.cell (World.block_lt_of_cell? w _ h1)]
  exact h1
mutual
theorem TrAt.later {w w' : World} (hb : Below w.heap.size w w') : ∀ {x : Tr} {v : Value}, TrAt w x v → TrAt w' x v
  | .node k n ks, v, h => by
    unfold TrAt at h ⊢
    obtain ⟨A, cap, h1, hm, h2⟩ := h
    exact ⟨A, cap, h1, hm, KsAt.later hb h2⟩
theorem KsAt.later {w w' : World} (hb : Below w.heap.size w w') : ∀ {xs : List Tr} {A : Option Addr} {i : Nat}, KsAt w A i xs → KsAt w' A i xs
  | [], A, i, h => by unfold KsAt; trivial
  | x :: xs, A, i, h => by
    unfold KsAt at h ⊢
    obtain ⟨⟨g, o, cs, h1, h2, h3⟩, h4⟩ := h
    exact ⟨⟨g, o, cs, h1, range_below h2 hb, TrAt.later hb h3⟩, KsAt.later hb h4⟩
end
theorem TrAt.shape {w : World} {x : Tr} {v : Value} (h : TrAt w x v) : ∃ k n A len cap, v = .agg (c3 k n A len cap).toArray := by
  cases x with
  | node k n ks =>
    unfold TrAt at h
    obtain ⟨A, cap, h1, _⟩ := h
    exact ⟨k, n, A, _, cap, h1⟩

/-! ### Size. -/
mutual
def Tr.sz : Tr → Int
  | .node _ _ ks => szL 1 ks
def szL (a : Int) : List Tr → Int
  | [] => a
  | x :: xs => szL (wrap64 (a + x.sz)) xs
end
theorem szL_snoc : ∀ (xs : List Tr) (a : Int) (x : Tr), szL a (xs ++ [x]) = wrap64 (szL a xs + x.sz)
  | [], a, x => by simp [szL]
  | y :: ys, a, x => by rw [List.cons_append]; unfold szL; exact szL_snoc ys _ x

/-! ### Weight. -/
def wtOf (k n len sum : Int) : Int := if k = 0 then (if n < 0 then wrap64 (-n) else n) else if k = 1 then n else if k = 2 then sum else if k = 3 then wrap64 (n + sum) else if k = 4 then wrap64 (len + sum) else 0
mutual
def Tr.wt : Tr → Int
  | .node k n ks => wtOf k n (ks.length : Int) (wtL 0 ks)
def wtL (a : Int) : List Tr → Int
  | [] => a
  | x :: xs => wtL (wrap64 (a + x.wt)) xs
end
theorem wtL_snoc : ∀ (xs : List Tr) (a : Int) (x : Tr), wtL a (xs ++ [x]) = wrap64 (wtL a xs + x.wt)
  | [], a, x => by simp [wtL]
  | y :: ys, a, x => by rw [List.cons_append]; unfold wtL; exact wtL_snoc ys _ x

/-! ### Depth. -/
mutual
def Tr.dp : Tr → Int
  | .node _ _ ks => wrap64 (dpL 0 ks + 1)
def dpL (a : Int) : List Tr → Int
  | [] => a
  | x :: xs => dpL (max a x.dp) xs
end
theorem dpL_snoc : ∀ (xs : List Tr) (a : Int) (x : Tr), dpL a (xs ++ [x]) = max (dpL a xs) x.dp
  | [], a, x => by simp [dpL]
  | y :: ys, a, x => by rw [List.cons_append]; unfold dpL; exact dpL_snoc ys _ x

/-! ### The order. -/
def cmpI (x y : Int) : Int := if x < y then -1 else if y < x then 1 else 0
mutual
def Tr.cp : Tr → Tr → Int
  | .node k n ks, .node k' n' ks' => if cmpI k k' ≠ 0 then cmpI k k' else if cmpI n n' ≠ 0 then cmpI n n' else if cmpI (ks.length : Int) (ks'.length : Int) ≠ 0 then cmpI (ks.length : Int) (ks'.length : Int) else cpL ks ks'
def cpL : List Tr → List Tr → Int
  | [], _ => 0
  | _ :: _, [] => 0
  | x :: xs, y :: ys => if x.cp y ≠ 0 then x.cp y else cpL xs ys
end
theorem cpL_drop (xs ys : List Tr) (j : Nat) (hx : j < xs.length) (hy : j < ys.length) : cpL (xs.drop j) (ys.drop j) = if xs[j].cp ys[j] ≠ 0 then xs[j].cp ys[j] else cpL (xs.drop (j + 1)) (ys.drop (j + 1)) := by
  rw [List.drop_eq_getElem_cons hx, List.drop_eq_getElem_cons hy, cpL]
end Go.Proofs.YtjbleefpafnhhaaDoor
set_option linter.unusedVariables false
set_option linter.unusedSimpArgs false
namespace Go.Proofs.YtjbleefpafnhhaaDoor
open Go.RowKit

theorem info_val : (Tryd.prog.info? 53).map (·.size) = some 3 := by kernel_rfl
/-- A number, and nothing below has turned. -/
def NumRes (X : Int) (w : World) (e : Ending) (w' : World) : Prop := e = .returned (.int .i64 X) ∧ Below w.heap.size w w'

set_option maxHeartbeats 2000000 in
set_option maxRecDepth 100000 in
theorem size_step (k n : Int) (ks : List Tr) (A : Option Addr) (cap : Nat) (w : World) (hk : KsAt w A 0 ks) (HM : Hid (ks.length ≤ cap ∧ cap ≤ maxLen ∧ i64r k ∧ i64r n))
    (ih : Hid (∀ (j : Nat) (x : Tr), ks[j]? = some x → ∀ W v, TrAt W x v → Calls Tryd.prog 28 #[v] W (NumRes x.sz W))) :
    Calls Tryd.prog 28 #[.agg (c3 k n A ks.length cap).toArray] w (NumRes (szL 1 ks) w) := by
  have HK := Lib.hid hk
  have P1 := Arr.new' w 53 (c3 k n A ks.length cap).toArray 3 (c3 k n A ks.length cap) rfl rfl (by decide)
  have HCV : Hid (c3 k n A ks.length cap = [.int .i64 k, .int .i64 n, .slice A ks.length cap]) := Lib.hid rfl
  have V0 := new_later w (.cells (c3 k n A ks.length cap).toArray 53)
  clear hk
  go_enter Tryd.func28, Tryd.ntmps28
  go_upto_region 1 with fail
  have hc2 := P1.cell (j := 2) (v := .slice A ks.length cap) rfl
  generalize w.alloc (.cells (c3 k n A ks.length cap).toArray 53) = wa at P1 V0 hc2 ⊢
  go_wp2_with fail
  go_loopw [3, 9] (fun s i W => ∃ j : Nat, j ≤ ks.length ∧ i = .int .i64 (j : Int) ∧ s = .int .i64 (szL 1 (ks.take j)) ∧ Below w.heap.size w W) (fun _ i _ => ks.length - (intOf i).toNat)
  case atStart => exact ⟨0, by omega, rfl, rfl, V0⟩
  case round =>
    obtain ⟨j, hj, rfl, rfl, V1⟩ := hrel
    by_cases hlt : j < ks.length
    · have hji : (j : Int) < (ks.length : Int) := by omega
      have hj0 : (0 : Int) ≤ (j : Int) := by omega
      have hjm : (j : Int) + 1 ≤ 9223372036854775807 := by have := HM.out; simp only [maxLen] at this; omega
      have hkj : ks[j]? = some ks[j] := List.getElem?_eq_getElem hlt
      obtain ⟨g, o, cs, hA, hr, ht⟩ := KsAt.get (HK.out.later V1) hkj
      subst hA
      rw [Nat.zero_add] at hr
      have HSN : Hid (szL 1 (ks.take (j + 1)) = wrap64 (szL 1 (ks.take j) + ks[j].sz)) := Lib.hid (by rw [List.take_succ_eq_append_getElem hlt]; exact szL_snoc _ _ _)
      have HIH : Hid (∀ W v, TrAt W ks[j] v → Calls Tryd.prog 28 #[v] W (NumRes ks[j].sz W)) := Lib.hid (ih.out j _ hkj)
      generalize ks[j] = x at HSN HIH ht
      generalize szL 1 (ks.take j) = S at HSN ⊢
      obtain ⟨k', n', A', len', cap', hsh⟩ := ht.shape
      have hcs : cs = c3 k' n' A' len' cap' := by simpa using hsh
      subst hcs
      have HR := Lib.hid hr
      have HT := Lib.hid ht
      have HC3 : Hid ((c3 k' n' A' len' cap').length = 3) := Lib.hid rfl
      have HI3 : Hid ((Tryd.prog.info? 53).map (·.size) = some (c3 k' n' A' len' cap').length) := Lib.hid info_val
      have HOC : Hid (∀ v ∈ c3 k' n' A' len' cap', v.oneCell' = true) := Lib.hid (by intro v hv; simp [c3] at hv; rcases hv with rfl | rfl | rfl <;> rfl)
      generalize c3 k' n' A' len' cap' = C at HR HT HC3 HI3 HOC
      clear hr ht hsh hkj
      go_wp2_with (first
        | (with_reducible refine wpList_load_mid rfl _ (.tmp 11) rfl g (o + j * 3) rfl C _ HR.out Tryd.underlying53 rfl HI3.out ?_)
        | (refine wpList_store_new rfl _ (.tmp 5) (.tmp 12) rfl rfl rfl info_val HC3.out rfl (all_oneCell_toArray HOC.out) ?_; intro w5 hbel5 hrow5 hsz5; have T5 : Arr w5 wr.heap.size 3 53 C := Arr.of_row hrow5 HC3.out (by decide); have V5 := later V1 hbel5; have HT5 := Lib.hid (HT.out.later hbel5); clear hrow5)
        | (with_reducible refine wpList_load_mid rfl _ (.tmp 5) rfl wr.heap.size 0 rfl C _ T5.range Tryd.underlying53 rfl HI3.out ?_)
        | (go_at_call 28; (with_reducible refine (HIH.out _ _ HT5.out).mono ?_); rintro e w6 ⟨rfl, hb6⟩; have V6 := later V5 hb6))
      refine ⟨⟨j + 1, hlt, by go_num, by rw [HSN.out], V6⟩, by simp [intOf]; omega⟩
    · have hje : j = ks.length := by omega
      subst hje
      rw [List.take_length]
      go_wp2_with fail
      go_ret
      exact ⟨rfl, V1⟩
theorem size_any : ∀ (N : Nat) (x : Tr), x.nodes ≤ N → ∀ (w : World) (v : Value), TrAt w x v → Calls Tryd.prog 28 #[v] w (NumRes x.sz w)
  | 0, x, hN, _, _, _ => absurd hN (by have := x.nodes_pos; omega)
  | N + 1, .node k n ks, hN, w, v, h => by
    unfold TrAt at h
    obtain ⟨A, cap, rfl, hm, hk⟩ := h
    rw [Tr.sz]
    exact size_step k n ks A cap w hk (Lib.hid hm) (Lib.hid fun j x hx W v' h' => size_any N x (by have := Tr.kid_less (k := k) (n := n) hx; omega) W v' h')
end Go.Proofs.YtjbleefpafnhhaaDoor
set_option linter.unusedVariables false
set_option linter.unusedSimpArgs false
namespace Go.Proofs.YtjbleefpafnhhaaDoor
open Go.RowKit

/-- What a walk needs of the next kid: its three cells, where they lie, and that it is a tree. -/
theorem kid_at {w : World} {A : Option Addr} {ks : List Tr} {j : Nat} {x : Tr} (h : KsAt w A 0 ks) (hx : ks[j]? = some x) :
    ∃ g o C, A = some ⟨g, o, none⟩ ∧ Hid (w.rangeAt g (o + j * 3) C) ∧ Hid (TrAt w x (.agg C.toArray)) ∧ Hid (C.length = 3) ∧ Hid ((Tryd.prog.info? 53).map (·.size) = some C.length) ∧ Hid (∀ v ∈ C, v.oneCell' = true) := by
  obtain ⟨g, o, cs, hA, hr, ht⟩ := KsAt.get h hx
  rw [Nat.zero_add] at hr
  obtain ⟨k', n', A', len', cap', hsh⟩ := ht.shape
  have hcs : cs = c3 k' n' A' len' cap' := by simpa using hsh
  subst hcs
  exact ⟨g, o, _, hA, Lib.hid hr, Lib.hid ht, Lib.hid rfl, Lib.hid info_val, Lib.hid (by intro v hv; simp [c3] at hv; rcases hv with rfl | rfl | rfl <;> rfl)⟩
theorem c3_new (w : World) (k n : Int) (A : Option Addr) (len cap : Nat) : Arr (w.alloc (.cells (c3 k n A len cap).toArray 53)) w.heap.size 3 53 (c3 k n A len cap) := Arr.new' w _ _ 3 _ rfl rfl (by decide)

set_option maxHeartbeats 2000000 in
set_option maxRecDepth 100000 in
theorem rsize_step (k n : Int) (ks : List Tr) (A : Option Addr) (cap : Nat) (w : World) (hk : KsAt w A 0 ks) (HM : Hid (ks.length ≤ cap ∧ cap ≤ maxLen ∧ i64r k ∧ i64r n))
    (ih : Hid (∀ (j : Nat) (x : Tr), ks[j]? = some x → ∀ W v, TrAt W x v → Calls Tryd.prog 29 #[v] W (NumRes x.sz W))) :
    Calls Tryd.prog 29 #[.agg (c3 k n A ks.length cap).toArray] w (NumRes (szL 1 ks) w) := by
  have HK := Lib.hid hk
  have P1 := c3_new w k n A ks.length cap
  have V0 := new_later w (.cells (c3 k n A ks.length cap).toArray 53)
  clear hk
  go_enter Tryd.func29, Tryd.ntmps29
  go_upto_region 1 with fail
  generalize w.alloc (.cells (c3 k n A ks.length cap).toArray 53) = wa at P1 V0 ⊢
  go_wp2_with fail
  go_loopw [3, 4] (fun s i W => ∃ j : Nat, j ≤ ks.length ∧ i = .int .i64 (j : Int) ∧ s = .int .i64 (szL 1 (ks.take j)) ∧ Below wa.heap.size wa W) (fun _ i _ => ks.length - (intOf i).toNat)
  case atStart => exact ⟨0, by omega, rfl, rfl, Below.refl _ _⟩
  case round =>
    obtain ⟨j, hj, rfl, rfl, V1⟩ := hrel
    have hc2 := (P1.later V1).cell (j := 2) (v := .slice A ks.length cap) rfl
    by_cases hlt : j < ks.length
    · have hji : (j : Int) < (ks.length : Int) := by omega
      have hj0 : (0 : Int) ≤ (j : Int) := by omega
      have hjm : (j : Int) + 1 ≤ 9223372036854775807 := by have := HM.out; simp only [maxLen] at this; omega
      have hkj : ks[j]? = some ks[j] := List.getElem?_eq_getElem hlt
      obtain ⟨g, o, C, hA, HR, HT, HC3, HI3, HOC⟩ := kid_at (HK.out.later (later V0 V1)) hkj
      subst hA
      have HSN : Hid (szL 1 (ks.take (j + 1)) = wrap64 (szL 1 (ks.take j) + ks[j].sz)) := Lib.hid (by rw [List.take_succ_eq_append_getElem hlt]; exact szL_snoc _ _ _)
      have HIH : Hid (∀ W v, TrAt W ks[j] v → Calls Tryd.prog 29 #[v] W (NumRes ks[j].sz W)) := Lib.hid (ih.out j _ hkj)
      generalize ks[j] = x at HSN HIH HT
      generalize szL 1 (ks.take j) = S at HSN ⊢
      clear hkj
      go_wp2_with (first
        | (with_reducible refine wpList_load_mid rfl _ (.tmp 16) rfl g (o + j * 3) rfl C _ HR.out Tryd.underlying53 rfl HI3.out ?_)
        | (go_at_call 29; (with_reducible refine (HIH.out _ _ HT.out).mono ?_); rintro e w6 ⟨rfl, hb6⟩; have V6 := later V1 hb6))
      refine ⟨⟨j + 1, hlt, by go_num, by rw [HSN.out], V6⟩, by simp [intOf]; omega⟩
    · have hje : j = ks.length := by omega
      subst hje
      rw [List.take_length]
      go_wp2_with fail
      go_ret
      exact ⟨rfl, later V0 V1⟩
theorem rsize_any : ∀ (N : Nat) (x : Tr), x.nodes ≤ N → ∀ (w : World) (v : Value), TrAt w x v → Calls Tryd.prog 29 #[v] w (NumRes x.sz w)
  | 0, x, hN, _, _, _ => absurd hN (by have := x.nodes_pos; omega)
  | N + 1, .node k n ks, hN, w, v, h => by
    unfold TrAt at h
    obtain ⟨A, cap, rfl, hm, hk⟩ := h
    rw [Tr.sz]
    exact rsize_step k n ks A cap w hk (Lib.hid hm) (Lib.hid fun j x hx W v' h' => rsize_any N x (by have := Tr.kid_less (k := k) (n := n) hx; omega) W v' h')
end Go.Proofs.YtjbleefpafnhhaaDoor
/-
  Trees of types: values of the document's type Type, as plain data, and how they lie in a world (five cells a node: kind, the three numbers of an ID, kids); rows of cells of any width.
-/
set_option linter.unusedVariables false
namespace Go.Proofs.YtjbleefpafnhhaaDoor
open Go.RowKit

/-- A type: kind, the three numbers of an ID, kids. -/
inductive Ty where
  | node (k s q i : Int) (ks : List Ty)
mutual
def Ty.nodes : Ty → Nat
  | .node _ _ _ _ ks => tnodesL ks + 1
def tnodesL : List Ty → Nat
  | [] => 0
  | x :: xs => x.nodes + tnodesL xs
end
theorem Ty.nodes_pos (x : Ty) : 0 < x.nodes := by cases x; unfold Ty.nodes; omega
theorem tnodesL_get : ∀ {xs : List Ty} {j : Nat} {x : Ty}, xs[j]? = some x → x.nodes ≤ tnodesL xs
  | [], j, x, h => by simp at h
  | y :: ys, 0, x, h => by simp at h; subst h; unfold tnodesL; omega
  | y :: ys, j + 1, x, h => by
    have := tnodesL_get (xs := ys) (j := j) (x := x) (by simpa using h)
    unfold tnodesL; omega
theorem Ty.kid_less {k s q i : Int} {ks : List Ty} {j : Nat} {x : Ty} (h : ks[j]? = some x) : x.nodes < (Ty.node k s q i ks).nodes := by
  have h1 := tnodesL_get h
  have e : (Ty.node k s q i ks).nodes = tnodesL ks + 1 := by rw [Ty.nodes]
  omega
/-- The five cells of a node. -/
def t5 (k s q i : Int) (A : Option Addr) (len cap : Nat) : List Value := [.int .i64 k, .int .i64 s, .int .i64 q, .int .i64 i, .slice A len cap]
mutual
/-- The value v is the type x in the world w. -/
def TyAt (w : World) : Ty → Value → Prop
  | .node k s q i ks, v => ∃ A cap, v = .agg (t5 k s q i A ks.length cap).toArray ∧ (ks.length ≤ cap ∧ cap ≤ maxLen ∧ i64r k ∧ i64r s ∧ i64r q ∧ i64r i) ∧ KtAt w A 0 ks
/-- The list of kids lies at A, from the i-th on. -/
def KtAt (w : World) (A : Option Addr) : Nat → List Ty → Prop
  | _, [] => True
  | i, x :: xs => (∃ g o cs, A = some ⟨g, o, none⟩ ∧ w.rangeAt g (o + i * 5) cs ∧ TyAt w x (.agg cs.toArray)) ∧ KtAt w A (i + 1) xs
end
theorem KtAt.get {w : World} {A : Option Addr} : ∀ {xs : List Ty} {i j : Nat} {x : Ty}, KtAt w A i xs → xs[j]? = some x → ∃ g o cs, A = some ⟨g, o, none⟩ ∧ w.rangeAt g (o + (i + j) * 5) cs ∧ TyAt w x (.agg cs.toArray)
  | [], i, j, x, _, h => by simp at h
  | y :: ys, i, 0, x, hk, h => by
    simp at h; subst h
    unfold KtAt at hk
    exact hk.1
  | y :: ys, i, j + 1, x, hk, h => by
    unfold KtAt at hk
    have := KtAt.get hk.2 (j := j) (x := x) (by simpa using h)
    rwa [show i + 1 + j = i + (j + 1) by omega] at this
mutual
theorem TyAt.later {w w' : World} (hb : Below w.heap.size w w') : ∀ {x : Ty} {v : Value}, TyAt w x v → TyAt w' x v
  | .node k s q i ks, v, h => by
    unfold TyAt at h ⊢
    obtain ⟨A, cap, h1, hm, h2⟩ := h
    exact ⟨A, cap, h1, hm, KtAt.later hb h2⟩
theorem KtAt.later {w w' : World} (hb : Below w.heap.size w w') : ∀ {xs : List Ty} {A : Option Addr} {i : Nat}, KtAt w A i xs → KtAt w' A i xs
  | [], A, i, h => by unfold KtAt; trivial
  | x :: xs, A, i, h => by
    unfold KtAt at h ⊢
    obtain ⟨⟨g, o, cs, h1, h2, h3⟩, h4⟩ := h
    exact ⟨⟨g, o, cs, h1, range_below h2 hb, TyAt.later hb h3⟩, KtAt.later hb h4⟩
end
theorem TyAt.shape {w : World} {x : Ty} {v : Value} (h : TyAt w x v) : ∃ k s q i A len cap, v = .agg (t5 k s q i A len cap).toArray := by
  cases x with
  | node k s q i ks =>
    unfold TyAt at h
    obtain ⟨A, cap, h1, _⟩ := h
    exact ⟨k, s, q, i, A, _, cap, h1⟩
theorem info_type : (Tryd.prog.info? 31).map (·.size) = some 5 := by kernel_rfl
/-- What a walk needs of the next kid: its five cells, where they lie, and that it is a type. -/
theorem tkid_at {w : World} {A : Option Addr} {ks : List Ty} {j : Nat} {x : Ty} (h : KtAt w A 0 ks) (hx : ks[j]? = some x) :
    ∃ g o C, A = some ⟨g, o, none⟩ ∧ Hid (w.rangeAt g (o + j * 5) C) ∧ Hid (TyAt w x (.agg C.toArray)) ∧ Hid (C.length = 5) ∧ Hid ((Tryd.prog.info? 31).map (·.size) = some C.length) ∧ Hid (∀ v ∈ C, v.oneCell' = true) := by
  obtain ⟨g, o, cs, hA, hr, ht⟩ := KtAt.get h hx
  rw [Nat.zero_add] at hr
  obtain ⟨k', s', q', i', A', len', cap', hsh⟩ := ht.shape
  have hcs : cs = t5 k' s' q' i' A' len' cap' := by simpa using hsh
  subst hcs
  exact ⟨g, o, _, hA, Lib.hid hr, Lib.hid ht, Lib.hid rfl, Lib.hid info_type, Lib.hid (by intro v hv; simp [t5] at hv; rcases hv with rfl | rfl | rfl | rfl | rfl <;> rfl)⟩
theorem t5_new (w : World) (k s q i : Int) (A : Option Addr) (len cap : Nat) : Arr (w.alloc (.cells (t5 k s q i A len cap).toArray 31)) w.heap.size 5 31 (t5 k s q i A len cap) := Arr.new' w _ _ 5 _ rfl rfl (by decide)

/-! ### Equal types. -/
mutual
def Ty.same : Ty → Ty → Bool
  | .node k s q i ks, .node k' s' q' i' ks' => decide (k = k') && (decide (s = s') && (decide (q = q') && decide (i = i'))) && sameL ks ks'
def sameL : List Ty → List Ty → Bool
  | [], [] => true
  | x :: xs, y :: ys => x.same y && sameL xs ys
  | _, _ => false
end
theorem same_form (k s q i k' s' q' i' : Int) (ks ks' : List Ty) : (Ty.node k s q i ks).same (.node k' s' q' i' ks') = (decide (k = k') && (decide (s = s') && (decide (q = q') && decide (i = i'))) && sameL ks ks') := by rw [Ty.same]
theorem sameL_len : ∀ (xs ys : List Ty), xs.length ≠ ys.length → sameL xs ys = false
  | [], [], h => absurd rfl h
  | [], _ :: _, _ => by unfold sameL; rfl
  | _ :: _, [], _ => by unfold sameL; rfl
  | x :: xs, y :: ys, h => by
    unfold sameL
    rw [sameL_len xs ys (by simpa using h), Bool.and_false]
theorem sameL_drop {xs ys : List Ty} {j : Nat} (h : j < xs.length) (h' : j < ys.length) : sameL (xs.drop j) (ys.drop j) = (xs[j].same ys[j] && sameL (xs.drop (j + 1)) (ys.drop (j + 1))) := by
  rw [List.drop_eq_getElem_cons h, List.drop_eq_getElem_cons h', sameL]
end Go.Proofs.YtjbleefpafnhhaaDoor
set_option linter.unusedVariables false
set_option linter.unusedSimpArgs false
namespace Go.Proofs.YtjbleefpafnhhaaDoor
open Go.RowKit

theorem isNaN_any (x : Int) (w : World) : Calls Tryd.prog 81 #[.int .i64 x] w fun e w' => e = .returned (.bool false) ∧ w' = w := by
  go_enter Tryd.func81, Tryd.ntmps81
  go_wp2_with fail
  go_ret
  exact ⟨by simp, rfl⟩
theorem ccmp_any (x y : Int) (w : World) : Calls Tryd.prog 62 #[.int .i64 x, .int .i64 y] w fun e w' => e = .returned (.int .i64 (cmpI x y)) ∧ w' = w := by
  have HN := Lib.hid isNaN_any
  go_enter Tryd.func62, Tryd.ntmps62
  rcases Int.lt_trichotomy x y with h | h | h
  · have HE : Hid (cmpI x y = -1) := Lib.hid (by unfold cmpI; rw [if_pos h])
    have h2 : ¬ y < x := by omega
    go_wp2_with (go_at_call 81; (with_reducible refine (HN.out _ _).mono ?_); rintro e w6 ⟨rfl, rfl⟩)
    go_ret
    exact ⟨by rw [HE.out]; rfl, rfl⟩
  · subst h
    have h2 : ¬ x < x := by omega
    have HE : Hid (cmpI x x = 0) := Lib.hid (by unfold cmpI; rw [if_neg h2, if_neg h2])
    go_wp2_with (go_at_call 81; (with_reducible refine (HN.out _ _).mono ?_); rintro e w6 ⟨rfl, rfl⟩)
    go_ret
    exact ⟨by rw [HE.out]; rfl, rfl⟩
  · have h2 : ¬ x < y := by omega
    have HE : Hid (cmpI x y = 1) := Lib.hid (by unfold cmpI; rw [if_neg h2, if_pos h])
    go_wp2_with (go_at_call 81; (with_reducible refine (HN.out _ _).mono ?_); rintro e w6 ⟨rfl, rfl⟩)
    go_ret
    exact ⟨by rw [HE.out]; rfl, rfl⟩
def or3 (a b c : Int) : Int := if a ≠ 0 then a else if b ≠ 0 then b else c
set_option maxHeartbeats 2000000 in
theorem cor_any (g : Nat) (a b c : Int) (w : World) (h0 : w.cell? ⟨g, 0, none⟩ = some (.int .i64 a)) (h1 : w.cell? ⟨g, 1, none⟩ = some (.int .i64 b)) (h2 : w.cell? ⟨g, 2, none⟩ = some (.int .i64 c)) :
    Calls Tryd.prog 61 #[.slice (some ⟨g, 0, none⟩) 3 3] w fun e w' => e = .returned (.int .i64 (or3 a b c)) ∧ w' = w := by
  go_enter Tryd.func61, Tryd.ntmps61
  go_wp2_with fail
  by_cases ha : a = 0
  · subst ha
    by_cases hb : b = 0
    · subst hb
      by_cases hc : c = 0
      · subst hc
        have HE : Hid (or3 0 0 0 = 0) := Lib.hid rfl
        go_rounds 4
        go_ret
        exact ⟨by rw [HE.out]; rfl, rfl⟩
      · have HE : Hid (or3 0 0 c = c) := Lib.hid rfl
        go_rounds 4
        go_ret
        exact ⟨by rw [HE.out]; rfl, rfl⟩
    · have HE : Hid (or3 0 b c = b) := Lib.hid (by unfold or3; rw [if_neg (by decide), if_pos hb])
      go_rounds 4
      go_ret
      exact ⟨by rw [HE.out]; rfl, rfl⟩
  · have HE : Hid (or3 a b c = a) := Lib.hid (by unfold or3; rw [if_pos ha])
    go_rounds 4
    go_ret
    exact ⟨by rw [HE.out]; rfl, rfl⟩
end Go.Proofs.YtjbleefpafnhhaaDoor
