import Derived.Test.YtjgkocijmbepmaaGreatDoorWords
import Derived.Test.YtjgkocijmbepmaaGreatDoorPure
import Derived.Deep.RegionWith
import Derived.Deep.RegionHeld3
set_option linter.unusedVariables false
namespace Go.Proofs.YtjgkocijmbepmaaGreatDoor
open Go.RowKit

def InR (n : Int) : Prop := -9223372036854775808 ≤ n ∧ n ≤ 9223372036854775807
/-- Strings as values. -/
def ss (l : List ByteArray) : List Value := l.map Value.string
theorem ss_get (l : List ByteArray) (j : Nat) (h : j < l.length) : (ss l)[j]? = some (.string (l[j]?.getD ByteArray.empty)) := by
  simp [ss, List.getElem?_map, List.getElem?_eq_getElem h]
/-- P1.3. -/
def encS (s : ByteArray) : List Nat := enc s.size ++ sb s
theorem encS_len (s : ByteArray) (h : s.size ≤ 100000) : (encS s).length ≤ 100009 := by
  have := (enc_len s.size (by omega)).2
  unfold encS; rw [List.length_append, sb_len]; omega

/-- The string of these bytes. -/
def mkS (l : List Nat) : ByteArray := ⟨(l.map UInt8.ofNat).toArray⟩
theorem mkS_nil : mkS [] = ⟨#[]⟩ := rfl
theorem sb_mkS (l : List Nat) (h : ∀ d ∈ l, d < 256) : sb (mkS l) = l := by
  simp only [sb, mkS, List.map_map]
  conv => rhs; rw [← List.map_id l]
  refine List.map_congr_left fun d hd => ?_
  simp [Nat.mod_eq_of_lt (h d hd)]
theorem mkS_sb (s : ByteArray) : mkS (sb s) = s := by
  apply sb_inj
  exact sb_mkS _ (sb_lt s)
theorem mkS_size (l : List Nat) : (mkS l).size = l.length := by simp [mkS, ByteArray.size]

theorem run_conv (B n c : Nat) (A : Option Addr) (ys : List Nat) (w : World) (hn : n = ys.length) (hr : Rd w B A (bs ys)) :
    (convert 73 9 (.slice A n c)).run Tryz.prog w = .ok (.string (mkS ys)) w := by
  subst hn
  rcases hr with h | ⟨b, o, rfl, _, hc⟩
  · have : ys = [] := by simpa [bs] using h
    subst this
    rcases A with _ | ad
    · rw [run_convert_bytes_nil w _ _ Tryz.underlying73 Tryz.underlying5 _ _ _ Tryz.underlying9]; rfl
    · have hl : (loadCells ad 0).run Tryz.prog w = .ok (([] : List Int).map (Value.int .u8)).toArray w := by
        have := run_loadCells_list (P := Tryz.prog) w ad [] (by simp)
        simpa using this
      rw [List.length_nil, run_convert_bytes_string w _ _ _ _ _ _ Tryz.underlying73 Tryz.underlying5 Tryz.underlying9, run_bytesToString w ad 0 c [] hl]
      rfl
  · rw [run_convert_bytes_arg w _ _ Tryz.underlying73 Tryz.underlying5 b o ys.length c (ys.map Int.ofNat) (by simp) ?_ _ Tryz.underlying9]
    · simp [strOfNums, mkS, List.map_map, Function.comp_def]
    · intro i hi
      rw [hc i _ (bs_get ys i hi)]
      simp [List.getD, List.getElem?_eq_getElem hi]

def BoolRes (w : World) (p : Bool) (e : Ending) (w' : World) : Prop := e = .returned (.bool p) ∧ ∃ k, w' = w.drewN k
theorem BoolRes.mk {w : World} {p q : Bool} {k : Nat} (h : q = p) : BoolRes w p (.returned (.bool q)) (w.drewN k) := by subst h; exact ⟨rfl, k, rfl⟩
theorem run_part {P : Program} (w : World) (e : TypeId) (k : IntKind) (he : P.underlying e = some (.int k)) (cs : Array Value) (o : Nat) (v : Value) (hv : cs[o]? = some v) : (Go.part e cs o).run P w = .ok v w := by
  have hagg : (isAgg e).run P w = .ok false w := by
    unfold isAgg
    rw [Sem.run_bind, run_underlying he w]
    rfl
  unfold Go.part
  rw [Sem.run_bind, hagg]
  simp [hv]

theorem run_forIn_eq {P : Program} (w : World) (f : Nat → (Option Bool × Unit) → Sem (ForInStep (Option Bool × Unit))) (q : Nat → Bool)
    : ∀ (l : List Nat) (hf : ∀ i, i ∈ l → (f i (none, ())).run P w = .ok (if q i then .yield (none, ()) else .done (some false, ())) w), (forIn l ((none : Option Bool), ()) f).run P w = .ok (if l.all q then (none, ()) else (some false, ())) w
  | [], _ => by simp
  | i :: l, hf => by
    rw [List.forIn_cons, Sem.run_bind, hf i (by simp)]
    by_cases h : q i = true
    · simp only [h, if_true, Result.andThen_ok]
      rw [run_forIn_eq w f q l (fun j hj => hf j (by simp [hj]))]
      simp [h]
    · simp [h]

theorem run_eqArr {P : Program} (w : World) (d n : Nat) (t e : TypeId) (k : IntKind) (ht : P.underlying t = some (.array n e)) (he : P.underlying e = some (.int k)) (hi : (P.info? e).map (·.size) = some 1) (xs ys : List Int) (hx : xs.length = n) (hy : ys.length = n) :
    (Op.equalIn (d + 2) t (.agg (xs.map (Value.int k)).toArray) (.agg (ys.map (Value.int k)).toArray)).run P w = .ok (decide (xs = ys)) w := by
  obtain ⟨i0, hi0, hi1⟩ := Option.map_eq_some_iff.1 hi
  unfold Op.equalIn
  simp only [Sem.run_bind, run_underlying ht, Result.andThen_ok, sizeOf, typeInfo, hi0, hi1, run_program, Sem.run_pure]
  rw [Std.Legacy.Range.forIn_eq_forIn_range']
  rw [run_forIn_eq w _ (fun i => decide (xs[i]? = ys[i]?))]
  · have hq : (List.range' ([:n] : Std.Legacy.Range).start ([:n] : Std.Legacy.Range).size ([:n] : Std.Legacy.Range).step).all (fun i => decide (xs[i]? = ys[i]?)) = decide (xs = ys) := by
      rw [Bool.eq_iff_iff, List.all_eq_true, decide_eq_true_iff]
      constructor
      · intro h
        apply List.ext_getElem?
        intro i
        by_cases hi : i < n
        · have := h i (by simp [Std.Legacy.Range.size]; omega)
          simpa using this
        · rw [List.getElem?_eq_none (by omega), List.getElem?_eq_none (by omega)]
      · rintro rfl i _; simp
    rw [hq]
    by_cases h : xs = ys <;> simp [h]
  · intro i hi
    have hin : i < n := by simp [Std.Legacy.Range.size] at hi; omega
    have hxi : xs[i]? = some xs[i] := List.getElem?_eq_getElem (by omega)
    have hyi : ys[i]? = some ys[i] := List.getElem?_eq_getElem (by omega)
    rw [Sem.run_bind, run_part w e k he _ _ (.int k xs[i]) (by simp [hxi])]
    simp only [Result.andThen_ok]
    rw [Sem.run_bind, run_part w e k he _ _ (.int k ys[i]) (by simp [hyi])]
    simp only [Result.andThen_ok]
    rw [Sem.run_bind, run_equalIn_int w d e k k _ _ he]
    simp only [Result.andThen_ok, hxi, hyi, Option.some.injEq]
    by_cases h : xs[i] = ys[i] <;> simp [h]

/-- In a region that draws its order and only reads: a whole array is read. -/
theorem wpQuiet_load {P : Program} {ops : Array Oper} {C : World → Prop} {Q : Act → Prop} {a : Act} {o : Oper} {rest : List Oper} (hgd : o.guard = none) (ty : TypeId) (x : Operand) (ho : o.op = .load ty x)
    (b k : Nat) (hx : a.eval x = .pointer (some ⟨b, k, none⟩)) (cs : List Value) (d : TypeDesc) (hc : ∀ w, C w → w.rangeAt b k cs)
    (hu : P.underlying ty = some d) (hd : d.isRow = true) (hi : (P.info? ty).map (·.size) = some cs.length)
    (h : wpQuiet P ops C Q rest (a.put o.dst (.agg cs.toArray))) : wpQuiet P ops C Q (o :: rest) a := by
  refine wpQuiet_step fun K hK => ?_
  have hw : Region.wanted o (yielded ops a.tmps) = true := by simp [Region.wanted, hgd]
  rw [if_pos hw]
  refine ⟨_, fun w hCw => ?_, hK _ h⟩
  unfold Oper.quietAt execOp
  simp only [ho, hx, Instr.loadAt, Instr.sureAddr, Sem.run_bind, Sem.run_pure, Result.andThen_ok, run_loadVar_mid w b k ty cs d (hc w hCw) hu hd hi]
  exact ⟨rfl, rfl⟩
theorem later {w w' w'' : World} (h : Below w.heap.size w w') (h' : Below w'.heap.size w' w'') : Below w.heap.size w w'' := h.trans (h'.mono h.size)
theorem new_later (w : World) (o : Obj) : Below w.heap.size w (w.alloc o) := (Below.refl _ w).alloc (Nat.le_refl _) o
theorem Rd.later {w w' : World} {A : Option Addr} {xs : List Value} (h : Rd w w.heap.size A xs) (hb : Below w.heap.size w w') : Rd w' w'.heap.size A xs := (h.below hb).more hb.size
theorem row_later {w w' : World} {g : Nat} {o : Obj} (h : w.heap[g]? = some o) (hb : Below w.heap.size w w') : w'.heap[g]? = some o := (hb.block g (Array.getElem?_eq_some_iff.1 h).1).trans h
theorem quiet (W : World) (k : Nat) : Below W.heap.size W (W.drewN k) := below_drewN (Below.refl _ _) k
/-- A new row of these bytes. -/
def RowRes (X : List Nat) (w : World) (e : Ending) (w' : World) : Prop := ∃ A c, e = .returned (.slice A X.length c) ∧ Rd w' w'.heap.size A (bs X) ∧ X.length ≤ c ∧ c ≤ maxLen ∧ Below w.heap.size w w'
theorem RowRes.of {X : List Nat} {w : World} {f : FuncId} {args : Array Value} (h : Calls Tryz.prog f args w fun e w' => ∃ v', e = .returned v' ∧ OwnB w' w.heap.size v' X ∧ Below w.heap.size w w') : Calls Tryz.prog f args w (RowRes X w) := by
  refine h.mono fun e w' ⟨v', h1, h2, h3⟩ => ?_
  obtain ⟨A, c, rfl, hc1, hc2⟩ := h2.shape
  exact ⟨A, c, h1, h2.rd, hc1, hc2, h3⟩

theorem fold_zip : ∀ (us pre z : List Value), us.length = z.length → List.foldl (fun (cs : Array Value) (x : Value × Nat) => cs.setIfInBounds x.snd x.fst) (pre ++ z).toArray (us.zipIdx pre.length) = (pre ++ us).toArray
  | [], pre, z, h => by
    have : z = [] := List.eq_nil_of_length_eq_zero h.symm
    subst this; rfl
  | u :: us, pre, z, h => by
    cases z with
    | nil => simp at h
    | cons y z =>
      have ih := fold_zip us (pre ++ [u]) z (by simpa using h)
      rw [List.zipIdx_cons, List.foldl_cons]
      have e : (pre ++ y :: z).toArray.setIfInBounds pre.length u = (pre ++ [u] ++ z).toArray := by
        rw [List.setIfInBounds_toArray, List.set_append_right _ _ (Nat.le_refl _)]
        simp
      simp only [e]
      rw [List.length_append, List.length_singleton] at ih
      rw [ih]; simp
theorem fold_agg (us : List Value) (z : List Value) (h : us.length = z.length) : List.foldl (fun (cs : Array Value) (x : Value × Nat) => cs.setIfInBounds x.snd x.fst) z.toArray us.zipIdx = us.toArray := fold_zip us [] z h

/-- 'append(out, x)', x of several cells in a block of its own, which was laid just before. -/
theorem wpList_putN {P : Program} {w : World} {base : Nat} {e t : TypeId} {z : Value} {bytes size : Nat} {v : Value} {n : Nat} {xs us : List Value} {cs : Array Value} {ops : Array Oper} {rest : List Oper} {o : Oper} {a : Act} {Q : Exit → Act → World → Prop} {c : Nat}
    (hcs : cs = us.toArray) (hown : w.ownsRow base e size v n xs) (ht : P.underlying t = some (.slice e)) (hi : (P.info? e).map (fun i => (i.zero, i.size, i.bytes)) = some (some z, size, bytes)) (hzs : z.cells.size = size) (hsz : 0 < size) (hul : us.length = size)
    (hu : ∀ u ∈ us, u.oneCell' = true) (hbase : base ≤ w.heap.size) (h63 : n + 1 ≤ maxLen) (hbytes : (n + 1) * bytes ≤ 140737488355328)
    (hgd : o.guard = none) (s x : Operand) (ho : o.op = .call { callee := .builtin .append, args := #[s, x], argTypes := #[t, t] })
    (hs : a.eval s = v) (hx : a.eval x = .slice (some ⟨w.heap.size, 0, none⟩) 1 c)
    (h : ∀ v' w', w'.ownsRow base e size v' (n + 1) (xs ++ us) → Below base w w' → wpList P ops Q rest (a.put o.dst v') w') :
    wpList P ops Q (o :: rest) a (w.alloc (.cells cs e)) := by
  subst hcs
  obtain ⟨i0, hi0, hz0, hz1, hz2⟩ := info_parts hi
  refine wpList_append_own _ hgd s x t ho base e i0 z size bytes ht hi0 hz0 hz1 hz2 hzs hsz v n xs hs (hown.alloc _) ⟨w.heap.size, 0, none⟩ 1 c us hx (by omega) ?_ hu h63 hbytes (by simp; omega) ?_
  · intro j y hj
    have ha : (⟨w.heap.size, 0, none⟩ : Addr).add j = ⟨w.heap.size, 0 + j, none⟩ := by unfold Addr.add; split <;> simp_all
    rw [ha, cell_of_row (w.alloc (.cells us.toArray e)) w.heap.size (0 + j) us.toArray e (0, 0) (heap_alloc_new w _)]
    simpa using hj
  · intro v' w' ho' hg _
    exact h v' w' ho' (((Below.refl base w).alloc hbase _).grown hg (by simp; omega) (fun k hk => (hown.lt k hk).1))
/-- A variable of several cells, just laid. -/
theorem arr_new (w : World) (e : TypeId) (cs : Array Value) (n : Nat) (hn : cs.size = n) (hm : n ≤ maxLen) : (w.alloc (.cells cs e)).ownsRow w.heap.size e 1 (.slice (some ⟨w.heap.size, 0, none⟩) n n) n cs.toList :=
  ⟨by simp [hn], .inr ⟨w.heap.size, n, cs, rfl, Nat.le_refl _, heap_alloc_new w _, Nat.le_refl _, hm, by omega, by rw [List.take_of_length_le (by simp; omega)]⟩⟩
theorem arr_range {w : World} {g n : Nat} {e : TypeId} {xs : List Value} (h : w.ownsRow g e 1 (.slice (some ⟨g, 0, none⟩) n n) n xs) : w.rangeAt g 0 xs := by
  intro j v hv
  have hj : j < n := by have := (List.getElem?_eq_some_iff.1 hv).1; have := h.1; omega
  rw [Nat.zero_add, h.cellAt j (by omega)]
  exact hv

end Go.Proofs.YtjgkocijmbepmaaGreatDoor
