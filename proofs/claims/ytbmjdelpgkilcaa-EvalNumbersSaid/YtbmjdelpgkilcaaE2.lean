/-
  A machine on plain data, six: literals of structs and rows, parts of rows, lengths, functions.
-/
import Derived.Test.YtbmjdelpgkilcaaE1
set_option linter.unusedVariables false
section
set_option linter.unusedVariables false
set_option linter.unusedSimpArgs false
namespace Go.Eng
open Go.RowKit
def fillT (place : Nat → Option (Nat × Nat)) : List TV → List (Nat × TV) → Option (List TV)
  | cs, [] => some cs
  | cs, (i, t) :: rest => match place i, cls t with
    | some (off, size), some p => if p.length = size ∧ off + size ≤ cs.length then fillT place (cs.take off ++ p ++ cs.drop (off + size)) rest else none
    | _, _ => none
theorem foldl_seg : ∀ (p : List Value) (k off : Nat) (c : List Value), off + k + p.length ≤ c.length → (p.zipIdx k).foldl (fun (cs : Array Value) (x : Value × Nat) => cs.setIfInBounds (off + x.2) x.1) c.toArray = (c.take (off + k) ++ p ++ c.drop (off + k + p.length)).toArray
  | [], k, off, c, h => by simp
  | v :: p, k, off, c, h => by
    have h : off + k + (p.length + 1) ≤ c.length := h
    rw [List.zipIdx_cons, List.foldl_cons]
    have e : (c.toArray.setIfInBounds (off + k) v) = (c.set (off + k) v).toArray := by simp
    rw [e, foldl_seg p (k + 1) off (c.set (off + k) v) (by rw [List.length_set]; omega)]
    congr 1
    have := list_seg_step c (off + k) v p (by omega)
    simpa [Nat.add_assoc] using this
section
variable {P : Program} {GL : Nat → Option (List Dt)} {G : Gh} {Z : Zn} {w : World} {HP : Nat → Ob → Prop} {tm : List TV} {hp : List Ob} {o : Oper} {a : Act}
theorem fillT_rep {place : Nat → Option (Nat × Nat)} : ∀ (ps : List (Nat × Operand)) {cs cs' : List TV} {vs : List Value}, fillT place cs (ps.map fun p => (p.1, evT GL tm p.2)) = some cs' → RepL G Z w cs vs → (∀ p ∈ ps, Rep G Z w (evT GL tm p.2) (a.eval p.2)) →
    ∃ vs', Instr.fill place vs.toArray (ps.map fun p => (p.1, a.eval p.2)) = some vs'.toArray ∧ RepL G Z w cs' vs'
  | [], cs, cs', vs, h, hr, _ => by
    simp only [List.map_nil, fillT, Option.some.injEq] at h
    subst h
    exact ⟨vs, rfl, hr⟩
  | (i, x) :: ps, cs, cs', vs, h, hr, hp => by
    simp only [List.map_cons, fillT] at h
    split at h
    · rename_i off size p hpl hcl
      split at h
      · rename_i hlen
        obtain ⟨us, h1, h2, h3⟩ := cls_rep hcl (hp (i, x) (by simp))
        have hlu := repl_len h2
        have hlv := repl_len hr
        have hr' : RepL G Z w (cs.take off ++ p ++ cs.drop (off + size)) (vs.take off ++ us ++ vs.drop (off + size)) := repl_app (repl_app (repl_take hr off) h2) (repl_drop hr _)
        obtain ⟨vs', k1, k2⟩ := fillT_rep ps h hr' (fun q hq => hp q (by simp [hq]))
        refine ⟨vs', ?_, k2⟩
        simp only [List.map_cons, Instr.fill, hpl]
        have hsz : (a.eval x).cells.size = size := by rw [h1]; simp; omega
        rw [if_neg (by simp [hsz]; omega), ← k1]
        congr 1
        rw [h1, ← Array.foldl_toList, Array.toList_zipIdx]
        have := foldl_seg us 0 off vs (by omega)
        simp only [Nat.add_zero] at this
        rw [this, show us.length = size by omega]
      · cases h
    · cases h
def bpl (P : Program) (t : TypeId) : Option ((Nat → Option (Nat × Nat)) × List TV) :=
  match P.info? t, P.underlying t with
  | some it, some (.array _ e) => match it.zero, P.info? e with
    | some z, some ie => some (fun i => some (i * ie.size, ie.size), z.cells.toList.map .lf)
    | _, _ => none
  | some it, some (.struct fields) => match it.zero, fields.toList.mapM (fun f => (P.info? f.type).map fun i => (f.offset, i.size)) with
    | some z, some places => some ((places.toArray[·]?), z.cells.toList.map .lf)
    | _, _ => none
  | _, _ => none
def absBuild (P : Program) (hp : List Ob) (t : TypeId) (ps : List (Nat × TV)) : AR :=
  match bpl P t with
  | some (place, z) => (fillT place z ps).map fun cs => (.ag cs, hp, 0, 0)
  | none => none
theorem does_build {r : TV × List Ob × Nat × Nat} {t : TypeId} {ps : Array (Nat × Operand)} (hI : Inv GL G Z w HP) (ho : o.op = .build t ps) (hx : ∀ p ∈ ps.toList, Rep G Z w (evT GL tm p.2) (a.eval p.2)) (h : absBuild P hp t (ps.toList.map fun p => (p.1, evT GL tm p.2)) = some r) : Does P GL G Z w a o hp.length r := by
  unfold absBuild at h
  split at h
  · rename_i place z hb
    cases hf : fillT place z (ps.toList.map fun p => (p.1, evT GL tm p.2)) with
    | none => rw [hf] at h; simp at h
    | some cs =>
      rw [hf] at h
      simp only [Option.map_some, Option.some.injEq] at h
      subst h
      have fin : ∀ (zv : Value), z = zv.cells.toList.map .lf → (∀ cells, Instr.fill place zv.cells (ps.toList.map fun p => (p.1, a.eval p.2)) = some cells → P.built t (ps.map fun (i, x) => (i, a.eval x)).toList = some cells) → Does P GL G Z w a o hp.length (.ag cs, hp, 0, 0) := fun zv hz hbu => by
        subst hz
        obtain ⟨vs', k1, k2⟩ := fillT_rep (GL := GL) (tm := tm) (a := a) ps.toList hf (repl_lfs G Z w _) hx
        have hrun := run_build (P := P) w t (ps.map fun (i, x) => (i, a.eval x)) vs'.toArray (hbu _ (by simpa using k1))
        refine does_value hI (v := .agg vs'.toArray) ?_ (by rw [Rep]; exact ⟨vs', rfl, k2⟩)
        unfold execOp
        simp only [ho, Sem.run_bind, hrun, Result.andThen_ok, Sem.run_pure]
      unfold bpl at hb
      split at hb
      · rename_i it n e hi hu
        split at hb
        · rename_i zv ie hz hie
          cases hb
          exact fin zv rfl (fun cells hc => by unfold Program.built; simp [hi, hu, hz, hie]; simpa using hc)
        · cases hb
      · rename_i it fields hi hu
        split at hb
        · rename_i zv places hz hpl
          cases hb
          exact fin zv rfl (fun cells hc => by unfold Program.built; simp only [hi, hu, hz, hpl]; simpa using hc)
        · cases hb
      · cases hb
  · cases h
def chunks (size : Nat) : Nat → List TV → Option (List (List Dt))
  | 0, _ => some []
  | n + 1, cs => match frzs (cs.take size), chunks size n (cs.drop size) with
    | some d, some ds => some (d :: ds)
    | _, _ => none
theorem chunks_len {size : Nat} : ∀ {n : Nat} {cs : List TV} {xs : List (List Dt)}, chunks size n cs = some xs → xs.length = n
  | 0, cs, xs, h => by simp only [chunks, Option.some.injEq] at h; subst h; rfl
  | n + 1, cs, xs, h => by
    rw [chunks] at h
    split at h
    · rename_i d ds h1 h2
      cases h
      simp [chunks_len h2]
    · cases h
theorem chunks_rep {size g o : Nat} : ∀ {n i : Nat} {cs : List TV} {vs : List Value} {xs : List (List Dt)}, chunks size n cs = some xs → RepL G Z w cs vs → vs.length = n * size → FrR Z w g (o + i * size) vs → RwR Z w size (some ⟨g, o, none⟩) i xs
  | 0, i, cs, vs, xs, h, _, _, _ => by simp only [chunks, Option.some.injEq] at h; subst h; exact rw_nil
  | n + 1, i, cs, vs, xs, h, hr, hl, hf => by
    rw [chunks] at h
    split at h
    · rename_i d ds h1 h2
      cases h
      have hle : size ≤ vs.length := by rw [hl, Nat.succ_mul]; omega
      refine rw_cons.2 ⟨⟨g, o, vs.take size, rfl, fun j v hv => ?_, by rw [List.length_take]; omega, frzs_rep h1 (repl_take hr size)⟩, ?_⟩
      · rw [List.getElem?_take] at hv
        split at hv
        · exact hf j v hv
        · cases hv
      · refine chunks_rep h2 (repl_drop hr size) (by rw [List.length_drop, hl, Nat.succ_mul]; omega) fun j v hv => ?_
        rw [List.getElem?_drop] at hv
        have := hf _ v hv
        rwa [show o + i * size + (size + j) = o + (i + 1) * size + j by rw [Nat.succ_mul]; omega] at this
    · cases h
def absBuildSlice (P : Program) (hp : List Ob) (t : TypeId) (len : Nat) (ps : List (Nat × TV)) : AR :=
  match P.underlying t with
  | some (.slice e) => match P.info? e with
    | some ie => match ie.zero with
      | some z => if 0 < ie.size ∧ ¬ len * ie.size > 2 ^ 24 then
          match fillT (fun i => some (i * ie.size, ie.size)) ((List.range (len * ie.size)).map fun i => .lf (z.cells[i % z.cells.size]!)) ps with
          | some cs => if cs.length = len * ie.size ∧ cs.all one1 = true then some (.vw hp.length ie.size 0 len false, hp ++ [.ro e ie.size len cs 0], 0, 0) else none
          | none => none
        else none
      | none => none
    | none => none
  | _ => none
theorem repl_range (z : Array Value) : ∀ l : List Nat, RepL G Z w (l.map fun i => TV.lf (z[i % z.size]!)) (l.map fun i => z[i % z.size]!)
  | [] => repl_nil.2 rfl
  | x :: l => repl_cons.2 ⟨_, _, rfl, rep_lf.2 rfl, repl_range z l⟩
theorem res_row {e sz len : Nat} {cs : List TV} {vs : List Value} (hI : Inv GL G Z w HP) (hn : G hp.length = none) (h0 : 0 < sz) (hlen : len ≤ maxLen) (hvl : vs.length = len * sz) (h1c : ∀ u ∈ vs, u.oneCell' = true) (hr : RepL G Z w cs vs) :
    ∃ G' Z', Res G Z w hp.length (hp ++ [.ro e sz len cs 0]) 0 (.vw hp.length sz 0 len false) G' Z' (w.alloc (.cells vs.toArray e)) (.slice (some ⟨w.heap.size, 0, none⟩) len len) := by
  have hs : Below w.heap.size w (w.alloc (.cells vs.toArray e)) := (Below.refl _ w).alloc (Nat.le_refl _) _
  have hbk : ∀ b, blk (.slice (some ⟨w.heap.size, 0, none⟩) len len) = some b → w.heap.size ≤ b := fun b hb => by cases hb; exact Nat.le_refl _
  have st := stp_new (n := hp.length) (k := 0) (i0 := .slice (some ⟨w.heap.size, 0, none⟩) len len) hI.zlt hn hbk hs w.heap.size (.inl rfl)
  have hown : (w.alloc (.cells vs.toArray e)).ownsRow 0 e sz (.slice (some ⟨w.heap.size, 0, none⟩) len len) len vs :=
    ⟨hvl, .inr ⟨w.heap.size, len, vs.toArray, rfl, Nat.zero_le _, heap_alloc_new w _, Nat.le_refl _, hlen, by simp [hvl], by rw [List.take_of_length_le] <;> simp [hvl]⟩⟩
  refine ⟨_, _, res_new (i0 := .slice (some ⟨w.heap.size, 0, none⟩) len len) (k := 0) hI hn hbk hs w.heap.size (.inl rfl) ?_ ⟨_, vs, gup_self, rfl, hown, hr.keep st.gle st.kp, h1c, h0⟩ ?_⟩
  · rw [Rep]
    exact ⟨h0, _, gup_self, some ⟨w.heap.size, 0, none⟩, len, len, some ⟨w.heap.size, 0, none⟩, len, rfl, rfl, by omega, Nat.le_refl _, hlen, by simp, fun _ => ⟨rfl, fun _ => rfl⟩, fun _ => by simp [Addr.add], rfl⟩
  · intro i b hi hb x hxx hz
    rw [gup_self] at hi; cases hi
    cases hb
    rcases hz with hz | ⟨_, hz⟩
    · exact Nat.lt_irrefl _ (hI.zlt _ _ hz)
    · omega
theorem run_buildSlice_any (w : World) (t e : TypeId) (len : Nat) (parts : Array (Nat × Value)) (cells : Array Value) (ie : TypeInfo) (z : Value)
    (hu : P.underlying t = some (.slice e)) (hie : P.info? e = some ie) (hz : ie.zero = some z) (hsmall : ¬ len * ie.size > 2 ^ 24)
    (h : Instr.fill (fun i => some (i * ie.size, ie.size)) ((Array.range (len * ie.size)).map (z.cells[· % z.cells.size]!)) parts.toList = some cells) :
    (Instr.buildSlice t len parts).run P w = .ok (.slice (some ⟨w.heap.size, 0, none⟩) len len) (w.alloc (.cells cells e)) := by
  by_cases h0 : len * ie.size = 0
  · have e1 : (Array.range (len * ie.size)).map (fun x => z.cells[x % z.cells.size]!) = #[] := by rw [h0]; simp
    rw [e1] at h
    simp [Instr.buildSlice, run_underlying hu, sizeOf, typeInfo, zeroValue, hie, hz, hsmall, h0, h, newRow, show Array.range 0 = #[] from by simp]
  · exact run_buildSlice w t e len parts cells ie z hu hie hz hsmall h0 h
theorem does_buildSlice {r : TV × List Ob × Nat × Nat} {t : TypeId} {len : Nat} {ps : Array (Nat × Operand)} (hI : Inv GL G Z w HP) (hn : G hp.length = none) (ho : o.op = .buildSlice t len ps) (hx : ∀ p ∈ ps.toList, Rep G Z w (evT GL tm p.2) (a.eval p.2)) (h : absBuildSlice P hp t len (ps.toList.map fun p => (p.1, evT GL tm p.2)) = some r) : Does P GL G Z w a o hp.length r := by
  unfold absBuildSlice at h
  split at h
  · rename_i e hu
    split at h
    · rename_i ie hie
      split at h
      · rename_i z hz
        split at h
        · rename_i hc
          split at h
          · rename_i cs hf
            split at h
            · rename_i hcl
              cases h
              obtain ⟨vs', k1, k2⟩ := fillT_rep (GL := GL) (tm := tm) (a := a) ps.toList hf (repl_range z.cells _) hx
              have hrun := run_buildSlice_any (P := P) w t e len (ps.map fun (i, x) => (i, a.eval x)) vs'.toArray ie z hu hie hz hc.2 (by
                rw [← k1]
                congr 1
                · apply Array.ext'
                  simp
                · simp)
              have hm : len ≤ maxLen := by
                have h1 := hc.2
                have h2 : len ≤ len * ie.size := Nat.le_mul_of_pos_right _ hc.1
                simp only [maxLen]
                omega
              obtain ⟨G', Z', hres⟩ := res_row (hp := hp) (e := e) hI hn hc.1 hm (by rw [repl_len k2]; exact hcl.1) (repl_one k2 hcl.2) k2
              refine ⟨_, G', Z', _, .inl ?_, hres⟩
              unfold execOp
              simp only [ho, Sem.run_bind, hrun, Result.andThen_ok, Sem.run_pure]
            · cases h
          · cases h
        · cases h
      · cases h
    · cases h
  · cases h
def isSlT (P : Program) (t : Option TypeId) : Bool :=
  match t with
  | some t => match P.underlying t with
    | some (.slice _) => true
    | _ => false
  | none => false
def absLen (P : Program) (hp : List Ob) (ats : Array TypeId) (x : TV) : AR := if isSlT P ats[0]? = true then (match rowLen x with | some n => some (.lf (.int .i64 (n : Int)), hp, 0, 0) | none => none) else none
theorem does_len {r : TV × List Ob × Nat × Nat} {x : Operand} {ats : Array TypeId} (hI : Inv GL G Z w HP) (ho : o.op = .call { callee := .builtin .len, args := #[x], argTypes := ats }) (hx : Rep G Z w (evT GL tm x) (a.eval x)) (h : absLen P hp ats (evT GL tm x) = some r) : Does P GL G Z w a o hp.length r := by
  unfold absLen at h
  split at h
  · rename_i hs
    unfold isSlT at hs
    split at hs
    · rename_i _ t ht
      split at hs
      · rename_i e hu
        have fin : ∀ {n cap : Nat} {A : Option Addr}, a.eval x = .slice A n cap → Does P GL G Z w a o hp.length (.lf (.int .i64 (n : Int)), hp, 0, 0) := fun {n cap A} hv => by
          refine does_value hI (v := .int .i64 (n : Int)) ?_ (rep_lf.2 rfl)
          unfold execOp
          simp [ho, resolve, invoke, builtin, hv, Builtin.len_, goInt, ht, run_underlying hu]
        generalize evT GL tm x = X at hx h
        cases X <;> simp only [rowLen, reduceCtorEq, Option.some.injEq] at h
        case fr sz xs full =>
          subst h
          rw [Rep] at hx
          obtain ⟨A, cap, hv, _⟩ := hx
          exact fin hv
        case vw id sz off len full =>
          subst h
          rw [Rep] at hx
          obtain ⟨_, v0, _, A, n, cap, A', cap', _, hv, _⟩ := hx
          exact fin hv
      · cases hs
    · cases hs
  · cases h
def absMakeFunc (hp : List Ob) (f : Fn) (x y : List TV) : AR :=
  match f with
  | .func k => some (.fn k x y, hp, 0, 0)
  | _ => none
theorem repl_map : ∀ (l : List Operand), (∀ x ∈ l, Rep G Z w (evT GL tm x) (a.eval x)) → RepL G Z w (l.map (evT GL tm)) (l.map a.eval)
  | [], _ => repl_nil.2 rfl
  | x :: l, h => repl_cons.2 ⟨_, _, rfl, h x (by simp), repl_map l fun y hy => h y (by simp [hy])⟩
theorem does_makeFunc {r : TV × List Ob × Nat × Nat} {f : Fn} {x y : Array Operand} (hI : Inv GL G Z w HP) (ho : o.op = .makeFunc f x y) (hx : ∀ q ∈ x.toList ++ y.toList, Rep G Z w (evT GL tm q) (a.eval q)) (h : absMakeFunc hp f (x.toList.map (evT GL tm)) (y.toList.map (evT GL tm)) = some r) : Does P GL G Z w a o hp.length r := by
  unfold absMakeFunc at h
  split at h
  · rename_i k
    cases h
    refine does_value hI (v := .func (.func k) (x.map a.eval) (y.map a.eval)) ?_ ?_
    · unfold execOp
      simp [ho, Instr.makeFunc]
    · rw [Rep]
      exact ⟨x.toList.map a.eval, y.toList.map a.eval, by rw [← Array.toList_map, ← Array.toList_map], repl_map _ fun q hq => hx q (by simp [hq]), repl_map _ fun q hq => hx q (by simp [hq])⟩
  · cases h
end
end Go.Eng
end

section
set_option linter.unusedVariables false
set_option linter.unusedSimpArgs false
namespace Go.Eng
open Go.RowKit
def bnd (d : Nat) : Option TV → Option Nat
  | none => some d
  | some (.lf (.int _ i)) => if 0 ≤ i then some i.toNat else none
  | _ => none
def absSlice (P : Program) (hp : List Ob) (t : TypeId) (x : TV) (lo hi mx : Option TV) : AR :=
  match P.underlying t with
  | some (.slice e) => match P.info? e, x with
    | some ie, .fr sz xs full =>
      match bnd 0 lo, bnd xs.length hi, mx, bnd 0 mx with
      | some l, some h, none, _ => if sz = ie.size ∧ l ≤ h ∧ h ≤ xs.length then some (.fr sz ((xs.take h).drop l) (full && decide (h = xs.length)), hp, 0, 0) else none
      | some l, some h, some _, some m => if sz = ie.size ∧ l ≤ h ∧ h ≤ m ∧ m ≤ xs.length ∧ hi.isSome = true then some (.fr sz ((xs.take h).drop l) (decide (h = m)), hp, 0, 0) else none
      | _, _, _, _ => none
    | some ie, .vw id sz off len full =>
      match bnd 0 lo, bnd len hi, mx, bnd 0 mx with
      | some l, some h, none, _ => if sz = ie.size ∧ l ≤ h ∧ h ≤ len ∧ (full = true → h = len) then some (.vw id sz (off + l) (h - l) full, hp, 0, 0) else none
      | some l, some h, some _, some m => if sz = ie.size ∧ l ≤ h ∧ h = m ∧ m ≤ len ∧ hi.isSome = true then some (.vw id sz (off + l) (h - l) true, hp, 0, 0) else none
      | _, _, _, _ => none
    | _, _ => none
  | _ => none
section
variable {P : Program} {GL : Nat → Option (List Dt)} {G : Gh} {Z : Zn} {w : World} {HP : Nat → Ob → Prop} {tm : List TV} {hp : List Ob} {o : Oper} {a : Act}
theorem bnd_run {d k y : Nat} {x : Option Operand} {code : BoundsCode} (h : bnd d (x.map (evT GL tm)) = some k) (hx : ∀ q, x = some q → Rep G Z w (evT GL tm q) (a.eval q)) (hk : k ≤ y) : (x = none ∧ k = d) ∨ (∃ q kd, x = some q ∧ a.eval q = .int kd (k : Int) ∧ (Instr.sliceBound (.int kd (k : Int)) y code).run P w = .ok k w) := by
  cases x with
  | none => simp only [Option.map_none, bnd, Option.some.injEq] at h; exact .inl ⟨rfl, h.symm⟩
  | some q =>
    have hr := hx q rfl
    simp only [Option.map_some] at h
    generalize evT GL tm q = Q at h hr
    unfold bnd at h
    split at h
    · rename_i heq; cases heq
    · rename_i kd i e
      obtain rfl : Q = _ := by injection e
      split at h
      · rename_i h0
        simp only [Option.some.injEq] at h
        have hv := rep_lf.1 hr
        have hi : i = (k : Int) := by omega
        subst hi
        refine .inr ⟨q, kd, rfl, hv, ?_⟩
        simp [Instr.sliceBound, asIntOf, hk]
      · cases h
    · cases h
theorem part_rows {sz l h : Nat} {xs : List (List Dt)} {A : Option Addr} (hr : RwR Z w sz A 0 xs) : RwR Z w sz (A.map (·.add (l * sz))) 0 ((xs.take h).drop l) := by
  refine rw_of fun j x hx => ?_
  rw [List.getElem?_drop, List.getElem?_take] at hx
  split at hx
  · obtain ⟨g, o, cs, rfl, h2, h3, h4⟩ := hr.get hx
    refine ⟨g, o + l * sz, cs, by simp [Addr.add_mid], ?_, h3, h4⟩
    rwa [show o + l * sz + (0 + j) * sz = o + (0 + (l + j)) * sz by rw [Nat.zero_add, Nat.zero_add, Nat.add_mul]; omega]
  · cases hx
theorem add0 (A : Option Addr) : A.map (·.add 0) = A := by cases A <;> simp [Addr.add]
theorem Addr_add_add (a : Addr) (m n : Nat) : (a.add m).add n = a.add (m + n) := by
  unfold Addr.add
  by_cases hm : m = 0 <;> by_cases hn : n = 0 <;> simp [hm, hn, Nat.add_assoc]
theorem add_more (A : Option Addr) (x y : Nat) : (A.map (·.add x)).map (·.add y) = A.map (·.add (x + y)) := by
  cases A with
  | none => rfl
  | some a => simp [Addr_add_add]
theorem does_slice {r : TV × List Ob × Nat × Nat} {t : TypeId} {x : Operand} {lo hi mx : Option Operand} (hI : Inv GL G Z w HP) (ho : o.op = .slice t x lo hi mx) (hx : Rep G Z w (evT GL tm x) (a.eval x)) (hl : ∀ q, lo = some q → Rep G Z w (evT GL tm q) (a.eval q)) (hh : ∀ q, hi = some q → Rep G Z w (evT GL tm q) (a.eval q)) (hm : ∀ q, mx = some q → Rep G Z w (evT GL tm q) (a.eval q)) (h : absSlice P hp t (evT GL tm x) (lo.map (evT GL tm)) (hi.map (evT GL tm)) (mx.map (evT GL tm)) = some r) : Does P GL G Z w a o hp.length r := by
  generalize evT GL tm x = X at hx h
  unfold absSlice at h
  split at h
  · rename_i e hu
    have run : ∀ {ie : TypeInfo} {A : Option Addr} {n cap l hh' m : Nat}, P.info? e = some ie → a.eval x = .slice A n cap → (Instr.sliceBounds true n cap (lo.map a.eval) (hi.map a.eval) (mx.map a.eval)).run P w = .ok (l, hh', m) w → (execOp a.eval o).run P w = .ok (.value (.slice (if m = l then A else A.map (·.add (l * ie.size))) (hh' - l) (m - l))) w := fun {ie A n cap l hh' m} hie hv hb => by
      unfold execOp
      simp [ho, hv, Instr.sliceAt, Instr.slice, run_underlying hu, hb, sizeOf, typeInfo, hie]
    have bound : ∀ {n cap l hh' : Nat}, bnd 0 (lo.map (evT GL tm)) = some l → bnd n (hi.map (evT GL tm)) = some hh' → mx = none → l ≤ hh' → hh' ≤ cap → (Instr.sliceBounds true n cap (lo.map a.eval) (hi.map a.eval) (mx.map a.eval)).run P w = .ok (l, hh', cap) w := fun {n cap l hh'} hl1 hh1 hmx h1 h2 => by
      subst hmx
      unfold Instr.sliceBounds
      rcases bnd_run (P := P) (y := hh') (code := .sliceB) hl1 hl h1 with ⟨e3, e4⟩ | ⟨ql, kl, e3, hql, hrl⟩ <;>
        rcases bnd_run (P := P) (y := cap) (code := .sliceAcap) hh1 hh h2 with ⟨e1, e2⟩ | ⟨qh, kh, e1, hqh, hrh⟩ <;>
        subst e1 <;> subst e3 <;> (try subst e2) <;> (try subst e4) <;> simp_all
    have bound3 : ∀ {n cap l hh' m : Nat}, bnd 0 (lo.map (evT GL tm)) = some l → bnd n (hi.map (evT GL tm)) = some hh' → bnd 0 (mx.map (evT GL tm)) = some m → mx ≠ none → hi ≠ none → l ≤ hh' → hh' ≤ m → m ≤ cap → (Instr.sliceBounds true n cap (lo.map a.eval) (hi.map a.eval) (mx.map a.eval)).run P w = .ok (l, hh', m) w := fun {n cap l hh' m} hl1 hh1 hm1 hmx hhi h1 h2 h3 => by
      obtain ⟨qm, rfl⟩ : ∃ q, mx = some q := by cases mx <;> simp_all
      obtain ⟨qh', rfl⟩ : ∃ q, hi = some q := by cases hi <;> simp_all
      unfold Instr.sliceBounds
      rcases bnd_run (P := P) (y := cap) (code := .slice3Acap) hm1 hm h3 with ⟨h', _⟩ | ⟨qm', km, hqm, hqm2, hrm⟩
      · cases h'
      rcases bnd_run (P := P) (y := m) (code := .slice3B) hh1 hh h2 with ⟨h', _⟩ | ⟨qh, kh, hqh, hqh2, hrh⟩
      · cases h'
      cases hqm; cases hqh
      rcases bnd_run (P := P) (y := hh') (code := .slice3C) hl1 hl h1 with ⟨e3, e4⟩ | ⟨ql, kl, e3, hql, hrl⟩ <;> subst e3 <;> (try subst e4) <;> simp_all
    split at h
    · rename_i ie sz xs full hie
      rw [Rep] at hx
      obtain ⟨A, cap, hv, ⟨hc1, hc2, hc3⟩, hfull, hrw⟩ := hx
      have fin : ∀ {l hh' m : Nat} (fl : Bool), l ≤ hh' → hh' ≤ m → hh' ≤ xs.length → m ≤ cap → (fl = true → m = hh') → Rep G Z w (.fr sz ((xs.take hh').drop l) fl) (.slice (if m = l then A else A.map (·.add (l * sz))) (hh' - l) (m - l)) := fun {l hh' m} fl h1 h2 h3 h4 hfl => by
        rw [Rep]
        have hlen : ((xs.take hh').drop l).length = hh' - l := by simp; omega
        refine ⟨_, m - l, by rw [hlen], by rw [hlen]; exact ⟨by omega, by omega, hc3⟩, fun e => by rw [hlen, hfl e], ?_⟩
        by_cases hml : m = l
        · have : (xs.take hh').drop l = [] := List.eq_nil_of_length_eq_zero (by omega)
          rw [this]; exact rw_nil
        · rw [if_neg hml]; exact part_rows hrw
      split at h
      · rename_i l hh' hl1 hh1 hmx
        have hmx : mx = none := by cases mx <;> simp_all
        split at h
        · rename_i hcond
          obtain ⟨hsz, hlh, hhx⟩ := hcond
          cases h
          have := run hie hv (bound hl1 hh1 hmx hlh (by omega))
          rw [← hsz] at this
          refine does_value hI this (fin _ hlh (by omega) hhx (Nat.le_refl _) fun e => ?_)
          rw [Bool.and_eq_true, decide_eq_true_eq] at e
          rw [hfull e.1, e.2]
        · cases h
      · rename_i l hh' mq m hl1 hh1 hmx hm1
        split at h
        · rename_i hcond
          obtain ⟨hsz, hlh, hhm, hmx', hsome⟩ := hcond
          cases h
          have := run hie hv (bound3 (cap := cap) hl1 hh1 hm1 (by intro e; subst e; simp at hmx) (by intro e; subst e; simp at hsome) hlh hhm (by omega))
          rw [← hsz] at this
          exact does_value hI this (fin _ hlh hhm (by omega) (by omega) fun e => (of_decide_eq_true e).symm)
        · cases h
      · cases h
    · rename_i ie id sz off len full hie
      rw [Rep] at hx
      obtain ⟨h0, v0, hG, A, n, cap, A', cap', e0, hv, hn, hc1, hc2, hc3, hc4, hc5, hc6⟩ := hx
      have fin : ∀ {l hh' m : Nat} (fl : Bool), l ≤ hh' → hh' ≤ m → hh' ≤ len → m ≤ cap' → (fl = true → m = hh') → (fl = false → full = false ∧ m = cap') → Rep G Z w (.vw id sz (off + l) (hh' - l) fl) (.slice (if m = l then A' else A'.map (·.add (l * sz))) (hh' - l) (m - l)) := fun {l hh' m} fl h1 h2 h3 h4 hfl hfl2 => by
        rw [Rep]
        refine ⟨h0, v0, hG, A, n, cap, _, m - l, e0, rfl, by omega, by omega, by omega, fun e => by rw [hfl e], fun e => ?_, fun hpos => ?_, ?_⟩
        · obtain ⟨k1, k2⟩ := hc4 (by omega)
          have hl0 : l = 0 := by omega
          subst hl0
          refine ⟨?_, fun e' => ?_⟩
          · rw [Nat.zero_mul, add0]; split <;> exact k1
          · obtain ⟨q1, q2⟩ := hfl2 e'
            rw [q2, Nat.sub_zero]; exact k2 q1
        · rw [if_neg (by omega), hc5 (by omega), add_more, Nat.add_mul]
        · split
          · exact hc6
          · rw [Option.isSome_map]; exact hc6
      split at h
      · rename_i l hh' hl1 hh1 hmx
        have hmx : mx = none := by cases mx <;> simp_all
        split at h
        · rename_i hcond
          obtain ⟨hsz, hlh, hhx, hfx⟩ := hcond
          cases h
          have := run hie hv (bound hl1 hh1 hmx hlh (by omega))
          rw [← hsz] at this
          exact does_value hI this (fin _ hlh (by omega) hhx (Nat.le_refl _) (fun e => by rw [hc3 e, hfx e]) fun e => ⟨e, rfl⟩)
        · cases h
      · rename_i l hh' mq m hl1 hh1 hmx hm1
        split at h
        · rename_i hcond
          obtain ⟨hsz, hlh, hhm, hmx', hsome⟩ := hcond
          cases h
          have := run hie hv (bound3 (cap := cap') hl1 hh1 hm1 (by intro e; subst e; simp at hmx) (by intro e; subst e; simp at hsome) hlh (by omega) (by omega))
          rw [← hsz] at this
          exact does_value hI this (fin true hlh (by omega) (by omega) (by omega) (fun _ => hhm.symm) fun e => by cases e)
        · cases h
      · cases h
    · cases h
  · cases h
end
end Go.Eng
end

section
set_option linter.unusedVariables false
set_option linter.unusedSimpArgs false
namespace Go.Eng
open Go.RowKit
section
variable {P : Program} {GL : Nat → Option (List Dt)} {G : Gh} {Z : Zn} {w : World} {HP : Nat → Ob → Prop} {tm : List TV} {hp : List Ob} {o : Oper} {a : Act}
theorem rows_cells {sz : Nat} {A : Option Addr} : ∀ {xs : List (List Dt)} {i : Nat}, RwR Z w sz A i xs → ∃ L : List (List Value), L.length = xs.length ∧ ∀ (j : Nat) (x : List Dt) (C : List Value), xs[j]? = some x → L[j]? = some C → C.length = sz ∧ FsR Z w x C ∧ ∃ g o, A = some ⟨g, o, none⟩ ∧ FrR Z w g (o + (i + j) * sz) C
  | [], i, _ => ⟨[], rfl, by simp⟩
  | x :: xs, i, h => by
    obtain ⟨⟨g, o, cs, h1, h2, h3, h4⟩, h5⟩ := rw_cons.1 h
    obtain ⟨L, hL, hE⟩ := rows_cells h5
    refine ⟨cs :: L, by simp [hL], fun j y C hy hC => ?_⟩
    cases j with
    | zero => cases hy; cases hC; exact ⟨h3, h4, g, o, h1, h2⟩
    | succ j =>
      have := hE j y C (by simpa using hy) (by simpa using hC)
      rwa [show i + 1 + j = i + (j + 1) by omega] at this
theorem flat_at (sz : Nat) : ∀ (L : List (List Value)), (∀ C ∈ L, C.length = sz) → ∀ (i : Nat) (C : List Value), L[i]? = some C → ∀ (j : Nat) (v : Value), C[j]? = some v → L.flatten[i * sz + j]? = some v
  | [], _, i, C, h, _, _, _ => by simp at h
  | D :: L, hl, 0, C, h, j, v, hv => by
    simp at h; subst h
    have hj := (List.getElem?_eq_some_iff.1 hv).1
    rw [List.flatten_cons, List.getElem?_append_left (by omega)]
    simpa using hv
  | D :: L, hl, i + 1, C, h, j, v, hv => by
    have hD := hl D (by simp)
    have ih := flat_at sz L (fun C hC => hl C (by simp [hC])) i C (by simpa using h) j v hv
    rw [List.flatten_cons, List.getElem?_append_right (by rw [hD, Nat.succ_mul]; omega), hD, show (i + 1) * sz + j - sz = i * sz + j by rw [Nat.succ_mul]; omega]
    exact ih
theorem flat_len (sz : Nat) : ∀ (L : List (List Value)), (∀ C ∈ L, C.length = sz) → L.flatten.length = L.length * sz
  | [], _ => by simp
  | D :: L, hl => by rw [List.flatten_cons, List.length_append, hl D (by simp), flat_len sz L (fun C hC => hl C (by simp [hC])), List.length_cons, Nat.succ_mul]; omega
theorem flat_inv (sz : Nat) (h0 : 0 < sz) : ∀ (L : List (List Value)), (∀ C ∈ L, C.length = sz) → ∀ (p : Nat) (v : Value), L.flatten[p]? = some v → ∃ C, L[p / sz]? = some C ∧ C[p % sz]? = some v
  | [], _, p, v, h => by simp at h
  | D :: L, hl, p, v, h => by
    have hD := hl D (by simp)
    rw [List.flatten_cons] at h
    by_cases hp : p < sz
    · rw [List.getElem?_append_left (by omega)] at h
      exact ⟨D, by rw [Nat.div_eq_of_lt hp]; rfl, by rw [Nat.mod_eq_of_lt hp]; exact h⟩
    · rw [List.getElem?_append_right (by omega), hD] at h
      obtain ⟨C, h1, h2⟩ := flat_inv sz h0 L (fun C hC => hl C (by simp [hC])) _ v h
      have e1 : p / sz = (p - sz) / sz + 1 := by rw [Nat.div_eq_sub_div h0 (by omega)]
      have e2 : p % sz = (p - sz) % sz := by rw [Nat.mod_eq_sub_mod (by omega)]
      exact ⟨C, by rw [e1, List.getElem?_cons_succ]; exact h1, by rw [e2]; exact h2⟩
theorem row_flat {sz : Nat} {A : Option Addr} {xs : List (List Dt)} (h0 : 0 < sz) (h : RwR Z w sz A 0 xs) : ∃ L : List (List Value), L.length = xs.length ∧ (∀ C ∈ L, C.length = sz) ∧ (∀ (j : Nat) (x : List Dt) (C : List Value), xs[j]? = some x → L[j]? = some C → FsR Z w x C) ∧ (∀ u ∈ L.flatten, u.oneCell' = true) ∧ ∀ g o, A = some ⟨g, o, none⟩ → FrR Z w g o L.flatten := by
  obtain ⟨L, h1, h2⟩ := rows_cells h
  have hsz : ∀ C ∈ L, C.length = sz := fun C hC => by
    obtain ⟨i, hi, rfl⟩ := List.mem_iff_getElem.1 hC
    exact (h2 i _ _ (List.getElem?_eq_getElem (by omega)) (List.getElem?_eq_getElem hi)).1
  refine ⟨L, h1, hsz, fun j x C hx hC => (h2 j x C hx hC).2.1, fun u hu => ?_, fun g o hA p v hv => ?_⟩
  · obtain ⟨C, hC, hu⟩ := List.mem_flatten.1 hu
    obtain ⟨i, hi, rfl⟩ := List.mem_iff_getElem.1 hC
    exact fs_one (h2 i _ _ (List.getElem?_eq_getElem (by omega)) (List.getElem?_eq_getElem hi)).2.1 u hu
  · obtain ⟨C, k1, k2⟩ := flat_inv sz h0 L hsz p v hv
    have hi := (List.getElem?_eq_some_iff.1 k1).1
    obtain ⟨_, _, g', o', e, hf⟩ := h2 (p / sz) _ C (List.getElem?_eq_getElem (by omega)) k1
    rw [hA] at e
    injection e with e
    injection e with e1 e2 _
    subst e1 e2
    have := hf _ v k2
    have e3 : p / sz * sz + p % sz = p := by rw [Nat.mul_comm]; exact Nat.div_add_mod p sz
    rwa [show o + (0 + p / sz) * sz + p % sz = o + p by rw [Nat.zero_add]; omega] at this
theorem row_of {sz g o : Nat} {xs : List (List Dt)} {L : List (List Value)} (hl : L.length = xs.length) (hsz : ∀ C ∈ L, C.length = sz) (hf : ∀ (j : Nat) (x : List Dt) (C : List Value), xs[j]? = some x → L[j]? = some C → FsR Z w x C) (hc : FrR Z w g o L.flatten) : RwR Z w sz (some ⟨g, o, none⟩) 0 xs := rw_of fun j x hx => by
  have hj := (List.getElem?_eq_some_iff.1 hx).1
  have hC : L[j]? = some (L[j]'(by omega)) := List.getElem?_eq_getElem (by omega)
  refine ⟨g, o, L[j], rfl, fun p v hv => ?_, hsz _ (List.getElem_mem _), hf j x _ hx hC⟩
  have := hc _ v (flat_at sz L hsz j _ hC p v hv)
  rwa [← Nat.add_assoc, Nat.zero_add] at *
end
structure Apd (w : World) (e : TypeId) (sz n : Nat) (v0 : Value) (cells news : List Value) (m : Nat) (v' : Value) (w' : World) : Prop where
  own : w'.ownsRow 0 e sz v' (n + m) (cells ++ news)
  sl : isSl v' = true
  bel : Below 0 w w'
  far : ∀ b, b < w.heap.size → v0.ownBlock ≠ some b → w'.heap[b]? = w.heap[b]?
  old : (v'.ownBlock = v0.ownBlock) ∨ (Below w.heap.size w w' ∧ ∃ b, v'.ownBlock = some b ∧ w.heap.size ≤ b)
  same : m = 0 → v' = v0 ∧ w' = w
section
variable {P : Program} {w : World}
theorem own_isSl {e : TypeId} {sz n : Nat} {v : Value} {xs : List Value} (h : w.ownsRow 0 e sz v n xs) : isSl v = true := by
  rcases h.2 with ⟨rfl, _⟩ | ⟨g, cap, cur, rfl, _⟩ <;> rfl
theorem own_base {B : Nat} {e : TypeId} {sz n : Nat} {v : Value} {xs : List Value} (h : w.ownsRow B e sz v n xs) : w.ownsRow 0 e sz v n xs := ⟨h.1, h.2.imp id fun ⟨g, cap, cur, h1, h2, h3⟩ => ⟨g, cap, cur, h1, Nat.zero_le _, h3⟩⟩
theorem run_append0 {t ty e : TypeId} {i : TypeInfo} (ht : P.underlying t = some (.slice e)) (hi : P.info? e = some i) {A B : Option Addr} {n c c2 : Nat} (hn : n ≤ c) : (Builtin.append_ #[t, t] ty #[.slice A n c, .slice B 0 c2]).run P w = .ok (.slice A n c) w := by
  cases A <;> cases B <;> simp [Builtin.append_, run_underlying ht, sizeOf, typeInfo, hi, Builtin.lenOf, hn, Builtin.firstCells, loadCells, loadCellsFrom, storeCells]
theorem apd_any {t ty e : TypeId} {i : TypeInfo} {z : Value} (ht : P.underlying t = some (.slice e)) (hi : P.info? e = some i) (hz : i.zero = some z) (hzs : z.cells.size = i.size) (hsz : 0 < i.size)
    {v0 : Value} {n : Nat} {cells : List Value} (hown : w.ownsRow 0 e i.size v0 n cells) {B : Option Addr} {m c : Nat} {news : List Value} (hl : news.length = m * i.size) (hB : 0 < m → ∃ g o, B = some ⟨g, o, none⟩ ∧ ∀ j u, news[j]? = some u → w.cell? ⟨g, o + j, none⟩ = some u) (h1 : ∀ u ∈ news, u.oneCell' = true)
    (h63 : n + m ≤ maxLen) (hby : (n + m) * i.bytes ≤ 140737488355328) :
    ∃ v' w', (Builtin.append_ #[t, t] ty #[v0, .slice B m c]).run P w = .ok v' w' ∧ Apd w e i.size n v0 cells news m v' w' := by
  by_cases hm : m = 0
  · subst hm
    have hn : news = [] := List.eq_nil_of_length_eq_zero (by simpa using hl)
    subst hn
    refine ⟨v0, w, ?_, by simpa using hown, own_isSl hown, Below.refl _ _, fun _ _ _ => rfl, .inl rfl, fun _ => ⟨rfl, rfl⟩⟩
    rcases hown.2 with ⟨rfl, rfl⟩ | ⟨g, cap, cur, rfl, _, _, hnc, _⟩
    · exact run_append0 ht hi (Nat.le_refl _)
    · exact run_append0 ht hi hnc
  · obtain ⟨gb, ob, rfl, hnews⟩ := hB (by omega)
    have hnews' : ∀ j u, news[j]? = some u → w.cell? ((⟨gb, ob, none⟩ : Addr).add j) = some u := fun j u hu => by rw [Addr.add_mid]; exact hnews j u hu
    rcases hown.2 with ⟨rfl, rfl⟩ | ⟨g, cap, cur, rfl, _, hg, hnc, hcm, hcs, htake⟩
    · obtain ⟨v', w', k1, k2, k3, k4, k5⟩ := run_append_own_at (P := P) w 0 t ty e i z i.size i.bytes ht hi hz rfl rfl hzs hsz _ 0 cells hown ⟨gb, ob, none⟩ m c news hl hnews' h1 h63 hby (Nat.zero_le _)
      have hbel : Below w.heap.size w w' := ⟨k3.os, k3.tape, k3.output, k3.size, fun k hk => k3.block k hk (by simp [Value.ownBlock])⟩
      refine ⟨v', w', k1, k2, own_isSl k2, hbel.mono (Nat.zero_le _), fun b hb _ => hbel.block b hb, .inr ⟨hbel, ?_⟩, fun e => absurd e hm⟩
      rcases k5 with k5 | k5
      · exfalso
        rcases k2.2 with ⟨rfl, h0⟩ | ⟨g, cap, cur, rfl, _⟩
        · omega
        · simp [Value.ownBlock] at k5
      · exact ⟨_, k5, Nat.le_refl _⟩
    · by_cases hroom : n + m ≤ cap
      · have hfit : n * i.size + news.length ≤ cur.size := by rw [hl, hcs, ← Nat.add_mul]; exact Nat.mul_le_mul_right _ hroom
        have hr := run_append_room (P := P) w t ty e i ht hi g n cap cur hg ⟨gb, ob, none⟩ m c news hl hnews' h1 hroom hfit
        have hlen : (cells ++ news).length = (n + m) * i.size := by rw [List.length_append, hown.1, hl, Nat.add_mul]
        refine ⟨_, _, hr, ⟨hlen, .inr ⟨g, cap, _, rfl, Nat.zero_le _, setRow_heap w g cur _ e _ hg, hroom, hcm, ?_, ?_⟩⟩, rfl, below_setRow (Below.refl 0 w) (Nat.zero_le _) _, fun b hb hne => setRow_other w g b _ (fun e => hne (by rw [e]; rfl)), .inl rfl, fun e => absurd e hm⟩
        · simp only [List.size_toArray, List.length_append, List.length_take, List.length_drop, Array.length_toList]
          omega
        · rw [htake, ← hlen]
          exact List.take_left
      · have holds : ∀ j u, cells[j]? = some u → w.cell? ((⟨g, 0, none⟩ : Addr).add j) = some u := fun j u hu => hown.cells (g := g) rfl _ _ hu
        obtain ⟨v', w', k1, k2, k3⟩ := run_append_arg_grows (P := P) w t ty e i z i.size i.bytes ht hi hz rfl rfl hzs hsz ⟨g, 0, none⟩ n cap cells hown.1 holds ⟨gb, ob, none⟩ m c news hl hnews' (by omega) h63 hby
        have hbel : Below w.heap.size w w' := ⟨k3.os, k3.tape, k3.output, k3.size, fun k hk => k3.block k hk (by simp)⟩
        refine ⟨v', w', k1, own_base k2, own_isSl (own_base k2), hbel.mono (Nat.zero_le _), fun b hb _ => hbel.block b hb, .inr ⟨hbel, ?_⟩, fun e => absurd e hm⟩
        rcases k2.2 with ⟨rfl, h0⟩ | ⟨g', cap', cur', rfl, hge, _⟩
        · omega
        · exact ⟨g', rfl, hge⟩
end
end Go.Eng
end
