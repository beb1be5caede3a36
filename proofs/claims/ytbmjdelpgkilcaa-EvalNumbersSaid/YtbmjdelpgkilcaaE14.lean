/-
  A machine on plain data, twenty-four: texts.
-/
import Derived.Test.YtbmjdelpgkilcaaE13
set_option linter.unusedVariables false
section
set_option linter.unusedVariables false
set_option linter.unusedSimpArgs false
namespace Go.Eng
open Go.RowKit
def ix1 (P : Program) (hp : List Ob) (t : TypeId) (X I : TV) : AR := match lfo X, lfo I with
  | some a, some b => out1 hp (prS P (Instr.index t a b))
  | _, _ => none
def ln1 (P : Program) (hp : List Ob) (ats : Array TypeId) (ty : TypeId) (X : TV) : AR := match lfo X with
  | some a => out1 hp (prS P (Builtin.len_ ats ty #[a]))
  | none => none
def lfoO : Option TV → Option (Option Value)
  | none => some none
  | some X => (lfo X).map some
def sl1 (P : Program) (hp : List Ob) (t : TypeId) (X : TV) (lo hi mx : Option TV) : AR := match lfo X, lfoO lo, lfoO hi, lfoO mx with
  | some a, some l, some h, some m => out1 hp (prS P (Instr.sliceAt t a l h m))
  | _, _, _, _ => none
section
variable {P : Program} {GL : Nat → Option (List Dt)} {tm : List TV} {hp : List Ob} {d : Option Tmp} {ty : TypeId} {p : String} {af : Array Edge} {g : Option (Nat × Bool)}
theorem pure_index (t : TypeId) (x y : Operand) : absPure P GL tm hp ⟨d, .index t x y, ty, p, af, g⟩ = ix1 P hp t (evT GL tm x) (evT GL tm y) := by
  unfold absPure ix1
  simp only [Op.operands, List.all_cons, List.all_nil, Bool.and_true, Bool.and_eq_true]
  rcases hx : lfo (evT GL tm x) with _ | a
  · simp
  · rcases hy : lfo (evT GL tm y) with _ | b
    · simp
    · simp only [Option.isSome_some, and_self, if_true]
      unfold execOp rhoT
      simp only [hx, hy, Option.getD_some]
      rw [prS_bind]
      rcases prS P (Instr.index t a b) with _ | v <;> rfl
theorem len_op (r : Operand → Value) (ats : Array TypeId) (x : Operand) : execOp r ⟨d, .call { callee := .builtin .len, args := #[x], argTypes := ats }, ty, p, af, g⟩ = (do let v ← Builtin.len_ ats ty #[r x]; pure (.value v)) := by
  simp [execOp, resolve, invoke, builtin]
theorem pure_len (ats : Array TypeId) (x : Operand) : absPure P GL tm hp ⟨d, .call { callee := .builtin .len, args := #[x], argTypes := ats }, ty, p, af, g⟩ = ln1 P hp ats ty (evT GL tm x) := by
  unfold absPure ln1
  rw [len_op]
  have e : (Op.operands (.call { callee := .builtin .len, args := #[x], argTypes := ats })).toList = [x] := by simp [Op.operands, Call.operands]
  simp only [e, List.all_cons, List.all_nil, Bool.and_true]
  rcases hx : lfo (evT GL tm x) with _ | a
  · simp
  · simp only [Option.isSome_some, if_true]
    unfold rhoT
    simp only [hx, Option.getD_some]
    rw [prS_bind]
    rcases prS P (Builtin.len_ ats ty #[a]) with _ | v <;> rfl
theorem pure_slice (t : TypeId) (x : Operand) (lo hi mx : Option Operand) : absPure P GL tm hp ⟨d, .slice t x lo hi mx, ty, p, af, g⟩ = sl1 P hp t (evT GL tm x) (lo.map (evT GL tm)) (hi.map (evT GL tm)) (mx.map (evT GL tm)) := by
  have key : ∀ q : Option Operand, (match q with | none => true | some y => (lfo (evT GL tm y)).isSome) = true → lfoO (q.map (evT GL tm)) = some (q.map (rhoT GL tm)) := fun q h => by
    cases q with
    | none => rfl
    | some y =>
      obtain ⟨a, ha⟩ := Option.isSome_iff_exists.1 h
      simp [lfoO, rhoT, ha]
  have key2 : ∀ q : Option Operand, (match q with | none => true | some y => (lfo (evT GL tm y)).isSome) = false → lfoO (q.map (evT GL tm)) = none := fun q h => by
    cases q with
    | none => cases h
    | some y => simpa [lfoO] using h
  have e : ((Op.operands (.slice t x lo hi mx)).toList.all fun x => (lfo (evT GL tm x)).isSome) = ((lfo (evT GL tm x)).isSome && (match lo with | none => true | some y => (lfo (evT GL tm y)).isSome) && (match hi with | none => true | some y => (lfo (evT GL tm y)).isSome) && (match mx with | none => true | some y => (lfo (evT GL tm y)).isSome)) := by
    cases lo <;> cases hi <;> cases mx <;> simp [Op.operands, Bool.and_assoc]
  unfold absPure sl1
  rw [e]
  rcases hx : lfo (evT GL tm x) with _ | a
  · simp
  · cases hl : (match lo with | none => true | some y => (lfo (evT GL tm y)).isSome) with
    | false => rw [key2 lo hl]; simp
    | true =>
      cases hh : (match hi with | none => true | some y => (lfo (evT GL tm y)).isSome) with
      | false => rw [key lo hl, key2 hi hh]; simp
      | true =>
        cases hm : (match mx with | none => true | some y => (lfo (evT GL tm y)).isSome) with
        | false => rw [key lo hl, key hi hh, key2 mx hm]; simp
        | true =>
          rw [key lo hl, key hi hh, key mx hm]
          simp only [Option.isSome_some, Bool.and_self, if_true]
          unfold execOp
          have : rhoT GL tm x = a := by simp [rhoT, hx]
          simp only [this]
          rw [prS_bind]
          rcases prS P (Instr.sliceAt t a (lo.map (rhoT GL tm)) (hi.map (rhoT GL tm)) (mx.map (rhoT GL tm))) with _ | v <;> rfl
end
theorem int00 : ((0 : Int) ≤ 0) = True := eq_true (Int.le_refl 0)
theorem toNat0 : Int.toNat 0 = 0 := rfl
theorem eq_ft : (false == true) = false := rfl
theorem eq_tf : (true == false) = false := rfl
theorem prS_und {P : Program} {t : TypeId} {d : TypeDesc} (hu : P.underlying t = some d) : prS P (underlying t) = some d := by
  unfold underlying
  rw [prS_bind]
  show prS P (match P.underlying t with | some d => pure d | none => stuck "no such type") = some d
  rw [hu]
  rfl
theorem prS_map {α β : Type} {P : Program} (s : Sem α) (f : α → β) : prS P (f <$> s) = (prS P s).map f := by
  show prS P (Sem.bind s fun a => Sem.pure (f a)) = _
  have := prS_bind (P := P) s fun a => (Sem.pure (f a) : Sem β)
  have h : (s >>= fun a => (Sem.pure (f a) : Sem β)) = Sem.bind s fun a => Sem.pure (f a) := rfl
  rw [← h, this]
  cases prS P s <;> rfl
theorem ix1_str {P : Program} {t : TypeId} (hu : P.underlying t = some .string) (hp : List Ob) (s : ByteArray) (k : IntKind) (i : Nat) (b : UInt8) (h : s[i]? = some b) : ix1 P hp t (.lf (.string s)) (.lf (.int k (i : Int))) = some (.lf (.int .u8 b.toNat), hp, 0, 0) := by
  simp [ix1, lfo, Instr.index, asIntOf, prS_bind, prS_pure, prS_und hu, h, out1, tvOf, tvO]
theorem ln1_str {P : Program} {t : TypeId} (hu : P.underlying t = some .string) (hp : List Ob) (s : ByteArray) (ty : TypeId) : ln1 P hp #[t] ty (.lf (.string s)) = some (.lf (.int .i64 (s.size : Int)), hp, 0, 0) := by
  simp [ln1, lfo, Builtin.len_, prS_bind, prS_pure, prS_und hu, out1, tvOf, tvO, goInt]
theorem sliceB_ok {P : Program} {k : IntKind} {n m : Nat} {c : BoundsCode} (h : n ≤ m) : prS P (Instr.sliceBound (.int k (n : Int)) m c) = some n := by
  simp [Instr.sliceBound, asIntOf, h, prS_pure]
theorem sl1_from {P : Program} {t : TypeId} (hu : P.underlying t = some .string) (hp : List Ob) (s : ByteArray) (k : IntKind) (i : Nat) (h : i ≤ s.size) : sl1 P hp t (.lf (.string s)) (some (.lf (.int k (i : Int)))) none none = some (.lf (.string (s.extract i s.size)), hp, 0, 0) := by
  simp [sl1, lfo, lfoO, Instr.sliceAt, Instr.slice, Instr.sliceBounds, prS_bind, prS_pure, prS_und hu, sliceB_ok h, prS_map, out1, tvOf, tvO]
theorem sl1_to {P : Program} {t : TypeId} (hu : P.underlying t = some .string) (hp : List Ob) (s : ByteArray) (k : IntKind) (i : Nat) (h : i ≤ s.size) : sl1 P hp t (.lf (.string s)) none (some (.lf (.int k (i : Int)))) none = some (.lf (.string (s.extract 0 i)), hp, 0, 0) := by
  simp [sl1, lfo, lfoO, Instr.sliceAt, Instr.slice, Instr.sliceBounds, prS_bind, prS_pure, prS_und hu, sliceB_ok h, prS_map, out1, tvOf, tvO]
theorem sl1_both {P : Program} {t : TypeId} (hu : P.underlying t = some .string) (hp : List Ob) (s : ByteArray) (k l : IntKind) (i j : Nat) (h : i ≤ j) (hj : j ≤ s.size) : sl1 P hp t (.lf (.string s)) (some (.lf (.int k (i : Int)))) (some (.lf (.int l (j : Int)))) none = some (.lf (.string (s.extract i j)), hp, 0, 0) := by
  simp [sl1, lfo, lfoO, Instr.sliceAt, Instr.slice, Instr.sliceBounds, prS_bind, prS_pure, prS_und hu, sliceB_ok h, prS_map, sliceB_ok hj, out1, tvOf, tvO]
end Go.Eng
end
