/-
  A machine on plain data, nineteen: operations on what is no memory.
-/
import Derived.Test.YtbmjdelpgkilcaaE8
set_option linter.unusedVariables false
section
set_option linter.unusedVariables false
set_option linter.unusedSimpArgs false
namespace Go.Eng
open Go.RowKit
theorem prS_bind {α β : Type} {P : Program} (s : Sem α) (f : α → Sem β) : prS P (s >>= f) = (match prS P s with | some a => prS P (f a) | none => none) := by
  show prS P (Sem.bind s f) = _
  induction s with
  | pure a => rfl
  | program k ih => exact ih P
  | _ => rfl
theorem prS_pure {α : Type} {P : Program} (a : α) : prS P (pure a) = some a := rfl
def out1 (hp : List Ob) (x : Option Value) : AR := match x with
  | some v => some (tvOf v, hp, 0, 0)
  | none => none
def bin2 (P : Program) (hp : List Ob) (op : BinOp) (t : TypeId) (x y : Operand) (X Y : TV) : AR := match lfo X, lfo Y with
  | some a, some b => out1 hp (prS P (do eqGuard op t x y a b; binOp op t a b))
  | _, _ => none
def un1 (P : Program) (hp : List Ob) (op : UnOp) (X : TV) : AR := match lfo X with
  | some a => out1 hp (prS P (Op.unary op a))
  | none => none
def conv1 (P : Program) (hp : List Ob) (s d : TypeId) (X : TV) : AR := match lfo X with
  | some a => out1 hp (prS P (convert s d a))
  | none => none
section
variable {P : Program} {GL : Nat → Option (List Dt)} {tm : List TV} {hp : List Ob} {d : Option Tmp} {ty : TypeId} {p : String} {af : Array Edge} {g : Option (Nat × Bool)}
theorem pure_bin (op : BinOp) (t u : TypeId) (x y : Operand) : absPure P GL tm hp ⟨d, .binOp op t x y u, ty, p, af, g⟩ = bin2 P hp op t x y (evT GL tm x) (evT GL tm y) := by
  unfold absPure bin2
  simp only [Op.operands, List.all_cons, List.all_nil, Bool.and_true, Bool.and_eq_true]
  rcases hx : lfo (evT GL tm x) with _ | a
  · simp
  · rcases hy : lfo (evT GL tm y) with _ | b
    · simp
    · simp only [Option.isSome_some, and_self, if_true]
      unfold execOp rhoT
      simp only [hx, hy, Option.getD_some]
      rw [prS_bind]
      rcases prS P (do eqGuard op t x y a b; binOp op t a b) with _ | v <;> rfl
theorem pure_un (op : UnOp) (t : TypeId) (x : Operand) : absPure P GL tm hp ⟨d, .unOp op t x, ty, p, af, g⟩ = un1 P hp op (evT GL tm x) := by
  unfold absPure un1
  simp only [Op.operands, List.all_cons, List.all_nil, Bool.and_true]
  rcases hx : lfo (evT GL tm x) with _ | a
  · simp
  · simp only [Option.isSome_some, if_true]
    unfold execOp rhoT
    simp only [hx, Option.getD_some]
    rw [prS_bind]
    rcases prS P (Op.unary op a) with _ | v <;> rfl
theorem pure_conv (s e : TypeId) (x : Operand) : absPure P GL tm hp ⟨d, .convert s e x, ty, p, af, g⟩ = conv1 P hp s e (evT GL tm x) := by
  unfold absPure conv1
  simp only [Op.operands, List.all_cons, List.all_nil, Bool.and_true]
  rcases hx : lfo (evT GL tm x) with _ | a
  · simp
  · simp only [Option.isSome_some, if_true]
    unfold execOp rhoT
    simp only [hx, Option.getD_some]
    rw [prS_bind]
    rcases prS P (convert s e a) with _ | v <;> rfl
end
end Go.Eng
end
