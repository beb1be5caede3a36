/- Part of the engine that runs the program by evaluation (X1). No condition of its own. -/
import Derived.Test.YtbmjdelpgkilcaaE15
import Derived.Test.YtbmjdelpgkilcaaE12
import Derived.Test.YtbmjdelpgkilcaaE13
import Derived.Test.YtbmjdelpgkilcaaE14
import Derived.Test.YtbmjdelpgkilcaaE34
import Derived.Test.YtbmjdelpgkilcaaProg
set_option linter.unusedVariables false
section
set_option linter.unusedVariables false
set_option linter.unusedSimpArgs false
namespace Go.Eng
open Go.Proofs
theorem bp_25 (hp : List Ob) (ps : List (Nat × TV)) : absBuild Try.prog hp 25 ps = (fillT (plS [(0, 1), (1, 1), (2, 1)]) [.lf (.int .i64 0), .lf (.int .i64 0), .lf (.slice none 0 0)] ps).map fun cs => (.ag cs, hp, 0, 0) := by kernel_rfl
theorem al_25 (hp : List Ob) : absAlloc Try.prog hp 25 = some (.pt hp.length 0, hp ++ [.vr 25 [.lf (.int .i64 0), .lf (.int .i64 0), .lf (.slice none 0 0)]], 0, 0) := by kernel_rfl
theorem sz_25 : (Try.prog.info? 25).map (·.size) = some 3 := by kernel_rfl
theorem st_25 (hp : List Ob) (id off : Nat) (y : TV) : absStore Try.prog hp 25 y (.pt id off) = stT 3 hp id off y := absStore_of sz_25 hp id off y
theorem bs_27_3 (hp : List Ob) (ps : List (Nat × TV)) : absBuildSlice Try.prog hp 27 3 ps = bsF 3 1 3 [.lf (.int .i64 0)] ps hp := by kernel_rfl
theorem b2_lss_3 (hp : List Ob) (x y : Operand) (a b : Int) : bin2 Try.prog hp .lss 3 x y (.lf (.int .i64 a)) (.lf (.int .i64 b)) = some (.lf (.bool (decide (a < b))), hp, 0, 0) := by kernel_rfl
theorem ia_27 (hp : List Ob) (xs : List (List Dt)) (f : Bool) (k : IntKind) (i : Int) : absIndexAddr Try.prog hp 27 (.fr 1 xs f) (.lf (.int k i)) = if 0 ≤ i then (xs[i.toNat]?).map fun c => (.ep c 0, hp, 0, 0) else none := by kernel_rfl
theorem iv_27 (hp : List Ob) (id off len : Nat) (f : Bool) (k : IntKind) (i : Int) : absIndexAddr Try.prog hp 27 (.vw id 1 off len f) (.lf (.int k i)) = if 0 ≤ i then (match hp[id]? with | some (.ro _ _ _ _ _) => if 1 = 1 ∧ i.toNat < len then some (.pt id ((off + i.toNat) * 1), hp, 2 ^ id, 0) else none | _ => none) else none := by kernel_rfl
theorem ldT_3 (cs : List TV) (off : Nat) : ldT Try.prog 3 cs off = cs[off]? := by kernel_rfl
theorem ldT_25 (cs : List TV) (off : Nat) : ldT Try.prog 25 cs off = if off + 3 ≤ cs.length then some (.ag ((cs.drop off).take 3)) else none := by kernel_rfl
theorem bs_23_2 (hp : List Ob) (ps : List (Nat × TV)) : absBuildSlice Try.prog hp 23 2 ps = bsF 25 3 2 [.lf (.int .i64 0), .lf (.int .i64 0), .lf (.slice none 0 0)] ps hp := by kernel_rfl
theorem b2_add_3 (hp : List Ob) (x y : Operand) (a b : Int) : bin2 Try.prog hp .add 3 x y (.lf (.int .i64 a)) (.lf (.int .i64 b)) = some (.lf (.int .i64 (IntKind.wrap .i64 (a + b))), hp, 0, 0) := by kernel_rfl
theorem fi_25_1 (hp : List Ob) (cs : List TV) : absField Try.prog hp 25 (.ag cs) 1 = (ldT Try.prog 3 cs 1).map fun r => (r, hp, 0, 0) := by kernel_rfl
theorem fa_25_1 (hp : List Ob) (id off : Nat) : absFieldAddr Try.prog hp 25 (.pt id off) 1 = some (.pt id (off + 1), hp, 0, 0) := by kernel_rfl
theorem fe_25_1 (hp : List Ob) (cs : List Dt) (off : Nat) : absFieldAddr Try.prog hp 25 (.ep cs off) 1 = some (.ep cs (off + 1), hp, 0, 0) := by kernel_rfl
theorem b2_eql_3 (hp : List Ob) (x y : Operand) (a b : Int) : bin2 Try.prog hp .eql 3 x y (.lf (.int .i64 a)) (.lf (.int .i64 b)) = some (.lf (.bool (a == b)), hp, 0, 0) := by kernel_rfl
theorem b2_mul_3 (hp : List Ob) (x y : Operand) (a b : Int) : bin2 Try.prog hp .mul 3 x y (.lf (.int .i64 a)) (.lf (.int .i64 b)) = some (.lf (.int .i64 (IntKind.wrap .i64 (a * b))), hp, 0, 0) := by kernel_rfl
theorem bs_27_7 (hp : List Ob) (ps : List (Nat × TV)) : absBuildSlice Try.prog hp 27 7 ps = bsF 3 1 7 [.lf (.int .i64 0)] ps hp := by kernel_rfl
theorem fa_25_0 (hp : List Ob) (id off : Nat) : absFieldAddr Try.prog hp 25 (.pt id off) 0 = some (.pt id off, hp, 0, 0) := by kernel_rfl
theorem fe_25_0 (hp : List Ob) (cs : List Dt) (off : Nat) : absFieldAddr Try.prog hp 25 (.ep cs off) 0 = some (.ep cs off, hp, 0, 0) := by kernel_rfl
theorem fa_25_2 (hp : List Ob) (id off : Nat) : absFieldAddr Try.prog hp 25 (.pt id off) 2 = some (.pt id (off + 2), hp, 0, 0) := by kernel_rfl
theorem fe_25_2 (hp : List Ob) (cs : List Dt) (off : Nat) : absFieldAddr Try.prog hp 25 (.ep cs off) 2 = some (.ep cs (off + 2), hp, 0, 0) := by kernel_rfl
theorem ldT_23 (cs : List TV) (off : Nat) : ldT Try.prog 23 cs off = cs[off]? := by kernel_rfl
theorem ln_23 (hp : List Ob) (x : TV) : absLen Try.prog hp #[23] x = lnT hp x := by kernel_rfl
theorem b2_gtr_3 (hp : List Ob) (x y : Operand) (a b : Int) : bin2 Try.prog hp .gtr 3 x y (.lf (.int .i64 a)) (.lf (.int .i64 b)) = some (.lf (.bool (decide (a > b))), hp, 0, 0) := by kernel_rfl
theorem ia_23 (hp : List Ob) (xs : List (List Dt)) (f : Bool) (k : IntKind) (i : Int) : absIndexAddr Try.prog hp 23 (.fr 3 xs f) (.lf (.int k i)) = if 0 ≤ i then (xs[i.toNat]?).map fun c => (.ep c 0, hp, 0, 0) else none := by kernel_rfl
theorem iv_23 (hp : List Ob) (id off len : Nat) (f : Bool) (k : IntKind) (i : Int) : absIndexAddr Try.prog hp 23 (.vw id 3 off len f) (.lf (.int k i)) = if 0 ≤ i then (match hp[id]? with | some (.ro _ _ _ _ _) => if 3 = 3 ∧ i.toNat < len then some (.pt id ((off + i.toNat) * 3), hp, 2 ^ id, 0) else none | _ => none) else none := by kernel_rfl
theorem b2_neq_3 (hp : List Ob) (x y : Operand) (a b : Int) : bin2 Try.prog hp .neq 3 x y (.lf (.int .i64 a)) (.lf (.int .i64 b)) = some (.lf (.bool (a != b)), hp, 0, 0) := by kernel_rfl
theorem sz_23 : (Try.prog.info? 23).map (·.size) = some 1 := by kernel_rfl
theorem st_23 (hp : List Ob) (id off : Nat) (y : TV) : absStore Try.prog hp 23 y (.pt id off) = stT 1 hp id off y := absStore_of sz_23 hp id off y
theorem bs_23_1 (hp : List Ob) (ps : List (Nat × TV)) : absBuildSlice Try.prog hp 23 1 ps = bsF 25 3 1 [.lf (.int .i64 0), .lf (.int .i64 0), .lf (.slice none 0 0)] ps hp := by kernel_rfl
theorem ap_23 (hp : List Ob) (s x : TV) : absAppend Try.prog hp #[23, 23] s x = apT 25 3 40 hp s x := by kernel_rfl
theorem bs_45_2 (hp : List Ob) (ps : List (Nat × TV)) : absBuildSlice Try.prog hp 45 2 ps = bsF 23 1 2 [.lf (.slice none 0 0)] ps hp := by kernel_rfl
theorem ln_27 (hp : List Ob) (x : TV) : absLen Try.prog hp #[27] x = lnT hp x := by kernel_rfl
theorem b2_geq_3 (hp : List Ob) (x y : Operand) (a b : Int) : bin2 Try.prog hp .geq 3 x y (.lf (.int .i64 a)) (.lf (.int .i64 b)) = some (.lf (.bool (decide (a ≥ b))), hp, 0, 0) := by kernel_rfl
theorem al_120 (hp : List Ob) : absAlloc Try.prog hp 120 = some (.pt hp.length 0, hp ++ [.vr 120 [.lf .nilFunc, .lf .nilFunc, .lf .nilFunc, .lf .nilFunc, .lf .nilFunc]], 0, 0) := by kernel_rfl
theorem sz_120 : (Try.prog.info? 120).map (·.size) = some 5 := by kernel_rfl
theorem st_120 (hp : List Ob) (id off : Nat) (y : TV) : absStore Try.prog hp 120 y (.pt id off) = stT 5 hp id off y := absStore_of sz_120 hp id off y
theorem b2_sub_3 (hp : List Ob) (x y : Operand) (a b : Int) : bin2 Try.prog hp .sub 3 x y (.lf (.int .i64 a)) (.lf (.int .i64 b)) = some (.lf (.int .i64 (IntKind.wrap .i64 (a - b))), hp, 0, 0) := by kernel_rfl
theorem b2_eql_177 (hp : List Ob) (x y : Operand) (a b : Int) : bin2 Try.prog hp .eql 177 x y (.lf (.int .u64 a)) (.lf (.int .u64 b)) = some (.lf (.bool (a == b)), hp, 0, 0) := by kernel_rfl
theorem b2_lss_177 (hp : List Ob) (x y : Operand) (a b : Int) : bin2 Try.prog hp .lss 177 x y (.lf (.int .u64 a)) (.lf (.int .u64 b)) = some (.lf (.bool (decide (a < b))), hp, 0, 0) := by kernel_rfl
theorem b2_mul_177 (hp : List Ob) (x y : Operand) (a b : Int) : bin2 Try.prog hp .mul 177 x y (.lf (.int .u64 a)) (.lf (.int .u64 b)) = some (.lf (.int .u64 (IntKind.wrap .u64 (a * b))), hp, 0, 0) := by kernel_rfl
theorem b2_add_177 (hp : List Ob) (x y : Operand) (a b : Int) : bin2 Try.prog hp .add 177 x y (.lf (.int .u64 a)) (.lf (.int .u64 b)) = some (.lf (.int .u64 (IntKind.wrap .u64 (a + b))), hp, 0, 0) := by kernel_rfl
theorem max_op (r : Operand → Value) (d : Option Tmp) (ty : TypeId) (p : String) (af : Array Edge) (g : Option (Nat × Bool)) (ats : Array TypeId) (x y : Operand) : execOp r ⟨d, .call { callee := .builtin .max, args := #[x, y], argTypes := ats }, ty, p, af, g⟩ = (do let v ← Builtin.max_ ats ty #[r x, r y]; pure (.value v)) := by
  simp [execOp, resolve, invoke, builtin]
theorem min_op (r : Operand → Value) (d : Option Tmp) (ty : TypeId) (p : String) (af : Array Edge) (g : Option (Nat × Bool)) (ats : Array TypeId) (x y : Operand) : execOp r ⟨d, .call { callee := .builtin .min, args := #[x, y], argTypes := ats }, ty, p, af, g⟩ = (do let v ← Builtin.min_ ats ty #[r x, r y]; pure (.value v)) := by
  simp [execOp, resolve, invoke, builtin]
def mx1 (P : Program) (hp : List Ob) (ats : Array TypeId) (ty : TypeId) (x y : TV) : AR := match lfo x, lfo y with
  | some a, some b => (prS P (Builtin.max_ ats ty #[a, b])).map fun v => (tvOf v, hp, 0, 0)
  | _, _ => none
def mn1 (P : Program) (hp : List Ob) (ats : Array TypeId) (ty : TypeId) (x y : TV) : AR := match lfo x, lfo y with
  | some a, some b => (prS P (Builtin.min_ ats ty #[a, b])).map fun v => (tvOf v, hp, 0, 0)
  | _, _ => none
section
variable {P : Program} {GL : Nat → Option (List Dt)} {tm : List TV} {hp : List Ob} {d : Option Tmp} {ty : TypeId} {p : String} {af : Array Edge} {g : Option (Nat × Bool)}
theorem pure_max (ats : Array TypeId) (x y : Operand) : absPure P GL tm hp ⟨d, .call { callee := .builtin .max, args := #[x, y], argTypes := ats }, ty, p, af, g⟩ = mx1 P hp ats ty (evT GL tm x) (evT GL tm y) := by
  unfold absPure mx1
  rw [max_op]
  have e : (Op.operands (.call { callee := .builtin .max, args := #[x, y], argTypes := ats })).toList = [x, y] := by simp [Op.operands, Call.operands]
  simp only [e, List.all_cons, List.all_nil, Bool.and_true]
  rcases hx : lfo (evT GL tm x) with _ | a <;> rcases hy : lfo (evT GL tm y) with _ | b
  · simp
  · simp
  · simp
  · simp only [Option.isSome_some, if_true, Bool.and_self]
    unfold rhoT
    simp only [hx, hy, Option.getD_some]
    rw [prS_bind]
    rcases prS P (Builtin.max_ ats ty #[a, b]) with _ | v <;> rfl
theorem pure_min (ats : Array TypeId) (x y : Operand) : absPure P GL tm hp ⟨d, .call { callee := .builtin .min, args := #[x, y], argTypes := ats }, ty, p, af, g⟩ = mn1 P hp ats ty (evT GL tm x) (evT GL tm y) := by
  unfold absPure mn1
  rw [min_op]
  have e : (Op.operands (.call { callee := .builtin .min, args := #[x, y], argTypes := ats })).toList = [x, y] := by simp [Op.operands, Call.operands]
  simp only [e, List.all_cons, List.all_nil, Bool.and_true]
  rcases hx : lfo (evT GL tm x) with _ | a <;> rcases hy : lfo (evT GL tm y) with _ | b
  · simp
  · simp
  · simp
  · simp only [Option.isSome_some, if_true, Bool.and_self]
    unfold rhoT
    simp only [hx, hy, Option.getD_some]
    rw [prS_bind]
    rcases prS P (Builtin.min_ ats ty #[a, b]) with _ | v <;> rfl
end
theorem mx_i (P : Program) (hp : List Ob) (ats : Array TypeId) (ty : TypeId) (k : IntKind) (a b : Int) : mx1 P hp ats ty (.lf (.int k a)) (.lf (.int k b)) = some (.lf (.int k (max a b)), hp, 0, 0) := by
  have : Builtin.max_ ats ty #[.int k a, .int k b] = pure (.int k (max a b)) := by
    simp only [Builtin.max_, List.foldlM_cons, List.foldlM_nil, Builtin.max2]
    have e : (if b > a then b else a) = max a b := by split <;> omega
    rw [e]; simp
  unfold mx1
  simp only [lfo, this]
  rfl
theorem mn_i (P : Program) (hp : List Ob) (ats : Array TypeId) (ty : TypeId) (k : IntKind) (a b : Int) : mn1 P hp ats ty (.lf (.int k a)) (.lf (.int k b)) = some (.lf (.int k (min a b)), hp, 0, 0) := by
  have : Builtin.min_ ats ty #[.int k a, .int k b] = pure (.int k (min a b)) := by
    simp only [Builtin.min_, List.foldlM_cons, List.foldlM_nil, Builtin.min2]
    have e : (if b < a then b else a) = min a b := by split <;> omega
    rw [e]; simp
  unfold mn1
  simp only [lfo, this]
  rfl
theorem bn_and (hp : List Ob) (x y : Operand) (a b : Int) : bin2 Try.prog hp .and 177 x y (.lf (.int .u64 a)) (.lf (.int .u64 b)) = some (.lf (.int .u64 (IntKind.u64.wrap (BitVec.ofInt 64 a &&& BitVec.ofInt 64 b).toNat)), hp, 0, 0) := by kernel_rfl
theorem bn_shr (hp : List Ob) (x y : Operand) (a : Int) (k : IntKind) : bin2 Try.prog hp .shr 177 x y (.lf (.int .u64 a)) (.lf (.int k 32)) = some (.lf (.int .u64 (a.fdiv (2 ^ 32))), hp, 0, 0) := by kernel_rfl
theorem cv_3_177 (hp : List Ob) (a : Int) : conv1 Try.prog hp 3 177 (.lf (.int .i64 a)) = some (.lf (.int .u64 (IntKind.u64.wrap a)), hp, 0, 0) := by kernel_rfl
theorem cv_177_3 (hp : List Ob) (a : Int) : conv1 Try.prog hp 177 3 (.lf (.int .u64 a)) = some (.lf (.int .i64 (IntKind.i64.wrap a)), hp, 0, 0) := by kernel_rfl
theorem b2_neq_4 (hp : List Ob) (x y : Operand) (a b : Bool) : bin2 Try.prog hp .neq 4 x y (.lf (.bool a)) (.lf (.bool b)) = some (.lf (.bool (a != b)), hp, 0, 0) := by cases a <;> cases b <;> kernel_rfl
theorem b2_eql_4 (hp : List Ob) (x y : Operand) (a b : Bool) : bin2 Try.prog hp .eql 4 x y (.lf (.bool a)) (.lf (.bool b)) = some (.lf (.bool (a == b)), hp, 0, 0) := by cases a <;> cases b <;> kernel_rfl
end Go.Eng
end
