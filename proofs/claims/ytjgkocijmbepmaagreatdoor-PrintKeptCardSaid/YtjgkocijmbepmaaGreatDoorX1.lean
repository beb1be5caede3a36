/- Part of the engine that runs the program by evaluation (X1). No condition of its own. -/
import Derived.Test.YtjgkocijmbepmaaGreatDoorE11
import Derived.Test.YtjgkocijmbepmaaGreatDoorE4
import Derived.Test.YtjgkocijmbepmaaGreatDoorE14
import Derived.Test.YtjgkocijmbepmaaGreatDoorProg
import Derived.KernelRfl
set_option linter.unusedVariables false
section
set_option linter.unusedVariables false
set_option linter.unusedSimpArgs false
namespace Go.Eng
open Go.Proofs
theorem ln_22 (hp : List Ob) (x : TV) : absLen Tryz.prog hp #[22] x = lnT hp x := by kernel_rfl
theorem us_22 : Tryz.prog.underlying 22 = some (.slice 9) := by kernel_rfl
theorem sz_9 : (Tryz.prog.info? 9).map (·.size) = some 1 := by kernel_rfl
theorem sl_22 (hp : List Ob) (x : TV) (lo hi mx : Option TV) : absSlice Tryz.prog hp 22 x lo hi mx = slT 1 hp x lo hi mx := absSlice_of us_22 sz_9 hp x lo hi mx
theorem bs_22_0 (hp : List Ob) (ps : List (Nat × TV)) : absBuildSlice Tryz.prog hp 22 0 ps = bsF 9 1 0 [.lf (.string ⟨#[]⟩)] ps hp := by kernel_rfl
theorem ap_22 (hp : List Ob) (s x : TV) : absAppend Tryz.prog hp #[22, 22] s x = apT 9 1 16 hp s x := by kernel_rfl
theorem b2_gtr_3 (hp : List Ob) (x y : Operand) (a b : Int) : bin2 Tryz.prog hp .gtr 3 x y (.lf (.int .i64 a)) (.lf (.int .i64 b)) = some (.lf (.bool (decide (a > b))), hp, 0, 0) := by kernel_rfl
theorem ia_22 (hp : List Ob) (xs : List (List Dt)) (f : Bool) (k : IntKind) (i : Int) : absIndexAddr Tryz.prog hp 22 (.fr 1 xs f) (.lf (.int k i)) = if 0 ≤ i then (xs[i.toNat]?).map fun c => (.ep c 0, hp, 0, 0) else none := by kernel_rfl
theorem iv_22 (hp : List Ob) (id off len : Nat) (f : Bool) (k : IntKind) (i : Int) : absIndexAddr Tryz.prog hp 22 (.vw id 1 off len f) (.lf (.int k i)) = if 0 ≤ i then (match hp[id]? with | some (.ro _ _ _ _ _) => if 1 = 1 ∧ i.toNat < len then some (.pt id ((off + i.toNat) * 1), hp, 2 ^ id, 0) else none | _ => none) else none := by kernel_rfl
theorem st_9 (hp : List Ob) (id off : Nat) (y : TV) : absStore Tryz.prog hp 9 y (.pt id off) = stT 1 hp id off y := absStore_of sz_9 hp id off y
theorem b2_leq_3 (hp : List Ob) (x y : Operand) (a b : Int) : bin2 Tryz.prog hp .leq 3 x y (.lf (.int .i64 a)) (.lf (.int .i64 b)) = some (.lf (.bool (decide (a ≤ b))), hp, 0, 0) := by kernel_rfl
theorem bs_22_4 (hp : List Ob) (ps : List (Nat × TV)) : absBuildSlice Tryz.prog hp 22 4 ps = bsF 9 1 4 [.lf (.string ⟨#[]⟩)] ps hp := by kernel_rfl
theorem b2_mul_3 (hp : List Ob) (x y : Operand) (a b : Int) : bin2 Tryz.prog hp .mul 3 x y (.lf (.int .i64 a)) (.lf (.int .i64 b)) = some (.lf (.int .i64 (IntKind.wrap .i64 (a * b))), hp, 0, 0) := by kernel_rfl
theorem b2_add_3 (hp : List Ob) (x y : Operand) (a b : Int) : bin2 Tryz.prog hp .add 3 x y (.lf (.int .i64 a)) (.lf (.int .i64 b)) = some (.lf (.int .i64 (IntKind.wrap .i64 (a + b))), hp, 0, 0) := by kernel_rfl
theorem ldT_9 (cs : List TV) (off : Nat) : ldT Tryz.prog 9 cs off = cs[off]? := by kernel_rfl
theorem bs_22_1 (hp : List Ob) (ps : List (Nat × TV)) : absBuildSlice Tryz.prog hp 22 1 ps = bsF 9 1 1 [.lf (.string ⟨#[]⟩)] ps hp := by kernel_rfl
theorem bs_26_5 (hp : List Ob) (ps : List (Nat × TV)) : absBuildSlice Tryz.prog hp 26 5 ps = bsF 22 1 5 [.lf (.slice none 0 0)] ps hp := by kernel_rfl
theorem ln_26 (hp : List Ob) (x : TV) : absLen Tryz.prog hp #[26] x = lnT hp x := by kernel_rfl
theorem b2_lss_3 (hp : List Ob) (x y : Operand) (a b : Int) : bin2 Tryz.prog hp .lss 3 x y (.lf (.int .i64 a)) (.lf (.int .i64 b)) = some (.lf (.bool (decide (a < b))), hp, 0, 0) := by kernel_rfl
theorem ia_26 (hp : List Ob) (xs : List (List Dt)) (f : Bool) (k : IntKind) (i : Int) : absIndexAddr Tryz.prog hp 26 (.fr 1 xs f) (.lf (.int k i)) = if 0 ≤ i then (xs[i.toNat]?).map fun c => (.ep c 0, hp, 0, 0) else none := by kernel_rfl
theorem iv_26 (hp : List Ob) (id off len : Nat) (f : Bool) (k : IntKind) (i : Int) : absIndexAddr Tryz.prog hp 26 (.vw id 1 off len f) (.lf (.int k i)) = if 0 ≤ i then (match hp[id]? with | some (.ro _ _ _ _ _) => if 1 = 1 ∧ i.toNat < len then some (.pt id ((off + i.toNat) * 1), hp, 2 ^ id, 0) else none | _ => none) else none := by kernel_rfl
theorem ldT_22 (cs : List TV) (off : Nat) : ldT Tryz.prog 22 cs off = cs[off]? := by kernel_rfl
theorem b2_neq_3 (hp : List Ob) (x y : Operand) (a b : Int) : bin2 Tryz.prog hp .neq 3 x y (.lf (.int .i64 a)) (.lf (.int .i64 b)) = some (.lf (.bool (a != b)), hp, 0, 0) := by kernel_rfl
theorem b2_sub_3 (hp : List Ob) (x y : Operand) (a b : Int) : bin2 Tryz.prog hp .sub 3 x y (.lf (.int .i64 a)) (.lf (.int .i64 b)) = some (.lf (.int .i64 (IntKind.wrap .i64 (a - b))), hp, 0, 0) := by kernel_rfl
theorem b2_geq_3 (hp : List Ob) (x y : Operand) (a b : Int) : bin2 Tryz.prog hp .geq 3 x y (.lf (.int .i64 a)) (.lf (.int .i64 b)) = some (.lf (.bool (decide (a ≥ b))), hp, 0, 0) := by kernel_rfl
theorem b2_eql_3 (hp : List Ob) (x y : Operand) (a b : Int) : bin2 Tryz.prog hp .eql 3 x y (.lf (.int .i64 a)) (.lf (.int .i64 b)) = some (.lf (.bool (a == b)), hp, 0, 0) := by kernel_rfl
def cpT (hp : List Ob) (d x : TV) : AR := match srcR hp 1 x with
  | some (m, ys, R) => match d with
    | .vw id sz off len _ => match hp[id]? with
      | some (.ro e' sz' n cs fz) => if (sz = 1 ∧ sz' = 1) ∧ off + len ≤ n ∧ fz ≤ off then some (.lf (.int .i64 ((Nat.min m len : Nat) : Int)), hp.set id (.ro e' 1 n (putC cs off (ys.take (Nat.min m len))) fz), R, 2 ^ id) else none
      | _ => none
    | _ => none
  | none => none
theorem cp_22 (hp : List Ob) (d x : TV) : absCopy Tryz.prog hp #[22, 22] d x = cpT hp d x := by kernel_rfl
theorem u_22 : Tryz.prog.underlying 22 = some (.slice 9) := by kernel_rfl
theorem mk_22 (hp : List Ob) (n : Nat) (hn : n ≤ 100000) : absMakeSlice Tryz.prog hp 22 (.lf (.int .i64 (n : Int))) (.lf (.int .i64 (n : Int))) = some (.vw hp.length 1 0 n false, hp ++ [.ro 9 1 n (strs (List.replicate n ⟨#[]⟩)) 0], 0, 0) := by
  have h : ∀ m : Int, absMakeSlice Tryz.prog hp 22 (.lf (.int .i64 m)) (.lf (.int .i64 m)) = if (m = m ∧ 0 ≤ m ∧ 0 < 1) ∧ (m.toNat * 1 ≤ 16777216 ∧ 16 * m.toNat ≤ 281474976710656 ∧ m.toNat ≤ maxLen) ∧ [Value.string ⟨#[]⟩].all (·.oneCell') = true ∧ 1 = 1 then some (.vw hp.length 1 0 m.toNat false, hp ++ [.ro 9 1 m.toNat ((List.range (m.toNat * 1)).map fun i => .lf (#[Value.string ⟨#[]⟩][i % 1]!)) 0], 0, 0) else none := fun m => by kernel_rfl
  rw [h, if_pos ⟨⟨rfl, Int.natCast_nonneg n, by omega⟩, ⟨by simp; omega, by simp; omega, by unfold maxLen; simp; omega⟩, rfl, rfl⟩]
  have e : ((List.range ((n : Int).toNat * 1)).map fun i => TV.lf (#[Value.string ⟨#[]⟩][i % 1]!)) = strs (List.replicate n ⟨#[]⟩) := by
    unfold strs
    refine List.ext_getElem? fun i => ?_
    simp only [List.getElem?_map, Int.toNat_natCast, Nat.mul_one, List.map_replicate, List.getElem?_replicate]
    by_cases hi : i < n
    · rw [List.getElem?_range hi, if_pos hi]
      have : i % 1 = 0 := Nat.mod_one i
      simp [this]
    · rw [List.getElem?_eq_none (by simpa using hi), if_neg hi]; rfl
  rw [e]
  rfl
section
variable {P : Program} {GL : Nat → Option (List Dt)} {tm : List TV} {hp : List Ob} {d : Option Tmp} {ty : TypeId} {p : String} {af : Array Edge} {g : Option (Nat × Bool)}
def mn2 (P : Program) (hp : List Ob) (X Y : TV) : AR := match lfo X, lfo Y with
  | some a, some b => out1 hp (prS P (Builtin.min2 a b))
  | _, _ => none
theorem min_op (r : Operand → Value) (ats : Array TypeId) (x y : Operand) : execOp r ⟨d, .call { callee := .builtin .min, args := #[x, y], argTypes := ats }, ty, p, af, g⟩ = (do let v ← Builtin.min_ ats ty #[r x, r y]; pure (.value v)) := by
  simp [execOp, resolve, invoke, builtin]
theorem pure_min (ats : Array TypeId) (x y : Operand) : absPure P GL tm hp ⟨d, .call { callee := .builtin .min, args := #[x, y], argTypes := ats }, ty, p, af, g⟩ = mn2 P hp (evT GL tm x) (evT GL tm y) := by
  unfold absPure mn2
  rw [min_op]
  have e : (Op.operands (.call { callee := .builtin .min, args := #[x, y], argTypes := ats })).toList = [x, y] := by simp [Op.operands, Call.operands]
  simp only [e, List.all_cons, List.all_nil, Bool.and_true, Bool.and_eq_true]
  rcases hx : lfo (evT GL tm x) with _ | a
  · simp
  · rcases hy : lfo (evT GL tm y) with _ | b
    · simp
    · simp only [Option.isSome_some, and_self, if_true]
      unfold rhoT
      simp only [hx, hy, Option.getD_some]
      rw [prS_bind]
      have : Builtin.min_ ats ty #[a, b] = Builtin.min2 a b := by
        simp [Builtin.min_]
      rw [this]
      rcases prS P (Builtin.min2 a b) with _ | v <;> rfl
theorem mn2_int (a b : Int) : mn2 P hp (.lf (.int .i64 a)) (.lf (.int .i64 b)) = some (.lf (.int .i64 (if b < a then b else a)), hp, 0, 0) := rfl
end
end Go.Eng
end
