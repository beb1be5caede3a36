/-
  Print by the machine: what it is told.
-/
import Derived.Test.YtjgkocijmbepmaaGreatDoorX1
import Derived.Test.YtjgkocijmbepmaaGreatDoorX21
import Derived.Test.YtjgkocijmbepmaaGreatDoorX5
set_option linter.unusedVariables false
section
set_option linter.unusedVariables false
set_option linter.unusedSimpArgs false
namespace Go.Eng
open Go.Proofs Go.RowKit
def argz (f : Nat) : Option (List (List Nat)) := if f = 4 then some [[1], [1]] else if f = 5 ∨ f = 6 then some [[1], [1], [1]] else none
def resz (f : Nat) : Option (List (List Nat)) := if f = 5 ∨ f = 6 ∨ f = 15 then some [[1]] else none
noncomputable def Mp : Prm := { GL := glz, okF := okL Tryz.prog, SH := fun _ => [], argS := argz, resS := resz, ro := fun _ => 0, ban := 0 }
theorem mp_ok : Mp.okF = okL Tryz.prog := by simp only [Mp]
theorem mp_ban : Mp.ban = 0 := by simp only [Mp]
theorem mp_gl : Mp.GL = glz := by simp only [Mp]
theorem mp_arg (f : Nat) : Mp.argS f = argz f := by simp only [Mp]
theorem mp_res (f : Nat) : Mp.resS f = resz f := by simp only [Mp]
theorem mp_sh : Mp.SH = fun _ => [] := by simp only [Mp]
theorem mp_bn (f n : Nat) : Mp.bn f n = 0 := by
  unfold Prm.bn
  split
  · rfl
  · simp only [Mp, Nat.and_zero]
theorem mp_with (f n : Nat) : ({ Mp with ban := Mp.bn f n } : Prm) = Mp := by rw [mp_bn]; simp only [Mp]
def hz : FuncId → Nat → Option Hint := fun f b => match f, b with
  | 4, 0 => some ⟨[0, 1, 5], []⟩
  | 10, 0 => some ⟨[0, 1, 6, 7], []⟩
  | 13, 0 => some ⟨[0, 3, 4], []⟩
  | 14, 0 => some ⟨[0, 1, 6], []⟩
  | 14, 2 => some ⟨[0, 1, 6, 7], []⟩
  | 15, 0 => some ⟨[0, 3, 4], []⟩
  | 6, 0 => some ⟨[0, 1, 2, 7, 8, 9, 10, 11], [(none, 10, 9, 1)]⟩
  | 3, 0 => some ⟨[3, 12, 13, 14, 15, 16], [(none, 15, 9, 1)]⟩
  | 3, 2 => some ⟨[12, 15, 17, 18], []⟩
  | _, _ => none
section
variable (bz2 : EnvT)
noncomputable def Cn (n : Nat) : EnvT := callF Tryz.prog Mp bz2 1000000 hz n
noncomputable def En (n : Nat) : EnvT := envZ Mp.SH Mp.argS (Cn bz2 n)
end
theorem En_in {bz2 : EnvT} (n : Nat) {f : FuncId} {args : List TV} {objs : List Ob} (ha : argz f = none) : En bz2 n f args objs = Cn bz2 n f args objs := by
  unfold En envZ
  rw [mp_arg, ha]
theorem En_zz {bz2 : EnvT} (n : Nat) {f : FuncId} {args args1 : List TV} {objs objs1 : List Ob} {ss : List (List Nat)} (ha : argz f = some ss) (hf : frA (fun _ => []) 60 ss objs args = some (args1, objs1)) : En bz2 n f args objs = match absCallF (Cn bz2 n) (fun _ => 0) objs1 f args1 with
    | some (r, objs2, _, _) => some (r, objs2)
    | none => none := by
  unfold En envZ
  rw [mp_arg, ha, mp_sh]
  simp only [hf]
  rfl
def Bas (bz2 : EnvT) : Prop := (∀ f args objs, f ≠ 8 → bz2 f args objs = none) ∧ bz2 8 [] [] = some (.lf (.bool true), [])
theorem Cn_fn {bz2 : EnvT} {f : FuncId} {fn : Func} {c : Code} {args : List TV} {objs : List Ob} (n : Nat) (hB : bz2 f args objs = none) (hf : Tryz.prog.funcs[f]? = some fn) (hb : fn.body = some c) (hr : resz f = none) : Cn bz2 (n + 1) f args objs = match exec Tryz.prog Mp (En bz2 n) 1000000 objs.length (hz f) 0 c (args ++ List.replicate (fn.ntmps - args.length) (.lf undef)) objs with
    | some (.ext _, _, _) => none
    | some (_, tm, hp) => (match resL Tryz.prog tm hp fn.results.toList with | some r => fin objs.length r hp | none => none)
    | none => none := by
  unfold Cn callF
  simp only [hB]
  unfold runF
  have h1 : Mp.resS f = none := by rw [mp_res, hr]
  simp only [hf, hb, h1, mp_with]
  unfold En Cn
  rfl
theorem Cn_fr {bz2 : EnvT} {f : FuncId} {fn : Func} {c : Code} {args : List TV} {objs : List Ob} {ss : List (List Nat)} (n : Nat) (hB : bz2 f args objs = none) (hf : Tryz.prog.funcs[f]? = some fn) (hb : fn.body = some c) (hr : resz f = some ss) : Cn bz2 (n + 1) f args objs = match exec Tryz.prog Mp (En bz2 n) 1000000 objs.length (hz f) 0 c (args ++ List.replicate (fn.ntmps - args.length) (.lf undef)) objs with
    | some (.ext _, _, _) => none
    | some (_, tm, hp) => (match resL Tryz.prog tm hp fn.results.toList with | some r => (match frR Mp.SH 60 ss hp r with | some (r1, hp1) => fin objs.length r1 hp1 | none => none) | none => none)
    | none => none := by
  unfold Cn callF
  simp only [hB]
  unfold runF
  have h1 : Mp.resS f = some ss := by rw [mp_res, hr]
  simp only [hf, hb, h1, mp_with]
  unfold En Cn
  rfl
def loop1 : Code → Option Code
  | .loop c => some c
  | .seq a b => match loop1 a with
    | some c => some c
    | none => loop1 b
  | .block _ c => loop1 c
  | .scope c => loop1 c
  | .cond _ a b => match loop1 a with
    | some c => some c
    | none => loop1 b
  | _ => none
def loop2 : Code → Option Code
  | .seq a b => match loop1 a with
    | some _ => loop1 b
    | none => loop2 b
  | .block _ c => loop2 c
  | .scope c => loop2 c
  | _ => none
def rowS (l : List ByteArray) : List (List Dt) := l.map fun s => [.leaf (.string s)]
theorem rowS_len (l : List ByteArray) : (rowS l).length = l.length := by simp [rowS]
theorem rowS_get (l : List ByteArray) (i : Nat) : (rowS l)[i]? = (l[i]?).map fun s => [.leaf (.string s)] := by simp [rowS]
theorem rowS_mid (a : List ByteArray) (s : ByteArray) (b : List ByteArray) : (rowS (a ++ s :: b))[a.length]? = some [.leaf (.string s)] := by simp [rowS]
theorem rowS_take (l : List ByteArray) (k : Nat) : (rowS l).take k = rowS (l.take k) := by simp [rowS, List.map_take]
theorem rowS_drop (l : List ByteArray) (k : Nat) : (rowS l).drop k = rowS (l.drop k) := by simp [rowS, List.map_drop]
theorem flatD_rowS (l : List ByteArray) : flatD (rowS l) = strs l := by
  unfold flatD rowS strs
  induction l with
  | nil => rfl
  | cons x l ih => simpa [unf] using ih
theorem call_leaf (env : EnvT) (bn : Nat → Nat) (hp : List Ob) (f : FuncId) (args : List TV) (r : TV) (ha : idsL args = []) (hr : ∀ g : Nat → Nat, renL g args = args) (hres : ∀ g : Nat → Nat, ren g r = r) (h : env f args [] = some (r, [])) : absCallF env bn hp f args = some (r, hp, 0, 0) := by
  have h1 : ∀ (g : List (List Nat)) (l : List Bool), layC g l [] = some [] := fun g l => by
    unfold layC
    simp [reachG, closedG]
  rw [call_n, ha, h1]
  simp only [hr, List.map_nil, h, hres]
  simp only [List.length_nil, Nat.le_refl, if_true, mask, alw, List.foldr_nil, List.filter_nil]
  have hm : ∀ (n i : Nat) (hp : List Ob), mergeN [] (bn 0) [] n i hp = hp := fun n i hp => by
    induction hp generalizing i with
    | nil => simp [mergeN]
    | cons ob hp ih => simp [mergeN, ih]
  rw [hm]
theorem En_frz {bz2 : EnvT} (n : Nat) {f : FuncId} {args : List TV} {ss : List (List Nat)} {r : TV} (ha : argz f = some ss) (hf : frA (fun _ => []) 60 ss [] args = some (args, [])) (hi : idsL args = []) (hr : ∀ g : Nat → Nat, renL g args = args) (hres : ∀ g : Nat → Nat, ren g r = r) (h : Cn bz2 n f args [] = some (r, [])) : En bz2 n f args [] = some (r, []) := by
  rw [En_zz n ha hf, call_leaf _ _ _ _ _ _ hi hr hres h]
theorem lay00 : lay 0 [] [] = some [] := by kernel_rfl
theorem wrap_nat (a b : Nat) (h : a + b ≤ 9223372036854775807) : IntKind.i64.wrap ((a : Int) + (b : Int)) = ((a + b : Nat) : Int) := by
  rw [wrap_ok _ ⟨by omega, by omega⟩]; simp
theorem le_sel (n : Nat) : (n ≤ n) = True := eq_true (Nat.le_refl n)
end Go.Eng
end
