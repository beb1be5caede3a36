/-
  The evaluator's operations by the machine: what it is told.
-/
import Derived.Test.YtbmjdelpgkilcaaX1
import Derived.Test.YtbmjdelpgkilcaaE36
set_option linter.unusedVariables false
section
set_option linter.unusedVariables false
set_option linter.unusedSimpArgs false
namespace Go.Eng
open Go.Proofs Go.RowKit
def argz (f : Nat) : Option (List (List Nat)) := if f = 9 then some [[], []] else none
noncomputable def glz : Nat → Option (List Dt) := fun _ => none
noncomputable def Mp : Prm := { GL := glz, okF := okL Try.prog, SH := fun _ => [], argS := argz, resS := fun _ => none, ro := fun _ => 0, ban := 0 }
theorem mp_ok : Mp.okF = okL Try.prog := by simp only [Mp]
theorem mp_ban : Mp.ban = 0 := by simp only [Mp]
theorem mp_gl : Mp.GL = glz := by simp only [Mp]
theorem mp_arg (f : Nat) : Mp.argS f = argz f := by simp only [Mp]
theorem mp_res (f : Nat) : Mp.resS f = none := by simp only [Mp]
theorem mp_sh : Mp.SH = fun _ => [] := by simp only [Mp]
theorem mp_bn (f n : Nat) : Mp.bn f n = 0 := by
  unfold Prm.bn
  split
  · rfl
  · simp only [Mp, Nat.and_zero]
theorem mp_with (f n : Nat) : ({ Mp with ban := Mp.bn f n } : Prm) = Mp := by rw [mp_bn]; simp only [Mp]
def hz : FuncId → Nat → Option Hint := fun _ _ => none
def dfy (f : Nat) : Bool := decide (f = 19)
section
variable (bz2 : EnvT)
noncomputable def Cn : Nat → EnvT
  | 0 => bz2
  | n + 1 => fun f args objs => match bz2 f args objs with
    | some r => some r
    | none => if dfy f = true then runDf Try.prog Mp (envZ Mp.SH Mp.argS (Cn n)) (fun _ _ _ => none) (runR Try.prog Mp (envZ Mp.SH Mp.argS (Cn n)) 1000000 hz) 1000000 hz f args objs else runF Try.prog Mp (envZ Mp.SH Mp.argS (Cn n)) 1000000 hz f args objs
noncomputable def En (n : Nat) : EnvT := envZ Mp.SH Mp.argS (Cn bz2 n)
end
theorem cn_es {bz2 : EnvT} (hB : ES Try.prog Mp.GL Mp.bn bz2) (hm : Try.prog.follows .mixedOrders = true) : ∀ n, ES Try.prog Mp.GL Mp.bn (Cn bz2 n)
  | 0 => hB
  | n + 1 => by
    have hF : OkF Try.prog Mp.okF := by rw [mp_ok]; exact okL_ok _
    have hE := envZ_sound (SH := Mp.SH) (argS := Mp.argS) (fun f n h => bn_arg f n h) (cn_es hB hm n)
    intro f args objs r objs' h
    rw [Cn] at h
    simp only at h
    split at h
    · rename_i r' hb
      cases h
      exact hB f args objs _ _ hb
    · split at h
      · exact runDf_sound hE (fun f args objs r objs' h => by cases h) (runR_sound hE hF hm) hF hm f args objs r objs' h
      · exact runF_sound hE hF hm f args objs r objs' h
theorem En_in {bz2 : EnvT} (n : Nat) {f : FuncId} {args : List TV} {objs : List Ob} (ha : argz f = none) : En bz2 n f args objs = Cn bz2 n f args objs := by
  unfold En envZ
  rw [mp_arg, ha]
theorem En_zz {bz2 : EnvT} (n : Nat) {f : FuncId} {args args1 : List TV} {objs objs1 : List Ob} {ss : List (List Nat)} (ha : argz f = some ss) (hf : frA (fun _ => []) 60 ss objs args = some (args1, objs1)) : En bz2 n f args objs = match absCallF (Cn bz2 n) (fun _ => 0) objs1 f args1 with
    | some (r, objs2, _, _) => some (r, objs2)
    | none => none := by
  unfold En envZ
  rw [mp_arg, ha, mp_sh]
  simp only [hf]
  rfl
def Bas (bz2 : EnvT) : Prop := (∀ f args objs, f ≠ 10 → bz2 f args objs = none) ∧ bz2 10 [] [] = some (.lf (.bool true), [])
theorem Cn_fn {bz2 : EnvT} {f : FuncId} {fn : Func} {c : Code} {args : List TV} {objs : List Ob} (n : Nat) (hB : bz2 f args objs = none) (hf : Try.prog.funcs[f]? = some fn) (hb : fn.body = some c) (hd : dfy f = false) : Cn bz2 (n + 1) f args objs = match exec Try.prog Mp (En bz2 n) 1000000 objs.length (hz f) 0 c (args ++ List.replicate (fn.ntmps - args.length) (.lf undef)) objs with
    | some (.ext _, _, _) => none
    | some (_, tm, hp) => (match resL Try.prog tm hp fn.results.toList with | some r => fin objs.length r hp | none => none)
    | none => none := by
  unfold Cn
  simp only [hB, hd, Bool.false_eq_true, if_false]
  unfold runF
  have h1 : Mp.resS f = none := mp_res f
  simp only [hf, hb, h1, mp_with]
  unfold En
  rfl
theorem Cn_o {bz2 : EnvT} (n : Nat) {f : FuncId} {args : List TV} {objs objs' : List Ob} {os : Ora} {r : TV} {l : Obl} {T : EnvT} (hB : bz2 f args objs = none) (hd : dfy f = false) (hT : EnvLe T (En bz2 n)) (h : runO Try.prog Mp T 1000000 hz f args objs os = some (r, objs', l)) (hl : OblOk l) : Cn bz2 (n + 1) f args objs = some (r, objs') := by
  have h2 := runO_spec hT h hl
  unfold Cn
  simp only [hB, hd, Bool.false_eq_true, if_false]
  exact h2
def T0 : EnvT := fun _ _ _ => none
theorem T0_le (env : EnvT) : EnvLe T0 env := fun f args objs r h => by cases h
def loop1 : Code → Option Code
  | .loop c => some c
  | .seq a b => match loop1 a with
    | some c => some c
    | none => loop1 b
  | .block _ c => loop1 c
  | .scope c => loop1 c
  | .cond _ a b => match loop1 a with
    | some c => some c
    | none => loop1 b
  | _ => none
def loop2 : Code → Option Code
  | .seq a b => match loop1 a with
    | some _ => loop1 b
    | none => loop2 b
  | .block _ c => loop2 c
  | .scope c => loop2 c
  | _ => none
theorem call_leaf (env : EnvT) (bn : Nat → Nat) (hp : List Ob) (f : FuncId) (args : List TV) (r : TV) (ha : idsL args = []) (hr : ∀ g : Nat → Nat, renL g args = args) (hres : ∀ g : Nat → Nat, ren g r = r) (h : env f args [] = some (r, [])) : absCallF env bn hp f args = some (r, hp, 0, 0) := by
  have h1 : ∀ (g : List (List Nat)) (l : List Bool), layC g l [] = some [] := fun g l => by
    unfold layC
    simp [reachG, closedG]
  rw [call_n, ha, h1]
  simp only [hr, List.map_nil, h, hres]
  simp only [List.length_nil, Nat.le_refl, if_true, mask, alw, List.foldr_nil, List.filter_nil]
  have hm : ∀ (n i : Nat) (hp : List Ob), mergeN [] (bn 0) [] n i hp = hp := fun n i hp => by
    induction hp generalizing i with
    | nil => simp [mergeN]
    | cons ob hp ih => simp [mergeN, ih]
  rw [hm]
theorem En_frz {bz2 : EnvT} (n : Nat) {f : FuncId} {args : List TV} {ss : List (List Nat)} {r : TV} (ha : argz f = some ss) (hf : frA (fun _ => []) 60 ss [] args = some (args, [])) (hi : idsL args = []) (hr : ∀ g : Nat → Nat, renL g args = args) (hres : ∀ g : Nat → Nat, ren g r = r) (h : Cn bz2 n f args [] = some (r, [])) : En bz2 n f args [] = some (r, []) := by
  rw [En_zz n ha hf, call_leaf _ _ _ _ _ _ hi hr hres h]
theorem lay00 : lay 0 [] [] = some [] := by kernel_rfl
theorem wrap_nat (a b : Nat) (h : a + b ≤ 9223372036854775807) : IntKind.i64.wrap ((a : Int) + (b : Int)) = ((a + b : Nat) : Int) := by
  rw [wrap_ok _ ⟨by omega, by omega⟩]; simp
theorem le_sel (n : Nat) : (n ≤ n) = True := eq_true (Nat.le_refl n)
end Go.Eng
end
