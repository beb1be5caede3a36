/-
  The evaluator by the machine: what the machine is told.
-/
import Derived.Test.YtbmjdelpgkilcaaE35
import Derived.Test.YtbmjdelpgkilcaaE12
import Derived.Test.YtbmjdelpgkilcaaProg
set_option linter.unusedVariables false
section
set_option linter.unusedVariables false
set_option linter.unusedSimpArgs false
namespace Go.Eng
open Go.Proofs Go.RowKit
theorem mixT : Try.prog.follows .mixedOrders = true := by kernel_rfl
def roL : List Nat := [95, 73, 86, 135, 147, 120, 90, 150, 151, 148, 141, 93, 94, 71, 122, 121, 92, 70, 46, 45, 18, 8, 48, 21]
def roz (f : Nat) : Nat := match roL.contains f with
  | true => 2 ^ 60 - 1
  | false => match Nat.beq f 126 with
    | true => 2 ^ 60 - 2
    | false => 0
noncomputable def Mz : Prm := { GL := fun _ => none, okF := okL Try.prog, SH := fun _ => [], argS := fun _ => none, resS := fun _ => none, ro := roz, ban := 0 }
def dfz (f : Nat) : Bool := match Nat.beq f 19 with
  | true => true
  | false => Nat.beq f 72
def b0 : EnvT := fun _ _ _ => none
theorem b0_es {GL : Nat → Option (List Dt)} {bn : FuncId → Nat → Nat} : ES Try.prog GL bn b0 := fun f args objs r objs' h => by cases h
set_option maxRecDepth 100000 in
theorem x_es (n : Nat) : ES Try.prog (fun _ => none) Mz.bn (callX Try.prog Mz b0 dfz 1000 n).1 := (callX_sound (P := Try.prog) (M := Mz) (base := b0) (df := dfz) (fu := 1000) b0_es (okL_ok _) mixT n).1
end Go.Eng
end
