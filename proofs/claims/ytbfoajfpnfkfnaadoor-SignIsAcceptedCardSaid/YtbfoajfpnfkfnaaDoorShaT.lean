/-
  Plain facts, no program: SHA-256 at some messages.
-/
import Derived.Test.YtbfoajfpnfkfnaaDoorSha
import Derived.KernelRfl
set_option linter.unusedVariables false
namespace Go.Proofs.YtbfoajfpnfkfnaaDoor
def hexD (x : Nat) : Nat := if x < 10 then 48 + x else 87 + x
def hexL (l : List Nat) : List Nat := l.flatMap fun x => [hexD (x / 16), hexD (x % 16)]
def xorL (l : List Nat) (x : Nat) : List Nat := l.map (· ^^^ x)
def key64 (k : List Nat) : List Nat := let q := if 64 < k.length then sha k else k; q ++ List.replicate (64 - q.length) 0
/-- P2.3. -/
def mac (k t : List Nat) : List Nat := sha (xorL (key64 k) 92 ++ sha (xorL (key64 k) 54 ++ t))
set_option maxRecDepth 100000 in
theorem sha_abc : hexL (sha [97, 98, 99]) = [98, 97, 55, 56, 49, 54, 98, 102, 56, 102, 48, 49, 99, 102, 101, 97, 52, 49, 52, 49, 52, 48, 100, 101, 53, 100, 97, 101, 50, 50, 50, 51, 98, 48, 48, 51, 54, 49, 97, 51, 57, 54, 49, 55, 55, 97, 57, 99, 98, 52, 49, 48, 102, 102, 54, 49, 102, 50, 48, 48, 49, 53, 97, 100] := by kernel_rfl
end Go.Proofs.YtbfoajfpnfkfnaaDoor
