/-
  NARROWER THAN 'FOR EVERY INPUT', by the rows' own cells (each row's printed sentence says how): DomainBefore: loops.
  DERIVED. THE GIVEN ROWS OF THIS SEAT. 3 by the template 'for every input the law returns true; each argument reads behind the call as it read before'; 0 by the template 'total and deterministic' (their statements: YtbmjdelpgkilcaaTotals.lean).
  GIVEN WITH THE SEED: the statements are not yours to turn. If you find one false, say at which input.
  Laid BY PROGRAM, IN A SANDBOX (cutbox-rows.mjs): the forced cells as the released guide's own fill.sh prints them over the translation a4cdec39c9baa718… (all of the seat's roots in one cut). By AI agents, Wed Nov 11 2026. No macro, syntax, notation, axiom, sorry.
-/
import Derived.Test.YtbmjdelpgkilcaaChecked
import GoSem.Claim
import GoSem.ClaimJoined
import GoSem.ClaimMapViews
import Derived.JoinedTies
import Derived.KernelRfl
namespace Go.Proofs.Ytbmjdelpgkilcaa
/- THE CELL 'sum', in the pinned program and in every row, IS THE sha256 OF THE DUMP (.gsa) THAT YtbmjdelpgkilcaaProg.lean LOADS. Nothing in Lean hashes anything: it is a label: what it is worth is what the hold of that sum in a sandbox is worth. -/
noncomputable def Try.pinned : Pinned := { name := "ytbmjdelpgkilcaa", sum := "a4cdec39c9baa718afd2605ff553afe5cb4792f7a55f3ec73a395e7160e8b3d8", checked := Try.checked }
namespace Rows
def none {H : Type} : Left H := { results := [], args := [] }

/-- 'splicerylaw11.EvalNumbers': WHATEVER THE INPUT: true; the input reads as it did. -/
def evalNumbersSpec : ChangeSpec := { name := "evalNumbers", fn := fun _ => fun
  | [d1, d2] => { results := [.lit (.bool true)], args := [d1, d2] }
  | _ => none }
def evalNumbersRow : OpenClaim := { program := "ytbmjdelpgkilcaa", sum := "a4cdec39c9baa718afd2605ff553afe5cb4792f7a55f3ec73a395e7160e8b3d8", func := "splicery/splicerylaw11.EvalNumbers", spec := "evalNumbers", unfollowed := true, recurses := true, plainKeys := false, apart := false }
def EvalNumbersSaid : Prop := evalNumbersRow.holds Try.pinned (OpenSpec.ofChange evalNumbersSpec)

/-- ITS FALSE NEIGHBOUR: 'it returns false'. Refute it at one input. -/
def evalNumbersWrong : ChangeSpec := { name := "evalNumbers", fn := fun _ => fun
  | [d1, d2] => { results := [.lit (.bool false)], args := [d1, d2] }
  | _ => none }
def EvalNumbersWrongFalsely : Prop := evalNumbersRow.holds Try.pinned (OpenSpec.ofChange evalNumbersWrong)

/-- 'splicerylaw11.EvalOps': WHATEVER THE INPUT: true; the input reads as it did. -/
def evalOpsSpec : ChangeSpec := { name := "evalOps", fn := fun _ => fun
  | [d1, d2, d3, d4] => { results := [.lit (.bool true)], args := [d1, d2, d3, d4] }
  | _ => none }
def evalOpsRow : OpenClaim := { program := "ytbmjdelpgkilcaa", sum := "a4cdec39c9baa718afd2605ff553afe5cb4792f7a55f3ec73a395e7160e8b3d8", func := "splicery/splicerylaw11.EvalOps", spec := "evalOps", unfollowed := true, recurses := true, plainKeys := false, apart := false }
def EvalOpsSaid : Prop := evalOpsRow.holds Try.pinned (OpenSpec.ofChange evalOpsSpec)

/-- ITS FALSE NEIGHBOUR: 'it returns false'. Refute it at one input. -/
def evalOpsWrong : ChangeSpec := { name := "evalOps", fn := fun _ => fun
  | [d1, d2, d3, d4] => { results := [.lit (.bool false)], args := [d1, d2, d3, d4] }
  | _ => none }
def EvalOpsWrongFalsely : Prop := evalOpsRow.holds Try.pinned (OpenSpec.ofChange evalOpsWrong)

/-- 'splicerylaw13.DomainBefore': WHATEVER THE INPUT: true; the input reads as it did. -/
def domainBeforeSpec : ChangeSpec := { name := "domainBefore", fn := fun _ => fun
  | [d1, d2, d3] => { results := [.lit (.bool true)], args := [d1, d2, d3] }
  | _ => none }
def domainBeforeRow : OpenClaim := { program := "ytbmjdelpgkilcaa", sum := "a4cdec39c9baa718afd2605ff553afe5cb4792f7a55f3ec73a395e7160e8b3d8", func := "splicery/splicerylaw13.DomainBefore", spec := "domainBefore", unfollowed := true, recurses := true, loops := true, plainKeys := false, apart := false }
def DomainBeforeSaid : Prop := domainBeforeRow.holds Try.pinned (OpenSpec.ofChange domainBeforeSpec)

/-- ITS FALSE NEIGHBOUR: 'it returns false'. Refute it at one input. -/
def domainBeforeWrong : ChangeSpec := { name := "domainBefore", fn := fun _ => fun
  | [d1, d2, d3] => { results := [.lit (.bool false)], args := [d1, d2, d3] }
  | _ => none }
def DomainBeforeWrongFalsely : Prop := domainBeforeRow.holds Try.pinned (OpenSpec.ofChange domainBeforeWrong)

/- THE SECOND FORM. 'bulk': how many values and letters a reading holds, each counted each time it is reached (what is shared counts as often as it is met; a slice's spare places count too). A statement '..UptoSaid' is the law's where the arguments, and the package variables that the reading takes, are together of bulk at most 1048576: NARROWER than '..Said'. Prove '..Said' where nothing that the law and all that it calls make is longer than what came in: it says more and counts as full. Else prove '..UptoSaid'. A law counts once. -/
mutual
def uptoBulk {H : Type} : DataW H → Nat
  | .lit (.string bytes) => bytes.length + 1
  | .lit _ => 1
  | .nil => 1
  | .ptr d => uptoBulk d + 1
  | .slice elems spare => uptoBulkAll elems + uptoBulkAll spare + 1
  | .agg parts => uptoBulkAll parts + 1
  | .iface _ d => uptoBulk d + 1
  | .map entries => uptoBulkEntries entries + 1
  | .held _ => 1
def uptoBulkAll {H : Type} : List (DataW H) → Nat
  | [] => 0
  | d :: r => uptoBulk d + uptoBulkAll r
def uptoBulkEntries {H : Type} : List (Lit × DataW H) → Nat
  | [] => 0
  | x :: r => uptoBulkEntry x + uptoBulkEntries r
def uptoBulkEntry {H : Type} : Lit × DataW H → Nat
  | (.string bytes, d) => bytes.length + uptoBulk d + 1
  | (_, d) => uptoBulk d + 1
 end
def uptoSmall : (H : Type) → List (DataW H) → Bool := fun _ ds => decide (uptoBulkAll ds ≤ 1048576)
def OpenSpec.upto (s : _root_.Go.ChangeSpec) : _root_.Go.OpenSpec := { _root_.Go.OpenSpec.ofChange s with cond := some uptoSmall }

/-- 'splicerylaw11.EvalNumbers', WHERE WHAT IT READS IS OF BULK AT MOST 1048576: true; the input reads as it did. -/
def evalNumbersUptoRow : OpenClaim := { program := "ytbmjdelpgkilcaa", sum := "a4cdec39c9baa718afd2605ff553afe5cb4792f7a55f3ec73a395e7160e8b3d8", func := "splicery/splicerylaw11.EvalNumbers", spec := "evalNumbers", unfollowed := true, recurses := true, plainKeys := false, apart := false, narrowed := true }
def EvalNumbersUptoSaid : Prop := evalNumbersUptoRow.holds Try.pinned (OpenSpec.upto evalNumbersSpec)

/-- 'splicerylaw11.EvalOps', WHERE WHAT IT READS IS OF BULK AT MOST 1048576: true; the input reads as it did. -/
def evalOpsUptoRow : OpenClaim := { program := "ytbmjdelpgkilcaa", sum := "a4cdec39c9baa718afd2605ff553afe5cb4792f7a55f3ec73a395e7160e8b3d8", func := "splicery/splicerylaw11.EvalOps", spec := "evalOps", unfollowed := true, recurses := true, plainKeys := false, apart := false, narrowed := true }
def EvalOpsUptoSaid : Prop := evalOpsUptoRow.holds Try.pinned (OpenSpec.upto evalOpsSpec)

/-- 'splicerylaw13.DomainBefore', WHERE WHAT IT READS IS OF BULK AT MOST 1048576: true; the input reads as it did. -/
def domainBeforeUptoRow : OpenClaim := { program := "ytbmjdelpgkilcaa", sum := "a4cdec39c9baa718afd2605ff553afe5cb4792f7a55f3ec73a395e7160e8b3d8", func := "splicery/splicerylaw13.DomainBefore", spec := "domainBefore", unfollowed := true, recurses := true, loops := true, plainKeys := false, apart := false, narrowed := true }
def DomainBeforeUptoSaid : Prop := domainBeforeUptoRow.holds Try.pinned (OpenSpec.upto domainBeforeSpec)

end Rows
end Go.Proofs.Ytbmjdelpgkilcaa
