/-
  The examples run to true.
-/
import Derived.Test.YtbmjdelpgkilcaaX5
set_option linter.unusedVariables false
section
set_option linter.unusedVariables false
set_option linter.unusedSimpArgs false
namespace Go.Eng
open Go.Proofs
set_option maxRecDepth 100000 in
theorem lives_runs : (callX Try.prog Mz b0 dfz 1000 40).1 10 [] [] = some (.lf (.bool true), []) := by kernel_rfl
end Go.Eng
end
