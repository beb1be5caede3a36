/-
  The example runs to true.
-/
import Derived.Test.YtjgkocijmbepmaaGreatDoorX5
set_option linter.unusedVariables false
section
set_option linter.unusedVariables false
set_option linter.unusedSimpArgs false
namespace Go.Eng
open Go.Proofs
set_option maxRecDepth 100000 in
theorem lives_runs : callQ Tryz.prog Mz bz 1000 60 8 [] [] = some (.lf (.bool true), []) := by kernel_rfl
end Go.Eng
end
