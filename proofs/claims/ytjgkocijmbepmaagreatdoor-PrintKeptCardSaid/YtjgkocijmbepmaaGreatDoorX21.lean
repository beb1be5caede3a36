/- Part of the engine that runs the program by evaluation (X21). No condition of its own. -/
import Derived.Test.YtjgkocijmbepmaaGreatDoorE15
import Derived.Test.YtjgkocijmbepmaaGreatDoorProg
import Derived.KernelRfl
set_option linter.unusedVariables false
section
set_option linter.unusedVariables false
set_option linter.unusedSimpArgs false
namespace Go.Eng
open Go.Proofs
noncomputable def op3_18 : Array Oper := (regOps 18 (Tryz.f3.body.getD .skip)).getD #[]
theorem da3_18 : acyT op3_18 = true := by kernel_rfl
theorem df3_18 : freeL (depM op3_18.toList []) op3_18.size = [[], [0], [0, 1], [0, 1, 2], [0, 1], [0, 1], [], [0, 1, 2, 3, 4, 5, 6], [0, 1, 2, 3, 4, 5, 6, 7], [0, 1, 2, 3, 4, 5, 6, 7, 8], [0, 1, 2, 3, 4, 5, 6, 7, 8, 9], [0, 1, 2, 3, 4, 5, 6, 7, 8], [0, 1, 2, 3, 4, 5, 6, 7, 8], [], [], []] := by kernel_rfl
theorem ds3_18 : statOk op3_18 [[], [0], [0, 1], [0, 1, 2], [0, 1], [0, 1], [], [0, 1, 2, 3, 4, 5, 6], [0, 1, 2, 3, 4, 5, 6, 7], [0, 1, 2, 3, 4, 5, 6, 7, 8], [0, 1, 2, 3, 4, 5, 6, 7, 8, 9], [0, 1, 2, 3, 4, 5, 6, 7, 8], [0, 1, 2, 3, 4, 5, 6, 7, 8], [], [], []] = true := by kernel_rfl
noncomputable def op4_6 : Array Oper := (regOps 6 (Tryz.f4.body.getD .skip)).getD #[]
theorem da4_6 : acyT op4_6 = true := by kernel_rfl
theorem df4_6 : freeL (depM op4_6.toList []) op4_6.size = [[], [0], [], [], [0, 1, 2, 3], [0, 1, 2, 3, 4], [0, 1, 2, 3], [0, 1, 2, 3], []] := by kernel_rfl
theorem ds4_6 : statOk op4_6 [[], [0], [], [], [0, 1, 2, 3], [0, 1, 2, 3, 4], [0, 1, 2, 3], [0, 1, 2, 3], []] = true := by kernel_rfl
noncomputable def op5_8 : Array Oper := (regOps 8 (Tryz.f5.body.getD .skip)).getD #[]
theorem da5_8 : acyT op5_8 = true := by kernel_rfl
theorem df5_8 : freeL (depM op5_8.toList []) op5_8.size = [[], [0], [0], [0, 1, 2], [0], [], [0, 1, 2, 3, 4, 5], [0, 1, 2, 3, 4, 5, 6], [0, 1, 2, 3, 4, 5, 6], [0, 1, 2, 3, 4, 5, 6, 7, 8], [0, 1, 2, 3, 4, 5, 6], [0, 1, 2, 3, 4, 5], [6, 7, 8, 9, 10, 11], []] := by kernel_rfl
theorem ds5_8 : statOk op5_8 [[], [0], [0], [0, 1, 2], [0], [], [0, 1, 2, 3, 4, 5], [0, 1, 2, 3, 4, 5, 6], [0, 1, 2, 3, 4, 5, 6], [0, 1, 2, 3, 4, 5, 6, 7, 8], [0, 1, 2, 3, 4, 5, 6], [0, 1, 2, 3, 4, 5], [6, 7, 8, 9, 10, 11], []] = true := by kernel_rfl
noncomputable def op5_10 : Array Oper := (regOps 10 (Tryz.f5.body.getD .skip)).getD #[]
theorem da5_10 : acyT op5_10 = true := by kernel_rfl
theorem df5_10 : freeL (depM op5_10.toList []) op5_10.size = [[], [], [0, 1], [0, 1], [2, 3], []] := by kernel_rfl
theorem ds5_10 : statOk op5_10 [[], [], [0, 1], [0, 1], [2, 3], []] = true := by kernel_rfl
noncomputable def op11_1 : Array Oper := (regOps 1 (Tryz.f11.body.getD .skip)).getD #[]
theorem da11_1 : acyT op11_1 = true := by kernel_rfl
theorem df11_1 : freeL (depM op11_1.toList []) op11_1.size = [[], [0], [], [], [0, 1, 2, 3], [0, 1, 2, 3, 4], [0, 1, 2, 3], [0, 1, 2, 3], [], []] := by kernel_rfl
theorem ds11_1 : statOk op11_1 [[], [0], [], [], [0, 1, 2, 3], [0, 1, 2, 3, 4], [0, 1, 2, 3], [0, 1, 2, 3], [], []] = true := by kernel_rfl
noncomputable def op12_1 : Array Oper := (regOps 1 (Tryz.f12.body.getD .skip)).getD #[]
theorem da12_1 : acyT op12_1 = true := by kernel_rfl
theorem df12_1 : freeL (depM op12_1.toList []) op12_1.size = [[], [0], [0], [0], [0, 1, 2, 3], [0], [], [], [0, 1, 2, 3, 4, 5, 6, 7], [0, 1, 2, 3, 4, 5, 6, 7, 8], [0, 1, 2, 3, 4, 5, 6, 7, 8], [0, 1, 2, 3, 4, 5, 6, 7, 8], [0, 1, 2, 3, 4, 5, 6, 7, 8, 9, 10, 11], [0, 1, 2, 3, 4, 5, 6, 7, 8], [0, 1, 2, 3, 4, 5, 6, 7], [0, 1, 2, 3, 4, 5, 6, 7], [], []] := by kernel_rfl
theorem ds12_1 : statOk op12_1 [[], [0], [0], [0], [0, 1, 2, 3], [0], [], [], [0, 1, 2, 3, 4, 5, 6, 7], [0, 1, 2, 3, 4, 5, 6, 7, 8], [0, 1, 2, 3, 4, 5, 6, 7, 8], [0, 1, 2, 3, 4, 5, 6, 7, 8], [0, 1, 2, 3, 4, 5, 6, 7, 8, 9, 10, 11], [0, 1, 2, 3, 4, 5, 6, 7, 8], [0, 1, 2, 3, 4, 5, 6, 7], [0, 1, 2, 3, 4, 5, 6, 7], [], []] = true := by kernel_rfl
noncomputable def op14_2 : Array Oper := (regOps 2 (Tryz.f14.body.getD .skip)).getD #[]
theorem da14_2 : acyT op14_2 = true := by kernel_rfl
theorem df14_2 : freeL (depM op14_2.toList []) op14_2.size = [[], [0], [0], [], [], [], [5], [5], [], [], [], [], [11], [], [], [11, 12, 13, 14], [11, 12, 13, 14, 15], [11, 12, 13, 14], [11, 12, 13, 14], [], []] := by kernel_rfl
theorem ds14_2 : statOk op14_2 [[], [0], [0], [], [], [], [5], [5], [], [], [], [], [11], [], [], [11, 12, 13, 14], [11, 12, 13, 14, 15], [11, 12, 13, 14], [11, 12, 13, 14], [], []] = true := by kernel_rfl
noncomputable def op14_5 : Array Oper := (regOps 5 (Tryz.f14.body.getD .skip)).getD #[]
theorem da14_5 : acyT op14_5 = true := by kernel_rfl
theorem df14_5 : freeL (depM op14_5.toList []) op14_5.size = [[], [0], [0], [0, 1, 2], [0], [], [], [], [7], [7], [7, 8, 9], [7], [], [], [], [], [15], [15], [15], [15, 16, 17, 18], [15], [], [], [15, 16, 17, 18, 19, 20, 21, 22], [15, 16, 17, 18, 19, 20, 21, 22, 23], [15, 16, 17, 18, 19, 20, 21, 22, 23], [15, 16, 17, 18, 19, 20, 21, 22, 23], [15, 16, 17, 18, 19, 20, 21, 22, 23, 24, 25, 26], [15, 16, 17, 18, 19, 20, 21, 22, 23], [15, 16, 17, 18, 19, 20, 21, 22], [15, 16, 17, 18, 19, 20, 21, 22], [], []] := by kernel_rfl
theorem ds14_5 : statOk op14_5 [[], [0], [0], [0, 1, 2], [0], [], [], [], [7], [7], [7, 8, 9], [7], [], [], [], [], [15], [15], [15], [15, 16, 17, 18], [15], [], [], [15, 16, 17, 18, 19, 20, 21, 22], [15, 16, 17, 18, 19, 20, 21, 22, 23], [15, 16, 17, 18, 19, 20, 21, 22, 23], [15, 16, 17, 18, 19, 20, 21, 22, 23], [15, 16, 17, 18, 19, 20, 21, 22, 23, 24, 25, 26], [15, 16, 17, 18, 19, 20, 21, 22, 23], [15, 16, 17, 18, 19, 20, 21, 22], [15, 16, 17, 18, 19, 20, 21, 22], [], []] = true := by kernel_rfl
end Go.Eng
end
