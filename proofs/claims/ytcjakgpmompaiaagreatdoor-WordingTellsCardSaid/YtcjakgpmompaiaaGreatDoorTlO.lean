/-
  WordingTells: the operations of the law's great condition, each written out.
-/
import Derived.Test.YtcjakgpmompaiaaGreatDoorWrO
namespace Go.Proofs.YtcjakgpmompaiaaGreatDoor
open Go.RowKit Rl Wd

noncomputable def tlOps : Array Oper := match Tryz.f3.body with | some c => (regOps 6 c).getD #[] | none => #[]
theorem tl_0 : tlOps[0]? = some (⟨some 43, .move (.tmp 11), 4, "law.go:43", #[], none⟩ : Oper) := by kernel_rfl
theorem tl_1 : tlOps[1]? = some (⟨some 44, .move (.tmp 43), 4, "law.go:43", #[⟨0, .data⟩], none⟩ : Oper) := by kernel_rfl
theorem tl_2 : tlOps[2]? = some (⟨some 45, .load 31 (.tmp 5), 31, "law.go:43", #[⟨1, .guard⟩], some (1, true)⟩ : Oper) := by kernel_rfl
theorem tl_3 : tlOps[3]? = some (⟨some 46, .load 35 (.tmp 6), 35, "law.go:43", #[⟨1, .guard⟩], some (1, true)⟩ : Oper) := by kernel_rfl
theorem tl_4 : tlOps[4]? = some (⟨some 47, .call { callee := .value (.func 12), args := #[.tmp 45, .tmp 46], argTypes := #[31, 35] }, 38, "law.go:43", #[⟨2, .data⟩, ⟨3, .data⟩, ⟨1, .chain⟩, ⟨1, .guard⟩], some (1, true)⟩ : Oper) := by kernel_rfl
theorem tl_5 : tlOps[5]? = some (⟨some 48, .load 31 (.tmp 5), 31, "law.go:43", #[⟨1, .guard⟩], some (1, true)⟩ : Oper) := by kernel_rfl
theorem tl_6 : tlOps[6]? = some (⟨some 49, .load 35 (.tmp 6), 35, "law.go:43", #[⟨1, .guard⟩], some (1, true)⟩ : Oper) := by kernel_rfl
theorem tl_7 : tlOps[7]? = some (⟨some 50, .call { callee := .value (.func 13), args := #[.tmp 48, .tmp 49], argTypes := #[31, 35] }, 38, "law.go:43", #[⟨5, .data⟩, ⟨6, .data⟩, ⟨4, .chain⟩, ⟨1, .guard⟩], some (1, true)⟩ : Oper) := by kernel_rfl
theorem tl_8 : tlOps[8]? = some (⟨some 51, .binOp .eql 38 (.tmp 47) (.tmp 50) 38, 4, "law.go:43", #[⟨4, .data⟩, ⟨7, .data⟩, ⟨1, .guard⟩], some (1, true)⟩ : Oper) := by kernel_rfl
theorem tl_9 : tlOps[9]? = some (⟨some 52, .pick (.tmp 44) (.tmp 51) (.const (.bool false)), 4, "law.go:43", #[⟨1, .data⟩, ⟨8, .data⟩], none⟩ : Oper) := by kernel_rfl
theorem tl_10 : tlOps[10]? = some (⟨some 53, .move (.tmp 52), 4, "law.go:43", #[⟨9, .data⟩, ⟨7, .chain⟩], none⟩ : Oper) := by kernel_rfl
theorem tl_11 : tlOps[11]? = some (⟨some 54, .load 31 (.tmp 5), 31, "law.go:43", #[⟨10, .guard⟩], some (10, true)⟩ : Oper) := by kernel_rfl
theorem tl_12 : tlOps[12]? = some (⟨some 55, .load 35 (.tmp 6), 35, "law.go:43", #[⟨10, .guard⟩], some (10, true)⟩ : Oper) := by kernel_rfl
theorem tl_13 : tlOps[13]? = some (⟨some 56, .move (.tmp 2), 3, "law.go:43", #[⟨10, .guard⟩], some (10, true)⟩ : Oper) := by kernel_rfl
theorem tl_14 : tlOps[14]? = some (⟨some 57, .call { callee := .value (.func 14), args := #[.tmp 54, .tmp 55, .tmp 56], argTypes := #[31, 35, 3] }, 9, "law.go:43", #[⟨11, .data⟩, ⟨12, .data⟩, ⟨13, .data⟩, ⟨10, .chain⟩, ⟨10, .guard⟩], some (10, true)⟩ : Oper) := by kernel_rfl
theorem tl_15 : tlOps[15]? = some (⟨some 58, .load 31 (.tmp 5), 31, "law.go:43", #[⟨10, .guard⟩], some (10, true)⟩ : Oper) := by kernel_rfl
theorem tl_16 : tlOps[16]? = some (⟨some 59, .load 35 (.tmp 6), 35, "law.go:43", #[⟨10, .guard⟩], some (10, true)⟩ : Oper) := by kernel_rfl
theorem tl_17 : tlOps[17]? = some (⟨some 60, .move (.tmp 2), 3, "law.go:43", #[⟨10, .guard⟩], some (10, true)⟩ : Oper) := by kernel_rfl
theorem tl_18 : tlOps[18]? = some (⟨some 61, .call { callee := .value (.func 15), args := #[.tmp 58, .tmp 59, .tmp 60], argTypes := #[31, 35, 3] }, 9, "law.go:43", #[⟨15, .data⟩, ⟨16, .data⟩, ⟨17, .data⟩, ⟨14, .chain⟩, ⟨10, .guard⟩], some (10, true)⟩ : Oper) := by kernel_rfl
theorem tl_19 : tlOps[19]? = some (⟨some 62, .binOp .eql 9 (.tmp 57) (.tmp 61) 9, 4, "law.go:43", #[⟨14, .data⟩, ⟨18, .data⟩, ⟨10, .guard⟩], some (10, true)⟩ : Oper) := by kernel_rfl
theorem tl_20 : tlOps[20]? = some (⟨some 63, .pick (.tmp 53) (.tmp 62) (.const (.bool false)), 4, "law.go:43", #[⟨10, .data⟩, ⟨19, .data⟩], none⟩ : Oper) := by kernel_rfl
theorem tl_21 : tlOps[21]? = some (⟨some 64, .move (.tmp 63), 4, "law.go:43", #[⟨20, .data⟩, ⟨18, .chain⟩], none⟩ : Oper) := by kernel_rfl
theorem tl_22 : tlOps[22]? = some (⟨some 65, .load 35 (.tmp 12), 35, "law.go:43", #[⟨21, .guard⟩], some (21, true)⟩ : Oper) := by kernel_rfl
theorem tl_23 : tlOps[23]? = some (⟨some 66, .load 35 (.tmp 15), 35, "law.go:43", #[⟨21, .guard⟩], some (21, true)⟩ : Oper) := by kernel_rfl
theorem tl_24 : tlOps[24]? = some (⟨some 67, .binOp .eql 35 (.tmp 65) (.tmp 66) 35, 4, "law.go:43", #[⟨22, .data⟩, ⟨23, .data⟩, ⟨21, .guard⟩], some (21, true)⟩ : Oper) := by kernel_rfl
theorem tl_25 : tlOps[25]? = some (⟨some 68, .pick (.tmp 64) (.tmp 67) (.const (.bool false)), 4, "law.go:43", #[⟨21, .data⟩, ⟨24, .data⟩], none⟩ : Oper) := by kernel_rfl
theorem tl_26 : tlOps[26]? = some (⟨some 69, .move (.tmp 68), 4, "law.go:43", #[⟨25, .data⟩, ⟨21, .chain⟩], none⟩ : Oper) := by kernel_rfl
theorem tl_27 : tlOps[27]? = some (⟨some 70, .move (.tmp 13), 3, "law.go:43", #[⟨26, .guard⟩], some (26, true)⟩ : Oper) := by kernel_rfl
theorem tl_28 : tlOps[28]? = some (⟨some 71, .move (.tmp 16), 3, "law.go:43", #[⟨26, .guard⟩], some (26, true)⟩ : Oper) := by kernel_rfl
theorem tl_29 : tlOps[29]? = some (⟨some 72, .binOp .eql 3 (.tmp 70) (.tmp 71) 3, 4, "law.go:43", #[⟨27, .data⟩, ⟨28, .data⟩, ⟨26, .guard⟩], some (26, true)⟩ : Oper) := by kernel_rfl
theorem tl_30 : tlOps[30]? = some (⟨some 73, .pick (.tmp 69) (.tmp 72) (.const (.bool false)), 4, "law.go:43", #[⟨26, .data⟩, ⟨29, .data⟩], none⟩ : Oper) := by kernel_rfl
theorem tl_31 : tlOps[31]? = some (⟨some 74, .move (.tmp 73), 4, "law.go:43", #[⟨30, .data⟩, ⟨26, .chain⟩], none⟩ : Oper) := by kernel_rfl
theorem tl_32 : tlOps[32]? = some (⟨some 75, .move (.tmp 14), 38, "law.go:43", #[⟨31, .guard⟩], some (31, true)⟩ : Oper) := by kernel_rfl
theorem tl_33 : tlOps[33]? = some (⟨some 76, .move (.tmp 17), 38, "law.go:43", #[⟨31, .guard⟩], some (31, true)⟩ : Oper) := by kernel_rfl
theorem tl_34 : tlOps[34]? = some (⟨some 77, .binOp .eql 38 (.tmp 75) (.tmp 76) 38, 4, "law.go:43", #[⟨32, .data⟩, ⟨33, .data⟩, ⟨31, .guard⟩], some (31, true)⟩ : Oper) := by kernel_rfl
theorem tl_35 : tlOps[35]? = some (⟨some 78, .pick (.tmp 74) (.tmp 77) (.const (.bool false)), 4, "law.go:43", #[⟨31, .data⟩, ⟨34, .data⟩], none⟩ : Oper) := by kernel_rfl
theorem tl_36 : tlOps[36]? = some (⟨some 79, .move (.tmp 78), 4, "law.go:43", #[⟨35, .data⟩, ⟨31, .chain⟩], none⟩ : Oper) := by kernel_rfl
theorem tl_37 : tlOps[37]? = some (⟨some 80, .load 31 (.tmp 5), 31, "law.go:43", #[⟨36, .guard⟩], some (36, true)⟩ : Oper) := by kernel_rfl
theorem tl_38 : tlOps[38]? = some (⟨some 81, .move (.tmp 3), 9, "law.go:43", #[⟨36, .guard⟩], some (36, true)⟩ : Oper) := by kernel_rfl
theorem tl_39 : tlOps[39]? = some (⟨some 82, .move (.tmp 4), 9, "law.go:43", #[⟨36, .guard⟩], some (36, true)⟩ : Oper) := by kernel_rfl
theorem tl_40 : tlOps[40]? = some (⟨some 83, .call { callee := .value (.func 16), args := #[.tmp 80, .tmp 81, .tmp 82], argTypes := #[31, 9, 9] }, 4, "law.go:43", #[⟨37, .data⟩, ⟨38, .data⟩, ⟨39, .data⟩, ⟨36, .chain⟩, ⟨36, .guard⟩], some (36, true)⟩ : Oper) := by kernel_rfl
theorem tl_41 : tlOps[41]? = some (⟨some 84, .load 31 (.tmp 5), 31, "law.go:43", #[⟨36, .guard⟩], some (36, true)⟩ : Oper) := by kernel_rfl
theorem tl_42 : tlOps[42]? = some (⟨some 85, .move (.tmp 3), 9, "law.go:43", #[⟨36, .guard⟩], some (36, true)⟩ : Oper) := by kernel_rfl
theorem tl_43 : tlOps[43]? = some (⟨some 86, .move (.tmp 4), 9, "law.go:43", #[⟨36, .guard⟩], some (36, true)⟩ : Oper) := by kernel_rfl
theorem tl_44 : tlOps[44]? = some (⟨some 87, .call { callee := .value (.func 17), args := #[.tmp 84, .tmp 85, .tmp 86], argTypes := #[31, 9, 9] }, 4, "law.go:43", #[⟨41, .data⟩, ⟨42, .data⟩, ⟨43, .data⟩, ⟨40, .chain⟩, ⟨36, .guard⟩], some (36, true)⟩ : Oper) := by kernel_rfl
theorem tl_45 : tlOps[45]? = some (⟨some 88, .binOp .eql 4 (.tmp 83) (.tmp 87) 4, 4, "law.go:43", #[⟨40, .data⟩, ⟨44, .data⟩, ⟨36, .guard⟩], some (36, true)⟩ : Oper) := by kernel_rfl
theorem tl_46 : tlOps[46]? = some (⟨some 89, .pick (.tmp 79) (.tmp 88) (.const (.bool false)), 4, "law.go:43", #[⟨36, .data⟩, ⟨45, .data⟩], none⟩ : Oper) := by kernel_rfl
theorem tl_47 : tlOps[47]? = some (⟨some 10, .assign (.tmp 89), 4, "law.go:43", #[⟨46, .data⟩, ⟨44, .chain⟩, ⟨0, .phase⟩, ⟨1, .phase⟩, ⟨2, .phase⟩, ⟨3, .phase⟩, ⟨4, .phase⟩, ⟨5, .phase⟩, ⟨6, .phase⟩, ⟨7, .phase⟩, ⟨8, .phase⟩, ⟨9, .phase⟩, ⟨10, .phase⟩, ⟨11, .phase⟩, ⟨12, .phase⟩, ⟨13, .phase⟩, ⟨14, .phase⟩, ⟨15, .phase⟩, ⟨16, .phase⟩, ⟨17, .phase⟩, ⟨18, .phase⟩, ⟨19, .phase⟩, ⟨20, .phase⟩, ⟨21, .phase⟩, ⟨22, .phase⟩, ⟨23, .phase⟩, ⟨24, .phase⟩, ⟨25, .phase⟩, ⟨26, .phase⟩, ⟨27, .phase⟩, ⟨28, .phase⟩, ⟨29, .phase⟩, ⟨30, .phase⟩, ⟨31, .phase⟩, ⟨32, .phase⟩, ⟨33, .phase⟩, ⟨34, .phase⟩, ⟨35, .phase⟩, ⟨36, .phase⟩, ⟨37, .phase⟩, ⟨38, .phase⟩, ⟨39, .phase⟩, ⟨40, .phase⟩, ⟨41, .phase⟩, ⟨42, .phase⟩, ⟨43, .phase⟩, ⟨44, .phase⟩, ⟨45, .phase⟩, ⟨46, .phase⟩], none⟩ : Oper) := by kernel_rfl
theorem tl_none : Region.noSelect tlOps = true := by kernel_rfl
end Go.Proofs.YtcjakgpmompaiaaGreatDoor
