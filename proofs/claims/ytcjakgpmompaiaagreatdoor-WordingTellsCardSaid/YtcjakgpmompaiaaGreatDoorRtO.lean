/-
  The reference's text: the operations of its three regions that draw their order, each written out.
-/
import Derived.Test.YtcjakgpmompaiaaGreatDoorRrF
import Derived.Test.YtcjakgpmompaiaaGreatDoorWrO
namespace Go.Proofs.YtcjakgpmompaiaaGreatDoor
open Go.RowKit Rl Wd

noncomputable def rt6Ops : Array Oper := match Tryz.f15.body with | some c => (regOps 6 c).getD #[] | none => #[]
theorem rt6_0 : rt6Ops[0]? = some (⟨some 23, .move (.tmp 7), 9, "ref.go:114", #[], none⟩ : Oper) := by kernel_rfl
theorem rt6_1 : rt6Ops[1]? = some (⟨some 24, .move (.tmp 2), 3, "ref.go:114", #[], none⟩ : Oper) := by kernel_rfl
theorem rt6_2 : rt6Ops[2]? = some (⟨some 25, .binOp .add 3 (.tmp 24) (.const (.int .i64 1)) 3, 3, "ref.go:114", #[⟨1, .data⟩], none⟩ : Oper) := by kernel_rfl
theorem rt6_3 : rt6Ops[3]? = some (⟨some 26, .call { callee := .value (.func 47), args := #[.tmp 25], argTypes := #[3] }, 9, "ref.go:114", #[⟨2, .data⟩], none⟩ : Oper) := by kernel_rfl
theorem rt6_4 : rt6Ops[4]? = some (⟨some 27, .binOp .add 9 (.tmp 23) (.tmp 26) 9, 9, "ref.go:114", #[⟨0, .data⟩, ⟨3, .data⟩], none⟩ : Oper) := by kernel_rfl
theorem rt6_5 : rt6Ops[5]? = some (⟨some 28, .binOp .add 9 (.tmp 27) (.const (.string { data := #[32, 111, 102, 32] })) 9, 9, "ref.go:114", #[⟨4, .data⟩], none⟩ : Oper) := by kernel_rfl
theorem rt6_6 : rt6Ops[6]? = some (⟨some 29, .fieldAddr 35 (.tmp 4) 12, 0, "ref.go:114", #[], none⟩ : Oper) := by kernel_rfl
theorem rt6_7 : rt6Ops[7]? = some (⟨some 30, .load 3 (.tmp 29), 3, "ref.go:114", #[⟨6, .data⟩], none⟩ : Oper) := by kernel_rfl
theorem rt6_8 : rt6Ops[8]? = some (⟨some 31, .call { callee := .value (.func 47), args := #[.tmp 30], argTypes := #[3] }, 9, "ref.go:114", #[⟨7, .data⟩, ⟨3, .chain⟩], none⟩ : Oper) := by kernel_rfl
theorem rt6_9 : rt6Ops[9]? = some (⟨some 32, .binOp .add 9 (.tmp 28) (.tmp 31) 9, 9, "ref.go:114", #[⟨5, .data⟩, ⟨8, .data⟩], none⟩ : Oper) := by kernel_rfl
theorem rt6_10 : rt6Ops[10]? = some (⟨some 33, .binOp .add 9 (.tmp 32) (.const (.string { data := #[10, 100, 114, 97, 119, 110, 32, 105, 110, 32] })) 9, 9, "ref.go:114", #[⟨9, .data⟩], none⟩ : Oper) := by kernel_rfl
theorem rt6_11 : rt6Ops[11]? = some (⟨some 34, .fieldAddr 31 (.tmp 3) 1, 0, "ref.go:114", #[], none⟩ : Oper) := by kernel_rfl
theorem rt6_12 : rt6Ops[12]? = some (⟨some 35, .load 23 (.tmp 34), 23, "ref.go:114", #[⟨11, .data⟩], none⟩ : Oper) := by kernel_rfl
theorem rt6_13 : rt6Ops[13]? = some (⟨some 36, .fieldAddr 35 (.tmp 4) 7, 0, "ref.go:114", #[], none⟩ : Oper) := by kernel_rfl
theorem rt6_14 : rt6Ops[14]? = some (⟨some 37, .load 3 (.tmp 36), 3, "ref.go:114", #[⟨13, .data⟩], none⟩ : Oper) := by kernel_rfl
theorem rt6_15 : rt6Ops[15]? = some (⟨some 38, .indexAddr 23 (.tmp 35) (.tmp 37), 0, "ref.go:114", #[⟨12, .data⟩, ⟨14, .data⟩], none⟩ : Oper) := by kernel_rfl
theorem rt6_16 : rt6Ops[16]? = some (⟨some 39, .fieldAddr 75 (.tmp 38) 0, 0, "ref.go:114", #[⟨15, .data⟩], none⟩ : Oper) := by kernel_rfl
theorem rt6_17 : rt6Ops[17]? = some (⟨some 40, .load 9 (.tmp 39), 9, "ref.go:114", #[⟨16, .data⟩], none⟩ : Oper) := by kernel_rfl
theorem rt6_18 : rt6Ops[18]? = some (⟨some 41, .binOp .add 9 (.tmp 33) (.tmp 40) 9, 9, "ref.go:114", #[⟨10, .data⟩, ⟨17, .data⟩], none⟩ : Oper) := by kernel_rfl
theorem rt6_19 : rt6Ops[19]? = some (⟨some 42, .binOp .add 9 (.tmp 41) (.const (.string { data := #[32, 111, 110, 32] })) 9, 9, "ref.go:114", #[⟨18, .data⟩], none⟩ : Oper) := by kernel_rfl
theorem rt6_20 : rt6Ops[20]? = some (⟨some 43, .fieldAddr 35 (.tmp 4) 6, 0, "ref.go:114", #[], none⟩ : Oper) := by kernel_rfl
theorem rt6_21 : rt6Ops[21]? = some (⟨some 44, .load 3 (.tmp 43), 3, "ref.go:114", #[⟨20, .data⟩], none⟩ : Oper) := by kernel_rfl
theorem rt6_22 : rt6Ops[22]? = some (⟨some 45, .call { callee := .value (.func 48), args := #[.tmp 44], argTypes := #[3] }, 9, "ref.go:114", #[⟨21, .data⟩, ⟨8, .chain⟩], none⟩ : Oper) := by kernel_rfl
theorem rt6_23 : rt6Ops[23]? = some (⟨some 46, .binOp .add 9 (.tmp 42) (.tmp 45) 9, 9, "ref.go:114", #[⟨19, .data⟩, ⟨22, .data⟩], none⟩ : Oper) := by kernel_rfl
theorem rt6_24 : rt6Ops[24]? = some (⟨some 47, .binOp .add 9 (.tmp 46) (.const (.string { data := #[10] })) 9, 9, "ref.go:114", #[⟨23, .data⟩], none⟩ : Oper) := by kernel_rfl
theorem rt6_25 : rt6Ops[25]? = some (⟨some 48, .fieldAddr 35 (.tmp 4) 5, 0, "ref.go:114", #[], none⟩ : Oper) := by kernel_rfl
theorem rt6_26 : rt6Ops[26]? = some (⟨some 49, .load 33 (.tmp 48), 33, "ref.go:114", #[⟨25, .data⟩], none⟩ : Oper) := by kernel_rfl
theorem rt6_27 : rt6Ops[27]? = some (⟨some 50, .call { callee := .value (.func 49), args := #[.tmp 49], argTypes := #[33] }, 9, "ref.go:114", #[⟨26, .data⟩, ⟨22, .chain⟩], none⟩ : Oper) := by kernel_rfl
theorem rt6_28 : rt6Ops[28]? = some (⟨some 51, .binOp .add 9 (.tmp 47) (.tmp 50) 9, 9, "ref.go:114", #[⟨24, .data⟩, ⟨27, .data⟩], none⟩ : Oper) := by kernel_rfl
theorem rt6_29 : rt6Ops[29]? = some (⟨some 7, .assign (.tmp 51), 9, "ref.go:114", #[⟨28, .data⟩, ⟨27, .chain⟩, ⟨0, .phase⟩, ⟨1, .phase⟩, ⟨2, .phase⟩, ⟨3, .phase⟩, ⟨4, .phase⟩, ⟨5, .phase⟩, ⟨6, .phase⟩, ⟨7, .phase⟩, ⟨8, .phase⟩, ⟨9, .phase⟩, ⟨10, .phase⟩, ⟨11, .phase⟩, ⟨12, .phase⟩, ⟨13, .phase⟩, ⟨14, .phase⟩, ⟨15, .phase⟩, ⟨16, .phase⟩, ⟨17, .phase⟩, ⟨18, .phase⟩, ⟨19, .phase⟩, ⟨20, .phase⟩, ⟨21, .phase⟩, ⟨22, .phase⟩, ⟨23, .phase⟩, ⟨24, .phase⟩, ⟨25, .phase⟩, ⟨26, .phase⟩, ⟨27, .phase⟩, ⟨28, .phase⟩], none⟩ : Oper) := by kernel_rfl
theorem rt6_none : Region.noSelect rt6Ops = true := by kernel_rfl
noncomputable def rt12Ops : Array Oper := match Tryz.f15.body with | some c => (regOps 12 c).getD #[] | none => #[]
theorem rt12_0 : rt12Ops[0]? = some (⟨some 83, .move (.tmp 7), 9, "ref.go:122", #[], none⟩ : Oper) := by kernel_rfl
theorem rt12_1 : rt12Ops[1]? = some (⟨some 84, .fieldAddr 35 (.tmp 4) 3, 0, "ref.go:122", #[], none⟩ : Oper) := by kernel_rfl
theorem rt12_2 : rt12Ops[2]? = some (⟨some 85, .load 3 (.tmp 84), 3, "ref.go:122", #[⟨1, .data⟩], none⟩ : Oper) := by kernel_rfl
theorem rt12_3 : rt12Ops[3]? = some (⟨some 86, .call { callee := .value (.func 47), args := #[.tmp 85], argTypes := #[3] }, 9, "ref.go:122", #[⟨2, .data⟩], none⟩ : Oper) := by kernel_rfl
theorem rt12_4 : rt12Ops[4]? = some (⟨some 87, .binOp .add 9 (.tmp 83) (.tmp 86) 9, 9, "ref.go:122", #[⟨0, .data⟩, ⟨3, .data⟩], none⟩ : Oper) := by kernel_rfl
theorem rt12_5 : rt12Ops[5]? = some (⟨some 88, .binOp .add 9 (.tmp 87) (.const (.string { data := #[32] })) 9, 9, "ref.go:122", #[⟨4, .data⟩], none⟩ : Oper) := by kernel_rfl
theorem rt12_6 : rt12Ops[6]? = some (⟨some 89, .fieldAddr 31 (.tmp 3) 0, 0, "ref.go:122", #[], none⟩ : Oper) := by kernel_rfl
theorem rt12_7 : rt12Ops[7]? = some (⟨some 90, .load 22 (.tmp 89), 22, "ref.go:122", #[⟨6, .data⟩], none⟩ : Oper) := by kernel_rfl
theorem rt12_8 : rt12Ops[8]? = some (⟨some 91, .fieldAddr 35 (.tmp 4) 4, 0, "ref.go:122", #[], none⟩ : Oper) := by kernel_rfl
theorem rt12_9 : rt12Ops[9]? = some (⟨some 92, .load 3 (.tmp 91), 3, "ref.go:122", #[⟨8, .data⟩], none⟩ : Oper) := by kernel_rfl
theorem rt12_10 : rt12Ops[10]? = some (⟨some 93, .indexAddr 22 (.tmp 90) (.tmp 92), 0, "ref.go:122", #[⟨7, .data⟩, ⟨9, .data⟩], none⟩ : Oper) := by kernel_rfl
theorem rt12_11 : rt12Ops[11]? = some (⟨some 94, .load 9 (.tmp 93), 9, "ref.go:122", #[⟨10, .data⟩], none⟩ : Oper) := by kernel_rfl
theorem rt12_12 : rt12Ops[12]? = some (⟨some 95, .binOp .add 9 (.tmp 88) (.tmp 94) 9, 9, "ref.go:122", #[⟨5, .data⟩, ⟨11, .data⟩], none⟩ : Oper) := by kernel_rfl
theorem rt12_13 : rt12Ops[13]? = some (⟨some 7, .assign (.tmp 95), 9, "ref.go:122", #[⟨12, .data⟩, ⟨3, .chain⟩, ⟨0, .phase⟩, ⟨1, .phase⟩, ⟨2, .phase⟩, ⟨3, .phase⟩, ⟨4, .phase⟩, ⟨5, .phase⟩, ⟨6, .phase⟩, ⟨7, .phase⟩, ⟨8, .phase⟩, ⟨9, .phase⟩, ⟨10, .phase⟩, ⟨11, .phase⟩, ⟨12, .phase⟩], none⟩ : Oper) := by kernel_rfl
theorem rt12_none : Region.noSelect rt12Ops = true := by kernel_rfl
noncomputable def rt15Ops : Array Oper := match Tryz.f15.body with | some c => (regOps 15 c).getD #[] | none => #[]
theorem rt15_0 : rt15Ops[0]? = some (⟨some 106, .move (.tmp 7), 9, "ref.go:126", #[], none⟩ : Oper) := by kernel_rfl
theorem rt15_1 : rt15Ops[1]? = some (⟨some 107, .binOp .add 9 (.tmp 106) (.const (.string { data := #[10, 116, 111, 32, 98, 101, 32, 112, 97, 105, 100, 32, 98, 121, 32] })) 9, 9, "ref.go:126", #[⟨0, .data⟩], none⟩ : Oper) := by kernel_rfl
theorem rt15_2 : rt15Ops[2]? = some (⟨some 108, .fieldAddr 31 (.tmp 3) 3, 0, "ref.go:126", #[], none⟩ : Oper) := by kernel_rfl
theorem rt15_3 : rt15Ops[3]? = some (⟨some 109, .load 25 (.tmp 108), 25, "ref.go:126", #[⟨2, .data⟩], none⟩ : Oper) := by kernel_rfl
theorem rt15_4 : rt15Ops[4]? = some (⟨some 110, .fieldAddr 35 (.tmp 4) 1, 0, "ref.go:126", #[], none⟩ : Oper) := by kernel_rfl
theorem rt15_5 : rt15Ops[5]? = some (⟨some 111, .load 3 (.tmp 110), 3, "ref.go:126", #[⟨4, .data⟩], none⟩ : Oper) := by kernel_rfl
theorem rt15_6 : rt15Ops[6]? = some (⟨some 112, .indexAddr 25 (.tmp 109) (.tmp 111), 0, "ref.go:126", #[⟨3, .data⟩, ⟨5, .data⟩], none⟩ : Oper) := by kernel_rfl
theorem rt15_7 : rt15Ops[7]? = some (⟨some 113, .fieldAddr 78 (.tmp 112) 0, 0, "ref.go:126", #[⟨6, .data⟩], none⟩ : Oper) := by kernel_rfl
theorem rt15_8 : rt15Ops[8]? = some (⟨some 114, .load 9 (.tmp 113), 9, "ref.go:126", #[⟨7, .data⟩], none⟩ : Oper) := by kernel_rfl
theorem rt15_9 : rt15Ops[9]? = some (⟨some 115, .binOp .add 9 (.tmp 107) (.tmp 114) 9, 9, "ref.go:126", #[⟨1, .data⟩, ⟨8, .data⟩], none⟩ : Oper) := by kernel_rfl
theorem rt15_10 : rt15Ops[10]? = some (⟨some 116, .binOp .add 9 (.tmp 115) (.const (.string { data := #[32, 105, 110, 32] })) 9, 9, "ref.go:126", #[⟨9, .data⟩], none⟩ : Oper) := by kernel_rfl
theorem rt15_11 : rt15Ops[11]? = some (⟨some 117, .fieldAddr 31 (.tmp 3) 1, 0, "ref.go:126", #[], none⟩ : Oper) := by kernel_rfl
theorem rt15_12 : rt15Ops[12]? = some (⟨some 118, .load 23 (.tmp 117), 23, "ref.go:126", #[⟨11, .data⟩], none⟩ : Oper) := by kernel_rfl
theorem rt15_13 : rt15Ops[13]? = some (⟨some 119, .fieldAddr 35 (.tmp 4) 8, 0, "ref.go:126", #[], none⟩ : Oper) := by kernel_rfl
theorem rt15_14 : rt15Ops[14]? = some (⟨some 120, .load 3 (.tmp 119), 3, "ref.go:126", #[⟨13, .data⟩], none⟩ : Oper) := by kernel_rfl
theorem rt15_15 : rt15Ops[15]? = some (⟨some 121, .indexAddr 23 (.tmp 118) (.tmp 120), 0, "ref.go:126", #[⟨12, .data⟩, ⟨14, .data⟩], none⟩ : Oper) := by kernel_rfl
theorem rt15_16 : rt15Ops[16]? = some (⟨some 122, .fieldAddr 75 (.tmp 121) 0, 0, "ref.go:126", #[⟨15, .data⟩], none⟩ : Oper) := by kernel_rfl
theorem rt15_17 : rt15Ops[17]? = some (⟨some 123, .load 9 (.tmp 122), 9, "ref.go:126", #[⟨16, .data⟩], none⟩ : Oper) := by kernel_rfl
theorem rt15_18 : rt15Ops[18]? = some (⟨some 124, .binOp .add 9 (.tmp 116) (.tmp 123) 9, 9, "ref.go:126", #[⟨10, .data⟩, ⟨17, .data⟩], none⟩ : Oper) := by kernel_rfl
theorem rt15_19 : rt15Ops[19]? = some (⟨some 125, .binOp .add 9 (.tmp 124) (.const (.string { data := #[10] })) 9, 9, "ref.go:126", #[⟨18, .data⟩], none⟩ : Oper) := by kernel_rfl
theorem rt15_20 : rt15Ops[20]? = some (⟨some 7, .assign (.tmp 125), 9, "ref.go:126", #[⟨19, .data⟩, ⟨0, .phase⟩, ⟨1, .phase⟩, ⟨2, .phase⟩, ⟨3, .phase⟩, ⟨4, .phase⟩, ⟨5, .phase⟩, ⟨6, .phase⟩, ⟨7, .phase⟩, ⟨8, .phase⟩, ⟨9, .phase⟩, ⟨10, .phase⟩, ⟨11, .phase⟩, ⟨12, .phase⟩, ⟨13, .phase⟩, ⟨14, .phase⟩, ⟨15, .phase⟩, ⟨16, .phase⟩, ⟨17, .phase⟩, ⟨18, .phase⟩, ⟨19, .phase⟩], none⟩ : Oper) := by kernel_rfl
theorem rt15_none : Region.noSelect rt15Ops = true := by kernel_rfl
end Go.Proofs.YtcjakgpmompaiaaGreatDoor
