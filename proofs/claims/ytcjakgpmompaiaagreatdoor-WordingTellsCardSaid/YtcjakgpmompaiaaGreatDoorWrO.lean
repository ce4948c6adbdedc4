/-
  The operations of the lines that every wording has, each written out.
-/
import Derived.Test.YtcjakgpmompaiaaGreatDoorWrA
import Derived.Deep.RegionHeld3
namespace Go.Proofs.YtcjakgpmompaiaaGreatDoor
open Go.RowKit Rl Wd

def regOps (n : Nat) : Code → Option (Array Oper)
  | .region id ops _ => if id = n then some ops else none
  | .seq a b => match regOps n a with | some o => some o | none => regOps n b
  | .cond _ a b => match regOps n a with | some o => some o | none => regOps n b
  | .block _ c => regOps n c
  | .loop c => regOps n c
  | .scope c => regOps n c
  | _ => none
noncomputable def wrOps : Array Oper := match Tryz.f46.body with | some c => (regOps 1 c).getD #[] | none => #[]
theorem swap_ops {P : Program} {md : Region.Mode} {ops ops' : Array Oper} {Q : Exit → Act → World → Prop} {S : World → Prop} {a : Act} {w : World} (h : ops = ops') (g : wpAnyH P md ops' Q S ops'.size (Array.replicate ops'.size false) a w) : wpAnyH P md ops Q S ops.size (Array.replicate ops.size false) a w := by rw [h]; exact g
theorem wo_0 : wrOps[0]? = some (⟨some 8, .load 35 (.tmp 4), 35, "write.go:13", #[], none⟩ : Oper) := by kernel_rfl
theorem wo_1 : wrOps[1]? = some (⟨some 9, .call { callee := .value (.func 75), args := #[.tmp 8], argTypes := #[35] }, 9, "write.go:14", #[⟨0, .data⟩], none⟩ : Oper) := by kernel_rfl
theorem wo_2 : wrOps[2]? = some (⟨some 10, .binOp .add 9 (.tmp 9) (.const (.string { data := #[32] })) 9, 9, "write.go:13", #[⟨1, .data⟩], none⟩ : Oper) := by kernel_rfl
theorem wo_3 : wrOps[3]? = some (⟨some 11, .move (.tmp 2), 3, "write.go:13", #[], none⟩ : Oper) := by kernel_rfl
theorem wo_4 : wrOps[4]? = some (⟨some 12, .binOp .add 3 (.tmp 11) (.const (.int .i64 1)) 3, 3, "write.go:13", #[⟨3, .data⟩], none⟩ : Oper) := by kernel_rfl
theorem wo_5 : wrOps[5]? = some (⟨some 13, .call { callee := .value (.func 76), args := #[.tmp 12], argTypes := #[3] }, 9, "write.go:14", #[⟨4, .data⟩, ⟨1, .chain⟩], none⟩ : Oper) := by kernel_rfl
theorem wo_6 : wrOps[6]? = some (⟨some 14, .binOp .add 9 (.tmp 10) (.tmp 13) 9, 9, "write.go:13", #[⟨2, .data⟩, ⟨5, .data⟩], none⟩ : Oper) := by kernel_rfl
theorem wo_7 : wrOps[7]? = some (⟨some 15, .binOp .add 9 (.tmp 14) (.const (.string { data := #[32, 111, 102, 32] })) 9, 9, "write.go:13", #[⟨6, .data⟩], none⟩ : Oper) := by kernel_rfl
theorem wo_8 : wrOps[8]? = some (⟨some 16, .fieldAddr 35 (.tmp 4) 12, 0, "write.go:13", #[], none⟩ : Oper) := by kernel_rfl
theorem wo_9 : wrOps[9]? = some (⟨some 17, .load 3 (.tmp 16), 3, "write.go:13", #[⟨8, .data⟩], none⟩ : Oper) := by kernel_rfl
theorem wo_10 : wrOps[10]? = some (⟨some 18, .call { callee := .value (.func 76), args := #[.tmp 17], argTypes := #[3] }, 9, "write.go:14", #[⟨9, .data⟩, ⟨5, .chain⟩], none⟩ : Oper) := by kernel_rfl
theorem wo_11 : wrOps[11]? = some (⟨some 19, .binOp .add 9 (.tmp 15) (.tmp 18) 9, 9, "write.go:13", #[⟨7, .data⟩, ⟨10, .data⟩], none⟩ : Oper) := by kernel_rfl
theorem wo_12 : wrOps[12]? = some (⟨some 20, .fieldAddr 31 (.tmp 3) 1, 0, "write.go:13", #[], none⟩ : Oper) := by kernel_rfl
theorem wo_13 : wrOps[13]? = some (⟨some 21, .load 23 (.tmp 20), 23, "write.go:13", #[⟨12, .data⟩], none⟩ : Oper) := by kernel_rfl
theorem wo_14 : wrOps[14]? = some (⟨some 22, .fieldAddr 35 (.tmp 4) 7, 0, "write.go:13", #[], none⟩ : Oper) := by kernel_rfl
theorem wo_15 : wrOps[15]? = some (⟨some 23, .load 3 (.tmp 22), 3, "write.go:13", #[⟨14, .data⟩], none⟩ : Oper) := by kernel_rfl
theorem wo_16 : wrOps[16]? = some (⟨some 24, .indexAddr 23 (.tmp 21) (.tmp 23), 0, "write.go:13", #[⟨13, .data⟩, ⟨15, .data⟩], none⟩ : Oper) := by kernel_rfl
theorem wo_17 : wrOps[17]? = some (⟨some 25, .fieldAddr 75 (.tmp 24) 0, 0, "write.go:13", #[⟨16, .data⟩], none⟩ : Oper) := by kernel_rfl
theorem wo_18 : wrOps[18]? = some (⟨some 26, .load 9 (.tmp 25), 9, "write.go:13", #[⟨17, .data⟩], none⟩ : Oper) := by kernel_rfl
theorem wo_19 : wrOps[19]? = some (⟨some 27, .binOp .add 9 (.const (.string { data := #[100, 114, 97, 119, 110, 32, 105, 110, 32] })) (.tmp 26) 9, 9, "write.go:13", #[⟨18, .data⟩], none⟩ : Oper) := by kernel_rfl
theorem wo_20 : wrOps[20]? = some (⟨some 28, .binOp .add 9 (.tmp 27) (.const (.string { data := #[32, 111, 110, 32] })) 9, 9, "write.go:13", #[⟨19, .data⟩], none⟩ : Oper) := by kernel_rfl
theorem wo_21 : wrOps[21]? = some (⟨some 29, .fieldAddr 35 (.tmp 4) 6, 0, "write.go:13", #[], none⟩ : Oper) := by kernel_rfl
theorem wo_22 : wrOps[22]? = some (⟨some 30, .load 3 (.tmp 29), 3, "write.go:13", #[⟨21, .data⟩], none⟩ : Oper) := by kernel_rfl
theorem wo_23 : wrOps[23]? = some (⟨some 31, .call { callee := .value (.func 77), args := #[.tmp 30], argTypes := #[3] }, 9, "write.go:15", #[⟨22, .data⟩, ⟨10, .chain⟩], none⟩ : Oper) := by kernel_rfl
theorem wo_24 : wrOps[24]? = some (⟨some 32, .binOp .add 9 (.tmp 28) (.tmp 31) 9, 9, "write.go:13", #[⟨20, .data⟩, ⟨23, .data⟩], none⟩ : Oper) := by kernel_rfl
theorem wo_25 : wrOps[25]? = some (⟨some 33, .fieldAddr 35 (.tmp 4) 5, 0, "write.go:13", #[], none⟩ : Oper) := by kernel_rfl
theorem wo_26 : wrOps[26]? = some (⟨some 34, .load 33 (.tmp 33), 33, "write.go:13", #[⟨25, .data⟩], none⟩ : Oper) := by kernel_rfl
theorem wo_27 : wrOps[27]? = some (⟨some 35, .call { callee := .value (.func 78), args := #[.tmp 34], argTypes := #[33] }, 9, "write.go:16", #[⟨26, .data⟩, ⟨23, .chain⟩], none⟩ : Oper) := by kernel_rfl
theorem wo_28 : wrOps[28]? = some (⟨some 36, .binOp .add 9 (.const (.string { data := #[112, 97, 121, 32] })) (.tmp 35) 9, 9, "write.go:13", #[⟨27, .data⟩], none⟩ : Oper) := by kernel_rfl
theorem wo_29 : wrOps[29]? = some (⟨some 37, .load 31 (.tmp 3), 31, "write.go:13", #[], none⟩ : Oper) := by kernel_rfl
theorem wo_30 : wrOps[30]? = some (⟨some 38, .load 35 (.tmp 4), 35, "write.go:13", #[], none⟩ : Oper) := by kernel_rfl
theorem wo_31 : wrOps[31]? = some (⟨some 39, .call { callee := .value (.func 79), args := #[.tmp 37, .tmp 38], argTypes := #[31, 35] }, 9, "write.go:17", #[⟨29, .data⟩, ⟨30, .data⟩, ⟨27, .chain⟩], none⟩ : Oper) := by kernel_rfl
theorem wo_32 : wrOps[32]? = some (⟨some 40, .binOp .add 9 (.const (.string { data := #[116, 111, 32] })) (.tmp 39) 9, 9, "write.go:13", #[⟨31, .data⟩], none⟩ : Oper) := by kernel_rfl
theorem wo_33 : wrOps[33]? = some (⟨some 41, .fieldAddr 35 (.tmp 4) 3, 0, "write.go:13", #[], none⟩ : Oper) := by kernel_rfl
theorem wo_34 : wrOps[34]? = some (⟨some 42, .load 3 (.tmp 41), 3, "write.go:13", #[⟨33, .data⟩], none⟩ : Oper) := by kernel_rfl
theorem wo_35 : wrOps[35]? = some (⟨some 43, .call { callee := .value (.func 76), args := #[.tmp 42], argTypes := #[3] }, 9, "write.go:18", #[⟨34, .data⟩, ⟨31, .chain⟩], none⟩ : Oper) := by kernel_rfl
theorem wo_36 : wrOps[36]? = some (⟨some 44, .binOp .add 9 (.tmp 43) (.const (.string { data := #[32] })) 9, 9, "write.go:13", #[⟨35, .data⟩], none⟩ : Oper) := by kernel_rfl
theorem wo_37 : wrOps[37]? = some (⟨some 45, .fieldAddr 31 (.tmp 3) 0, 0, "write.go:13", #[], none⟩ : Oper) := by kernel_rfl
theorem wo_38 : wrOps[38]? = some (⟨some 46, .load 22 (.tmp 45), 22, "write.go:13", #[⟨37, .data⟩], none⟩ : Oper) := by kernel_rfl
theorem wo_39 : wrOps[39]? = some (⟨some 47, .fieldAddr 35 (.tmp 4) 4, 0, "write.go:13", #[], none⟩ : Oper) := by kernel_rfl
theorem wo_40 : wrOps[40]? = some (⟨some 48, .load 3 (.tmp 47), 3, "write.go:13", #[⟨39, .data⟩], none⟩ : Oper) := by kernel_rfl
theorem wo_41 : wrOps[41]? = some (⟨some 49, .indexAddr 22 (.tmp 46) (.tmp 48), 0, "write.go:13", #[⟨38, .data⟩, ⟨40, .data⟩], none⟩ : Oper) := by kernel_rfl
theorem wo_42 : wrOps[42]? = some (⟨some 50, .load 9 (.tmp 49), 9, "write.go:13", #[⟨41, .data⟩], none⟩ : Oper) := by kernel_rfl
theorem wo_43 : wrOps[43]? = some (⟨some 51, .binOp .add 9 (.tmp 44) (.tmp 50) 9, 9, "write.go:13", #[⟨36, .data⟩, ⟨42, .data⟩], none⟩ : Oper) := by kernel_rfl
theorem wo_44 : wrOps[44]? = some (⟨some 52, .load 35 (.tmp 4), 35, "write.go:13", #[], none⟩ : Oper) := by kernel_rfl
theorem wo_45 : wrOps[45]? = some (⟨some 53, .call { callee := .value (.func 80), args := #[.tmp 52], argTypes := #[35] }, 9, "write.go:18", #[⟨44, .data⟩, ⟨35, .chain⟩], none⟩ : Oper) := by kernel_rfl
theorem wo_46 : wrOps[46]? = some (⟨some 54, .binOp .add 9 (.tmp 51) (.tmp 53) 9, 9, "write.go:13", #[⟨43, .data⟩, ⟨45, .data⟩], none⟩ : Oper) := by kernel_rfl
theorem wo_47 : wrOps[47]? = some (⟨some 55, .fieldAddr 31 (.tmp 3) 3, 0, "write.go:13", #[], none⟩ : Oper) := by kernel_rfl
theorem wo_48 : wrOps[48]? = some (⟨some 56, .load 25 (.tmp 55), 25, "write.go:13", #[⟨47, .data⟩], none⟩ : Oper) := by kernel_rfl
theorem wo_49 : wrOps[49]? = some (⟨some 57, .fieldAddr 35 (.tmp 4) 1, 0, "write.go:13", #[], none⟩ : Oper) := by kernel_rfl
theorem wo_50 : wrOps[50]? = some (⟨some 58, .load 3 (.tmp 57), 3, "write.go:13", #[⟨49, .data⟩], none⟩ : Oper) := by kernel_rfl
theorem wo_51 : wrOps[51]? = some (⟨some 59, .indexAddr 25 (.tmp 56) (.tmp 58), 0, "write.go:13", #[⟨48, .data⟩, ⟨50, .data⟩], none⟩ : Oper) := by kernel_rfl
theorem wo_52 : wrOps[52]? = some (⟨some 60, .fieldAddr 78 (.tmp 59) 0, 0, "write.go:13", #[⟨51, .data⟩], none⟩ : Oper) := by kernel_rfl
theorem wo_53 : wrOps[53]? = some (⟨some 61, .load 9 (.tmp 60), 9, "write.go:13", #[⟨52, .data⟩], none⟩ : Oper) := by kernel_rfl
theorem wo_54 : wrOps[54]? = some (⟨some 62, .binOp .add 9 (.const (.string { data := #[116, 111, 32, 98, 101, 32, 112, 97, 105, 100, 32, 98, 121, 32] })) (.tmp 61) 9, 9, "write.go:13", #[⟨53, .data⟩], none⟩ : Oper) := by kernel_rfl
theorem wo_55 : wrOps[55]? = some (⟨some 63, .binOp .add 9 (.tmp 62) (.const (.string { data := #[32, 105, 110, 32] })) 9, 9, "write.go:13", #[⟨54, .data⟩], none⟩ : Oper) := by kernel_rfl
theorem wo_56 : wrOps[56]? = some (⟨some 64, .fieldAddr 31 (.tmp 3) 1, 0, "write.go:13", #[], none⟩ : Oper) := by kernel_rfl
theorem wo_57 : wrOps[57]? = some (⟨some 65, .load 23 (.tmp 64), 23, "write.go:13", #[⟨56, .data⟩], none⟩ : Oper) := by kernel_rfl
theorem wo_58 : wrOps[58]? = some (⟨some 66, .fieldAddr 35 (.tmp 4) 8, 0, "write.go:13", #[], none⟩ : Oper) := by kernel_rfl
theorem wo_59 : wrOps[59]? = some (⟨some 67, .load 3 (.tmp 66), 3, "write.go:13", #[⟨58, .data⟩], none⟩ : Oper) := by kernel_rfl
theorem wo_60 : wrOps[60]? = some (⟨some 68, .indexAddr 23 (.tmp 65) (.tmp 67), 0, "write.go:13", #[⟨57, .data⟩, ⟨59, .data⟩], none⟩ : Oper) := by kernel_rfl
theorem wo_61 : wrOps[61]? = some (⟨some 69, .fieldAddr 75 (.tmp 68) 0, 0, "write.go:13", #[⟨60, .data⟩], none⟩ : Oper) := by kernel_rfl
theorem wo_62 : wrOps[62]? = some (⟨some 70, .load 9 (.tmp 69), 9, "write.go:13", #[⟨61, .data⟩], none⟩ : Oper) := by kernel_rfl
theorem wo_63 : wrOps[63]? = some (⟨some 71, .binOp .add 9 (.tmp 63) (.tmp 70) 9, 9, "write.go:13", #[⟨55, .data⟩, ⟨62, .data⟩], none⟩ : Oper) := by kernel_rfl
theorem wo_64 : wrOps[64]? = some (⟨some 72, .buildSlice 22 6 #[(0, .tmp 19), (1, .tmp 32), (2, .tmp 36), (3, .tmp 40), (4, .tmp 54), (5, .tmp 71)], 22, "write.go:13", #[⟨11, .data⟩, ⟨24, .data⟩, ⟨28, .data⟩, ⟨32, .data⟩, ⟨46, .data⟩, ⟨63, .data⟩], none⟩ : Oper) := by kernel_rfl
theorem wo_65 : wrOps[65]? = some ({ dst := some 7, op := Op.assign (.tmp 72), type := 22, pos := "write.go:13", after := ([⟨64, .data⟩, ⟨45, .chain⟩, ⟨0, .phase⟩, ⟨1, .phase⟩, ⟨2, .phase⟩, ⟨3, .phase⟩, ⟨4, .phase⟩, ⟨5, .phase⟩, ⟨6, .phase⟩, ⟨7, .phase⟩, ⟨8, .phase⟩, ⟨9, .phase⟩, ⟨10, .phase⟩, ⟨11, .phase⟩, ⟨12, .phase⟩, ⟨13, .phase⟩, ⟨14, .phase⟩, ⟨15, .phase⟩, ⟨16, .phase⟩, ⟨17, .phase⟩, ⟨18, .phase⟩, ⟨19, .phase⟩, ⟨20, .phase⟩, ⟨21, .phase⟩, ⟨22, .phase⟩, ⟨23, .phase⟩, ⟨24, .phase⟩, ⟨25, .phase⟩, ⟨26, .phase⟩, ⟨27, .phase⟩, ⟨28, .phase⟩, ⟨29, .phase⟩, ⟨30, .phase⟩].append [⟨31, .phase⟩, ⟨32, .phase⟩, ⟨33, .phase⟩, ⟨34, .phase⟩, ⟨35, .phase⟩, ⟨36, .phase⟩, ⟨37, .phase⟩, ⟨38, .phase⟩, ⟨39, .phase⟩, ⟨40, .phase⟩, ⟨41, .phase⟩, ⟨42, .phase⟩, ⟨43, .phase⟩, ⟨44, .phase⟩, ⟨45, .phase⟩, ⟨46, .phase⟩, ⟨47, .phase⟩, ⟨48, .phase⟩, ⟨49, .phase⟩, ⟨50, .phase⟩, ⟨51, .phase⟩, ⟨52, .phase⟩, ⟨53, .phase⟩, ⟨54, .phase⟩, ⟨55, .phase⟩, ⟨56, .phase⟩, ⟨57, .phase⟩, ⟨58, .phase⟩, ⟨59, .phase⟩, ⟨60, .phase⟩, ⟨61, .phase⟩, ⟨62, .phase⟩, ⟨63, .phase⟩, ⟨64, .phase⟩]).toArray, guard := none } : Oper) := by kernel_rfl
theorem wo_none : Region.noSelect wrOps = true := by kernel_rfl
end Go.Proofs.YtcjakgpmompaiaaGreatDoor
