/-
  math/bits as the program has it: Mul64, LeadingZeros64 (the library's contracts, laid at this program), Add64, Sub64.
-/
import Derived.Test.YtnddfngdlmdmhaaRatA
import Derived.Test.YtnddfngdlmdmhaaWide
import Derived.Shelf.Bits.Mul64
import Derived.Shelf.Small.Bits
import Derived.Shelf.Spec.BitsCarry
namespace Go.Proofs.Ytnddfngdlmdmhaa
open Go.RowKit Go.Shelf

/-- where the library's functions and types lie in this program -/
def ren : Ren := ⟨fun n => if n = 129 then 64 else if n = 134 then 63 else if n = 264 then 59 else if n = 25 then 56 else 62,
  fun t => if t = 3 then 3 else if t = 4 then 4 else if t = 5 then 5 else if t = 9 then 9 else if t = 46 then 67 else 38, fun g => g⟩

theorem lays_lz : Lays.n134 Try.prog ren := by
  constructor <;> first | kernel_rfl | (intro w; kernel_rfl)
theorem lays_mul : Lays.n264 Try.prog ren := by
  constructor <;> first | kernel_rfl | (intro w; kernel_rfl)
theorem lays_add : Lays7.n25 Try.prog ren := by
  constructor <;> first | kernel_rfl | (intro w; kernel_rfl)
theorem lays_sub : Lays7.n26 Try.prog ren := by
  constructor <;> first | kernel_rfl | (intro w; kernel_rfl)

theorem mul64_x (x y : Nat) (hx : x < 18446744073709551616) (hy : y < 18446744073709551616) (w : World) :
    Calls Try.prog 59 #[.int .u64 x, .int .u64 y] w fun e w' => e = .returned (.tuple #[.int .u64 ((x * y / 18446744073709551616 : Nat) : Int), .int .u64 ((x * y % 18446744073709551616 : Nat) : Int)]) ∧ w' = w :=
  Any.bits_Mul64 lays_mul x y hx hy w
theorem lz64_x (x : Nat) (hx : x < 18446744073709551616) (w : World) :
    Calls Try.prog 63 #[.int .u64 x] w fun e w' => e = .returned (.int .i64 (64 - (Lib.bitLen x : Int))) ∧ w' = w := by
  have h := Any.bits_LeadingZeros64 lays_lz (x : Int) w (by omega) (by omega)
  rw [Int.toNat_natCast] at h
  exact h
theorem add64_x (x y c : Nat) (hc : c ≤ 1) (w : World) : (callFunc 56 #[.int .u64 x, .int .u64 y, .int .u64 c]).run Try.prog w =
    .ok (.value (.tuple #[.int .u64 (((x + y + c) % 18446744073709551616 : Nat) : Int), .int .u64 (((x + y + c) / 18446744073709551616 : Nat) : Int)])) w := Any7.bits_Add64 lays_add x y c hc w

/-- the borrow, under a name -/
def bor (x y : Nat) : Nat := if x < y then 1 else 0
theorem bor_le (x y : Nat) : bor x y ≤ 1 := by unfold bor; split <;> decide
theorem sub64_x (x y b : Nat) (hb : b ≤ 1) (w : World) : (callFunc 62 #[.int .u64 x, .int .u64 y, .int .u64 b]).run Try.prog w =
    .ok (.value (.tuple #[.int .u64 (((x + 18446744073709551616 - y - b) % 18446744073709551616 : Nat) : Int), .int .u64 ((bor x (y + b) : Nat) : Int)])) w := Any7.bits_Sub64 lays_sub x y b hb w

end Go.Proofs.Ytnddfngdlmdmhaa
