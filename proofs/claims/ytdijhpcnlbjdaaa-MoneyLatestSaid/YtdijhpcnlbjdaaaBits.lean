/-
  math/bits as the program has it: Mul64, LeadingZeros64 (the library's contracts, laid at this program).
-/
import Derived.Test.YtdijhpcnlbjdaaaRefA
import Derived.Test.YtdijhpcnlbjdaaaWide
import Derived.Shelf.Bits.Mul64
import Derived.Shelf.Small.Bits
namespace Go.Proofs.Ytdijhpcnlbjdaaa
open Go.RowKit Go.Shelf

/-- where the library's functions and types lie in this program -/
def ren : Ren := ⟨fun n => if n = 129 then 30 else if n = 134 then 29 else 26,
  fun t => if t = 3 then 3 else if t = 4 then 4 else if t = 5 then 5 else if t = 9 then 9 else if t = 46 then 49 else 45, fun g => g⟩

theorem lays_lz : Lays.n134 Try.prog ren := by
  constructor <;> first | kernel_rfl | (intro w; kernel_rfl)
theorem lays_mul : Lays.n264 Try.prog ren := by
  constructor <;> first | kernel_rfl | (intro w; kernel_rfl)
theorem mul64_x (x y : Nat) (hx : x < 18446744073709551616) (hy : y < 18446744073709551616) (w : World) :
    Calls Try.prog 26 #[.int .u64 x, .int .u64 y] w fun e w' => e = .returned (.tuple #[.int .u64 ((x * y / 18446744073709551616 : Nat) : Int), .int .u64 ((x * y % 18446744073709551616 : Nat) : Int)]) ∧ w' = w :=
  Any.bits_Mul64 lays_mul x y hx hy w
theorem lz64_x (x : Nat) (hx : x < 18446744073709551616) (w : World) :
    Calls Try.prog 29 #[.int .u64 x] w fun e w' => e = .returned (.int .i64 (64 - (Lib.bitLen x : Int))) ∧ w' = w := by
  have h := Any.bits_LeadingZeros64 lays_lz (x : Int) w (by omega) (by omega)
  rw [Int.toNat_natCast] at h
  exact h
end Go.Proofs.Ytdijhpcnlbjdaaa
