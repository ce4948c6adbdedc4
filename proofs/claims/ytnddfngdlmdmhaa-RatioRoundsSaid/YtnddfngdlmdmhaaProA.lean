/-
  The program's small functions at 758f49b: magnitude, divisor, reduce, and numbers of 128 bits.
-/
import Derived.Test.YtnddfngdlmdmhaaDiv
namespace Go.Proofs.Ytnddfngdlmdmhaa
open Go.RowKit

theorem magnitude_x (n : Int) (w : World) (hn : I64 n) : Calls Try.prog 33 #[.int .i64 n] w fun e w' => e = .returned (.int .u64 (n.natAbs : Nat)) ∧ Below w.heap.size w w' := by
  obtain ⟨h1, h2⟩ := hn
  by_cases h : n < 0
  · have e : Hid (IntKind.u64.wrap (-IntKind.u64.wrap n) = ((n.natAbs : Nat) : Int)) := by show _ = _; simp only [IntKind.wrap_u64]; omega
    go_enter Try.func33, Try.ntmps33
    go_wp2_with fail
    go_ret
    exact ⟨congrArg (fun x => Ending.returned (Value.int .u64 x)) e.out, Below.refl _ _⟩
  · have e : Hid (n = ((n.natAbs : Nat) : Int)) := by show _ = _; omega
    go_enter Try.func33, Try.ntmps33
    go_wp2_with fail
    go_ret
    exact ⟨congrArg (fun x => Ending.returned (Value.int .u64 x)) e.out, Below.refl _ _⟩

theorem divisor_x (p q : Nat) (w : World) (hp : p < 18446744073709551616) (hq : q < 18446744073709551616) : Calls Try.prog 37 #[.int .u64 p, .int .u64 q] w fun e w' => e = .returned (.int .u64 (Nat.gcd p q : Nat)) ∧ Below w.heap.size w w' := by
  have hp' : p ≤ 18446744073709551615 := by omega
  have hq' : q ≤ 18446744073709551615 := by omega
  clear hp hq
  go_enter Try.func37, Try.ntmps37
  go_wp2_with fail
  go_loopg [0, 1] p (fun g a b wr => ∃ c d : Nat, c ≤ g ∧ a = .int .u64 (c : Int) ∧ b = .int .u64 (d : Int) ∧ Hid (Nat.gcd c d = Nat.gcd p q) ∧ c ≤ 18446744073709551615 ∧ d ≤ 18446744073709551615 ∧ Below w.heap.size w wr)
  case atStart => exact ⟨p, q, Nat.le_refl _, rfl, rfl, rfl, hp', hq', Below.refl _ _⟩
  case round =>
    clear hp' hq'
    obtain ⟨c, d, hg, rfl, rfl, he, hc, hd, hb⟩ := hrel
    by_cases h0 : c = 0
    · have hv : Hid (((d : Nat) : Int) = ((Nat.gcd p q : Nat) : Int)) := by show _ = _; rw [← he.out, h0, Nat.gcd_zero_left]
      have k1 : ((c : Int) != 0) = false := by simp [h0]
      have k2 : ((c : Int) == 0) = true := by simp [h0]
      clear h0 he
      go_wp2_with fail
      go_ret
      exact ⟨congrArg (fun x => Ending.returned (Value.int .u64 x)) hv.out, hb⟩
    · have k1 : ((c : Int) != 0) = true := by simp [h0]
      have k2 : ((c : Int) == 0) = false := by simp [h0]
      have hm := Nat.mod_lt d (Nat.pos_of_ne_zero h0)
      have he2 : Hid (Nat.gcd (d % c) c = Nat.gcd p q) := by show _ = _; rw [← he.out]; exact (Nat.gcd_rec c d).symm
      have f1 : IntKind.u64.wrap ((d : Int) % (c : Int)) = ((d % c : Nat) : Int) := by rw [← Int.natCast_emod]; exact wrapU _ (by omega)
      have hdc : Hid (d % c ≤ 18446744073709551615) := show _ ≤ _ by omega
      have hlt : Hid (d % c < gk) := show _ < _ by omega
      clear he hm
      go_wp2_with fail
      go_roundg (d % c)
      case measure => exact hlt.out
      case rel => exact ⟨d % c, c, Nat.le_refl _, by first | rfl | exact congrArg (Value.int .u64) (Int.natCast_emod d c).symm, rfl, he2, hdc.out, hc, by repeat (first | exact hb | refine below_drewN ?_ _ | refine Below.drew ?_)⟩

theorem gcd_le' {p q : Nat} (hq : 0 < q) : 0 < Nat.gcd p q ∧ Nat.gcd p q ≤ q := ⟨Nat.gcd_pos_of_pos_right _ hq, Nat.gcd_le_right _ hq⟩
theorem reduce_x (p q : Nat) (w : World) (h0 : 0 < q) (hp : p < 18446744073709551616) (hq : q < 18446744073709551616) : Calls Try.prog 32 #[.int .u64 p, .int .u64 q] w fun e w' => e = .returned (.tuple #[.int .u64 (p / Nat.gcd p q : Nat), .int .u64 (q / Nat.gcd p q : Nat)]) ∧ Below w.heap.size w w' := by
  obtain ⟨g0, g1⟩ := gcd_le' (p := p) h0
  have f1 : IntKind.u64.wrap ((p : Int) / (Nat.gcd p q : Int)) = ((p / Nat.gcd p q : Nat) : Int) := by rw [← Int.natCast_ediv]; exact wrapU _ (Nat.lt_of_le_of_lt (Nat.div_le_self _ _) hp)
  have f2 : IntKind.u64.wrap ((q : Int) / (Nat.gcd p q : Int)) = ((q / Nat.gcd p q : Nat) : Int) := by rw [← Int.natCast_ediv]; exact wrapU _ (Nat.lt_of_le_of_lt (Nat.div_le_self _ _) hq)
  have f3 : ((Nat.gcd p q : Int) == 0) = false := by simp; omega
  have d1 := Lib.hid (Int.natCast_ediv p (Nat.gcd p q))
  have d2 := Lib.hid (Int.natCast_ediv q (Nat.gcd p q))
  have Hg : Hid (∀ w : World, Calls Try.prog 37 #[.int .u64 p, .int .u64 q] w fun e w' => e = .returned (.int .u64 (Nat.gcd p q : Nat)) ∧ Below w.heap.size w w') := fun w => divisor_x p q w hp hq
  clear hp hq g1
  generalize Nat.gcd p q = g at *
  go_enter Try.func32, Try.ntmps32
  go_wp2_with fail
  refine (Hg.out _).mono ?_
  rintro e w2 ⟨rfl, b2⟩
  go_wp2_with fail
  go_quiet (fail)
  go_wp2_with fail
  go_ret2
  exact ⟨by rw [d1.out, d2.out]; rfl, below_drewN b2 _⟩

end Go.Proofs.Ytnddfngdlmdmhaa
