/-
  The plain mathematics behind the program's layer 3: the division of a number of 128 bits by one of 64 bits in two steps of 32 bits.
-/
import Derived.Below
namespace Go.Proofs.Ytdijhpcnlbjdaaa.Wd

/-- a trial digit q with the rest r: q * y1 + r = n, and the digit of (n, m) by (y1, y0) is at most q -/
def Kn (n m y1 y0 q r : Nat) : Prop := q * y1 + r = n ∧ (n * 4294967296 + m) / (y1 * 4294967296 + y0) ≤ q

theorem kn_start (n m y1 y0 : Nat) (hy : 0 < y1) (hm : m < 4294967296) : Kn n m y1 y0 (n / y1) (n % y1) := by
  refine ⟨Nat.div_add_mod' n y1, ?_⟩
  rw [Nat.le_div_iff_mul_le hy]
  have h1 := Nat.div_mul_le_self (n * 4294967296 + m) (y1 * 4294967296 + y0)
  obtain ⟨Q, hQ⟩ : ∃ Q, Q = (n * 4294967296 + m) / (y1 * 4294967296 + y0) := ⟨_, rfl⟩
  rw [← hQ] at h1 ⊢
  clear hQ
  rw [Nat.mul_add, ← Nat.mul_assoc] at h1
  omega

theorem kn_exit {n m y1 y0 q r : Nat} (h : Kn n m y1 y0 q r) (hy : 0 < y1) (c : q * y0 ≤ 4294967296 * r + m) : (n * 4294967296 + m) / (y1 * 4294967296 + y0) = q := by
  refine Nat.le_antisymm h.2 ?_
  rw [Nat.le_div_iff_mul_le (by omega)]
  have h1 := h.1
  rw [Nat.mul_add, ← Nat.mul_assoc]
  omega

theorem kn_digit {n m y1 y0 : Nat} (hn : n < y1 * 4294967296 + y0) (hm : m < 4294967296) : (n * 4294967296 + m) / (y1 * 4294967296 + y0) < 4294967296 := by
  rw [Nat.div_lt_iff_lt_mul (by omega)]
  have e : 4294967296 * (y1 * 4294967296 + y0) = (y1 * 4294967296 + y0) * 4294967296 := Nat.mul_comm _ _
  rw [e]
  obtain ⟨y, hy2⟩ : ∃ y, y = y1 * 4294967296 + y0 := ⟨_, rfl⟩
  rw [← hy2] at hn ⊢
  omega

theorem kn_less {n m y1 y0 q r : Nat} (h : Kn n m y1 y0 q r) (hn : n < y1 * 4294967296 + y0) (hm : m < 4294967296) (c : 4294967296 ≤ q ∨ 4294967296 * r + m < q * y0) :
    0 < q ∧ Kn n m y1 y0 (q - 1) (r + y1) := by
  have hd := kn_digit hn hm
  have hlt : (n * 4294967296 + m) / (y1 * 4294967296 + y0) < q := by
    rcases c with c | c
    · exact Nat.lt_of_lt_of_le hd c
    · rw [Nat.div_lt_iff_lt_mul (by omega)]
      have h1 := h.1
      rw [Nat.mul_add, ← Nat.mul_assoc]
      omega
  refine ⟨Nat.lt_of_le_of_lt (Nat.zero_le _) hlt, ?_, Nat.le_sub_one_of_lt hlt⟩
  have hq := Nat.lt_of_le_of_lt (Nat.zero_le _) hlt
  clear hlt hd c
  have h1 := h.1
  obtain ⟨p, rfl⟩ : ∃ p, q = p + 1 := ⟨q - 1, by omega⟩
  rw [Nat.add_mul] at h1
  rw [Nat.add_sub_cancel]
  omega

theorem kn_break {n m y1 y0 q r : Nat} (h : Kn n m y1 y0 q r) (hn : n < y1 * 4294967296 + y0) (h0 : y0 < 4294967296) (hr : 4294967296 ≤ r) : q * y0 ≤ 4294967296 * r + m := by
  have h1 := h.1
  have hq : q < 4294967296 := by
    by_cases hq : q < 4294967296
    · exact hq
    · have : 4294967296 * y1 ≤ q * y1 := Nat.mul_le_mul_right y1 (by omega)
      omega
  have h2 : q * y0 ≤ 4294967296 * y0 := Nat.mul_le_mul_right y0 (by omega)
  have h3 : 4294967296 * y0 ≤ 4294967296 * r := Nat.mul_le_mul_left _ (by omega)
  omega

/-- what is left behind a digit -/
theorem kn_rest {n m y q : Nat} (hy : 0 < y) (h : (n * 4294967296 + m) / y = q) : n * 4294967296 + m = q * y + (n * 4294967296 + m) % y ∧ (n * 4294967296 + m) % y < y := by
  refine ⟨?_, Nat.mod_lt _ hy⟩
  rw [← h, Nat.div_add_mod']

/-- the bounds of a trial digit -/
theorem kn_bound {n m y1 y0 q r : Nat} (h : Kn n m y1 y0 q r) (hy : 2147483648 ≤ y1) (hn : n < 18446744073709551616) : q < 18446744073709551616 := by
  have h1 := h.1
  have : q * 2147483648 ≤ q * y1 := Nat.mul_le_mul_left q hy
  omega
theorem mul_small {a b : Nat} (ha : a < 4294967296) (hb : b < 4294967296) : a * b < 18446744073709551616 := by
  have := Nat.mul_le_mul (Nat.le_of_lt_succ ha) (Nat.le_of_lt_succ hb)
  omega

/-- two digits together -/
theorem kn_two {U y n1 m1 m0 q1 r1 q0 r0 : Nat} (hU : U = (n1 * 4294967296 + m1) * 4294967296 + m0) (h1 : n1 * 4294967296 + m1 = q1 * y + r1) (h2 : r1 * 4294967296 + m0 = q0 * y + r0) (hr : r0 < y) :
    U / y = q1 * 4294967296 + q0 ∧ U % y = r0 := by
  have e : U = (q1 * 4294967296 + q0) * y + r0 := by
    rw [hU, h1, Nat.add_mul, Nat.add_mul (q1 * 4294967296) q0 y, Nat.mul_right_comm q1 y]
    omega
  have hy : 0 < y := by omega
  constructor
  · rw [e, Nat.mul_comm, Nat.mul_add_div hy, Nat.div_eq_of_lt hr, Nat.add_zero]
  · rw [e, Nat.mul_comm, Nat.mul_add_mod, Nat.mod_eq_of_lt hr]

/-- the shifted numbers: p = 2 ^ s -/
theorem shifted_div {u y p : Nat} (hp : 0 < p) : u * p / (y * p) = u / y := Nat.mul_div_mul_right u y hp
theorem shifted_mod {u y p : Nat} (hp : 0 < p) : u * p % (y * p) / p = u % y := by
  rw [Nat.mul_mod_mul_right, Nat.mul_div_cancel _ hp]

end Go.Proofs.Ytdijhpcnlbjdaaa.Wd
