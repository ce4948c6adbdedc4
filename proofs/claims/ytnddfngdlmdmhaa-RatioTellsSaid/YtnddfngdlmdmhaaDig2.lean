/-
  Plain mathematics of the reference's long division, bit by bit.
-/
import Derived.Test.YtnddfngdlmdmhaaDig
namespace Go.Proofs.Ytnddfngdlmdmhaa.Dg

theorem pw_two (m : Nat) : pw m = 2 ^ (30 * m) := by
  induction m with
  | zero => rfl
  | succ m ih => rw [pw, ih, show 30 * (m + 1) = 30 * m + 30 from by omega, Nat.pow_add]
theorem sh_two (n m : Nat) : sh n m = n / 2 ^ (30 * m) := by rw [sh_eq, pw_two]
theorem dig_two (n m : Nat) : dig n m = n / 2 ^ (30 * m) % 2 ^ 30 := by unfold dig; rw [sh_two]

/-- a bit of a digit -/
theorem bit_of (x e : Nat) (he : e < 30) : x % 2 ^ 30 / 2 ^ e % 2 = x / 2 ^ e % 2 := by
  have h : (2 : Nat) ^ 30 = 2 ^ e * 2 ^ (30 - e) := by rw [← Nat.pow_add]; congr 1; omega
  rw [h, Nat.mod_mul_right_div_self]
  have h2 : (2 : Nat) ^ (30 - e) = 2 * 2 ^ (29 - e) := by rw [show 30 - e = (29 - e) + 1 from by omega, Nat.pow_succ, Nat.mul_comm]
  rw [h2, Nat.mod_mul_right_mod]
theorem bit_dig (a i : Nat) : dig a (i / 30) / 2 ^ (i % 30) % 2 = a / 2 ^ i % 2 := by
  rw [dig_two, bit_of _ _ (Nat.mod_lt _ (by decide)), Nat.div_div_eq_div_mul, ← Nat.pow_add, Nat.div_add_mod]

/-- one bit more -/
theorem next_bit (a i : Nat) : a / 2 ^ i = 2 * (a / 2 ^ (i + 1)) + a / 2 ^ i % 2 := by
  rw [Nat.pow_succ, ← Nat.div_div_eq_div_mul]; omega

/-- an even number's first digit takes one more -/
theorem dig_even (r : Nat) (b : Nat) (hb : b ≤ 1) (j : Nat) : dig (2 * r + b) j = if j = 0 then dig (2 * r) 0 + b else dig (2 * r) j := by
  cases j with
  | zero =>
    rw [if_pos rfl]
    unfold dig sh
    omega
  | succ j =>
    rw [if_neg (by omega)]
    unfold dig
    have : ∀ m, sh (2 * r + b) (m + 1) = sh (2 * r) (m + 1) := by
      intro m
      induction m with
      | zero => show (2 * r + b) / 1073741824 = 2 * r / 1073741824; omega
      | succ m ih => rw [sh_succ, ih, ← sh_succ]
    rw [this]

/-- the quotient's digit takes one bit -/
theorem dig_bit (Q i j : Nat) : dig (Q * 2 ^ (i + 1) + 2 ^ i) j = dig (Q * 2 ^ (i + 1)) j + if j = i / 30 then 2 ^ (i % 30) else 0 := by
  rw [dig_two, dig_two]
  by_cases hj : i < 30 * j
  · -- above
    rw [if_neg (by omega), Nat.add_zero]
    have e : (2 : Nat) ^ (30 * j) = 2 ^ (i + 1) * 2 ^ (30 * j - (i + 1)) := by rw [← Nat.pow_add]; congr 1; omega
    rw [e, ← Nat.div_div_eq_div_mul, ← Nat.div_div_eq_div_mul]
    have p : 0 < (2 : Nat) ^ i := Nat.pow_pos (by decide)
    have h1 : (Q * 2 ^ (i + 1) + 2 ^ i) / 2 ^ (i + 1) = Q := by
      rw [Nat.mul_comm, Nat.mul_add_div (Nat.pow_pos (by decide)), Nat.div_eq_of_lt (by rw [Nat.pow_succ]; omega), Nat.add_zero]
    have h2 : Q * 2 ^ (i + 1) / 2 ^ (i + 1) = Q := Nat.mul_div_cancel _ (Nat.pow_pos (by decide))
    rw [h1, h2]
    exact (Nat.add_zero _).symm
  · have e : (2 : Nat) ^ i = 2 ^ (i - 30 * j) * 2 ^ (30 * j) := by rw [← Nat.pow_add]; congr 1; omega
    rw [e, Nat.add_mul_div_right _ _ (Nat.pow_pos (by decide))]
    by_cases hm : j = i / 30
    · rw [if_pos hm]
      have he : i - 30 * j = i % 30 := by omega
      rw [he]
      have hl : i % 30 < 30 := Nat.mod_lt _ (by decide)
      generalize hE : i % 30 = E at *
      have eX : Q * 2 ^ (i + 1) / 2 ^ (30 * j) = Q * 2 ^ (E + 1) := by
        have : (2 : Nat) ^ (i + 1) = 2 ^ (E + 1) * 2 ^ (30 * j) := by rw [← Nat.pow_add]; congr 1; omega
        rw [this, ← Nat.mul_assoc, Nat.mul_div_cancel _ (Nat.pow_pos (by decide))]
      rw [show i + 1 = i + 1 from rfl] at *
      have e2 : Q * (2 ^ (i + 1)) / 2 ^ (30 * j) = Q * 2 ^ (E + 1) := eX
      rw [e2]
      have h30 : (2 : Nat) ^ 30 = 2 ^ (E + 1) * 2 ^ (29 - E) := by rw [← Nat.pow_add]; congr 1; omega
      have hx : Q * 2 ^ (E + 1) % 2 ^ 30 = 2 ^ (E + 1) * (Q % 2 ^ (29 - E)) := by rw [h30, Nat.mul_comm Q, Nat.mul_mod_mul_left]
      have hlt : Q * 2 ^ (E + 1) % 2 ^ 30 + 2 ^ E < 2 ^ 30 := by
        have hq : Q % 2 ^ (29 - E) + 1 ≤ 2 ^ (29 - E) := Nat.mod_lt _ (Nat.pow_pos (by decide))
        have := Nat.mul_le_mul_left (2 ^ (E + 1)) hq
        rw [← h30, Nat.mul_add, Nat.mul_one, ← hx] at this
        have p : 0 < (2 : Nat) ^ E := Nat.pow_pos (by decide)
        rw [Nat.pow_succ] at this
        rw [Nat.pow_succ]
        omega
      rw [Nat.add_mod, Nat.mod_eq_of_lt (a := 2 ^ E) (by omega), Nat.mod_eq_of_lt hlt]
    · rw [if_neg hm, Nat.add_zero]
      have : (2 : Nat) ^ (i - 30 * j) = 2 ^ (i - 30 * j - 30) * 2 ^ 30 := by rw [← Nat.pow_add]; congr 1; omega
      rw [this, Nat.add_mul_mod_self_right]
      exact (Nat.add_zero _).symm

theorem bit_room (Q i : Nat) : dig (Q * 2 ^ (i + 1)) (i / 30) + 2 ^ (i % 30) < 1073741824 := by
  have := dig_bit Q i (i / 30)
  rw [if_pos rfl] at this
  have := dig_lt (Q * 2 ^ (i + 1) + 2 ^ i) (i / 30)
  omega

/-- one step of the division -/
theorem over_step {a c i : Nat} (hc : 0 < c) :
    (c ≤ 2 * (a / 2 ^ (i + 1) % c) + a / 2 ^ i % 2 → a / 2 ^ i % c = 2 * (a / 2 ^ (i + 1) % c) + a / 2 ^ i % 2 - c ∧ (a / 2 ^ i / c) * 2 ^ i = (a / 2 ^ (i + 1) / c) * 2 ^ (i + 1) + 2 ^ i) ∧
    (2 * (a / 2 ^ (i + 1) % c) + a / 2 ^ i % 2 < c → a / 2 ^ i % c = 2 * (a / 2 ^ (i + 1) % c) + a / 2 ^ i % 2 ∧ (a / 2 ^ i / c) * 2 ^ i = (a / 2 ^ (i + 1) / c) * 2 ^ (i + 1)) := by
  have hn := next_bit a i
  have hbit : a / 2 ^ i % 2 < 2 := Nat.mod_lt _ (by decide)
  generalize a / 2 ^ i % 2 = b at *
  generalize a / 2 ^ (i + 1) = H at *
  rw [hn]
  have hd := Nat.div_add_mod H c
  have hr := Nat.mod_lt H hc
  generalize H / c = q at *
  generalize H % c = r at *
  have e : 2 * H + b = c * (2 * q) + (2 * r + b) := by rw [← hd, Nat.mul_add, Nat.mul_left_comm]; omega
  rw [e]
  constructor
  · intro h
    have e2 : c * (2 * q) + (2 * r + b) = c * (2 * q + 1) + (2 * r + b - c) := by rw [Nat.mul_add, Nat.mul_one]; omega
    rw [e2, Nat.mul_add_mod, Nat.mul_add_div hc, Nat.mod_eq_of_lt (by omega), Nat.div_eq_of_lt (a := 2 * r + b - c) (by omega), Nat.add_zero]
    refine ⟨rfl, ?_⟩
    rw [Nat.add_mul, Nat.one_mul, Nat.pow_succ]
    grind
  · intro h
    rw [Nat.mul_add_mod, Nat.mul_add_div hc, Nat.mod_eq_of_lt h, Nat.div_eq_of_lt (a := 2 * r + b) h, Nat.add_zero]
    refine ⟨rfl, ?_⟩
    rw [Nat.pow_succ]
    grind

end Go.Proofs.Ytnddfngdlmdmhaa.Dg
