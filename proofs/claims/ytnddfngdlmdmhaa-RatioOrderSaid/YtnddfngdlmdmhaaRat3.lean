/-
  Rounding, on plain ratios.
-/
import Derived.Test.YtnddfngdlmdmhaaRat2
namespace Go.Proofs.Ytnddfngdlmdmhaa.Rt

theorem right_int {n : Int} (h1 : -M ≤ n) (h2 : n ≤ M) : right ⟨n, 1⟩ = true := right_iff.2 ⟨Int.le_refl 1, (show (1 : Int) ≤ M by decide), h1, h2, by simp⟩
theorem make_int {n : Int} (h1 : -M ≤ n) (h2 : n ≤ M) : make n 1 = (⟨n, 1⟩, 0) := by
  unfold make
  rw [if_neg (by decide)]
  exact give_eq (by decide) (right_int h1 h2) rfl

theorem floor_facts {n d : Int} (hd : 1 ≤ d) (h1 : -M ≤ n) (h2 : n ≤ M) : n / d * d ≤ n ∧ n < n / d * d + d ∧ n % d = n - n / d * d ∧ -M ≤ n / d ∧ n / d ≤ M := by
  have e := Int.mul_ediv_add_emod n d
  have l := Int.emod_nonneg n (show d ≠ 0 by omega)
  have u := Int.emod_lt_of_pos n (show 0 < d by omega)
  rw [Int.mul_comm] at e
  refine ⟨by omega, by omega, by omega, ?_, ?_⟩
  · have : -M * 1 ≤ n / d * 1 := by
      have k : -M ≤ n / d := (Int.le_ediv_iff_mul_le (show 0 < d by omega)).2 (by
        have : -M * d ≤ -M * 1 := Int.mul_le_mul_of_nonpos_left (by decide) hd
        omega)
      omega
    omega
  · have k : n / d < M + 1 := Int.ediv_lt_of_lt_mul (by omega) (by
      have : (M + 1) * 1 ≤ (M + 1) * d := Int.mul_le_mul_of_nonneg_left hd (by decide)
      omega)
    omega

/-- the parts of what is rounded -/
theorem rounds {a : R} (ha : right a = true) : make (floor a) 1 = (⟨floor a, 1⟩, 0) ∧ make (ceil a) 1 = (⟨ceil a, 1⟩, 0) ∧ make (nearest a) 1 = (⟨nearest a, 1⟩, 0) ∧
    cmp ⟨floor a, 1⟩ a ≤ 0 ∧ cmp a ⟨ceil a, 1⟩ ≤ 0 ∧ (nearest a = floor a ∨ nearest a = ceil a) ∧ (a.d = 1 → floor a = a.n ∧ ceil a = a.n ∧ nearest a = a.n) ∧
    (a.d ≠ 1 → ∃ dn up : R, sub a ⟨floor a, 1⟩ = (dn, 0) ∧ sub ⟨ceil a, 1⟩ a = (up, 0) ∧ ceil a = floor a + 1 ∧
      (nearest a = floor a → cmp dn up < 0 ∨ cmp dn up = 0 ∧ floor a % 2 = 0) ∧ (nearest a ≠ floor a → 0 < cmp dn up ∨ cmp dn up = 0 ∧ ceil a % 2 = 0)) := by
  obtain ⟨hd, hd2, h1, h2, hg⟩ := right_iff.1 ha
  have e1 : floor a = a.n / a.d := by unfold floor; rw [ha]; rfl
  have e2 : ceil a = -((-a.n) / a.d) := by unfold ceil; rw [ha]; rfl
  have e3 : nearest a = if 2 * (a.n % a.d) < a.d ∨ 2 * (a.n % a.d) = a.d ∧ (a.n / a.d) % 2 = 0 then a.n / a.d else a.n / a.d + 1 := by unfold nearest; rw [ha]; rfl
  obtain ⟨f1, f2, f3, f4, f5⟩ := floor_facts hd h1 h2
  obtain ⟨g1, g2, g3, g4, g5⟩ := floor_facts (n := -a.n) hd (by unfold M at *; omega) (by unfold M at *; omega)
  have hm := Int.emod_nonneg a.n (show a.d ≠ 0 by omega)
  -- an integer, or a step between
  have hint : a.d = 1 → a.n / a.d = a.n ∧ -((-a.n) / a.d) = a.n ∧ a.n % a.d = 0 := by
    intro h
    rw [h]
    simp
  have hstep : a.d ≠ 1 → -((-a.n) / a.d) = a.n / a.d + 1 ∧ 0 < a.n % a.d := by
    intro h
    have hr : 0 < a.n % a.d := by
      by_cases h0 : a.n % a.d = 0
      · exfalso
        have hdv : a.d ∣ a.n := Int.dvd_of_emod_eq_zero h0
        have h3 : Int.gcd a.n a.d = a.d.natAbs := Int.gcd_eq_natAbs_right hdv
        omega
      · omega
    refine ⟨?_, hr⟩
    -- both lie less than one step from the value
    generalize hA : a.n / a.d = A at *
    generalize hB : (-a.n) / a.d = B at *
    have q1 : (A + B) * a.d ≤ 0 := by rw [Int.add_mul]; omega
    have q2 : -(2 * a.d) < (A + B) * a.d := by rw [Int.add_mul]; omega
    have q3 : (A + B) * a.d ≠ 0 := by rw [Int.add_mul]; omega
    have u1 : A + B ≤ 0 := by
      by_cases hh : A + B ≤ 0
      · exact hh
      · have := Int.mul_pos (show 0 < A + B by omega) (show 0 < a.d by omega)
        omega
    have u2 : -2 < A + B := by
      by_cases hh : -2 < A + B
      · exact hh
      · have : (A + B) * a.d ≤ -2 * a.d := Int.mul_le_mul_of_nonneg_right (by omega) (by omega)
        omega
    have u3 : A + B ≠ 0 := fun hh => q3 (by rw [hh, Int.zero_mul])
    omega
  have hc1 : -M ≤ ceil a ∧ ceil a ≤ M := by rw [e2]; unfold M at *; omega
  have hf1 : -M ≤ floor a ∧ floor a ≤ M := by rw [e1]; exact ⟨f4, f5⟩
  have hnear : nearest a = floor a ∨ nearest a = ceil a := by
    rw [e1, e2, e3]
    split
    · exact .inl rfl
    · right
      by_cases h : a.d = 1
      · have := hint h; omega
      · exact (hstep h).1.symm
  have hn1 : -M ≤ nearest a ∧ nearest a ≤ M := by
    rcases hnear with h | h <;> rw [h] <;> assumption
  have rf := right_int hf1.1 hf1.2
  have rc := right_int hc1.1 hc1.2
  refine ⟨make_int hf1.1 hf1.2, make_int hc1.1 hc1.2, make_int hn1.1 hn1.2, ?_, ?_, hnear, ?_, ?_⟩
  · have := (cmp_lt rf ha).2
    simp only [Int.mul_one] at this
    rw [e1] at *
    omega
  · have := (cmp_lt ha rc).2
    simp only [Int.mul_one] at this
    rw [e2, Int.neg_mul] at *
    omega
  · intro h
    obtain ⟨i1, i2, i3⟩ := hint h
    refine ⟨by rw [e1]; exact i1, by rw [e2]; exact i2, ?_⟩
    rw [e3, i3, if_pos (by omega)]
    exact i1
  · intro h
    obtain ⟨st, hr⟩ := hstep h
    have hu := Int.emod_lt_of_pos a.n (show 0 < a.d by omega)
    have ed : sub a ⟨floor a, 1⟩ = give (a.n % a.d) a.d := by
      unfold sub
      rw [two_right ha rf, e1]
      simp only [Int.mul_one]
      rw [f3]
    have eu : sub ⟨ceil a, 1⟩ a = give (a.d - a.n % a.d) a.d := by
      unfold sub
      rw [two_right rc ha, e2, st]
      simp only [Int.mul_one, Int.one_mul]
      rw [f3, Int.add_mul, Int.one_mul]
      congr 1
      omega
    obtain ⟨dn, gd⟩ := give_small (p := a.n % a.d) (ne ha) (by unfold M at *; omega) (by unfold M at *; omega)
    obtain ⟨up, gu⟩ := give_small (p := a.d - a.n % a.d) (ne ha) (by unfold M at *; omega) (by unfold M at *; omega)
    obtain ⟨rd, sd⟩ := give_ok (ne ha) gd
    obtain ⟨ru, su⟩ := give_ok (ne ha) gu
    refine ⟨dn, up, by rw [ed, gd], by rw [eu, gu], by rw [e1, e2]; exact st, ?_⟩
    obtain ⟨l1, l2⟩ := cmp_lt rd ru
    have pd := pos rd
    have pu := pos ru
    have hP : 0 < dn.d * up.d := Int.mul_pos (by omega) (by omega)
    -- both sides, times the common denominator
    have x1 : dn.n * up.d * a.d = a.n % a.d * (dn.d * up.d) := by grind
    have x2 : up.n * dn.d * a.d = (a.d - a.n % a.d) * (dn.d * up.d) := by grind
    have k1 : dn.n * up.d < up.n * dn.d ↔ 2 * (a.n % a.d) < a.d := by
      constructor
      · intro hh
        have := Int.mul_lt_mul_of_pos_right hh (show 0 < a.d by omega)
        rw [x1, x2] at this
        have := Int.lt_of_mul_lt_mul_right this (by omega)
        omega
      · intro hh
        have : a.n % a.d * (dn.d * up.d) < (a.d - a.n % a.d) * (dn.d * up.d) := Int.mul_lt_mul_of_pos_right (by omega) hP
        rw [← x1, ← x2] at this
        exact Int.lt_of_mul_lt_mul_right this (by omega)
    have k2 : up.n * dn.d < dn.n * up.d ↔ a.d < 2 * (a.n % a.d) := by
      constructor
      · intro hh
        have := Int.mul_lt_mul_of_pos_right hh (show 0 < a.d by omega)
        rw [x1, x2] at this
        have := Int.lt_of_mul_lt_mul_right this (by omega)
        omega
      · intro hh
        have : (a.d - a.n % a.d) * (dn.d * up.d) < a.n % a.d * (dn.d * up.d) := Int.mul_lt_mul_of_pos_right (by omega) hP
        rw [← x1, ← x2] at this
        exact Int.lt_of_mul_lt_mul_right this (by omega)
    rw [k1] at l1
    rw [k2] at l2
    rw [e1, e2, e3, st]
    constructor
    · intro hh
      split at hh
      · omega
      · omega
    · intro hh
      split at hh
      · exact absurd rfl hh
      · omega

end Go.Proofs.Ytnddfngdlmdmhaa.Rt
