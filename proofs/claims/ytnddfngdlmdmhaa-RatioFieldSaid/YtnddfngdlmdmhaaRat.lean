/-
  The plain mathematics of layer 3: right ratios, giving a fraction, sums, products, order, rounding. It imports nothing of the program.
-/
import Derived.Below
namespace Go.Proofs.Ytnddfngdlmdmhaa.Rt

def M : Int := 1152921504606846976

/-- a ratio's two parts, whatever they are -/
structure R where
  n : Int
  d : Int

theorem R.ext' {a b : R} (h1 : a.n = b.n) (h2 : a.d = b.d) : a = b := by cases a; cases b; simp only at h1 h2; rw [h1, h2]

def right (a : R) : Bool := decide (1 ≤ a.d ∧ a.d ≤ M ∧ -M ≤ a.n ∧ a.n ≤ M ∧ Int.gcd a.n a.d = 1)

/-- p / q in lowest terms with a positive denominator -/
def low (p q : Int) : R := if 0 < q then ⟨p / (Int.gcd p q : Int), q / (Int.gcd p q : Int)⟩ else ⟨(-p) / (Int.gcd p q : Int), (-q) / (Int.gcd p q : Int)⟩
def fits (r : R) : Bool := decide (r.d ≤ M ∧ -M ≤ r.n ∧ r.n ≤ M)
/-- a fraction given -/
def give (p q : Int) : R × Int := if fits (low p q) then (low p q, 0) else (⟨0, 0⟩, 3)
def make (p q : Int) : R × Int := if q = 0 then (⟨0, 0⟩, 1) else give p q
def two (a b : R) (p q : Int) : R × Int := if right a && right b then give p q else (⟨0, 0⟩, 1)
def add (a b : R) : R × Int := two a b (a.n * b.d + b.n * a.d) (a.d * b.d)
def sub (a b : R) : R × Int := two a b (a.n * b.d - b.n * a.d) (a.d * b.d)
def mul (a b : R) : R × Int := two a b (a.n * b.n) (a.d * b.d)
def div (a b : R) : R × Int := if b.n = 0 then (⟨0, 0⟩, 1) else two a b (a.n * b.d) (a.d * b.n)
def cmp (a b : R) : Int := if right a && right b then (if a.n * b.d < b.n * a.d then -1 else if b.n * a.d < a.n * b.d then 1 else 0) else 0
def floor (a : R) : Int := if right a then a.n / a.d else 0
def ceil (a : R) : Int := if right a then -((-a.n) / a.d) else 0
def nearest (a : R) : Int := if right a then (if 2 * (a.n % a.d) < a.d ∨ 2 * (a.n % a.d) = a.d ∧ (a.n / a.d) % 2 = 0 then a.n / a.d else a.n / a.d + 1) else 0

theorem right_iff {a : R} : right a = true ↔ 1 ≤ a.d ∧ a.d ≤ M ∧ -M ≤ a.n ∧ a.n ≤ M ∧ Int.gcd a.n a.d = 1 := by unfold right; exact decide_eq_true_iff

theorem dvd_of_gcd {a b c : Int} (h : a ∣ b * c) (g : Int.gcd a b = 1) : a ∣ c :=
  Int.natAbs_dvd_natAbs.1 (Nat.Coprime.dvd_of_dvd_mul_left (show Nat.Coprime a.natAbs b.natAbs from g) (by rw [← Int.natAbs_mul]; exact Int.natAbs_dvd_natAbs.2 h))

/-- what low is -/
theorem low_spec (p q : Int) (hq : q ≠ 0) : 1 ≤ (low p q).d ∧ Int.gcd (low p q).n (low p q).d = 1 ∧ (low p q).n * q = p * (low p q).d := by
  have hg0 : Int.gcd p q ≠ 0 := fun h => hq (Int.gcd_eq_zero_iff.1 h).2
  have hg : (0 : Int) < (Int.gcd p q : Int) := by omega
  obtain ⟨x, hx⟩ := Int.gcd_dvd_left p q
  obtain ⟨y, hy⟩ := Int.gcd_dvd_right p q
  have hgcd : Int.gcd (p / (Int.gcd p q : Int)) (q / (Int.gcd p q : Int)) = 1 := Int.gcd_ediv_gcd_ediv_gcd (by omega)
  generalize hG : (Int.gcd p q : Int) = G at *
  have e1 : p / G = x := by rw [hx]; exact Int.mul_ediv_cancel_left x (by omega)
  have e2 : q / G = y := by rw [hy]; exact Int.mul_ediv_cancel_left y (by omega)
  rw [e1, e2] at hgcd
  unfold low
  by_cases h : 0 < q
  · rw [if_pos h]
    simp only
    rw [hG, e1, e2]
    have hy0 : 0 < y := by
      rw [hy] at h
      exact Int.pos_of_mul_pos_right h (by omega)
    refine ⟨by omega, hgcd, ?_⟩
    rw [hx, hy]
    grind
  · rw [if_neg h]
    simp only
    rw [hG]
    have e3 : (-p) / G = -x := by rw [hx, ← Int.mul_neg]; exact Int.mul_ediv_cancel_left _ (by omega)
    have e4 : (-q) / G = -y := by rw [hy, ← Int.mul_neg]; exact Int.mul_ediv_cancel_left _ (by omega)
    rw [e3, e4]
    have hy0 : 0 < -y := by
      have : 0 < G * -y := by rw [Int.mul_neg, ← hy]; omega
      exact Int.pos_of_mul_pos_right this (by omega)
    refine ⟨by omega, by rw [Int.neg_gcd, Int.gcd_neg]; exact hgcd, ?_⟩
    rw [hx, hy]
    grind

/-- lowest terms are unique -/
theorem low_unique {a b : R} (ha : 1 ≤ a.d) (hb : 1 ≤ b.d) (ga : Int.gcd a.n a.d = 1) (gb : Int.gcd b.n b.d = 1) (h : a.n * b.d = b.n * a.d) : a = b := by
  have h1 : a.d ∣ b.d := by
    have : a.d ∣ a.n * b.d := ⟨b.n, by rw [h, Int.mul_comm]⟩
    exact dvd_of_gcd this (by rw [Int.gcd_comm]; exact ga)
  have h2 : b.d ∣ a.d := by
    have : b.d ∣ b.n * a.d := ⟨a.n, by rw [← h, Int.mul_comm]⟩
    exact dvd_of_gcd this (by rw [Int.gcd_comm]; exact gb)
  have hd : a.d = b.d := Int.dvd_antisymm (by omega) (by omega) h1 h2
  refine R.ext' ?_ hd
  rw [hd] at h
  exact Int.eq_of_mul_eq_mul_right (by omega) h

theorem low_eq {p q : Int} (hq : q ≠ 0) {a : R} (ha : 1 ≤ a.d) (ga : Int.gcd a.n a.d = 1) (h : a.n * q = p * a.d) : low p q = a := by
  obtain ⟨h1, h2, h3⟩ := low_spec p q hq
  refine low_unique h1 ha h2 ga ?_
  apply Int.eq_of_mul_eq_mul_right hq
  have : (low p q).n * a.d * q = (low p q).n * q * a.d := by grind
  rw [this, h3, show a.n * (low p q).d * q = a.n * q * (low p q).d from by grind, h]
  grind

theorem low_cross {p q p' q' : Int} (hq : q ≠ 0) (hq' : q' ≠ 0) (h : p * q' = p' * q) : low p q = low p' q' := by
  obtain ⟨h1, h2, h3⟩ := low_spec p' q' hq'
  refine low_eq hq h1 h2 ?_
  apply Int.eq_of_mul_eq_mul_right hq'
  rw [show (low p' q').n * q * q' = (low p' q').n * q' * q from by grind, h3]
  grind
theorem give_cross {p q p' q' : Int} (hq : q ≠ 0) (hq' : q' ≠ 0) (h : p * q' = p' * q) : give p q = give p' q' := by
  unfold give; rw [low_cross hq hq' h]

theorem right_low {p q : Int} (hq : q ≠ 0) (h : fits (low p q) = true) : right (low p q) = true := by
  obtain ⟨h1, h2, _⟩ := low_spec p q hq
  unfold fits at h
  rw [decide_eq_true_eq] at h
  exact right_iff.2 ⟨h1, h.1, h.2.1, h.2.2, h2⟩

/-- what is given -/
theorem give_ok {p q : Int} (hq : q ≠ 0) {r : R} (h : give p q = (r, 0)) : right r = true ∧ r.n * q = p * r.d := by
  unfold give at h
  split at h
  · rename_i hf
    injection h with h _
    subst h
    exact ⟨right_low hq hf, (low_spec p q hq).2.2⟩
  · injection h with _ h; cases h
theorem give_ways (p q : Int) : (∃ r, give p q = (r, 0)) ∨ give p q = (⟨0, 0⟩, 3) := by
  unfold give
  split
  · exact .inl ⟨_, rfl⟩
  · exact .inr rfl
theorem fits_right {r : R} (h : right r = true) : fits r = true := by
  obtain ⟨h1, h2, h3, h4, h5⟩ := right_iff.1 h
  unfold fits
  exact decide_eq_true ⟨h2, h3, h4⟩
theorem give_eq {p q : Int} (hq : q ≠ 0) {r : R} (hr : right r = true) (h : r.n * q = p * r.d) : give p q = (r, 0) := by
  obtain ⟨h1, h2, h3, h4, h5⟩ := right_iff.1 hr
  have e := low_eq hq h1 h5 h
  unfold give
  rw [e, if_pos (fits_right hr)]

/-- a fraction with small parts is given -/
theorem give_small {p q : Int} (hq : q ≠ 0) (h1 : p.natAbs ≤ 1152921504606846976) (h2 : q.natAbs ≤ 1152921504606846976) : ∃ r, give p q = (r, 0) := by
  obtain ⟨s1, s2, s3⟩ := low_spec p q hq
  have hd : (low p q).d ≤ M := by
    have : (low p q).d ∣ q := by
      have h : (low p q).d ∣ (low p q).n * q := ⟨p, by rw [s3, Int.mul_comm]⟩
      exact dvd_of_gcd h (by rw [Int.gcd_comm]; exact s2)
    have := Nat.le_of_dvd (by omega) (Int.natAbs_dvd_natAbs.2 this)
    unfold M; omega
  have hn : (low p q).n.natAbs ≤ 1152921504606846976 := by
    by_cases hp : p = 0
    · have : (low p q).n = 0 := by
        have h : (low p q).n * q = 0 := by rw [s3, hp, Int.zero_mul]
        exact (Int.mul_eq_zero.1 h).resolve_right hq
      omega
    · have hdv : (low p q).n ∣ p := by
        have h : (low p q).n ∣ (low p q).d * p := ⟨q, by rw [Int.mul_comm, ← s3]⟩
        exact dvd_of_gcd h s2
      have := Nat.le_of_dvd (by omega) (Int.natAbs_dvd_natAbs.2 hdv)
      omega
  refine ⟨low p q, ?_⟩
  unfold give
  rw [if_pos]
  unfold fits
  refine decide_eq_true ⟨hd, ?_, ?_⟩ <;> unfold M <;> omega

end Go.Proofs.Ytnddfngdlmdmhaa.Rt
