/-
  The plain mathematics of layer 4: months, days and dates. It imports nothing of the program.
-/
import Derived.Below
namespace Go.Proofs.YtmlelmknbddkjaaDoor.Cal

def leap (y : Nat) : Bool := y % 4 == 0 && (y % 100 != 0 || y % 400 == 0)
def mlen (y m : Nat) : Nat := if m = 2 then (if leap y then 29 else 28) else if m = 4 ∨ m = 6 ∨ m = 9 ∨ m = 11 then 30 else 31
def ylen (y : Nat) : Nat := if leap y then 366 else 365
/-- the days of the month number k (0 is January 2000), and of all before it -/
def len (k : Nat) : Nat := mlen (2000 + k / 12) (k % 12 + 1)
def S : Nat → Nat
  | 0 => 0
  | k + 1 => S k + len k
def mon : Nat → Nat
  | 0 => 0
  | t + 1 => if S (mon t + 1) ≤ t + 1 then mon t + 1 else mon t
def dom (t : Nat) : Nat := t - S (mon t) + 1

theorem mlen_bounds (y m : Nat) : 28 ≤ mlen y m ∧ mlen y m ≤ 31 := by unfold mlen; constructor <;> (repeat' split) <;> omega
theorem len_bounds (k : Nat) : 28 ≤ len k ∧ len k ≤ 31 := mlen_bounds _ _
theorem ylen_bounds (y : Nat) : 365 ≤ ylen y ∧ ylen y ≤ 366 := by unfold ylen; split <;> omega
theorem S_succ (k : Nat) : S (k + 1) = S k + len k := rfl
theorem S_mono {k j : Nat} (h : k ≤ j) : S k ≤ S j := by
  induction h with
  | refl => exact Nat.le_refl _
  | step h ih => rw [S_succ]; omega
theorem S_strict {k j : Nat} (h : k < j) : S k + 28 ≤ S j := by
  have h1 := S_mono (show k + 1 ≤ j from h)
  have h2 := (len_bounds k).1
  rw [S_succ] at h1
  omega
theorem mon_spec (t : Nat) : S (mon t) ≤ t ∧ t < S (mon t + 1) := by
  induction t with
  | zero =>
    have := (len_bounds 0).1
    exact ⟨Nat.le_refl 0, by show 0 < S 1; rw [S_succ]; omega⟩
  | succ t ih =>
    unfold mon
    split
    · rename_i h
      have := (len_bounds (mon t + 1)).1
      exact ⟨h, by rw [S_succ (mon t + 1)]; omega⟩
    · omega
theorem mon_eq {t k : Nat} (h1 : S k ≤ t) (h2 : t < S (k + 1)) : mon t = k := by
  obtain ⟨k1, k2⟩ := mon_spec t
  rcases Nat.lt_trichotomy (mon t) k with h | h | h
  · have := S_mono (show mon t + 1 ≤ k from h); omega
  · exact h
  · have := S_mono (show k + 1 ≤ mon t from h); omega
theorem mon_mono {t u : Nat} (h : t ≤ u) : mon t ≤ mon u := by
  obtain ⟨h1, h2⟩ := mon_spec t
  obtain ⟨k1, k2⟩ := mon_spec u
  apply Nat.le_of_not_lt
  intro c
  have := S_mono (show mon u + 1 ≤ mon t from c)
  omega
theorem mon_le (t : Nat) : mon t ≤ t := by
  have h := (mon_spec t).1
  have : ∀ k, k ≤ S k := fun k => by
    induction k with
    | zero => exact Nat.le_refl 0
    | succ k ih => have := (len_bounds k).1; rw [S_succ]; omega
  have := this (mon t)
  omega
theorem dom_spec (t : Nat) : 1 ≤ dom t ∧ dom t ≤ len (mon t) ∧ S (mon t) + dom t = t + 1 := by
  obtain ⟨h1, h2⟩ := mon_spec t
  rw [S_succ] at h2
  unfold dom
  omega
/-- the day of a date, and its date again -/
theorem mon_day {k d : Nat} (h1 : 1 ≤ d) (h2 : d ≤ len k) : mon (S k + d - 1) = k ∧ dom (S k + d - 1) = d := by
  have e : mon (S k + d - 1) = k := mon_eq (by omega) (by rw [S_succ]; omega)
  exact ⟨e, by unfold dom; rw [e]; omega⟩
theorem len_at (j i : Nat) (h : i < 12) : len (12 * j + i) = mlen (2000 + j) (i + 1) := by
  unfold len
  rw [show (12 * j + i) / 12 = j by omega, show (12 * j + i) % 12 = i by omega]
theorem S_year (j : Nat) : S (12 * (j + 1)) = S (12 * j) + ylen (2000 + j) := by
  have e : S (12 * (j + 1)) = S (12 * j) + len (12 * j) + len (12 * j + 1) + len (12 * j + 2) + len (12 * j + 3) + len (12 * j + 4) + len (12 * j + 5) + len (12 * j + 6) + len (12 * j + 7) + len (12 * j + 8) + len (12 * j + 9) + len (12 * j + 10) + len (12 * j + 11) := rfl
  rw [e, show len (12 * j) = mlen (2000 + j) 1 from len_at j 0 (by omega), len_at j 1 (by omega), len_at j 2 (by omega), len_at j 3 (by omega), len_at j 4 (by omega), len_at j 5 (by omega),
    len_at j 6 (by omega), len_at j 7 (by omega), len_at j 8 (by omega), len_at j 9 (by omega), len_at j 10 (by omega), len_at j 11 (by omega)]
  cases h : leap (2000 + j) <;> simp [mlen, ylen, h] <;> omega
theorem S_years (j : Nat) : 365 * j ≤ S (12 * j) := by
  induction j with
  | zero => exact Nat.zero_le _
  | succ j ih => rw [S_year]; have := (ylen_bounds (2000 + j)).1; omega
theorem S_most (k : Nat) : 28 * k ≤ S k ∧ S k ≤ 31 * k := by
  induction k with
  | zero => exact ⟨Nat.le_refl 0, Nat.le_refl 0⟩
  | succ k ih => rw [S_succ]; have := len_bounds k; omega
/-- a day's month lies in the first 274 years -/
theorem mon_small {t : Nat} (h : t ≤ 100000) : mon t < 3288 := by
  have h1 := (mon_spec t).1
  have h2 := S_years 274
  apply Nat.lt_of_not_le
  intro c
  have := S_mono (show 12 * 274 ≤ mon t by omega)
  omega
theorem dom_next (t : Nat) : (dom (t + 1) = dom t + 1 ∧ mon (t + 1) = mon t) ∨ (dom (t + 1) = 1 ∧ mon (t + 1) = mon t + 1) := by
  obtain ⟨h1, h2⟩ := mon_spec t
  have h3 := S_succ (mon t)
  have h4 := (len_bounds (mon t + 1)).1
  have h5 := S_succ (mon t + 1)
  by_cases c : t + 1 < S (mon t + 1)
  · have e := mon_eq (t := t + 1) (k := mon t) (by omega) c
    left
    exact ⟨by unfold dom; rw [e]; omega, e⟩
  · have e := mon_eq (t := t + 1) (k := mon t + 1) (by omega) (by omega)
    right
    exact ⟨by unfold dom; rw [e]; omega, e⟩

/-- months later -/
def shift (t : Nat) (n : Int) : Option Nat :=
  if (mon t : Int) + n < 0 then none
  else
    let k := ((mon t : Int) + n).toNat
    some (S k + min (dom t) (len k) - 1)
theorem shift_some {t u : Nat} {n : Int} (h : shift t n = some u) : (mon u : Int) = mon t + n ∧ dom u = min (dom t) (len (mon u)) ∧ 0 ≤ (mon t : Int) + n := by
  unfold shift at h
  split at h
  · cases h
  · rename_i c
    simp only [Option.some.injEq] at h
    have h1 := (dom_spec t).1
    have h2 := (len_bounds ((mon t : Int) + n).toNat).1
    obtain ⟨e1, e2⟩ := mon_day (k := ((mon t : Int) + n).toNat) (d := min (dom t) (len ((mon t : Int) + n).toNat)) (by omega) (by omega)
    rw [h] at e1 e2
    exact ⟨by rw [e1]; omega, by rw [e2, e1], by omega⟩
theorem shift_of {t : Nat} {n : Int} {k : Nat} (h : (mon t : Int) + n = k) : shift t n = some (S k + min (dom t) (len k) - 1) := by
  unfold shift
  rw [if_neg (by omega)]
  simp only [h, Int.toNat_natCast]
theorem len_28 (k : Nat) : 28 ≤ len k := (len_bounds k).1
/-- months one after the other, from a day of the month up to the 28th -/
theorem shift_shift {t u : Nat} {a b : Int} (h : shift t a = some u) (hd : dom t ≤ 28) : shift u b = shift t (a + b) ∧ dom u = dom t := by
  obtain ⟨h1, h2, h3⟩ := shift_some h
  have e : dom u = dom t := by rw [h2]; have := len_28 (mon u); omega
  refine ⟨?_, e⟩
  unfold shift
  rw [e, h1, Int.add_assoc]
/-- a later day leads to no earlier one -/
theorem shift_mono {t t' u u' : Nat} {a : Int} (h : t ≤ t') (h1 : shift t a = some u) (h2 : shift t' a = some u') : u ≤ u' := by
  obtain ⟨a1, a2, a3⟩ := shift_some h1
  obtain ⟨b1, b2, b3⟩ := shift_some h2
  have hm := mon_mono h
  have d1 := dom_spec u
  have d2 := dom_spec u'
  by_cases c : mon t = mon t'
  · have e : mon u = mon u' := by omega
    have d3 := (dom_spec t).2.2
    have d4 := (dom_spec t').2.2
    rw [c] at d3
    rw [e] at a2 d1
    omega
  · have := S_strict (show mon u < mon u' by omega)
    have := S_succ (mon u)
    have := S_mono (show mon u + 1 ≤ mon u' by omega)
    omega

end Go.Proofs.YtmlelmknbddkjaaDoor.Cal
