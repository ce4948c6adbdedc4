/-
  The plain mathematics of the program's own reckoning of months: the first day of a month in closed form.
-/
import Derived.Test.YtmlelmknbddkjaaDoorCal
namespace Go.Proofs.YtmlelmknbddkjaaDoor.Cal

/-- the days of a common year before each month -/
def bef : List Int := [0, 31, 59, 90, 120, 151, 181, 212, 243, 273, 304, 334]
/-- how many of the first n years are leap years -/
def lp (n : Int) : Int := (n + 3) / 4 - (n + 99) / 100 + (n + 399) / 400
theorem lp_succ (j : Nat) : lp ((j : Int) + 1) = lp j + (if leap (2000 + j) then 1 else 0) := by
  unfold lp leap
  by_cases h4 : j % 4 = 0 <;> by_cases h100 : j % 100 = 0 <;> by_cases h400 : j % 400 = 0
  all_goals
    have e4 : ((2000 + j) % 4 == 0) = (j % 4 == 0) := by rw [show (2000 + j) % 4 = j % 4 by omega]
    have e100 : ((2000 + j) % 100 != 0) = (j % 100 != 0) := by rw [show (2000 + j) % 100 = j % 100 by omega]
    have e400 : ((2000 + j) % 400 == 0) = (j % 400 == 0) := by rw [show (2000 + j) % 400 = j % 400 by omega]
    rw [e4, e100, e400]
    simp [h4, h100, h400]
    omega
theorem ylen_lp (j : Nat) : (ylen (2000 + j) : Int) = 365 + (lp ((j : Int) + 1) - lp j) := by
  rw [lp_succ]
  unfold ylen
  cases leap (2000 + j) <;> simp <;> omega
theorem S_lp (j : Nat) : (S (12 * j) : Int) = 365 * j + lp j := by
  induction j with
  | zero => rfl
  | succ j ih =>
    rw [S_year]
    have := ylen_lp j
    rw [Int.natCast_add, ih, this]
    rw [show (((j + 1 : Nat)) : Int) = (j : Int) + 1 by omega]
    omega
/-- the first day of a month -/
def fst (k : Int) : Int := 365 * (k / 12) + bef.getD (k % 12).toNat 0 + lp ((k + 10) / 12)
theorem fst_at (j i : Nat) (h : i < 12) : fst ((12 * j + i : Nat) : Int) = S (12 * j + i) := by
  have e1 : (((12 * j + i : Nat) : Int)) / 12 = j := by omega
  have e2 : ((((12 * j + i : Nat) : Int)) % 12).toNat = i := by omega
  have e3 : (((12 * j + i : Nat) : Int) + 10) / 12 = if i < 2 then (j : Int) else (j : Int) + 1 := by split <;> omega
  have hS := S_lp j
  have hl := lp_succ j
  unfold fst
  rw [e1, e2, e3]
  have l0 : len (12 * j) = mlen (2000 + j) 1 := len_at j 0 (by omega)
  have l1 : len (12 * j + 1) = mlen (2000 + j) 2 := len_at j 1 (by omega)
  have l2 := len_at j 2 (by omega)
  have l3 := len_at j 3 (by omega)
  have l4 := len_at j 4 (by omega)
  have l5 := len_at j 5 (by omega)
  have l6 := len_at j 6 (by omega)
  have l7 := len_at j 7 (by omega)
  have l8 := len_at j 8 (by omega)
  have l9 := len_at j 9 (by omega)
  have l10 := len_at j 10 (by omega)
  have s1 : S (12 * j + 1) = S (12 * j) + len (12 * j) := rfl
  have s2 : S (12 * j + 2) = S (12 * j + 1) + len (12 * j + 1) := rfl
  have s3 : S (12 * j + 3) = S (12 * j + 2) + len (12 * j + 2) := rfl
  have s4 : S (12 * j + 4) = S (12 * j + 3) + len (12 * j + 3) := rfl
  have s5 : S (12 * j + 5) = S (12 * j + 4) + len (12 * j + 4) := rfl
  have s6 : S (12 * j + 6) = S (12 * j + 5) + len (12 * j + 5) := rfl
  have s7 : S (12 * j + 7) = S (12 * j + 6) + len (12 * j + 6) := rfl
  have s8 : S (12 * j + 8) = S (12 * j + 7) + len (12 * j + 7) := rfl
  have s9 : S (12 * j + 9) = S (12 * j + 8) + len (12 * j + 8) := rfl
  have s10 : S (12 * j + 10) = S (12 * j + 9) + len (12 * j + 9) := rfl
  have s11 : S (12 * j + 11) = S (12 * j + 10) + len (12 * j + 10) := rfl
  have hm1 : ∀ k, k = 1 ∨ k = 3 ∨ k = 5 ∨ k = 7 ∨ k = 8 ∨ k = 10 → mlen (2000 + j) k = 31 := by intro k hk; rcases hk with rfl | rfl | rfl | rfl | rfl | rfl <;> rfl
  have hm2 : ∀ k, k = 4 ∨ k = 6 ∨ k = 9 ∨ k = 11 → mlen (2000 + j) k = 30 := by intro k hk; rcases hk with rfl | rfl | rfl | rfl <;> rfl
  have hm3 : (mlen (2000 + j) 2 : Int) = 28 + (if leap (2000 + j) then 1 else 0) := by unfold mlen; cases leap (2000 + j) <;> rfl
  rw [hm1 1 (by omega)] at l0
  rw [hm1 3 (by omega)] at l2
  rw [hm2 4 (by omega)] at l3
  rw [hm1 5 (by omega)] at l4
  rw [hm2 6 (by omega)] at l5
  rw [hm1 7 (by omega)] at l6
  rw [hm1 8 (by omega)] at l7
  rw [hm2 9 (by omega)] at l8
  rw [hm1 10 (by omega)] at l9
  rw [hm2 11 (by omega)] at l10
  match i, h with
  | 0, _ => simp [bef]; omega
  | 1, _ => simp [bef]; omega
  | 2, _ => simp [bef]; omega
  | 3, _ => simp [bef]; omega
  | 4, _ => simp [bef]; omega
  | 5, _ => simp [bef]; omega
  | 6, _ => simp [bef]; omega
  | 7, _ => simp [bef]; omega
  | 8, _ => simp [bef]; omega
  | 9, _ => simp [bef]; omega
  | 10, _ => simp [bef]; omega
  | 11, _ => simp [bef]; omega
theorem fst_eq (k : Nat) : fst (k : Int) = S k := by
  have e : 12 * (k / 12) + k % 12 = k := by omega
  have := fst_at (k / 12) (k % 12) (by omega)
  rw [e] at this
  exact this
/-- the guess of a day's month is not far off -/
theorem guess_small {t : Int} (h1 : 0 ≤ t) (h2 : t ≤ 100000) : 0 ≤ t * 4800 / 146097 ∧ t * 4800 / 146097 ≤ 3288 := by omega

end Go.Proofs.YtmlelmknbddkjaaDoor.Cal
