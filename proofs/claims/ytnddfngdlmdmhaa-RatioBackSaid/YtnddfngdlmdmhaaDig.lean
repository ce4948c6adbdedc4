/-
  Plain mathematics of the reference's numbers: digits to the base 2^30. It imports nothing of the program.
-/
import Derived.Below
namespace Go.Proofs.Ytnddfngdlmdmhaa.Dg

def B : Nat := 1073741824
/-- what is left above i digits -/
def sh (n : Nat) : Nat → Nat
  | 0 => n
  | i + 1 => sh n i / 1073741824
def dig (n i : Nat) : Nat := sh n i % 1073741824
/-- below i digits -/
def pw : Nat → Nat
  | 0 => 1
  | i + 1 => pw i * 1073741824

theorem sh_succ (n i : Nat) : sh n (i + 1) = sh n i / 1073741824 := rfl
theorem dig_lt (n i : Nat) : dig n i < 1073741824 := Nat.mod_lt _ (by decide)
theorem sh_split (n i : Nat) : sh n i = 1073741824 * sh n (i + 1) + dig n i := by unfold dig; rw [sh_succ]; omega
theorem pw_pos (i : Nat) : 0 < pw i := by
  induction i with
  | zero => decide
  | succ i ih => unfold pw; omega
theorem sh_eq (n i : Nat) : sh n i = n / pw i := by
  induction i with
  | zero => simp [sh, pw]
  | succ i ih => rw [sh_succ, ih, pw, Nat.div_div_eq_div_mul]
theorem sh_lt {n i k : Nat} (h : n < pw (i + k)) : sh n i < pw k := by
  rw [sh_eq]
  refine Nat.div_lt_of_lt_mul ?_
  have e : pw (i + k) = pw i * pw k := by
    clear h
    induction k with
    | zero => simp [pw]
    | succ k ih => rw [← Nat.add_assoc, pw, ih, pw, Nat.mul_assoc]
  rw [← e]; exact h
theorem sh_zero {n i : Nat} (h : n < pw i) : sh n i = 0 := by
  have := sh_lt (n := n) (i := i) (k := 0) h
  simp [pw] at this
  exact this
theorem sh_add (n x i : Nat) : sh (n + x * pw i) i = sh n i + x := by
  rw [sh_eq, sh_eq, Nat.add_mul_div_right _ _ (pw_pos i)]
theorem sh_dig_zero (i : Nat) : dig 0 i = 0 := by
  unfold dig; rw [sh_eq]; simp

/-- sums -/
theorem plus_step {a b s c i : Nat} (h : c + sh a i + sh b i = sh s i) : (c + dig a i + dig b i) % 1073741824 = dig s i ∧ (c + dig a i + dig b i) / 1073741824 + sh a (i + 1) + sh b (i + 1) = sh s (i + 1) := by
  unfold dig; rw [sh_succ, sh_succ, sh_succ]
  generalize sh a i = x at *
  generalize sh b i = y at *
  generalize sh s i = z at *
  omega
/-- differences -/
theorem minus_step {a b s c i : Nat} (hc : c ≤ 1) (h : sh s i + sh b i + c = sh a i) :
    (dig a i < dig b i + c → dig a i + 1073741824 = dig s i + dig b i + c ∧ sh s (i + 1) + sh b (i + 1) + 1 = sh a (i + 1)) ∧
    (¬ dig a i < dig b i + c → dig a i = dig s i + dig b i + c ∧ sh s (i + 1) + sh b (i + 1) + 0 = sh a (i + 1)) := by
  unfold dig; rw [sh_succ, sh_succ, sh_succ]
  generalize sh a i = x at *
  generalize sh b i = y at *
  generalize sh s i = z at *
  constructor <;> intro hh <;> omega
/-- products: one step of a row -/
theorem times_step {p t b d c i k : Nat} (hd : d < 1073741824) (hc : c < 1073741824) (h : sh p (i + k) + d * sh b k + c = sh t (i + k)) :
    (c + dig p (i + k) + d * dig b k) % 1073741824 = dig t (i + k) ∧ sh p (i + k + 1) + d * sh b (k + 1) + (c + dig p (i + k) + d * dig b k) / 1073741824 = sh t (i + k + 1) ∧ (c + dig p (i + k) + d * dig b k) / 1073741824 < 1073741824 ∧ d * dig b k ≤ 1152921502459363329 := by
  have hb := dig_lt b k
  have hm : d * dig b k ≤ 1073741823 * 1073741823 := Nat.mul_le_mul (by omega) (by omega)
  have e : d * sh b k = 1073741824 * (d * sh b (k + 1)) + d * dig b k := by
    rw [sh_split b k, Nat.mul_add, Nat.mul_left_comm]
  rw [e] at h
  have es := sh_split t (i + k)
  have ep := sh_split p (i + k)
  have ht := dig_lt t (i + k)
  have hp := dig_lt p (i + k)
  generalize d * sh b (k + 1) = u at *
  generalize d * dig b k = v at *
  generalize sh t (i + k + 1) = t' at *
  generalize sh p (i + k + 1) = p' at *
  generalize dig t (i + k) = x at *
  generalize dig p (i + k) = y at *
  omega
theorem row_next (a b i : Nat) : (a % pw (i + 1)) * b = (a % pw i) * b + (dig a i * b) * pw i := by
  have : a % pw (i + 1) = a % pw i + dig a i * pw i := by
    unfold dig
    rw [sh_eq, pw, Nat.mod_mul, Nat.mul_comm]
  rw [this, Nat.add_mul, Nat.mul_right_comm]

/-- comparing -/
theorem cmp_less {a b i : Nat} (h : sh a (i + 1) = sh b (i + 1)) (hd : dig a i < dig b i) : a < b := by
  have ha := sh_split a i
  have hb := sh_split b i
  have hlt : sh a i < sh b i := by omega
  rw [sh_eq, sh_eq] at hlt
  exact Nat.lt_of_div_lt_div hlt
theorem cmp_same {a b i : Nat} (h : sh a (i + 1) = sh b (i + 1)) (hd : dig a i = dig b i) : sh a i = sh b i := by
  rw [sh_split a i, sh_split b i, h, hd]

end Go.Proofs.Ytnddfngdlmdmhaa.Dg
