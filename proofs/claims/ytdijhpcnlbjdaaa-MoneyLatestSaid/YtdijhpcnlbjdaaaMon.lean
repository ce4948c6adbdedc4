/-
  The plain mathematics of layer 5: interest, discount, rates of exchange. It imports nothing of the program.
-/
import Derived.Below
namespace Go.Proofs.Ytdijhpcnlbjdaaa.Mon

/-- a rate of exchange -/
structure R where
  f : Int
  t : Int
  n : Int
  d : Int
  s : Int

abbrev sumP (s : Int) : Prop := 0 ≤ s ∧ s ≤ 1099511627776
abbrev dayP (t : Int) : Prop := 0 ≤ t ∧ t ≤ 100000
abbrev partP (n : Int) : Prop := 1 ≤ n ∧ n ≤ 1073741824
abbrev intP (s p f t b : Int) : Prop := sumP s ∧ 0 ≤ p ∧ p ≤ 1000 ∧ dayP f ∧ dayP t ∧ f ≤ t ∧ (b = 360 ∨ b = 365)
abbrev disP (s p n : Int) : Prop := sumP s ∧ 0 ≤ p ∧ p ≤ 1000 ∧ 0 ≤ n ∧ n ≤ 20000

def cap (n : Int) : Int × Int := if 1099511627776 < n then (0, 3) else (n, 0)
def interest (s p f t b : Int) : Int × Int := if intP s p f t b then cap (s * (p * (t - f)) / (1000 * b)) else (0, 1)
def ceil (x : Int) : Int := (x + 359999) / 360000
def discount (s p n : Int) : Int × Int := if disP s p n then (if s < ceil (s * (p * n)) then (0, 3) else (ceil (s * (p * n)), 0)) else (0, 1)

/-- is it a rate of the pair on this day? -/
def fits (f t on : Int) (r : R) : Bool := decide (r.f = f ∧ r.t = t ∧ r.s ≤ on)
/-- the rate so far, and one more -/
def stepR (f t on : Int) (b : Option R) (r : R) : Option R :=
  if fits f t on r then (match b with | none => some r | some q => if q.s < r.s then some r else some q) else b
def pick (l : List R) (f t on : Int) : Option R := l.foldl (stepR f t on) none
def okR (r : R) : Bool := decide (partP r.n ∧ partP r.d)
def val (s a b : Int) : Int × Int := cap (s * a / b)
def conv (l : List R) (s f t on : Int) : Int × Int :=
  if l.length ≤ 100 ∧ sumP s ∧ dayP on ∧ l.all okR = true then
    (if f = t then (s, 0) else match pick l f t on with
      | some r => val s r.n r.d
      | none => match pick l t f on with
        | some r => val s r.d r.n
        | none => (0, 4))
  else (0, 1)

/-- a quotient calculated in two parts -/
theorem parts (s k d : Int) : s / d * k + s % d * k / d = s * k / d := by
  by_cases hd : d = 0
  · subst hd; simp
  · have e : s * k = s % d * k + (s / d * k) * d := by
      have h := Int.emod_add_mul_ediv s d
      have : (s % d + d * (s / d)) * k = s * k := by rw [h]
      rw [← this, Int.add_mul]
      congr 1
      rw [Int.mul_comm d, Int.mul_assoc, Int.mul_comm d, ← Int.mul_assoc]
    rw [e, Int.add_mul_ediv_right _ _ hd, Int.add_comm]
/-- floors of two parts -/
theorem floors (x y d : Int) (hd : 0 < d) : (x + y) / d - 1 ≤ x / d + y / d ∧ x / d + y / d ≤ (x + y) / d := by
  have h1 := Int.emod_add_mul_ediv x d
  have h2 := Int.emod_add_mul_ediv y d
  have h3 := Int.emod_add_mul_ediv (x + y) d
  have a1 := Int.emod_nonneg x (Int.ne_of_gt hd)
  have a2 := Int.emod_nonneg y (Int.ne_of_gt hd)
  have a3 := Int.emod_nonneg (x + y) (Int.ne_of_gt hd)
  have b1 := Int.emod_lt_of_pos x hd
  have b2 := Int.emod_lt_of_pos y hd
  have b3 := Int.emod_lt_of_pos (x + y) hd
  generalize x / d = p at *
  generalize y / d = q at *
  generalize (x + y) / d = r at *
  have e : d * (p + q - r) = (x + y) % d - x % d - y % d := by
    rw [Int.mul_sub, Int.mul_add]
    omega
  constructor
  · apply Classical.byContradiction
    intro hc
    have h5 : p + q - r ≤ -2 := by omega
    have h6 : d * (p + q - r) ≤ d * (-2) := Int.mul_le_mul_of_nonneg_left h5 (by omega)
    omega
  · apply Classical.byContradiction
    intro hc
    have h5 : 1 ≤ p + q - r := by omega
    have h6 : d * 1 ≤ d * (p + q - r) := Int.mul_le_mul_of_nonneg_left h5 (by omega)
    omega
theorem ceils (x y : Int) : ceil (x + y) ≤ ceil x + ceil y ∧ ceil x + ceil y ≤ ceil (x + y) + 1 := by
  unfold ceil
  omega
theorem rises {s s' p p' n n' : Int} (h0 : 0 ≤ s) (h1 : s ≤ s') (h2 : 0 ≤ p) (h3 : p ≤ p') (h4 : 0 ≤ n) (h5 : n ≤ n') : s * (p * n) ≤ s' * (p' * n') := by
  have e1 : p * n ≤ p' * n' := Int.mul_le_mul h3 h5 h4 (by omega)
  exact Int.mul_le_mul h1 e1 (Int.mul_nonneg h2 h4) (by omega)
theorem nonneg {s p n : Int} (h0 : 0 ≤ s) (h2 : 0 ≤ p) (h4 : 0 ≤ n) : 0 ≤ s * (p * n) := Int.mul_nonneg h0 (Int.mul_nonneg h2 h4)
/-- there and back -/
theorem back {s n d : Int} (hs : 0 ≤ s) (hn : 0 < n) (hd : 0 < d) : 0 ≤ s * n / d ∧ s * n / d * d / n ≤ s ∧ s - s * n / d * d / n ≤ d / n + 1 := by
  have h1 := Int.emod_add_mul_ediv (s * n) d
  have a1 := Int.emod_nonneg (s * n) (Int.ne_of_gt hd)
  have b1 := Int.emod_lt_of_pos (s * n) hd
  have p1 : 0 ≤ s * n / d := Int.ediv_nonneg (Int.mul_nonneg hs (by omega)) (by omega)
  generalize s * n / d = x at *
  rw [Int.mul_comm d x] at h1
  have h2 := Int.emod_add_mul_ediv (x * d) n
  have a2 := Int.emod_nonneg (x * d) (Int.ne_of_gt hn)
  have b2 := Int.emod_lt_of_pos (x * d) hn
  have h3 := Int.emod_add_mul_ediv d n
  have a3 := Int.emod_nonneg d (Int.ne_of_gt hn)
  have b3 := Int.emod_lt_of_pos d hn
  generalize x * d / n = y at *
  generalize d / n = q at *
  refine ⟨p1, ?_, ?_⟩
  · apply Classical.byContradiction
    intro hc
    have h6 : n * (s + 1) ≤ n * y := Int.mul_le_mul_of_nonneg_left (by omega) (by omega)
    rw [Int.mul_add, Int.mul_one, Int.mul_comm n s] at h6
    omega
  · apply Classical.byContradiction
    intro hc
    have h6 : n * (q + 2 + y) ≤ n * s := Int.mul_le_mul_of_nonneg_left (by omega) (by omega)
    rw [Int.mul_add, Int.mul_add, Int.mul_comm n s] at h6
    omega
theorem pick_out {f t on : Int} {one : R} (l m : List R) (h : fits f t on one = false) : pick (l ++ one :: m) f t on = pick (l ++ m) f t on := by
  unfold pick
  rw [List.foldl_append, List.foldl_append, List.foldl_cons]
  congr 1
  unfold stepR
  rw [h]
  rfl
theorem pick_first {f t on : Int} {own : R} (h : fits f t on own = true) (hs : own.s = on) (l : List R) : pick (own :: l) f t on = some own := by
  have e : ∀ l : List R, l.foldl (stepR f t on) (some own) = some own := by
    intro l
    induction l with
    | nil => rfl
    | cons r l ih =>
      rw [List.foldl_cons]
      have : stepR f t on (some own) r = some own := by
        unfold stepR
        by_cases c : fits f t on r = true
        · rw [if_pos c]
          have := of_decide_eq_true c
          simp only
          rw [if_neg (by omega)]
        · rw [if_neg c]
      rw [this, ih]
  unfold pick
  rw [List.foldl_cons]
  have : stepR f t on none own = some own := by unfold stepR; rw [if_pos h]
  rw [this, e]
/-- the one that is picked is one of them -/
theorem pick_mem {f t on : Int} {l : List R} {r : R} (h : pick l f t on = some r) : r ∈ l ∧ fits f t on r = true := by
  have e : ∀ (l : List R) (b : Option R), (∀ q, b = some q → q ∈ l ∨ True) → ∀ r, l.foldl (stepR f t on) b = some r → b = some r ∨ (r ∈ l ∧ fits f t on r = true) := by
    intro l
    induction l with
    | nil => intro b _ r hr; exact .inl hr
    | cons x l ih =>
      intro b _ r hr
      rw [List.foldl_cons] at hr
      rcases ih _ (fun _ _ => .inr trivial) r hr with h | ⟨h1, h2⟩
      · unfold stepR at h
        by_cases c : fits f t on x = true
        · rw [if_pos c] at h
          cases b with
          | none =>
            simp only [Option.some.injEq] at h
            exact .inr ⟨by rw [h]; exact List.mem_cons_self, by rw [← h]; exact c⟩
          | some q =>
            simp only at h
            split at h
            · simp only [Option.some.injEq] at h
              exact .inr ⟨by rw [h]; exact List.mem_cons_self, by rw [← h]; exact c⟩
            · exact .inl h
        · rw [if_neg c] at h
          exact .inl h
      · exact .inr ⟨List.mem_cons_of_mem _ h1, h2⟩
  rcases e l none (fun _ _ => .inr trivial) r h with h | h
  · cases h
  · exact h

end Go.Proofs.Ytdijhpcnlbjdaaa.Mon
