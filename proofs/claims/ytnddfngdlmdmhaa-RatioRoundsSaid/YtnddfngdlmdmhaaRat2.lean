/-
  What the laws of layer 3 need, on plain ratios.
-/
import Derived.Test.YtnddfngdlmdmhaaRat
namespace Go.Proofs.Ytnddfngdlmdmhaa.Rt

theorem two_right {a b : R} (ha : right a = true) (hb : right b = true) (p q : Int) : two a b p q = give p q := by unfold two; rw [ha, hb]; rfl
theorem two_not {a b : R} (h : ¬ (right a = true ∧ right b = true)) (p q : Int) : two a b p q = (⟨0, 0⟩, 1) := by
  unfold two
  rw [if_neg]
  rw [Bool.and_eq_true]
  exact h
theorem pos {a : R} (h : right a = true) : 1 ≤ a.d := (right_iff.1 h).1
theorem ne {a : R} (h : right a = true) : a.d ≠ 0 := by have := pos h; omega
theorem mul_ne {x y : Int} (hx : x ≠ 0) (hy : y ≠ 0) : x * y ≠ 0 := Int.mul_ne_zero hx hy

theorem add_give {a b : R} (ha : right a = true) (hb : right b = true) {p q p' q' : Int} (hq : q ≠ 0) (hq' : q' ≠ 0) (h1 : a.n * q = p * a.d) (h2 : b.n * q' = p' * b.d) :
    add a b = give (p * q' + p' * q) (q * q') := by
  unfold add
  rw [two_right ha hb]
  refine give_cross (mul_ne (ne ha) (ne hb)) (mul_ne hq hq') ?_
  grind
theorem mul_give {a b : R} (ha : right a = true) (hb : right b = true) {p q p' q' : Int} (hq : q ≠ 0) (hq' : q' ≠ 0) (h1 : a.n * q = p * a.d) (h2 : b.n * q' = p' * b.d) :
    mul a b = give (p * p') (q * q') := by
  unfold mul
  rw [two_right ha hb]
  refine give_cross (mul_ne (ne ha) (ne hb)) (mul_ne hq hq') ?_
  grind

theorem na_mul {x y : Int} {A B : Nat} (hx : x.natAbs ≤ A) (hy : y.natAbs ≤ B) : (x * y).natAbs ≤ A * B := by
  rw [Int.natAbs_mul]; exact Nat.mul_le_mul hx hy
theorem na_add {x y : Int} {A B : Nat} (hx : x.natAbs ≤ A) (hy : y.natAbs ≤ B) : (x + y).natAbs ≤ A + B := by omega

/-- sums and products of small ratios -/
theorem field {a b c : R} (ha : right a = true) (hb : right b = true) (hc : right c = true)
    (a1 : a.n.natAbs ≤ 1000) (a2 : a.d.natAbs ≤ 1000) (b1 : b.n.natAbs ≤ 1000) (b2 : b.d.natAbs ≤ 1000) (c1 : c.n.natAbs ≤ 1000) (c2 : c.d.natAbs ≤ 1000) :
    ∃ ab bc l p q s u : R, add a b = (ab, 0) ∧ add b a = (ab, 0) ∧ add b c = (bc, 0) ∧ add ab c = (l, 0) ∧ add a bc = (l, 0) ∧ mul a b = (p, 0) ∧ mul a c = (q, 0) ∧ mul a bc = (s, 0) ∧ add p q = (s, 0) ∧ mul p c = (u, 0) ∧ mul q b = (u, 0) := by
  have ea : a.n * a.d = a.n * a.d := rfl
  have eb : b.n * b.d = b.n * b.d := rfl
  have ec : c.n * c.d = c.n * c.d := rfl
  have na := ne ha
  have nb := ne hb
  have nc := ne hc
  have hab := add_give ha hb na nb ea eb
  have hba := add_give hb ha nb na eb ea
  have hbc := add_give hb hc nb nc eb ec
  have hp := mul_give ha hb na nb ea eb
  have hq := mul_give ha hc na nc ea ec
  have nab := mul_ne na nb
  have nbc := mul_ne nb nc
  have nac := mul_ne na nc
  obtain ⟨ab, gab⟩ := give_small (p := a.n * b.d + b.n * a.d) nab (Nat.le_trans (na_add (na_mul a1 b2) (na_mul b1 a2)) (by decide)) (Nat.le_trans (na_mul a2 b2) (by decide))
  obtain ⟨bc, gbc⟩ := give_small (p := b.n * c.d + c.n * b.d) nbc (Nat.le_trans (na_add (na_mul b1 c2) (na_mul c1 b2)) (by decide)) (Nat.le_trans (na_mul b2 c2) (by decide))
  obtain ⟨p, gp⟩ := give_small (p := a.n * b.n) nab (Nat.le_trans (na_mul a1 b1) (by decide)) (Nat.le_trans (na_mul a2 b2) (by decide))
  obtain ⟨q, gq⟩ := give_small (p := a.n * c.n) nac (Nat.le_trans (na_mul a1 c1) (by decide)) (Nat.le_trans (na_mul a2 c2) (by decide))
  obtain ⟨rab, eab⟩ := give_ok nab gab
  obtain ⟨rbc, ebc⟩ := give_ok nbc gbc
  obtain ⟨rp, ep⟩ := give_ok nab gp
  obtain ⟨rq, eq⟩ := give_ok nac gq
  have hl := add_give rab hc nab nc eab ec
  have hr := add_give ha rbc na nbc ea ebc
  have hs := mul_give ha rbc na nbc ea ebc
  have ht := add_give rp rq nab nac ep eq
  have hu := mul_give rp hc nab nc ep ec
  have hv := mul_give rq hb nac nb eq eb
  have nl := mul_ne nab nc
  obtain ⟨l, gl⟩ := give_small (p := (a.n * b.d + b.n * a.d) * c.d + c.n * (a.d * b.d)) nl
    (Nat.le_trans (na_add (na_mul (na_add (na_mul a1 b2) (na_mul b1 a2)) c2) (na_mul c1 (na_mul a2 b2))) (by decide)) (Nat.le_trans (na_mul (na_mul a2 b2) c2) (by decide))
  obtain ⟨s, gs⟩ := give_small (p := a.n * (b.n * c.d + c.n * b.d)) (mul_ne na nbc)
    (Nat.le_trans (na_mul a1 (na_add (na_mul b1 c2) (na_mul c1 b2))) (by decide)) (Nat.le_trans (na_mul a2 (na_mul b2 c2)) (by decide))
  obtain ⟨u, gu⟩ := give_small (p := a.n * b.n * c.n) nl (Nat.le_trans (na_mul (na_mul a1 b1) c1) (by decide)) (Nat.le_trans (na_mul (na_mul a2 b2) c2) (by decide))
  refine ⟨ab, bc, l, p, q, s, u, by rw [hab, gab], ?_, by rw [hbc, gbc], by rw [hl, gl], ?_, by rw [hp, gp], by rw [hq, gq], by rw [hs, gs], ?_, by rw [hu, gu], ?_⟩
  · rw [hba, ← gab]; exact give_cross (mul_ne nb na) nab (by grind)
  · rw [hr, ← gl]; exact give_cross (mul_ne na nbc) nl (by grind)
  · rw [ht, ← gs]; exact give_cross (mul_ne nab nac) (mul_ne na nbc) (by grind)
  · rw [hv, ← gu]; exact give_cross (mul_ne nac nb) nl (by grind)

/-- what is added can be subtracted, what is multiplied divided -/
theorem back_add {a b s : R} (ha : right a = true) (hb : right b = true) (h : add a b = (s, 0)) : right s = true ∧ sub s b = (a, 0) := by
  unfold add at h
  rw [two_right ha hb] at h
  obtain ⟨hs, e⟩ := give_ok (mul_ne (ne ha) (ne hb)) h
  refine ⟨hs, ?_⟩
  unfold sub
  rw [two_right hs hb]
  refine give_eq (mul_ne (ne hs) (ne hb)) ha ?_
  grind
theorem back_mul {a b p : R} (ha : right a = true) (hb : right b = true) (h : mul a b = (p, 0)) : right p = true ∧ (b.n ≠ 0 → div p b = (a, 0)) := by
  unfold mul at h
  rw [two_right ha hb] at h
  obtain ⟨hp, e⟩ := give_ok (mul_ne (ne ha) (ne hb)) h
  refine ⟨hp, fun h0 => ?_⟩
  unfold div
  rw [if_neg h0, two_right hp hb]
  refine give_eq (mul_ne (ne hp) h0) ha ?_
  grind
theorem two_ways {a b : R} (p q : Int) : (right a = true ∧ right b = true ∧ ((∃ r, two a b p q = (r, 0)) ∨ two a b p q = (⟨0, 0⟩, 3))) ∨ (¬ (right a = true ∧ right b = true) ∧ two a b p q = (⟨0, 0⟩, 1)) := by
  by_cases h : right a = true ∧ right b = true
  · exact .inl ⟨h.1, h.2, by rw [two_right h.1 h.2]; exact give_ways p q⟩
  · exact .inr ⟨h, two_not h p q⟩

/-- order -/
theorem cmp_right {a b : R} (ha : right a = true) (hb : right b = true) : cmp a b = if a.n * b.d < b.n * a.d then -1 else if b.n * a.d < a.n * b.d then 1 else 0 := by unfold cmp; rw [ha, hb]; rfl
theorem cmp_neg {a b : R} (ha : right a = true) (hb : right b = true) : cmp a b = -cmp b a := by
  rw [cmp_right ha hb, cmp_right hb ha]
  split <;> split <;> omega
theorem cmp_three (a b : R) : cmp a b = -1 ∨ cmp a b = 0 ∨ cmp a b = 1 := by
  unfold cmp; repeat (first | split | omega)
theorem cmp_lt {a b : R} (ha : right a = true) (hb : right b = true) : (cmp a b < 0 ↔ a.n * b.d < b.n * a.d) ∧ (0 < cmp a b ↔ b.n * a.d < a.n * b.d) := by
  rw [cmp_right ha hb]
  constructor <;> (repeat (first | split | omega))
theorem cmp_zero {a b : R} (ha : right a = true) (hb : right b = true) : cmp a b = 0 ↔ a = b := by
  constructor
  · intro h
    have h2 := cmp_lt ha hb
    obtain ⟨a1, _, _, _, a5⟩ := right_iff.1 ha
    obtain ⟨b1, _, _, _, b5⟩ := right_iff.1 hb
    exact low_unique a1 b1 a5 b5 (by omega)
  · rintro rfl
    have h2 := cmp_lt ha ha
    have := cmp_three a a
    omega
theorem cmp_trans {a b c : R} (ha : right a = true) (hb : right b = true) (hc : right c = true) (h1 : cmp a b ≤ 0) (h2 : cmp b c ≤ 0) : cmp a c ≤ 0 := by
  have e1 := (cmp_lt ha hb).2
  have e2 := (cmp_lt hb hc).2
  have e3 := (cmp_lt ha hc).2
  have p1 := pos ha
  have p2 := pos hb
  have p3 := pos hc
  have l1 : a.n * b.d ≤ b.n * a.d := by omega
  have l2 : b.n * c.d ≤ c.n * b.d := by omega
  have m1 := Int.mul_le_mul_of_nonneg_right l1 (show 0 ≤ c.d by omega)
  have m2 := Int.mul_le_mul_of_nonneg_right l2 (show 0 ≤ a.d by omega)
  have m3 : a.n * c.d * b.d ≤ c.n * a.d * b.d := by
    have x1 : a.n * c.d * b.d = a.n * b.d * c.d := by grind
    have x2 : c.n * a.d * b.d = c.n * b.d * a.d := by grind
    have x3 : b.n * a.d * c.d = b.n * c.d * a.d := by grind
    omega
  have m4 := Int.le_of_mul_le_mul_right m3 (by omega)
  omega
theorem sub_sign {a b d : R} (ha : right a = true) (hb : right b = true) (h : sub a b = (d, 0)) : (d.n < 0 ↔ cmp a b < 0) ∧ (0 < d.n ↔ 0 < cmp a b) := by
  unfold sub at h
  rw [two_right ha hb] at h
  obtain ⟨hd, e⟩ := give_ok (mul_ne (ne ha) (ne hb)) h
  have p1 := pos ha
  have p2 := pos hb
  have p3 := pos hd
  obtain ⟨l1, l2⟩ := cmp_lt ha hb
  rw [l1, l2]
  have hD : 0 < a.d * b.d := Int.mul_pos (by omega) (by omega)
  generalize a.d * b.d = D at e hD
  generalize hX : a.n * b.d - b.n * a.d = X at e
  have k1 : a.n * b.d < b.n * a.d ↔ X < 0 := by omega
  have k2 : b.n * a.d < a.n * b.d ↔ 0 < X := by omega
  rw [k1, k2]
  have s1 : d.n < 0 → X < 0 := fun h => by
    have := Int.mul_neg_of_neg_of_pos h hD
    rw [e] at this
    exact Int.neg_of_mul_neg_left this (by omega)
  have s2 : 0 < d.n → 0 < X := fun h => by
    have := Int.mul_pos h hD
    rw [e] at this
    exact Int.pos_of_mul_pos_left this (by omega)
  have s3 : d.n = 0 → X = 0 := fun h => by
    rw [h, Int.zero_mul] at e
    exact (Int.mul_eq_zero.1 e.symm).resolve_right (by omega)
  omega

end Go.Proofs.Ytnddfngdlmdmhaa.Rt
