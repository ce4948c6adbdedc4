/-
  The examples (sane).
-/
import Derived.Test.YtnddfngdlmdmhaaRatA
namespace Go.Proofs.Ytnddfngdlmdmhaa
open Go.RowKit

theorem int_eq {x y : Int} (h : x = y) : (x == y) = true := by rw [h]; exact beq_self_eq_true y
theorem int_ne {x y : Int} (h : x ≠ y) : (x == y) = false := beq_eq_false_iff_ne.2 h

theorem small_In {n d : Int} (h1 : -1152921504606846976 ≤ n) (h2 : n ≤ 1152921504606846976) (h3 : -1152921504606846976 ≤ d) (h4 : d ≤ 1152921504606846976) : In ⟨n, d⟩ := by
  unfold In I64; simp only; omega
theorem right_In {a : Rt.R} (h : Rt.right a = true) : In a := by
  have := Rt.right_iff.1 h
  unfold Rt.M at this
  unfold In I64
  omega

theorem back_ways (a b : Rt.R) :
    (Rt.right a = true ∧ Rt.right b = true ∧ ((∃ s, Rt.add a b = (s, 0) ∧ In s ∧ Rt.right s = true ∧ Rt.sub s b = (a, 0)) ∨ Rt.add a b = (⟨0, 0⟩, 3)) ∧
      ((∃ p, Rt.mul a b = (p, 0) ∧ In p ∧ Rt.right p = true ∧ (b.n != 0) = true ∧ Rt.div p b = (a, 0)) ∨ (∃ p, Rt.mul a b = (p, 0) ∧ In p ∧ (b.n != 0) = false) ∨ Rt.mul a b = (⟨0, 0⟩, 3))) ∨
    (¬ (Rt.right a = true ∧ Rt.right b = true) ∧ (Rt.right a = false ∨ Rt.right a = true ∧ Rt.right b = false) ∧ Rt.add a b = (⟨0, 0⟩, 1) ∧ Rt.mul a b = (⟨0, 0⟩, 1)) := by
  by_cases h : Rt.right a = true ∧ Rt.right b = true
  · left
    obtain ⟨h1, h2⟩ := h
    refine ⟨h1, h2, ?_, ?_⟩
    · rcases Rt.give_ways (a.n * b.d + b.n * a.d) (a.d * b.d) with ⟨s, hs⟩ | hs
      · have e : Rt.add a b = (s, 0) := by unfold Rt.add; rw [Rt.two_right h1 h2, hs]
        obtain ⟨k1, k2⟩ := Rt.back_add h1 h2 e
        exact .inl ⟨s, e, right_In k1, k1, k2⟩
      · exact .inr (by unfold Rt.add; rw [Rt.two_right h1 h2, hs])
    · rcases Rt.give_ways (a.n * b.n) (a.d * b.d) with ⟨p, hp⟩ | hp
      · have e : Rt.mul a b = (p, 0) := by unfold Rt.mul; rw [Rt.two_right h1 h2, hp]
        obtain ⟨k1, k2⟩ := Rt.back_mul h1 h2 e
        by_cases h0 : b.n = 0
        · exact .inr (.inl ⟨p, e, right_In k1, by rw [h0]; rfl⟩)
        · exact .inl ⟨p, e, right_In k1, k1, by rw [bne_iff_ne]; exact h0, k2 h0⟩
      · exact .inr (.inr (by unfold Rt.mul; rw [Rt.two_right h1 h2, hp]))
  · right
    refine ⟨h, ?_, Rt.two_not h _ _, Rt.two_not h _ _⟩
    cases h1 : Rt.right a with
    | false => exact .inl rfl
    | true =>
      right
      refine ⟨rfl, ?_⟩
      cases h2 : Rt.right b with
      | false => rfl
      | true => exact absurd ⟨h1, h2⟩ h

theorem ex1 : Rt.make 6 (-4) = (⟨-3, 2⟩, 0) := by kernel_rfl
theorem ex2 : Rt.make 0 (-7) = (⟨0, 1⟩, 0) := by kernel_rfl
theorem ex3 : Rt.make 1 0 = (⟨0, 0⟩, 1) := by kernel_rfl
theorem ex4 : Rt.add ⟨1, 6⟩ ⟨1, 10⟩ = (⟨4, 15⟩, 0) := by kernel_rfl
theorem ex5 : Rt.mul ⟨1152921504606846976, 1⟩ ⟨2, 1⟩ = (⟨0, 0⟩, 3) := by kernel_rfl
theorem ex6 : Rt.div ⟨1, 2⟩ ⟨0, 1⟩ = (⟨0, 0⟩, 1) := by kernel_rfl
theorem ex7 : Rt.floor ⟨-3, 2⟩ = -2 := by kernel_rfl
theorem ex8 : Rt.ceil ⟨-3, 2⟩ = -1 := by kernel_rfl
theorem ex9 : Rt.nearest ⟨-3, 2⟩ = -2 := by kernel_rfl
theorem ex10 : Rt.nearest ⟨5, 2⟩ = 2 := by kernel_rfl
theorem ex11 : Rt.cmp ⟨-3, 2⟩ ⟨0, 1⟩ = -1 := by kernel_rfl
theorem ex12 : Rt.right ⟨-3, 2⟩ = true := by kernel_rfl
theorem small_i {n : Int} (h1 : -1152921504606846976 ≤ n) (h2 : n ≤ 1152921504606846976) : I64 n := by unfold I64; omega

set_option maxHeartbeats 6400000 in
set_option maxRecDepth 100000 in
theorem sane_x (h : RatioOk) (w : World) : Calls Try.prog 8 #[] w fun e w' => e = .returned (.bool true) ∧ Below w.heap.size w w' := by
  have c0 := Below.refl w.heap.size w
  go_enter Try.func8, Try.ntmps8
  go_wp2_with fail
  refine (h.make 6 (-4) _ (small_i (by decide) (by decide)) (small_i (by decide) (by decide))).mono ?_
  rintro e w1 ⟨rfl, b1⟩
  rw [ex1]
  simp only [rok]
  have c1 : Below w.heap.size w w1 := by have z := c0.size; first | exact b1 | exact chain (c0.alloc z _) b1 | exact chain ((c0.alloc z _).alloc (by simp; omega) _) b1
  clear b1 c0
  go_wp2_with fail
  refine (h.make 0 (-7) _ (small_i (by decide) (by decide)) (small_i (by decide) (by decide))).mono ?_
  rintro e w2 ⟨rfl, b2⟩
  rw [ex2]
  simp only [rok]
  have A2 : At w2 w1.heap.size ⟨-3, 2⟩ := by first | exact (At.new w1 ⟨-3, 2⟩ _ _ rfl).below b2 | exact ((At.new w1 ⟨-3, 2⟩ _ _ rfl).alloc _).below b2
  have c2 : Below w.heap.size w w2 := by have z := c1.size; first | exact chain c1 b2 | exact chain (c1.alloc z _) b2 | exact chain ((c1.alloc z _).alloc (by simp; omega) _) b2
  clear b2 c1
  obtain ⟨sa, pa, qa⟩ := id A2
  go_wp2_with fail
  refine (h.make 1 0 _ (small_i (by decide) (by decide)) (small_i (by decide) (by decide))).mono ?_
  rintro e w3 ⟨rfl, b3⟩
  rw [ex3]
  simp only [rok]
  have A3 : At w3 w1.heap.size ⟨-3, 2⟩ := by first | exact A2.below b3 | exact (A2.alloc _).below b3 | exact ((A2.alloc _).alloc _).below b3
  have B3 : At w3 w2.heap.size ⟨0, 1⟩ := by first | exact (At.new w2 ⟨0, 1⟩ _ _ rfl).below b3 | exact ((At.new w2 ⟨0, 1⟩ _ _ rfl).alloc _).below b3
  have c3 : Below w.heap.size w w3 := by have z := c2.size; first | exact chain c2 b3 | exact chain (c2.alloc z _) b3 | exact chain ((c2.alloc z _).alloc (by simp; omega) _) b3
  clear b3 c2 A2
  clear sa pa qa
  obtain ⟨sa, pa, qa⟩ := id A3
  obtain ⟨sb, pb, qb⟩ := id B3
  go_wp2_with fail
  refine (h.add ⟨1, 6⟩ ⟨1, 10⟩ _ (small_In (by decide) (by decide) (by decide) (by decide)) (small_In (by decide) (by decide) (by decide) (by decide))).mono ?_
  rintro e w4 ⟨rfl, b4⟩
  rw [ex4]
  simp only [rok]
  have A4 : At w4 w1.heap.size ⟨-3, 2⟩ := by first | exact A3.below b4 | exact (A3.alloc _).below b4 | exact ((A3.alloc _).alloc _).below b4
  have B4 : At w4 w2.heap.size ⟨0, 1⟩ := by first | exact B3.below b4 | exact (B3.alloc _).below b4 | exact ((B3.alloc _).alloc _).below b4
  have c4 : Below w.heap.size w w4 := by have z := c3.size; first | exact chain c3 b4 | exact chain (c3.alloc z _) b4 | exact chain ((c3.alloc z _).alloc (by simp; omega) _) b4
  clear b4 c3 A3 B3
  clear sa pa qa sb pb qb
  obtain ⟨sa, pa, qa⟩ := id A4
  obtain ⟨sb, pb, qb⟩ := id B4
  go_wp2_with fail
  refine (h.mul ⟨1152921504606846976, 1⟩ ⟨2, 1⟩ _ (small_In (by decide) (by decide) (by decide) (by decide)) (small_In (by decide) (by decide) (by decide) (by decide))).mono ?_
  rintro e w5 ⟨rfl, b5⟩
  rw [ex5]
  simp only [rok]
  have A5 : At w5 w1.heap.size ⟨-3, 2⟩ := by first | exact A4.below b5 | exact (A4.alloc _).below b5 | exact ((A4.alloc _).alloc _).below b5
  have B5 : At w5 w2.heap.size ⟨0, 1⟩ := by first | exact B4.below b5 | exact (B4.alloc _).below b5 | exact ((B4.alloc _).alloc _).below b5
  have C5 : At w5 w4.heap.size ⟨4, 15⟩ := by first | exact (At.new w4 ⟨4, 15⟩ _ _ rfl).below b5 | exact ((At.new w4 ⟨4, 15⟩ _ _ rfl).alloc _).below b5
  have c5 : Below w.heap.size w w5 := by have z := c4.size; first | exact chain c4 b5 | exact chain (c4.alloc z _) b5 | exact chain ((c4.alloc z _).alloc (by simp; omega) _) b5
  clear b5 c4 A4 B4
  clear sa pa qa sb pb qb
  obtain ⟨sa, pa, qa⟩ := id A5
  obtain ⟨sb, pb, qb⟩ := id B5
  obtain ⟨sc, pc, qc⟩ := id C5
  go_wp2_with fail
  refine (h.div ⟨1, 2⟩ ⟨0, 1⟩ _ (small_In (by decide) (by decide) (by decide) (by decide)) (small_In (by decide) (by decide) (by decide) (by decide))).mono ?_
  rintro e w6 ⟨rfl, b6⟩
  rw [ex6]
  simp only [rok]
  have A6 : At w6 w1.heap.size ⟨-3, 2⟩ := by first | exact A5.below b6 | exact (A5.alloc _).below b6 | exact ((A5.alloc _).alloc _).below b6
  have B6 : At w6 w2.heap.size ⟨0, 1⟩ := by first | exact B5.below b6 | exact (B5.alloc _).below b6 | exact ((B5.alloc _).alloc _).below b6
  have C6 : At w6 w4.heap.size ⟨4, 15⟩ := by first | exact C5.below b6 | exact (C5.alloc _).below b6 | exact ((C5.alloc _).alloc _).below b6
  have c6 : Below w.heap.size w w6 := by have z := c5.size; first | exact chain c5 b6 | exact chain (c5.alloc z _) b6 | exact chain ((c5.alloc z _).alloc (by simp; omega) _) b6
  clear b6 c5 A5 B5 C5
  clear sa pa qa sb pb qb sc pc qc
  obtain ⟨sa, pa, qa⟩ := id A6
  obtain ⟨sb, pb, qb⟩ := id B6
  obtain ⟨sc, pc, qc⟩ := id C6
  go_wp2_with fail
  refine (h.floor ⟨-3, 2⟩ _ (small_In (by decide) (by decide) (by decide) (by decide))).mono ?_
  rintro e w7 ⟨rfl, b7⟩
  rw [ex7]
  have A7 : At w7 w1.heap.size ⟨-3, 2⟩ := by first | exact A6.below b7 | exact (A6.alloc _).below b7 | exact ((A6.alloc _).alloc _).below b7
  have B7 : At w7 w2.heap.size ⟨0, 1⟩ := by first | exact B6.below b7 | exact (B6.alloc _).below b7 | exact ((B6.alloc _).alloc _).below b7
  have C7 : At w7 w4.heap.size ⟨4, 15⟩ := by first | exact C6.below b7 | exact (C6.alloc _).below b7 | exact ((C6.alloc _).alloc _).below b7
  have c7 : Below w.heap.size w w7 := by have z := c6.size; first | exact chain c6 b7 | exact chain (c6.alloc z _) b7 | exact chain ((c6.alloc z _).alloc (by simp; omega) _) b7
  clear b7 c6 A6 B6 C6
  clear sa pa qa sb pb qb sc pc qc
  obtain ⟨sa, pa, qa⟩ := id A7
  obtain ⟨sb, pb, qb⟩ := id B7
  obtain ⟨sc, pc, qc⟩ := id C7
  go_wp2_with fail
  refine (h.ceil ⟨-3, 2⟩ _ (small_In (by decide) (by decide) (by decide) (by decide))).mono ?_
  rintro e w8 ⟨rfl, b8⟩
  rw [ex8]
  have A8 : At w8 w1.heap.size ⟨-3, 2⟩ := by first | exact A7.below b8 | exact (A7.alloc _).below b8 | exact ((A7.alloc _).alloc _).below b8
  have B8 : At w8 w2.heap.size ⟨0, 1⟩ := by first | exact B7.below b8 | exact (B7.alloc _).below b8 | exact ((B7.alloc _).alloc _).below b8
  have C8 : At w8 w4.heap.size ⟨4, 15⟩ := by first | exact C7.below b8 | exact (C7.alloc _).below b8 | exact ((C7.alloc _).alloc _).below b8
  have c8 : Below w.heap.size w w8 := by have z := c7.size; first | exact chain c7 b8 | exact chain (c7.alloc z _) b8 | exact chain ((c7.alloc z _).alloc (by simp; omega) _) b8
  clear b8 c7 A7 B7 C7
  clear sa pa qa sb pb qb sc pc qc
  obtain ⟨sa, pa, qa⟩ := id A8
  obtain ⟨sb, pb, qb⟩ := id B8
  obtain ⟨sc, pc, qc⟩ := id C8
  go_wp2_with fail
  refine (h.nearest ⟨-3, 2⟩ _ (small_In (by decide) (by decide) (by decide) (by decide))).mono ?_
  rintro e w9 ⟨rfl, b9⟩
  rw [ex9]
  have A9 : At w9 w1.heap.size ⟨-3, 2⟩ := by first | exact A8.below b9 | exact (A8.alloc _).below b9 | exact ((A8.alloc _).alloc _).below b9
  have B9 : At w9 w2.heap.size ⟨0, 1⟩ := by first | exact B8.below b9 | exact (B8.alloc _).below b9 | exact ((B8.alloc _).alloc _).below b9
  have C9 : At w9 w4.heap.size ⟨4, 15⟩ := by first | exact C8.below b9 | exact (C8.alloc _).below b9 | exact ((C8.alloc _).alloc _).below b9
  have c9 : Below w.heap.size w w9 := by have z := c8.size; first | exact chain c8 b9 | exact chain (c8.alloc z _) b9 | exact chain ((c8.alloc z _).alloc (by simp; omega) _) b9
  clear b9 c8 A8 B8 C8
  clear sa pa qa sb pb qb sc pc qc
  obtain ⟨sa, pa, qa⟩ := id A9
  obtain ⟨sb, pb, qb⟩ := id B9
  obtain ⟨sc, pc, qc⟩ := id C9
  go_wp2_with fail
  refine (h.nearest ⟨5, 2⟩ _ (small_In (by decide) (by decide) (by decide) (by decide))).mono ?_
  rintro e w10 ⟨rfl, b10⟩
  rw [ex10]
  have A10 : At w10 w1.heap.size ⟨-3, 2⟩ := by first | exact A9.below b10 | exact (A9.alloc _).below b10 | exact ((A9.alloc _).alloc _).below b10
  have B10 : At w10 w2.heap.size ⟨0, 1⟩ := by first | exact B9.below b10 | exact (B9.alloc _).below b10 | exact ((B9.alloc _).alloc _).below b10
  have C10 : At w10 w4.heap.size ⟨4, 15⟩ := by first | exact C9.below b10 | exact (C9.alloc _).below b10 | exact ((C9.alloc _).alloc _).below b10
  have c10 : Below w.heap.size w w10 := by have z := c9.size; first | exact chain c9 b10 | exact chain (c9.alloc z _) b10 | exact chain ((c9.alloc z _).alloc (by simp; omega) _) b10
  clear b10 c9 A9 B9 C9
  clear sa pa qa sb pb qb sc pc qc
  obtain ⟨sa, pa, qa⟩ := id A10
  obtain ⟨sb, pb, qb⟩ := id B10
  obtain ⟨sc, pc, qc⟩ := id C10
  go_wp2_with fail
  refine (h.cmp ⟨-3, 2⟩ ⟨0, 1⟩ _ (small_In (by decide) (by decide) (by decide) (by decide)) (small_In (by decide) (by decide) (by decide) (by decide))).mono ?_
  rintro e w11 ⟨rfl, b11⟩
  rw [ex11]
  have A11 : At w11 w1.heap.size ⟨-3, 2⟩ := by first | exact A10.below b11 | exact (A10.alloc _).below b11 | exact ((A10.alloc _).alloc _).below b11
  have B11 : At w11 w2.heap.size ⟨0, 1⟩ := by first | exact B10.below b11 | exact (B10.alloc _).below b11 | exact ((B10.alloc _).alloc _).below b11
  have C11 : At w11 w4.heap.size ⟨4, 15⟩ := by first | exact C10.below b11 | exact (C10.alloc _).below b11 | exact ((C10.alloc _).alloc _).below b11
  have c11 : Below w.heap.size w w11 := by have z := c10.size; first | exact chain c10 b11 | exact chain (c10.alloc z _) b11 | exact chain ((c10.alloc z _).alloc (by simp; omega) _) b11
  clear b11 c10 A10 B10 C10
  clear sa pa qa sb pb qb sc pc qc
  obtain ⟨sa, pa, qa⟩ := id A11
  obtain ⟨sb, pb, qb⟩ := id B11
  obtain ⟨sc, pc, qc⟩ := id C11
  go_wp2_with fail
  refine (h.right ⟨-3, 2⟩ _ (small_In (by decide) (by decide) (by decide) (by decide))).mono ?_
  rintro e w12 ⟨rfl, b12⟩
  rw [ex12]
  have A12 : At w12 w1.heap.size ⟨-3, 2⟩ := by first | exact A11.below b12 | exact (A11.alloc _).below b12 | exact ((A11.alloc _).alloc _).below b12
  have B12 : At w12 w2.heap.size ⟨0, 1⟩ := by first | exact B11.below b12 | exact (B11.alloc _).below b12 | exact ((B11.alloc _).alloc _).below b12
  have C12 : At w12 w4.heap.size ⟨4, 15⟩ := by first | exact C11.below b12 | exact (C11.alloc _).below b12 | exact ((C11.alloc _).alloc _).below b12
  have c12 : Below w.heap.size w w12 := by have z := c11.size; first | exact chain c11 b12 | exact chain (c11.alloc z _) b12 | exact chain ((c11.alloc z _).alloc (by simp; omega) _) b12
  clear b12 c11 A11 B11 C11
  clear sa pa qa sb pb qb sc pc qc
  obtain ⟨sa, pa, qa⟩ := id A12
  obtain ⟨sb, pb, qb⟩ := id B12
  obtain ⟨sc, pc, qc⟩ := id C12
  go_wp2_with fail
  go_ret
  have z := c12.size
  first | exact ⟨rfl, c12⟩ | exact ⟨rfl, c12.alloc z _⟩ | exact ⟨rfl, (c12.alloc z _).alloc (by simp; omega) _⟩

end Go.Proofs.Ytnddfngdlmdmhaa
