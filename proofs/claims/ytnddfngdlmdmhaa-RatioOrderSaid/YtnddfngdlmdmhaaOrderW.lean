/-
  The law RatioOrder's walk.
-/
import Derived.Test.YtnddfngdlmdmhaaSane
namespace Go.Proofs.Ytnddfngdlmdmhaa
open Go.RowKit

theorem same_ways (a b : Rt.R) : (a = b ∧ (a.n == b.n) = true ∧ (a.d == b.d) = true) ∨ (a ≠ b ∧ ((a.n == b.n) = false ∨ (a.n == b.n) = true ∧ (a.d == b.d) = false)) := by
  by_cases h1 : a.n = b.n
  · by_cases h2 : a.d = b.d
    · exact .inl ⟨Rt.R.ext' h1 h2, int_eq h1, int_eq h2⟩
    · exact .inr ⟨fun h => h2 (by rw [h]), .inr ⟨int_eq h1, int_ne h2⟩⟩
  · exact .inr ⟨fun h => h1 (by rw [h]), .inl (int_ne h1)⟩

theorem sub_ways {a b : Rt.R} (h1 : Rt.right a = true) (h2 : Rt.right b = true) : (∃ d, Rt.sub a b = (d, 0) ∧ In d ∧ (d.n < 0 ↔ Rt.cmp a b < 0) ∧ (0 < d.n ↔ 0 < Rt.cmp a b)) ∨ Rt.sub a b = (⟨0, 0⟩, 3) := by
  rcases Rt.give_ways (a.n * b.d - b.n * a.d) (a.d * b.d) with ⟨d, hd⟩ | hd
  · have e : Rt.sub a b = (d, 0) := by unfold Rt.sub; rw [Rt.two_right h1 h2, hd]
    obtain ⟨k1, k2⟩ := Rt.sub_sign h1 h2 e
    exact .inl ⟨d, e, right_In (Rt.give_ok (Rt.mul_ne (Rt.ne h1) (Rt.ne h2)) hd).1, k1, k2⟩
  · exact .inr (by unfold Rt.sub; rw [Rt.two_right h1 h2, hd])

/-- the order of three right ratios, by cases -/
theorem order_ways {a b c : Rt.R} (ha : Rt.right a = true) (hb : Rt.right b = true) (hc : Rt.right c = true) :
    (Rt.cmp a b = -1 ∧ Rt.cmp b a = 1 ∧ ((a.n == b.n) = false ∨ (a.n == b.n) = true ∧ (a.d == b.d) = false) ∧ ((∃ d, Rt.sub a b = (d, 0) ∧ In d ∧ d.n < 0) ∨ Rt.sub a b = (⟨0, 0⟩, 3)) ∧
      ((∃ y, Rt.cmp b c = y ∧ 0 < y) ∨ (∃ y z, Rt.cmp b c = y ∧ y ≤ 0 ∧ Rt.cmp a c = z ∧ z ≤ 0))) ∨
    (Rt.cmp a b = 0 ∧ Rt.cmp b a = 0 ∧ ((a.n == b.n) = true ∧ (a.d == b.d) = true) ∧ ((∃ d, Rt.sub a b = (d, 0) ∧ In d ∧ 0 ≤ d.n ∧ d.n ≤ 0) ∨ Rt.sub a b = (⟨0, 0⟩, 3)) ∧
      ((∃ y, Rt.cmp b c = y ∧ 0 < y) ∨ (∃ y z, Rt.cmp b c = y ∧ y ≤ 0 ∧ Rt.cmp a c = z ∧ z ≤ 0))) ∨
    (Rt.cmp a b = 1 ∧ Rt.cmp b a = -1 ∧ ((a.n == b.n) = false ∨ (a.n == b.n) = true ∧ (a.d == b.d) = false) ∧ ((∃ d, Rt.sub a b = (d, 0) ∧ In d ∧ 0 < d.n) ∨ Rt.sub a b = (⟨0, 0⟩, 3))) := by
  have hn := Rt.cmp_neg ha hb
  have hz := Rt.cmp_zero ha hb
  have hsub := sub_ways ha hb
  have htr : Rt.cmp a b ≤ 0 → ((∃ y, Rt.cmp b c = y ∧ 0 < y) ∨ (∃ y z, Rt.cmp b c = y ∧ y ≤ 0 ∧ Rt.cmp a c = z ∧ z ≤ 0)) := fun h => by
    by_cases hy : Rt.cmp b c ≤ 0
    · exact .inr ⟨_, _, rfl, hy, rfl, Rt.cmp_trans ha hb hc h hy⟩
    · exact .inl ⟨_, rfl, by omega⟩
  have hne : Rt.cmp a b ≠ 0 → ((a.n == b.n) = false ∨ (a.n == b.n) = true ∧ (a.d == b.d) = false) := fun h => by
    rcases same_ways a b with ⟨e, _⟩ | ⟨_, e⟩
    · exact absurd (hz.2 e) h
    · exact e
  rcases Rt.cmp_three a b with h | h | h
  · left
    refine ⟨h, by omega, hne (by omega), ?_, htr (by omega)⟩
    rcases hsub with ⟨d, e, hd, k1, k2⟩ | e
    · exact .inl ⟨d, e, hd, k1.2 (by omega)⟩
    · exact .inr e
  · right; left
    refine ⟨h, by omega, ?_, ?_, htr (by omega)⟩
    · rw [hz.1 h]; exact ⟨int_eq rfl, int_eq rfl⟩
    · rcases hsub with ⟨d, e, hd, k1, k2⟩ | e
      · exact .inl ⟨d, e, hd, by omega, by omega⟩
      · exact .inr e
  · right; right
    refine ⟨h, by omega, hne (by omega), ?_⟩
    rcases hsub with ⟨d, e, hd, k1, k2⟩ | e
    · exact .inl ⟨d, e, hd, k2.2 (by omega)⟩
    · exact .inr e

set_option maxHeartbeats 12800000 in
set_option maxRecDepth 100000 in
theorem RatioOrder_x (h : RatioOk) (a b c : Rt.R) (w : World) (ha : In a) (hb : In b) (hc : In c) :
    Calls Try.prog 6 #[.agg #[.int .i64 a.n, .int .i64 a.d], .agg #[.int .i64 b.n, .int .i64 b.d], .agg #[.int .i64 c.n, .int .i64 c.d]] w fun e w' => e = .returned (.bool true) ∧ Below w.heap.size w w' := by
  cases Ra : Rt.right a with
  | false =>
    have HRa := Lib.hid Ra
    clear Ra
    go_enter Try.func6, Try.ntmps6
    go_wp2_with fail
    refine (sane_x h _).mono ?_
    rintro e w1 ⟨rfl, b1⟩
    have A1 : At w1 w.heap.size a := (((At.new w a _ w.heap.size rfl).alloc _).alloc _).below b1
    have B1 : At w1 (w.heap.size + 1) b := ((At.new (w.alloc _) b _ (w.heap.size + 1) (by simp)).alloc _).below b1
    have C1 : At w1 (w.heap.size + 2) c := (At.new ((w.alloc _).alloc _) c _ (w.heap.size + 2) (by simp)).below b1
    have c1 := chain ((((Below.refl w.heap.size w).alloc (Nat.le_refl _) _).alloc (by simp; try omega) _).alloc (by simp; try omega) _) b1
    clear b1
    obtain ⟨sa, pa, qa⟩ := id A1
    obtain ⟨sb, pb, qb⟩ := id B1
    obtain ⟨sc, pc, qc⟩ := id C1
    go_wp2_with fail
    refine (h.right a _ ha).mono ?_
    rintro e w2 ⟨rfl, b2⟩
    rw [HRa.out]
    have A2 : At w2 w.heap.size a := by first | exact A1.below b2 | exact (A1.alloc _).below b2 | exact ((A1.alloc _).alloc _).below b2
    have B2 : At w2 (w.heap.size + 1) b := by first | exact B1.below b2 | exact (B1.alloc _).below b2 | exact ((B1.alloc _).alloc _).below b2
    have C2 : At w2 (w.heap.size + 2) c := by first | exact C1.below b2 | exact (C1.alloc _).below b2 | exact ((C1.alloc _).alloc _).below b2
    have c2 : Below w.heap.size w w2 := by have z := c1.size; first | exact chain c1 b2 | exact chain (c1.alloc z _) b2 | exact chain ((c1.alloc z _).alloc (by simp; omega) _) b2
    clear b2 c1 A1 B1 C1
    clear sa pa qa sb pb qb sc pc qc
    obtain ⟨sa, pa, qa⟩ := id A2
    obtain ⟨sb, pb, qb⟩ := id B2
    obtain ⟨sc, pc, qc⟩ := id C2
    go_wp2_with fail
    go_ret
    have z := c2.size
    first | exact ⟨rfl, c2⟩ | exact ⟨rfl, c2.alloc z _⟩ | exact ⟨rfl, (c2.alloc z _).alloc (by simp; omega) _⟩
  | true =>
    cases Rb : Rt.right b with
    | false =>
      have HRa := Lib.hid Ra
      have HRb := Lib.hid Rb
      clear Ra Rb
      go_enter Try.func6, Try.ntmps6
      go_wp2_with fail
      refine (sane_x h _).mono ?_
      rintro e w1 ⟨rfl, b1⟩
      have A1 : At w1 w.heap.size a := (((At.new w a _ w.heap.size rfl).alloc _).alloc _).below b1
      have B1 : At w1 (w.heap.size + 1) b := ((At.new (w.alloc _) b _ (w.heap.size + 1) (by simp)).alloc _).below b1
      have C1 : At w1 (w.heap.size + 2) c := (At.new ((w.alloc _).alloc _) c _ (w.heap.size + 2) (by simp)).below b1
      have c1 := chain ((((Below.refl w.heap.size w).alloc (Nat.le_refl _) _).alloc (by simp; try omega) _).alloc (by simp; try omega) _) b1
      clear b1
      obtain ⟨sa, pa, qa⟩ := id A1
      obtain ⟨sb, pb, qb⟩ := id B1
      obtain ⟨sc, pc, qc⟩ := id C1
      go_wp2_with fail
      refine (h.right a _ ha).mono ?_
      rintro e w2 ⟨rfl, b2⟩
      rw [HRa.out]
      have A2 : At w2 w.heap.size a := by first | exact A1.below b2 | exact (A1.alloc _).below b2 | exact ((A1.alloc _).alloc _).below b2
      have B2 : At w2 (w.heap.size + 1) b := by first | exact B1.below b2 | exact (B1.alloc _).below b2 | exact ((B1.alloc _).alloc _).below b2
      have C2 : At w2 (w.heap.size + 2) c := by first | exact C1.below b2 | exact (C1.alloc _).below b2 | exact ((C1.alloc _).alloc _).below b2
      have c2 : Below w.heap.size w w2 := by have z := c1.size; first | exact chain c1 b2 | exact chain (c1.alloc z _) b2 | exact chain ((c1.alloc z _).alloc (by simp; omega) _) b2
      clear b2 c1 A1 B1 C1
      clear sa pa qa sb pb qb sc pc qc
      obtain ⟨sa, pa, qa⟩ := id A2
      obtain ⟨sb, pb, qb⟩ := id B2
      obtain ⟨sc, pc, qc⟩ := id C2
      go_wp2_with fail
      refine (h.right b _ hb).mono ?_
      rintro e w3 ⟨rfl, b3⟩
      rw [HRb.out]
      have A3 : At w3 w.heap.size a := by first | exact A2.below b3 | exact (A2.alloc _).below b3 | exact ((A2.alloc _).alloc _).below b3
      have B3 : At w3 (w.heap.size + 1) b := by first | exact B2.below b3 | exact (B2.alloc _).below b3 | exact ((B2.alloc _).alloc _).below b3
      have C3 : At w3 (w.heap.size + 2) c := by first | exact C2.below b3 | exact (C2.alloc _).below b3 | exact ((C2.alloc _).alloc _).below b3
      have c3 : Below w.heap.size w w3 := by have z := c2.size; first | exact chain c2 b3 | exact chain (c2.alloc z _) b3 | exact chain ((c2.alloc z _).alloc (by simp; omega) _) b3
      clear b3 c2 A2 B2 C2
      clear sa pa qa sb pb qb sc pc qc
      obtain ⟨sa, pa, qa⟩ := id A3
      obtain ⟨sb, pb, qb⟩ := id B3
      obtain ⟨sc, pc, qc⟩ := id C3
      go_wp2_with fail
      go_ret
      have z := c3.size
      first | exact ⟨rfl, c3⟩ | exact ⟨rfl, c3.alloc z _⟩ | exact ⟨rfl, (c3.alloc z _).alloc (by simp; omega) _⟩
    | true =>
      cases Rc : Rt.right c with
      | false =>
        have HRa := Lib.hid Ra
        have HRb := Lib.hid Rb
        have HRc := Lib.hid Rc
        clear Ra Rb Rc
        go_enter Try.func6, Try.ntmps6
        go_wp2_with fail
        refine (sane_x h _).mono ?_
        rintro e w1 ⟨rfl, b1⟩
        have A1 : At w1 w.heap.size a := (((At.new w a _ w.heap.size rfl).alloc _).alloc _).below b1
        have B1 : At w1 (w.heap.size + 1) b := ((At.new (w.alloc _) b _ (w.heap.size + 1) (by simp)).alloc _).below b1
        have C1 : At w1 (w.heap.size + 2) c := (At.new ((w.alloc _).alloc _) c _ (w.heap.size + 2) (by simp)).below b1
        have c1 := chain ((((Below.refl w.heap.size w).alloc (Nat.le_refl _) _).alloc (by simp; try omega) _).alloc (by simp; try omega) _) b1
        clear b1
        obtain ⟨sa, pa, qa⟩ := id A1
        obtain ⟨sb, pb, qb⟩ := id B1
        obtain ⟨sc, pc, qc⟩ := id C1
        go_wp2_with fail
        refine (h.right a _ ha).mono ?_
        rintro e w2 ⟨rfl, b2⟩
        rw [HRa.out]
        have A2 : At w2 w.heap.size a := by first | exact A1.below b2 | exact (A1.alloc _).below b2 | exact ((A1.alloc _).alloc _).below b2
        have B2 : At w2 (w.heap.size + 1) b := by first | exact B1.below b2 | exact (B1.alloc _).below b2 | exact ((B1.alloc _).alloc _).below b2
        have C2 : At w2 (w.heap.size + 2) c := by first | exact C1.below b2 | exact (C1.alloc _).below b2 | exact ((C1.alloc _).alloc _).below b2
        have c2 : Below w.heap.size w w2 := by have z := c1.size; first | exact chain c1 b2 | exact chain (c1.alloc z _) b2 | exact chain ((c1.alloc z _).alloc (by simp; omega) _) b2
        clear b2 c1 A1 B1 C1
        clear sa pa qa sb pb qb sc pc qc
        obtain ⟨sa, pa, qa⟩ := id A2
        obtain ⟨sb, pb, qb⟩ := id B2
        obtain ⟨sc, pc, qc⟩ := id C2
        go_wp2_with fail
        refine (h.right b _ hb).mono ?_
        rintro e w3 ⟨rfl, b3⟩
        rw [HRb.out]
        have A3 : At w3 w.heap.size a := by first | exact A2.below b3 | exact (A2.alloc _).below b3 | exact ((A2.alloc _).alloc _).below b3
        have B3 : At w3 (w.heap.size + 1) b := by first | exact B2.below b3 | exact (B2.alloc _).below b3 | exact ((B2.alloc _).alloc _).below b3
        have C3 : At w3 (w.heap.size + 2) c := by first | exact C2.below b3 | exact (C2.alloc _).below b3 | exact ((C2.alloc _).alloc _).below b3
        have c3 : Below w.heap.size w w3 := by have z := c2.size; first | exact chain c2 b3 | exact chain (c2.alloc z _) b3 | exact chain ((c2.alloc z _).alloc (by simp; omega) _) b3
        clear b3 c2 A2 B2 C2
        clear sa pa qa sb pb qb sc pc qc
        obtain ⟨sa, pa, qa⟩ := id A3
        obtain ⟨sb, pb, qb⟩ := id B3
        obtain ⟨sc, pc, qc⟩ := id C3
        go_wp2_with fail
        refine (h.right c _ hc).mono ?_
        rintro e w4 ⟨rfl, b4⟩
        rw [HRc.out]
        have A4 : At w4 w.heap.size a := by first | exact A3.below b4 | exact (A3.alloc _).below b4 | exact ((A3.alloc _).alloc _).below b4
        have B4 : At w4 (w.heap.size + 1) b := by first | exact B3.below b4 | exact (B3.alloc _).below b4 | exact ((B3.alloc _).alloc _).below b4
        have C4 : At w4 (w.heap.size + 2) c := by first | exact C3.below b4 | exact (C3.alloc _).below b4 | exact ((C3.alloc _).alloc _).below b4
        have c4 : Below w.heap.size w w4 := by have z := c3.size; first | exact chain c3 b4 | exact chain (c3.alloc z _) b4 | exact chain ((c3.alloc z _).alloc (by simp; omega) _) b4
        clear b4 c3 A3 B3 C3
        clear sa pa qa sb pb qb sc pc qc
        obtain ⟨sa, pa, qa⟩ := id A4
        obtain ⟨sb, pb, qb⟩ := id B4
        obtain ⟨sc, pc, qc⟩ := id C4
        go_wp2_with fail
        go_ret
        have z := c4.size
        first | exact ⟨rfl, c4⟩ | exact ⟨rfl, c4.alloc z _⟩ | exact ⟨rfl, (c4.alloc z _).alloc (by simp; omega) _⟩
      | true =>
        rcases order_ways Ra Rb Rc with ⟨X, Y, E, S, T⟩ | ⟨X, Y, E, S, T⟩ | ⟨X, Y, E, S⟩
        · have HRa := Lib.hid Ra
          have HRb := Lib.hid Rb
          have HRc := Lib.hid Rc
          have HX := Lib.hid X
          have HY := Lib.hid Y
          clear Ra Rb Rc X Y
          rcases E with E1 | ⟨E1, E2⟩
          · rcases S with ⟨d, S, hd, sd⟩ | S
            · have HS := Lib.hid S
              clear S
              have sd1 : decide (d.n < 0) = true := by simp; omega
              have sd2 : decide (0 < d.n) = false := by simp; omega
              rcases T with ⟨y, T, hy⟩ | ⟨y, z, T, hy, U, hz⟩
              · have HT := Lib.hid T
                clear T
                go_enter Try.func6, Try.ntmps6
                go_wp2_with fail
                refine (sane_x h _).mono ?_
                rintro e w1 ⟨rfl, b1⟩
                have A1 : At w1 w.heap.size a := (((At.new w a _ w.heap.size rfl).alloc _).alloc _).below b1
                have B1 : At w1 (w.heap.size + 1) b := ((At.new (w.alloc _) b _ (w.heap.size + 1) (by simp)).alloc _).below b1
                have C1 : At w1 (w.heap.size + 2) c := (At.new ((w.alloc _).alloc _) c _ (w.heap.size + 2) (by simp)).below b1
                have c1 := chain ((((Below.refl w.heap.size w).alloc (Nat.le_refl _) _).alloc (by simp; try omega) _).alloc (by simp; try omega) _) b1
                clear b1
                obtain ⟨sa, pa, qa⟩ := id A1
                obtain ⟨sb, pb, qb⟩ := id B1
                obtain ⟨sc, pc, qc⟩ := id C1
                go_wp2_with fail
                refine (h.right a _ ha).mono ?_
                rintro e w2 ⟨rfl, b2⟩
                rw [HRa.out]
                have A2 : At w2 w.heap.size a := by first | exact A1.below b2 | exact (A1.alloc _).below b2 | exact ((A1.alloc _).alloc _).below b2
                have B2 : At w2 (w.heap.size + 1) b := by first | exact B1.below b2 | exact (B1.alloc _).below b2 | exact ((B1.alloc _).alloc _).below b2
                have C2 : At w2 (w.heap.size + 2) c := by first | exact C1.below b2 | exact (C1.alloc _).below b2 | exact ((C1.alloc _).alloc _).below b2
                have c2 : Below w.heap.size w w2 := by have z := c1.size; first | exact chain c1 b2 | exact chain (c1.alloc z _) b2 | exact chain ((c1.alloc z _).alloc (by simp; omega) _) b2
                clear b2 c1 A1 B1 C1
                clear sa pa qa sb pb qb sc pc qc
                obtain ⟨sa, pa, qa⟩ := id A2
                obtain ⟨sb, pb, qb⟩ := id B2
                obtain ⟨sc, pc, qc⟩ := id C2
                go_wp2_with fail
                refine (h.right b _ hb).mono ?_
                rintro e w3 ⟨rfl, b3⟩
                rw [HRb.out]
                have A3 : At w3 w.heap.size a := by first | exact A2.below b3 | exact (A2.alloc _).below b3 | exact ((A2.alloc _).alloc _).below b3
                have B3 : At w3 (w.heap.size + 1) b := by first | exact B2.below b3 | exact (B2.alloc _).below b3 | exact ((B2.alloc _).alloc _).below b3
                have C3 : At w3 (w.heap.size + 2) c := by first | exact C2.below b3 | exact (C2.alloc _).below b3 | exact ((C2.alloc _).alloc _).below b3
                have c3 : Below w.heap.size w w3 := by have z := c2.size; first | exact chain c2 b3 | exact chain (c2.alloc z _) b3 | exact chain ((c2.alloc z _).alloc (by simp; omega) _) b3
                clear b3 c2 A2 B2 C2
                clear sa pa qa sb pb qb sc pc qc
                obtain ⟨sa, pa, qa⟩ := id A3
                obtain ⟨sb, pb, qb⟩ := id B3
                obtain ⟨sc, pc, qc⟩ := id C3
                go_wp2_with fail
                refine (h.right c _ hc).mono ?_
                rintro e w4 ⟨rfl, b4⟩
                rw [HRc.out]
                have A4 : At w4 w.heap.size a := by first | exact A3.below b4 | exact (A3.alloc _).below b4 | exact ((A3.alloc _).alloc _).below b4
                have B4 : At w4 (w.heap.size + 1) b := by first | exact B3.below b4 | exact (B3.alloc _).below b4 | exact ((B3.alloc _).alloc _).below b4
                have C4 : At w4 (w.heap.size + 2) c := by first | exact C3.below b4 | exact (C3.alloc _).below b4 | exact ((C3.alloc _).alloc _).below b4
                have c4 : Below w.heap.size w w4 := by have z := c3.size; first | exact chain c3 b4 | exact chain (c3.alloc z _) b4 | exact chain ((c3.alloc z _).alloc (by simp; omega) _) b4
                clear b4 c3 A3 B3 C3
                clear sa pa qa sb pb qb sc pc qc
                obtain ⟨sa, pa, qa⟩ := id A4
                obtain ⟨sb, pb, qb⟩ := id B4
                obtain ⟨sc, pc, qc⟩ := id C4
                go_wp2_with fail
                refine (h.cmp a b _ ha hb).mono ?_
                rintro e w5 ⟨rfl, b5⟩
                rw [HX.out]
                have A5 : At w5 w.heap.size a := by first | exact A4.below b5 | exact (A4.alloc _).below b5 | exact ((A4.alloc _).alloc _).below b5
                have B5 : At w5 (w.heap.size + 1) b := by first | exact B4.below b5 | exact (B4.alloc _).below b5 | exact ((B4.alloc _).alloc _).below b5
                have C5 : At w5 (w.heap.size + 2) c := by first | exact C4.below b5 | exact (C4.alloc _).below b5 | exact ((C4.alloc _).alloc _).below b5
                have c5 : Below w.heap.size w w5 := by have z := c4.size; first | exact chain c4 b5 | exact chain (c4.alloc z _) b5 | exact chain ((c4.alloc z _).alloc (by simp; omega) _) b5
                clear b5 c4 A4 B4 C4
                clear sa pa qa sb pb qb sc pc qc
                obtain ⟨sa, pa, qa⟩ := id A5
                obtain ⟨sb, pb, qb⟩ := id B5
                obtain ⟨sc, pc, qc⟩ := id C5
                go_wp2_with fail
                refine (h.cmp b a _ hb ha).mono ?_
                rintro e w6 ⟨rfl, b6⟩
                rw [HY.out]
                have A6 : At w6 w.heap.size a := by first | exact A5.below b6 | exact (A5.alloc _).below b6 | exact ((A5.alloc _).alloc _).below b6
                have B6 : At w6 (w.heap.size + 1) b := by first | exact B5.below b6 | exact (B5.alloc _).below b6 | exact ((B5.alloc _).alloc _).below b6
                have C6 : At w6 (w.heap.size + 2) c := by first | exact C5.below b6 | exact (C5.alloc _).below b6 | exact ((C5.alloc _).alloc _).below b6
                have c6 : Below w.heap.size w w6 := by have z := c5.size; first | exact chain c5 b6 | exact chain (c5.alloc z _) b6 | exact chain ((c5.alloc z _).alloc (by simp; omega) _) b6
                clear b6 c5 A5 B5 C5
                clear sa pa qa sb pb qb sc pc qc
                obtain ⟨sa, pa, qa⟩ := id A6
                obtain ⟨sb, pb, qb⟩ := id B6
                obtain ⟨sc, pc, qc⟩ := id C6
                go_wp2_with fail
                refine (h.cmp b c _ hb hc).mono ?_
                rintro e w7 ⟨rfl, b7⟩
                rw [HT.out]
                have A7 : At w7 w.heap.size a := by first | exact A6.below b7 | exact (A6.alloc _).below b7 | exact ((A6.alloc _).alloc _).below b7
                have B7 : At w7 (w.heap.size + 1) b := by first | exact B6.below b7 | exact (B6.alloc _).below b7 | exact ((B6.alloc _).alloc _).below b7
                have C7 : At w7 (w.heap.size + 2) c := by first | exact C6.below b7 | exact (C6.alloc _).below b7 | exact ((C6.alloc _).alloc _).below b7
                have c7 : Below w.heap.size w w7 := by have z := c6.size; first | exact chain c6 b7 | exact chain (c6.alloc z _) b7 | exact chain ((c6.alloc z _).alloc (by simp; omega) _) b7
                clear b7 c6 A6 B6 C6
                clear sa pa qa sb pb qb sc pc qc
                obtain ⟨sa, pa, qa⟩ := id A7
                obtain ⟨sb, pb, qb⟩ := id B7
                obtain ⟨sc, pc, qc⟩ := id C7
                go_wp2_with fail
                refine (h.sub a b _ ha hb).mono ?_
                rintro e w8 ⟨rfl, b8⟩
                rw [HS.out]
                simp only [rok]
                have A8 : At w8 w.heap.size a := by first | exact A7.below b8 | exact (A7.alloc _).below b8 | exact ((A7.alloc _).alloc _).below b8
                have B8 : At w8 (w.heap.size + 1) b := by first | exact B7.below b8 | exact (B7.alloc _).below b8 | exact ((B7.alloc _).alloc _).below b8
                have C8 : At w8 (w.heap.size + 2) c := by first | exact C7.below b8 | exact (C7.alloc _).below b8 | exact ((C7.alloc _).alloc _).below b8
                have c8 : Below w.heap.size w w8 := by have z := c7.size; first | exact chain c7 b8 | exact chain (c7.alloc z _) b8 | exact chain ((c7.alloc z _).alloc (by simp; omega) _) b8
                clear b8 c7 A7 B7 C7
                clear sa pa qa sb pb qb sc pc qc
                obtain ⟨sa, pa, qa⟩ := id A8
                obtain ⟨sb, pb, qb⟩ := id B8
                obtain ⟨sc, pc, qc⟩ := id C8
                go_wp2_with fail
                go_ret
                have z := c8.size
                first | exact ⟨rfl, c8⟩ | exact ⟨rfl, c8.alloc z _⟩ | exact ⟨rfl, (c8.alloc z _).alloc (by simp; omega) _⟩
              · have HT := Lib.hid T
                clear T
                have HU := Lib.hid U
                clear U
                go_enter Try.func6, Try.ntmps6
                go_wp2_with fail
                refine (sane_x h _).mono ?_
                rintro e w1 ⟨rfl, b1⟩
                have A1 : At w1 w.heap.size a := (((At.new w a _ w.heap.size rfl).alloc _).alloc _).below b1
                have B1 : At w1 (w.heap.size + 1) b := ((At.new (w.alloc _) b _ (w.heap.size + 1) (by simp)).alloc _).below b1
                have C1 : At w1 (w.heap.size + 2) c := (At.new ((w.alloc _).alloc _) c _ (w.heap.size + 2) (by simp)).below b1
                have c1 := chain ((((Below.refl w.heap.size w).alloc (Nat.le_refl _) _).alloc (by simp; try omega) _).alloc (by simp; try omega) _) b1
                clear b1
                obtain ⟨sa, pa, qa⟩ := id A1
                obtain ⟨sb, pb, qb⟩ := id B1
                obtain ⟨sc, pc, qc⟩ := id C1
                go_wp2_with fail
                refine (h.right a _ ha).mono ?_
                rintro e w2 ⟨rfl, b2⟩
                rw [HRa.out]
                have A2 : At w2 w.heap.size a := by first | exact A1.below b2 | exact (A1.alloc _).below b2 | exact ((A1.alloc _).alloc _).below b2
                have B2 : At w2 (w.heap.size + 1) b := by first | exact B1.below b2 | exact (B1.alloc _).below b2 | exact ((B1.alloc _).alloc _).below b2
                have C2 : At w2 (w.heap.size + 2) c := by first | exact C1.below b2 | exact (C1.alloc _).below b2 | exact ((C1.alloc _).alloc _).below b2
                have c2 : Below w.heap.size w w2 := by have z := c1.size; first | exact chain c1 b2 | exact chain (c1.alloc z _) b2 | exact chain ((c1.alloc z _).alloc (by simp; omega) _) b2
                clear b2 c1 A1 B1 C1
                clear sa pa qa sb pb qb sc pc qc
                obtain ⟨sa, pa, qa⟩ := id A2
                obtain ⟨sb, pb, qb⟩ := id B2
                obtain ⟨sc, pc, qc⟩ := id C2
                go_wp2_with fail
                refine (h.right b _ hb).mono ?_
                rintro e w3 ⟨rfl, b3⟩
                rw [HRb.out]
                have A3 : At w3 w.heap.size a := by first | exact A2.below b3 | exact (A2.alloc _).below b3 | exact ((A2.alloc _).alloc _).below b3
                have B3 : At w3 (w.heap.size + 1) b := by first | exact B2.below b3 | exact (B2.alloc _).below b3 | exact ((B2.alloc _).alloc _).below b3
                have C3 : At w3 (w.heap.size + 2) c := by first | exact C2.below b3 | exact (C2.alloc _).below b3 | exact ((C2.alloc _).alloc _).below b3
                have c3 : Below w.heap.size w w3 := by have z := c2.size; first | exact chain c2 b3 | exact chain (c2.alloc z _) b3 | exact chain ((c2.alloc z _).alloc (by simp; omega) _) b3
                clear b3 c2 A2 B2 C2
                clear sa pa qa sb pb qb sc pc qc
                obtain ⟨sa, pa, qa⟩ := id A3
                obtain ⟨sb, pb, qb⟩ := id B3
                obtain ⟨sc, pc, qc⟩ := id C3
                go_wp2_with fail
                refine (h.right c _ hc).mono ?_
                rintro e w4 ⟨rfl, b4⟩
                rw [HRc.out]
                have A4 : At w4 w.heap.size a := by first | exact A3.below b4 | exact (A3.alloc _).below b4 | exact ((A3.alloc _).alloc _).below b4
                have B4 : At w4 (w.heap.size + 1) b := by first | exact B3.below b4 | exact (B3.alloc _).below b4 | exact ((B3.alloc _).alloc _).below b4
                have C4 : At w4 (w.heap.size + 2) c := by first | exact C3.below b4 | exact (C3.alloc _).below b4 | exact ((C3.alloc _).alloc _).below b4
                have c4 : Below w.heap.size w w4 := by have z := c3.size; first | exact chain c3 b4 | exact chain (c3.alloc z _) b4 | exact chain ((c3.alloc z _).alloc (by simp; omega) _) b4
                clear b4 c3 A3 B3 C3
                clear sa pa qa sb pb qb sc pc qc
                obtain ⟨sa, pa, qa⟩ := id A4
                obtain ⟨sb, pb, qb⟩ := id B4
                obtain ⟨sc, pc, qc⟩ := id C4
                go_wp2_with fail
                refine (h.cmp a b _ ha hb).mono ?_
                rintro e w5 ⟨rfl, b5⟩
                rw [HX.out]
                have A5 : At w5 w.heap.size a := by first | exact A4.below b5 | exact (A4.alloc _).below b5 | exact ((A4.alloc _).alloc _).below b5
                have B5 : At w5 (w.heap.size + 1) b := by first | exact B4.below b5 | exact (B4.alloc _).below b5 | exact ((B4.alloc _).alloc _).below b5
                have C5 : At w5 (w.heap.size + 2) c := by first | exact C4.below b5 | exact (C4.alloc _).below b5 | exact ((C4.alloc _).alloc _).below b5
                have c5 : Below w.heap.size w w5 := by have z := c4.size; first | exact chain c4 b5 | exact chain (c4.alloc z _) b5 | exact chain ((c4.alloc z _).alloc (by simp; omega) _) b5
                clear b5 c4 A4 B4 C4
                clear sa pa qa sb pb qb sc pc qc
                obtain ⟨sa, pa, qa⟩ := id A5
                obtain ⟨sb, pb, qb⟩ := id B5
                obtain ⟨sc, pc, qc⟩ := id C5
                go_wp2_with fail
                refine (h.cmp b a _ hb ha).mono ?_
                rintro e w6 ⟨rfl, b6⟩
                rw [HY.out]
                have A6 : At w6 w.heap.size a := by first | exact A5.below b6 | exact (A5.alloc _).below b6 | exact ((A5.alloc _).alloc _).below b6
                have B6 : At w6 (w.heap.size + 1) b := by first | exact B5.below b6 | exact (B5.alloc _).below b6 | exact ((B5.alloc _).alloc _).below b6
                have C6 : At w6 (w.heap.size + 2) c := by first | exact C5.below b6 | exact (C5.alloc _).below b6 | exact ((C5.alloc _).alloc _).below b6
                have c6 : Below w.heap.size w w6 := by have z := c5.size; first | exact chain c5 b6 | exact chain (c5.alloc z _) b6 | exact chain ((c5.alloc z _).alloc (by simp; omega) _) b6
                clear b6 c5 A5 B5 C5
                clear sa pa qa sb pb qb sc pc qc
                obtain ⟨sa, pa, qa⟩ := id A6
                obtain ⟨sb, pb, qb⟩ := id B6
                obtain ⟨sc, pc, qc⟩ := id C6
                go_wp2_with fail
                refine (h.cmp b c _ hb hc).mono ?_
                rintro e w7 ⟨rfl, b7⟩
                rw [HT.out]
                have A7 : At w7 w.heap.size a := by first | exact A6.below b7 | exact (A6.alloc _).below b7 | exact ((A6.alloc _).alloc _).below b7
                have B7 : At w7 (w.heap.size + 1) b := by first | exact B6.below b7 | exact (B6.alloc _).below b7 | exact ((B6.alloc _).alloc _).below b7
                have C7 : At w7 (w.heap.size + 2) c := by first | exact C6.below b7 | exact (C6.alloc _).below b7 | exact ((C6.alloc _).alloc _).below b7
                have c7 : Below w.heap.size w w7 := by have z := c6.size; first | exact chain c6 b7 | exact chain (c6.alloc z _) b7 | exact chain ((c6.alloc z _).alloc (by simp; omega) _) b7
                clear b7 c6 A6 B6 C6
                clear sa pa qa sb pb qb sc pc qc
                obtain ⟨sa, pa, qa⟩ := id A7
                obtain ⟨sb, pb, qb⟩ := id B7
                obtain ⟨sc, pc, qc⟩ := id C7
                go_wp2_with fail
                refine (h.cmp a c _ ha hc).mono ?_
                rintro e w8 ⟨rfl, b8⟩
                rw [HU.out]
                have A8 : At w8 w.heap.size a := by first | exact A7.below b8 | exact (A7.alloc _).below b8 | exact ((A7.alloc _).alloc _).below b8
                have B8 : At w8 (w.heap.size + 1) b := by first | exact B7.below b8 | exact (B7.alloc _).below b8 | exact ((B7.alloc _).alloc _).below b8
                have C8 : At w8 (w.heap.size + 2) c := by first | exact C7.below b8 | exact (C7.alloc _).below b8 | exact ((C7.alloc _).alloc _).below b8
                have c8 : Below w.heap.size w w8 := by have z := c7.size; first | exact chain c7 b8 | exact chain (c7.alloc z _) b8 | exact chain ((c7.alloc z _).alloc (by simp; omega) _) b8
                clear b8 c7 A7 B7 C7
                clear sa pa qa sb pb qb sc pc qc
                obtain ⟨sa, pa, qa⟩ := id A8
                obtain ⟨sb, pb, qb⟩ := id B8
                obtain ⟨sc, pc, qc⟩ := id C8
                go_wp2_with fail
                refine (h.sub a b _ ha hb).mono ?_
                rintro e w9 ⟨rfl, b9⟩
                rw [HS.out]
                simp only [rok]
                have A9 : At w9 w.heap.size a := by first | exact A8.below b9 | exact (A8.alloc _).below b9 | exact ((A8.alloc _).alloc _).below b9
                have B9 : At w9 (w.heap.size + 1) b := by first | exact B8.below b9 | exact (B8.alloc _).below b9 | exact ((B8.alloc _).alloc _).below b9
                have C9 : At w9 (w.heap.size + 2) c := by first | exact C8.below b9 | exact (C8.alloc _).below b9 | exact ((C8.alloc _).alloc _).below b9
                have c9 : Below w.heap.size w w9 := by have z := c8.size; first | exact chain c8 b9 | exact chain (c8.alloc z _) b9 | exact chain ((c8.alloc z _).alloc (by simp; omega) _) b9
                clear b9 c8 A8 B8 C8
                clear sa pa qa sb pb qb sc pc qc
                obtain ⟨sa, pa, qa⟩ := id A9
                obtain ⟨sb, pb, qb⟩ := id B9
                obtain ⟨sc, pc, qc⟩ := id C9
                go_wp2_with fail
                go_ret
                have z := c9.size
                first | exact ⟨rfl, c9⟩ | exact ⟨rfl, c9.alloc z _⟩ | exact ⟨rfl, (c9.alloc z _).alloc (by simp; omega) _⟩
            · have HS := Lib.hid S
              clear S
              rcases T with ⟨y, T, hy⟩ | ⟨y, z, T, hy, U, hz⟩
              · have HT := Lib.hid T
                clear T
                go_enter Try.func6, Try.ntmps6
                go_wp2_with fail
                refine (sane_x h _).mono ?_
                rintro e w1 ⟨rfl, b1⟩
                have A1 : At w1 w.heap.size a := (((At.new w a _ w.heap.size rfl).alloc _).alloc _).below b1
                have B1 : At w1 (w.heap.size + 1) b := ((At.new (w.alloc _) b _ (w.heap.size + 1) (by simp)).alloc _).below b1
                have C1 : At w1 (w.heap.size + 2) c := (At.new ((w.alloc _).alloc _) c _ (w.heap.size + 2) (by simp)).below b1
                have c1 := chain ((((Below.refl w.heap.size w).alloc (Nat.le_refl _) _).alloc (by simp; try omega) _).alloc (by simp; try omega) _) b1
                clear b1
                obtain ⟨sa, pa, qa⟩ := id A1
                obtain ⟨sb, pb, qb⟩ := id B1
                obtain ⟨sc, pc, qc⟩ := id C1
                go_wp2_with fail
                refine (h.right a _ ha).mono ?_
                rintro e w2 ⟨rfl, b2⟩
                rw [HRa.out]
                have A2 : At w2 w.heap.size a := by first | exact A1.below b2 | exact (A1.alloc _).below b2 | exact ((A1.alloc _).alloc _).below b2
                have B2 : At w2 (w.heap.size + 1) b := by first | exact B1.below b2 | exact (B1.alloc _).below b2 | exact ((B1.alloc _).alloc _).below b2
                have C2 : At w2 (w.heap.size + 2) c := by first | exact C1.below b2 | exact (C1.alloc _).below b2 | exact ((C1.alloc _).alloc _).below b2
                have c2 : Below w.heap.size w w2 := by have z := c1.size; first | exact chain c1 b2 | exact chain (c1.alloc z _) b2 | exact chain ((c1.alloc z _).alloc (by simp; omega) _) b2
                clear b2 c1 A1 B1 C1
                clear sa pa qa sb pb qb sc pc qc
                obtain ⟨sa, pa, qa⟩ := id A2
                obtain ⟨sb, pb, qb⟩ := id B2
                obtain ⟨sc, pc, qc⟩ := id C2
                go_wp2_with fail
                refine (h.right b _ hb).mono ?_
                rintro e w3 ⟨rfl, b3⟩
                rw [HRb.out]
                have A3 : At w3 w.heap.size a := by first | exact A2.below b3 | exact (A2.alloc _).below b3 | exact ((A2.alloc _).alloc _).below b3
                have B3 : At w3 (w.heap.size + 1) b := by first | exact B2.below b3 | exact (B2.alloc _).below b3 | exact ((B2.alloc _).alloc _).below b3
                have C3 : At w3 (w.heap.size + 2) c := by first | exact C2.below b3 | exact (C2.alloc _).below b3 | exact ((C2.alloc _).alloc _).below b3
                have c3 : Below w.heap.size w w3 := by have z := c2.size; first | exact chain c2 b3 | exact chain (c2.alloc z _) b3 | exact chain ((c2.alloc z _).alloc (by simp; omega) _) b3
                clear b3 c2 A2 B2 C2
                clear sa pa qa sb pb qb sc pc qc
                obtain ⟨sa, pa, qa⟩ := id A3
                obtain ⟨sb, pb, qb⟩ := id B3
                obtain ⟨sc, pc, qc⟩ := id C3
                go_wp2_with fail
                refine (h.right c _ hc).mono ?_
                rintro e w4 ⟨rfl, b4⟩
                rw [HRc.out]
                have A4 : At w4 w.heap.size a := by first | exact A3.below b4 | exact (A3.alloc _).below b4 | exact ((A3.alloc _).alloc _).below b4
                have B4 : At w4 (w.heap.size + 1) b := by first | exact B3.below b4 | exact (B3.alloc _).below b4 | exact ((B3.alloc _).alloc _).below b4
                have C4 : At w4 (w.heap.size + 2) c := by first | exact C3.below b4 | exact (C3.alloc _).below b4 | exact ((C3.alloc _).alloc _).below b4
                have c4 : Below w.heap.size w w4 := by have z := c3.size; first | exact chain c3 b4 | exact chain (c3.alloc z _) b4 | exact chain ((c3.alloc z _).alloc (by simp; omega) _) b4
                clear b4 c3 A3 B3 C3
                clear sa pa qa sb pb qb sc pc qc
                obtain ⟨sa, pa, qa⟩ := id A4
                obtain ⟨sb, pb, qb⟩ := id B4
                obtain ⟨sc, pc, qc⟩ := id C4
                go_wp2_with fail
                refine (h.cmp a b _ ha hb).mono ?_
                rintro e w5 ⟨rfl, b5⟩
                rw [HX.out]
                have A5 : At w5 w.heap.size a := by first | exact A4.below b5 | exact (A4.alloc _).below b5 | exact ((A4.alloc _).alloc _).below b5
                have B5 : At w5 (w.heap.size + 1) b := by first | exact B4.below b5 | exact (B4.alloc _).below b5 | exact ((B4.alloc _).alloc _).below b5
                have C5 : At w5 (w.heap.size + 2) c := by first | exact C4.below b5 | exact (C4.alloc _).below b5 | exact ((C4.alloc _).alloc _).below b5
                have c5 : Below w.heap.size w w5 := by have z := c4.size; first | exact chain c4 b5 | exact chain (c4.alloc z _) b5 | exact chain ((c4.alloc z _).alloc (by simp; omega) _) b5
                clear b5 c4 A4 B4 C4
                clear sa pa qa sb pb qb sc pc qc
                obtain ⟨sa, pa, qa⟩ := id A5
                obtain ⟨sb, pb, qb⟩ := id B5
                obtain ⟨sc, pc, qc⟩ := id C5
                go_wp2_with fail
                refine (h.cmp b a _ hb ha).mono ?_
                rintro e w6 ⟨rfl, b6⟩
                rw [HY.out]
                have A6 : At w6 w.heap.size a := by first | exact A5.below b6 | exact (A5.alloc _).below b6 | exact ((A5.alloc _).alloc _).below b6
                have B6 : At w6 (w.heap.size + 1) b := by first | exact B5.below b6 | exact (B5.alloc _).below b6 | exact ((B5.alloc _).alloc _).below b6
                have C6 : At w6 (w.heap.size + 2) c := by first | exact C5.below b6 | exact (C5.alloc _).below b6 | exact ((C5.alloc _).alloc _).below b6
                have c6 : Below w.heap.size w w6 := by have z := c5.size; first | exact chain c5 b6 | exact chain (c5.alloc z _) b6 | exact chain ((c5.alloc z _).alloc (by simp; omega) _) b6
                clear b6 c5 A5 B5 C5
                clear sa pa qa sb pb qb sc pc qc
                obtain ⟨sa, pa, qa⟩ := id A6
                obtain ⟨sb, pb, qb⟩ := id B6
                obtain ⟨sc, pc, qc⟩ := id C6
                go_wp2_with fail
                refine (h.cmp b c _ hb hc).mono ?_
                rintro e w7 ⟨rfl, b7⟩
                rw [HT.out]
                have A7 : At w7 w.heap.size a := by first | exact A6.below b7 | exact (A6.alloc _).below b7 | exact ((A6.alloc _).alloc _).below b7
                have B7 : At w7 (w.heap.size + 1) b := by first | exact B6.below b7 | exact (B6.alloc _).below b7 | exact ((B6.alloc _).alloc _).below b7
                have C7 : At w7 (w.heap.size + 2) c := by first | exact C6.below b7 | exact (C6.alloc _).below b7 | exact ((C6.alloc _).alloc _).below b7
                have c7 : Below w.heap.size w w7 := by have z := c6.size; first | exact chain c6 b7 | exact chain (c6.alloc z _) b7 | exact chain ((c6.alloc z _).alloc (by simp; omega) _) b7
                clear b7 c6 A6 B6 C6
                clear sa pa qa sb pb qb sc pc qc
                obtain ⟨sa, pa, qa⟩ := id A7
                obtain ⟨sb, pb, qb⟩ := id B7
                obtain ⟨sc, pc, qc⟩ := id C7
                go_wp2_with fail
                refine (h.sub a b _ ha hb).mono ?_
                rintro e w8 ⟨rfl, b8⟩
                rw [HS.out]
                simp only [rok]
                have A8 : At w8 w.heap.size a := by first | exact A7.below b8 | exact (A7.alloc _).below b8 | exact ((A7.alloc _).alloc _).below b8
                have B8 : At w8 (w.heap.size + 1) b := by first | exact B7.below b8 | exact (B7.alloc _).below b8 | exact ((B7.alloc _).alloc _).below b8
                have C8 : At w8 (w.heap.size + 2) c := by first | exact C7.below b8 | exact (C7.alloc _).below b8 | exact ((C7.alloc _).alloc _).below b8
                have c8 : Below w.heap.size w w8 := by have z := c7.size; first | exact chain c7 b8 | exact chain (c7.alloc z _) b8 | exact chain ((c7.alloc z _).alloc (by simp; omega) _) b8
                clear b8 c7 A7 B7 C7
                clear sa pa qa sb pb qb sc pc qc
                obtain ⟨sa, pa, qa⟩ := id A8
                obtain ⟨sb, pb, qb⟩ := id B8
                obtain ⟨sc, pc, qc⟩ := id C8
                go_wp2_with fail
                go_ret
                have z := c8.size
                first | exact ⟨rfl, c8⟩ | exact ⟨rfl, c8.alloc z _⟩ | exact ⟨rfl, (c8.alloc z _).alloc (by simp; omega) _⟩
              · have HT := Lib.hid T
                clear T
                have HU := Lib.hid U
                clear U
                go_enter Try.func6, Try.ntmps6
                go_wp2_with fail
                refine (sane_x h _).mono ?_
                rintro e w1 ⟨rfl, b1⟩
                have A1 : At w1 w.heap.size a := (((At.new w a _ w.heap.size rfl).alloc _).alloc _).below b1
                have B1 : At w1 (w.heap.size + 1) b := ((At.new (w.alloc _) b _ (w.heap.size + 1) (by simp)).alloc _).below b1
                have C1 : At w1 (w.heap.size + 2) c := (At.new ((w.alloc _).alloc _) c _ (w.heap.size + 2) (by simp)).below b1
                have c1 := chain ((((Below.refl w.heap.size w).alloc (Nat.le_refl _) _).alloc (by simp; try omega) _).alloc (by simp; try omega) _) b1
                clear b1
                obtain ⟨sa, pa, qa⟩ := id A1
                obtain ⟨sb, pb, qb⟩ := id B1
                obtain ⟨sc, pc, qc⟩ := id C1
                go_wp2_with fail
                refine (h.right a _ ha).mono ?_
                rintro e w2 ⟨rfl, b2⟩
                rw [HRa.out]
                have A2 : At w2 w.heap.size a := by first | exact A1.below b2 | exact (A1.alloc _).below b2 | exact ((A1.alloc _).alloc _).below b2
                have B2 : At w2 (w.heap.size + 1) b := by first | exact B1.below b2 | exact (B1.alloc _).below b2 | exact ((B1.alloc _).alloc _).below b2
                have C2 : At w2 (w.heap.size + 2) c := by first | exact C1.below b2 | exact (C1.alloc _).below b2 | exact ((C1.alloc _).alloc _).below b2
                have c2 : Below w.heap.size w w2 := by have z := c1.size; first | exact chain c1 b2 | exact chain (c1.alloc z _) b2 | exact chain ((c1.alloc z _).alloc (by simp; omega) _) b2
                clear b2 c1 A1 B1 C1
                clear sa pa qa sb pb qb sc pc qc
                obtain ⟨sa, pa, qa⟩ := id A2
                obtain ⟨sb, pb, qb⟩ := id B2
                obtain ⟨sc, pc, qc⟩ := id C2
                go_wp2_with fail
                refine (h.right b _ hb).mono ?_
                rintro e w3 ⟨rfl, b3⟩
                rw [HRb.out]
                have A3 : At w3 w.heap.size a := by first | exact A2.below b3 | exact (A2.alloc _).below b3 | exact ((A2.alloc _).alloc _).below b3
                have B3 : At w3 (w.heap.size + 1) b := by first | exact B2.below b3 | exact (B2.alloc _).below b3 | exact ((B2.alloc _).alloc _).below b3
                have C3 : At w3 (w.heap.size + 2) c := by first | exact C2.below b3 | exact (C2.alloc _).below b3 | exact ((C2.alloc _).alloc _).below b3
                have c3 : Below w.heap.size w w3 := by have z := c2.size; first | exact chain c2 b3 | exact chain (c2.alloc z _) b3 | exact chain ((c2.alloc z _).alloc (by simp; omega) _) b3
                clear b3 c2 A2 B2 C2
                clear sa pa qa sb pb qb sc pc qc
                obtain ⟨sa, pa, qa⟩ := id A3
                obtain ⟨sb, pb, qb⟩ := id B3
                obtain ⟨sc, pc, qc⟩ := id C3
                go_wp2_with fail
                refine (h.right c _ hc).mono ?_
                rintro e w4 ⟨rfl, b4⟩
                rw [HRc.out]
                have A4 : At w4 w.heap.size a := by first | exact A3.below b4 | exact (A3.alloc _).below b4 | exact ((A3.alloc _).alloc _).below b4
                have B4 : At w4 (w.heap.size + 1) b := by first | exact B3.below b4 | exact (B3.alloc _).below b4 | exact ((B3.alloc _).alloc _).below b4
                have C4 : At w4 (w.heap.size + 2) c := by first | exact C3.below b4 | exact (C3.alloc _).below b4 | exact ((C3.alloc _).alloc _).below b4
                have c4 : Below w.heap.size w w4 := by have z := c3.size; first | exact chain c3 b4 | exact chain (c3.alloc z _) b4 | exact chain ((c3.alloc z _).alloc (by simp; omega) _) b4
                clear b4 c3 A3 B3 C3
                clear sa pa qa sb pb qb sc pc qc
                obtain ⟨sa, pa, qa⟩ := id A4
                obtain ⟨sb, pb, qb⟩ := id B4
                obtain ⟨sc, pc, qc⟩ := id C4
                go_wp2_with fail
                refine (h.cmp a b _ ha hb).mono ?_
                rintro e w5 ⟨rfl, b5⟩
                rw [HX.out]
                have A5 : At w5 w.heap.size a := by first | exact A4.below b5 | exact (A4.alloc _).below b5 | exact ((A4.alloc _).alloc _).below b5
                have B5 : At w5 (w.heap.size + 1) b := by first | exact B4.below b5 | exact (B4.alloc _).below b5 | exact ((B4.alloc _).alloc _).below b5
                have C5 : At w5 (w.heap.size + 2) c := by first | exact C4.below b5 | exact (C4.alloc _).below b5 | exact ((C4.alloc _).alloc _).below b5
                have c5 : Below w.heap.size w w5 := by have z := c4.size; first | exact chain c4 b5 | exact chain (c4.alloc z _) b5 | exact chain ((c4.alloc z _).alloc (by simp; omega) _) b5
                clear b5 c4 A4 B4 C4
                clear sa pa qa sb pb qb sc pc qc
                obtain ⟨sa, pa, qa⟩ := id A5
                obtain ⟨sb, pb, qb⟩ := id B5
                obtain ⟨sc, pc, qc⟩ := id C5
                go_wp2_with fail
                refine (h.cmp b a _ hb ha).mono ?_
                rintro e w6 ⟨rfl, b6⟩
                rw [HY.out]
                have A6 : At w6 w.heap.size a := by first | exact A5.below b6 | exact (A5.alloc _).below b6 | exact ((A5.alloc _).alloc _).below b6
                have B6 : At w6 (w.heap.size + 1) b := by first | exact B5.below b6 | exact (B5.alloc _).below b6 | exact ((B5.alloc _).alloc _).below b6
                have C6 : At w6 (w.heap.size + 2) c := by first | exact C5.below b6 | exact (C5.alloc _).below b6 | exact ((C5.alloc _).alloc _).below b6
                have c6 : Below w.heap.size w w6 := by have z := c5.size; first | exact chain c5 b6 | exact chain (c5.alloc z _) b6 | exact chain ((c5.alloc z _).alloc (by simp; omega) _) b6
                clear b6 c5 A5 B5 C5
                clear sa pa qa sb pb qb sc pc qc
                obtain ⟨sa, pa, qa⟩ := id A6
                obtain ⟨sb, pb, qb⟩ := id B6
                obtain ⟨sc, pc, qc⟩ := id C6
                go_wp2_with fail
                refine (h.cmp b c _ hb hc).mono ?_
                rintro e w7 ⟨rfl, b7⟩
                rw [HT.out]
                have A7 : At w7 w.heap.size a := by first | exact A6.below b7 | exact (A6.alloc _).below b7 | exact ((A6.alloc _).alloc _).below b7
                have B7 : At w7 (w.heap.size + 1) b := by first | exact B6.below b7 | exact (B6.alloc _).below b7 | exact ((B6.alloc _).alloc _).below b7
                have C7 : At w7 (w.heap.size + 2) c := by first | exact C6.below b7 | exact (C6.alloc _).below b7 | exact ((C6.alloc _).alloc _).below b7
                have c7 : Below w.heap.size w w7 := by have z := c6.size; first | exact chain c6 b7 | exact chain (c6.alloc z _) b7 | exact chain ((c6.alloc z _).alloc (by simp; omega) _) b7
                clear b7 c6 A6 B6 C6
                clear sa pa qa sb pb qb sc pc qc
                obtain ⟨sa, pa, qa⟩ := id A7
                obtain ⟨sb, pb, qb⟩ := id B7
                obtain ⟨sc, pc, qc⟩ := id C7
                go_wp2_with fail
                refine (h.cmp a c _ ha hc).mono ?_
                rintro e w8 ⟨rfl, b8⟩
                rw [HU.out]
                have A8 : At w8 w.heap.size a := by first | exact A7.below b8 | exact (A7.alloc _).below b8 | exact ((A7.alloc _).alloc _).below b8
                have B8 : At w8 (w.heap.size + 1) b := by first | exact B7.below b8 | exact (B7.alloc _).below b8 | exact ((B7.alloc _).alloc _).below b8
                have C8 : At w8 (w.heap.size + 2) c := by first | exact C7.below b8 | exact (C7.alloc _).below b8 | exact ((C7.alloc _).alloc _).below b8
                have c8 : Below w.heap.size w w8 := by have z := c7.size; first | exact chain c7 b8 | exact chain (c7.alloc z _) b8 | exact chain ((c7.alloc z _).alloc (by simp; omega) _) b8
                clear b8 c7 A7 B7 C7
                clear sa pa qa sb pb qb sc pc qc
                obtain ⟨sa, pa, qa⟩ := id A8
                obtain ⟨sb, pb, qb⟩ := id B8
                obtain ⟨sc, pc, qc⟩ := id C8
                go_wp2_with fail
                refine (h.sub a b _ ha hb).mono ?_
                rintro e w9 ⟨rfl, b9⟩
                rw [HS.out]
                simp only [rok]
                have A9 : At w9 w.heap.size a := by first | exact A8.below b9 | exact (A8.alloc _).below b9 | exact ((A8.alloc _).alloc _).below b9
                have B9 : At w9 (w.heap.size + 1) b := by first | exact B8.below b9 | exact (B8.alloc _).below b9 | exact ((B8.alloc _).alloc _).below b9
                have C9 : At w9 (w.heap.size + 2) c := by first | exact C8.below b9 | exact (C8.alloc _).below b9 | exact ((C8.alloc _).alloc _).below b9
                have c9 : Below w.heap.size w w9 := by have z := c8.size; first | exact chain c8 b9 | exact chain (c8.alloc z _) b9 | exact chain ((c8.alloc z _).alloc (by simp; omega) _) b9
                clear b9 c8 A8 B8 C8
                clear sa pa qa sb pb qb sc pc qc
                obtain ⟨sa, pa, qa⟩ := id A9
                obtain ⟨sb, pb, qb⟩ := id B9
                obtain ⟨sc, pc, qc⟩ := id C9
                go_wp2_with fail
                go_ret
                have z := c9.size
                first | exact ⟨rfl, c9⟩ | exact ⟨rfl, c9.alloc z _⟩ | exact ⟨rfl, (c9.alloc z _).alloc (by simp; omega) _⟩
          · rcases S with ⟨d, S, hd, sd⟩ | S
            · have HS := Lib.hid S
              clear S
              have sd1 : decide (d.n < 0) = true := by simp; omega
              have sd2 : decide (0 < d.n) = false := by simp; omega
              rcases T with ⟨y, T, hy⟩ | ⟨y, z, T, hy, U, hz⟩
              · have HT := Lib.hid T
                clear T
                go_enter Try.func6, Try.ntmps6
                go_wp2_with fail
                refine (sane_x h _).mono ?_
                rintro e w1 ⟨rfl, b1⟩
                have A1 : At w1 w.heap.size a := (((At.new w a _ w.heap.size rfl).alloc _).alloc _).below b1
                have B1 : At w1 (w.heap.size + 1) b := ((At.new (w.alloc _) b _ (w.heap.size + 1) (by simp)).alloc _).below b1
                have C1 : At w1 (w.heap.size + 2) c := (At.new ((w.alloc _).alloc _) c _ (w.heap.size + 2) (by simp)).below b1
                have c1 := chain ((((Below.refl w.heap.size w).alloc (Nat.le_refl _) _).alloc (by simp; try omega) _).alloc (by simp; try omega) _) b1
                clear b1
                obtain ⟨sa, pa, qa⟩ := id A1
                obtain ⟨sb, pb, qb⟩ := id B1
                obtain ⟨sc, pc, qc⟩ := id C1
                go_wp2_with fail
                refine (h.right a _ ha).mono ?_
                rintro e w2 ⟨rfl, b2⟩
                rw [HRa.out]
                have A2 : At w2 w.heap.size a := by first | exact A1.below b2 | exact (A1.alloc _).below b2 | exact ((A1.alloc _).alloc _).below b2
                have B2 : At w2 (w.heap.size + 1) b := by first | exact B1.below b2 | exact (B1.alloc _).below b2 | exact ((B1.alloc _).alloc _).below b2
                have C2 : At w2 (w.heap.size + 2) c := by first | exact C1.below b2 | exact (C1.alloc _).below b2 | exact ((C1.alloc _).alloc _).below b2
                have c2 : Below w.heap.size w w2 := by have z := c1.size; first | exact chain c1 b2 | exact chain (c1.alloc z _) b2 | exact chain ((c1.alloc z _).alloc (by simp; omega) _) b2
                clear b2 c1 A1 B1 C1
                clear sa pa qa sb pb qb sc pc qc
                obtain ⟨sa, pa, qa⟩ := id A2
                obtain ⟨sb, pb, qb⟩ := id B2
                obtain ⟨sc, pc, qc⟩ := id C2
                go_wp2_with fail
                refine (h.right b _ hb).mono ?_
                rintro e w3 ⟨rfl, b3⟩
                rw [HRb.out]
                have A3 : At w3 w.heap.size a := by first | exact A2.below b3 | exact (A2.alloc _).below b3 | exact ((A2.alloc _).alloc _).below b3
                have B3 : At w3 (w.heap.size + 1) b := by first | exact B2.below b3 | exact (B2.alloc _).below b3 | exact ((B2.alloc _).alloc _).below b3
                have C3 : At w3 (w.heap.size + 2) c := by first | exact C2.below b3 | exact (C2.alloc _).below b3 | exact ((C2.alloc _).alloc _).below b3
                have c3 : Below w.heap.size w w3 := by have z := c2.size; first | exact chain c2 b3 | exact chain (c2.alloc z _) b3 | exact chain ((c2.alloc z _).alloc (by simp; omega) _) b3
                clear b3 c2 A2 B2 C2
                clear sa pa qa sb pb qb sc pc qc
                obtain ⟨sa, pa, qa⟩ := id A3
                obtain ⟨sb, pb, qb⟩ := id B3
                obtain ⟨sc, pc, qc⟩ := id C3
                go_wp2_with fail
                refine (h.right c _ hc).mono ?_
                rintro e w4 ⟨rfl, b4⟩
                rw [HRc.out]
                have A4 : At w4 w.heap.size a := by first | exact A3.below b4 | exact (A3.alloc _).below b4 | exact ((A3.alloc _).alloc _).below b4
                have B4 : At w4 (w.heap.size + 1) b := by first | exact B3.below b4 | exact (B3.alloc _).below b4 | exact ((B3.alloc _).alloc _).below b4
                have C4 : At w4 (w.heap.size + 2) c := by first | exact C3.below b4 | exact (C3.alloc _).below b4 | exact ((C3.alloc _).alloc _).below b4
                have c4 : Below w.heap.size w w4 := by have z := c3.size; first | exact chain c3 b4 | exact chain (c3.alloc z _) b4 | exact chain ((c3.alloc z _).alloc (by simp; omega) _) b4
                clear b4 c3 A3 B3 C3
                clear sa pa qa sb pb qb sc pc qc
                obtain ⟨sa, pa, qa⟩ := id A4
                obtain ⟨sb, pb, qb⟩ := id B4
                obtain ⟨sc, pc, qc⟩ := id C4
                go_wp2_with fail
                refine (h.cmp a b _ ha hb).mono ?_
                rintro e w5 ⟨rfl, b5⟩
                rw [HX.out]
                have A5 : At w5 w.heap.size a := by first | exact A4.below b5 | exact (A4.alloc _).below b5 | exact ((A4.alloc _).alloc _).below b5
                have B5 : At w5 (w.heap.size + 1) b := by first | exact B4.below b5 | exact (B4.alloc _).below b5 | exact ((B4.alloc _).alloc _).below b5
                have C5 : At w5 (w.heap.size + 2) c := by first | exact C4.below b5 | exact (C4.alloc _).below b5 | exact ((C4.alloc _).alloc _).below b5
                have c5 : Below w.heap.size w w5 := by have z := c4.size; first | exact chain c4 b5 | exact chain (c4.alloc z _) b5 | exact chain ((c4.alloc z _).alloc (by simp; omega) _) b5
                clear b5 c4 A4 B4 C4
                clear sa pa qa sb pb qb sc pc qc
                obtain ⟨sa, pa, qa⟩ := id A5
                obtain ⟨sb, pb, qb⟩ := id B5
                obtain ⟨sc, pc, qc⟩ := id C5
                go_wp2_with fail
                refine (h.cmp b a _ hb ha).mono ?_
                rintro e w6 ⟨rfl, b6⟩
                rw [HY.out]
                have A6 : At w6 w.heap.size a := by first | exact A5.below b6 | exact (A5.alloc _).below b6 | exact ((A5.alloc _).alloc _).below b6
                have B6 : At w6 (w.heap.size + 1) b := by first | exact B5.below b6 | exact (B5.alloc _).below b6 | exact ((B5.alloc _).alloc _).below b6
                have C6 : At w6 (w.heap.size + 2) c := by first | exact C5.below b6 | exact (C5.alloc _).below b6 | exact ((C5.alloc _).alloc _).below b6
                have c6 : Below w.heap.size w w6 := by have z := c5.size; first | exact chain c5 b6 | exact chain (c5.alloc z _) b6 | exact chain ((c5.alloc z _).alloc (by simp; omega) _) b6
                clear b6 c5 A5 B5 C5
                clear sa pa qa sb pb qb sc pc qc
                obtain ⟨sa, pa, qa⟩ := id A6
                obtain ⟨sb, pb, qb⟩ := id B6
                obtain ⟨sc, pc, qc⟩ := id C6
                go_wp2_with fail
                refine (h.cmp b c _ hb hc).mono ?_
                rintro e w7 ⟨rfl, b7⟩
                rw [HT.out]
                have A7 : At w7 w.heap.size a := by first | exact A6.below b7 | exact (A6.alloc _).below b7 | exact ((A6.alloc _).alloc _).below b7
                have B7 : At w7 (w.heap.size + 1) b := by first | exact B6.below b7 | exact (B6.alloc _).below b7 | exact ((B6.alloc _).alloc _).below b7
                have C7 : At w7 (w.heap.size + 2) c := by first | exact C6.below b7 | exact (C6.alloc _).below b7 | exact ((C6.alloc _).alloc _).below b7
                have c7 : Below w.heap.size w w7 := by have z := c6.size; first | exact chain c6 b7 | exact chain (c6.alloc z _) b7 | exact chain ((c6.alloc z _).alloc (by simp; omega) _) b7
                clear b7 c6 A6 B6 C6
                clear sa pa qa sb pb qb sc pc qc
                obtain ⟨sa, pa, qa⟩ := id A7
                obtain ⟨sb, pb, qb⟩ := id B7
                obtain ⟨sc, pc, qc⟩ := id C7
                go_wp2_with fail
                refine (h.sub a b _ ha hb).mono ?_
                rintro e w8 ⟨rfl, b8⟩
                rw [HS.out]
                simp only [rok]
                have A8 : At w8 w.heap.size a := by first | exact A7.below b8 | exact (A7.alloc _).below b8 | exact ((A7.alloc _).alloc _).below b8
                have B8 : At w8 (w.heap.size + 1) b := by first | exact B7.below b8 | exact (B7.alloc _).below b8 | exact ((B7.alloc _).alloc _).below b8
                have C8 : At w8 (w.heap.size + 2) c := by first | exact C7.below b8 | exact (C7.alloc _).below b8 | exact ((C7.alloc _).alloc _).below b8
                have c8 : Below w.heap.size w w8 := by have z := c7.size; first | exact chain c7 b8 | exact chain (c7.alloc z _) b8 | exact chain ((c7.alloc z _).alloc (by simp; omega) _) b8
                clear b8 c7 A7 B7 C7
                clear sa pa qa sb pb qb sc pc qc
                obtain ⟨sa, pa, qa⟩ := id A8
                obtain ⟨sb, pb, qb⟩ := id B8
                obtain ⟨sc, pc, qc⟩ := id C8
                go_wp2_with fail
                go_ret
                have z := c8.size
                first | exact ⟨rfl, c8⟩ | exact ⟨rfl, c8.alloc z _⟩ | exact ⟨rfl, (c8.alloc z _).alloc (by simp; omega) _⟩
              · have HT := Lib.hid T
                clear T
                have HU := Lib.hid U
                clear U
                go_enter Try.func6, Try.ntmps6
                go_wp2_with fail
                refine (sane_x h _).mono ?_
                rintro e w1 ⟨rfl, b1⟩
                have A1 : At w1 w.heap.size a := (((At.new w a _ w.heap.size rfl).alloc _).alloc _).below b1
                have B1 : At w1 (w.heap.size + 1) b := ((At.new (w.alloc _) b _ (w.heap.size + 1) (by simp)).alloc _).below b1
                have C1 : At w1 (w.heap.size + 2) c := (At.new ((w.alloc _).alloc _) c _ (w.heap.size + 2) (by simp)).below b1
                have c1 := chain ((((Below.refl w.heap.size w).alloc (Nat.le_refl _) _).alloc (by simp; try omega) _).alloc (by simp; try omega) _) b1
                clear b1
                obtain ⟨sa, pa, qa⟩ := id A1
                obtain ⟨sb, pb, qb⟩ := id B1
                obtain ⟨sc, pc, qc⟩ := id C1
                go_wp2_with fail
                refine (h.right a _ ha).mono ?_
                rintro e w2 ⟨rfl, b2⟩
                rw [HRa.out]
                have A2 : At w2 w.heap.size a := by first | exact A1.below b2 | exact (A1.alloc _).below b2 | exact ((A1.alloc _).alloc _).below b2
                have B2 : At w2 (w.heap.size + 1) b := by first | exact B1.below b2 | exact (B1.alloc _).below b2 | exact ((B1.alloc _).alloc _).below b2
                have C2 : At w2 (w.heap.size + 2) c := by first | exact C1.below b2 | exact (C1.alloc _).below b2 | exact ((C1.alloc _).alloc _).below b2
                have c2 : Below w.heap.size w w2 := by have z := c1.size; first | exact chain c1 b2 | exact chain (c1.alloc z _) b2 | exact chain ((c1.alloc z _).alloc (by simp; omega) _) b2
                clear b2 c1 A1 B1 C1
                clear sa pa qa sb pb qb sc pc qc
                obtain ⟨sa, pa, qa⟩ := id A2
                obtain ⟨sb, pb, qb⟩ := id B2
                obtain ⟨sc, pc, qc⟩ := id C2
                go_wp2_with fail
                refine (h.right b _ hb).mono ?_
                rintro e w3 ⟨rfl, b3⟩
                rw [HRb.out]
                have A3 : At w3 w.heap.size a := by first | exact A2.below b3 | exact (A2.alloc _).below b3 | exact ((A2.alloc _).alloc _).below b3
                have B3 : At w3 (w.heap.size + 1) b := by first | exact B2.below b3 | exact (B2.alloc _).below b3 | exact ((B2.alloc _).alloc _).below b3
                have C3 : At w3 (w.heap.size + 2) c := by first | exact C2.below b3 | exact (C2.alloc _).below b3 | exact ((C2.alloc _).alloc _).below b3
                have c3 : Below w.heap.size w w3 := by have z := c2.size; first | exact chain c2 b3 | exact chain (c2.alloc z _) b3 | exact chain ((c2.alloc z _).alloc (by simp; omega) _) b3
                clear b3 c2 A2 B2 C2
                clear sa pa qa sb pb qb sc pc qc
                obtain ⟨sa, pa, qa⟩ := id A3
                obtain ⟨sb, pb, qb⟩ := id B3
                obtain ⟨sc, pc, qc⟩ := id C3
                go_wp2_with fail
                refine (h.right c _ hc).mono ?_
                rintro e w4 ⟨rfl, b4⟩
                rw [HRc.out]
                have A4 : At w4 w.heap.size a := by first | exact A3.below b4 | exact (A3.alloc _).below b4 | exact ((A3.alloc _).alloc _).below b4
                have B4 : At w4 (w.heap.size + 1) b := by first | exact B3.below b4 | exact (B3.alloc _).below b4 | exact ((B3.alloc _).alloc _).below b4
                have C4 : At w4 (w.heap.size + 2) c := by first | exact C3.below b4 | exact (C3.alloc _).below b4 | exact ((C3.alloc _).alloc _).below b4
                have c4 : Below w.heap.size w w4 := by have z := c3.size; first | exact chain c3 b4 | exact chain (c3.alloc z _) b4 | exact chain ((c3.alloc z _).alloc (by simp; omega) _) b4
                clear b4 c3 A3 B3 C3
                clear sa pa qa sb pb qb sc pc qc
                obtain ⟨sa, pa, qa⟩ := id A4
                obtain ⟨sb, pb, qb⟩ := id B4
                obtain ⟨sc, pc, qc⟩ := id C4
                go_wp2_with fail
                refine (h.cmp a b _ ha hb).mono ?_
                rintro e w5 ⟨rfl, b5⟩
                rw [HX.out]
                have A5 : At w5 w.heap.size a := by first | exact A4.below b5 | exact (A4.alloc _).below b5 | exact ((A4.alloc _).alloc _).below b5
                have B5 : At w5 (w.heap.size + 1) b := by first | exact B4.below b5 | exact (B4.alloc _).below b5 | exact ((B4.alloc _).alloc _).below b5
                have C5 : At w5 (w.heap.size + 2) c := by first | exact C4.below b5 | exact (C4.alloc _).below b5 | exact ((C4.alloc _).alloc _).below b5
                have c5 : Below w.heap.size w w5 := by have z := c4.size; first | exact chain c4 b5 | exact chain (c4.alloc z _) b5 | exact chain ((c4.alloc z _).alloc (by simp; omega) _) b5
                clear b5 c4 A4 B4 C4
                clear sa pa qa sb pb qb sc pc qc
                obtain ⟨sa, pa, qa⟩ := id A5
                obtain ⟨sb, pb, qb⟩ := id B5
                obtain ⟨sc, pc, qc⟩ := id C5
                go_wp2_with fail
                refine (h.cmp b a _ hb ha).mono ?_
                rintro e w6 ⟨rfl, b6⟩
                rw [HY.out]
                have A6 : At w6 w.heap.size a := by first | exact A5.below b6 | exact (A5.alloc _).below b6 | exact ((A5.alloc _).alloc _).below b6
                have B6 : At w6 (w.heap.size + 1) b := by first | exact B5.below b6 | exact (B5.alloc _).below b6 | exact ((B5.alloc _).alloc _).below b6
                have C6 : At w6 (w.heap.size + 2) c := by first | exact C5.below b6 | exact (C5.alloc _).below b6 | exact ((C5.alloc _).alloc _).below b6
                have c6 : Below w.heap.size w w6 := by have z := c5.size; first | exact chain c5 b6 | exact chain (c5.alloc z _) b6 | exact chain ((c5.alloc z _).alloc (by simp; omega) _) b6
                clear b6 c5 A5 B5 C5
                clear sa pa qa sb pb qb sc pc qc
                obtain ⟨sa, pa, qa⟩ := id A6
                obtain ⟨sb, pb, qb⟩ := id B6
                obtain ⟨sc, pc, qc⟩ := id C6
                go_wp2_with fail
                refine (h.cmp b c _ hb hc).mono ?_
                rintro e w7 ⟨rfl, b7⟩
                rw [HT.out]
                have A7 : At w7 w.heap.size a := by first | exact A6.below b7 | exact (A6.alloc _).below b7 | exact ((A6.alloc _).alloc _).below b7
                have B7 : At w7 (w.heap.size + 1) b := by first | exact B6.below b7 | exact (B6.alloc _).below b7 | exact ((B6.alloc _).alloc _).below b7
                have C7 : At w7 (w.heap.size + 2) c := by first | exact C6.below b7 | exact (C6.alloc _).below b7 | exact ((C6.alloc _).alloc _).below b7
                have c7 : Below w.heap.size w w7 := by have z := c6.size; first | exact chain c6 b7 | exact chain (c6.alloc z _) b7 | exact chain ((c6.alloc z _).alloc (by simp; omega) _) b7
                clear b7 c6 A6 B6 C6
                clear sa pa qa sb pb qb sc pc qc
                obtain ⟨sa, pa, qa⟩ := id A7
                obtain ⟨sb, pb, qb⟩ := id B7
                obtain ⟨sc, pc, qc⟩ := id C7
                go_wp2_with fail
                refine (h.cmp a c _ ha hc).mono ?_
                rintro e w8 ⟨rfl, b8⟩
                rw [HU.out]
                have A8 : At w8 w.heap.size a := by first | exact A7.below b8 | exact (A7.alloc _).below b8 | exact ((A7.alloc _).alloc _).below b8
                have B8 : At w8 (w.heap.size + 1) b := by first | exact B7.below b8 | exact (B7.alloc _).below b8 | exact ((B7.alloc _).alloc _).below b8
                have C8 : At w8 (w.heap.size + 2) c := by first | exact C7.below b8 | exact (C7.alloc _).below b8 | exact ((C7.alloc _).alloc _).below b8
                have c8 : Below w.heap.size w w8 := by have z := c7.size; first | exact chain c7 b8 | exact chain (c7.alloc z _) b8 | exact chain ((c7.alloc z _).alloc (by simp; omega) _) b8
                clear b8 c7 A7 B7 C7
                clear sa pa qa sb pb qb sc pc qc
                obtain ⟨sa, pa, qa⟩ := id A8
                obtain ⟨sb, pb, qb⟩ := id B8
                obtain ⟨sc, pc, qc⟩ := id C8
                go_wp2_with fail
                refine (h.sub a b _ ha hb).mono ?_
                rintro e w9 ⟨rfl, b9⟩
                rw [HS.out]
                simp only [rok]
                have A9 : At w9 w.heap.size a := by first | exact A8.below b9 | exact (A8.alloc _).below b9 | exact ((A8.alloc _).alloc _).below b9
                have B9 : At w9 (w.heap.size + 1) b := by first | exact B8.below b9 | exact (B8.alloc _).below b9 | exact ((B8.alloc _).alloc _).below b9
                have C9 : At w9 (w.heap.size + 2) c := by first | exact C8.below b9 | exact (C8.alloc _).below b9 | exact ((C8.alloc _).alloc _).below b9
                have c9 : Below w.heap.size w w9 := by have z := c8.size; first | exact chain c8 b9 | exact chain (c8.alloc z _) b9 | exact chain ((c8.alloc z _).alloc (by simp; omega) _) b9
                clear b9 c8 A8 B8 C8
                clear sa pa qa sb pb qb sc pc qc
                obtain ⟨sa, pa, qa⟩ := id A9
                obtain ⟨sb, pb, qb⟩ := id B9
                obtain ⟨sc, pc, qc⟩ := id C9
                go_wp2_with fail
                go_ret
                have z := c9.size
                first | exact ⟨rfl, c9⟩ | exact ⟨rfl, c9.alloc z _⟩ | exact ⟨rfl, (c9.alloc z _).alloc (by simp; omega) _⟩
            · have HS := Lib.hid S
              clear S
              rcases T with ⟨y, T, hy⟩ | ⟨y, z, T, hy, U, hz⟩
              · have HT := Lib.hid T
                clear T
                go_enter Try.func6, Try.ntmps6
                go_wp2_with fail
                refine (sane_x h _).mono ?_
                rintro e w1 ⟨rfl, b1⟩
                have A1 : At w1 w.heap.size a := (((At.new w a _ w.heap.size rfl).alloc _).alloc _).below b1
                have B1 : At w1 (w.heap.size + 1) b := ((At.new (w.alloc _) b _ (w.heap.size + 1) (by simp)).alloc _).below b1
                have C1 : At w1 (w.heap.size + 2) c := (At.new ((w.alloc _).alloc _) c _ (w.heap.size + 2) (by simp)).below b1
                have c1 := chain ((((Below.refl w.heap.size w).alloc (Nat.le_refl _) _).alloc (by simp; try omega) _).alloc (by simp; try omega) _) b1
                clear b1
                obtain ⟨sa, pa, qa⟩ := id A1
                obtain ⟨sb, pb, qb⟩ := id B1
                obtain ⟨sc, pc, qc⟩ := id C1
                go_wp2_with fail
                refine (h.right a _ ha).mono ?_
                rintro e w2 ⟨rfl, b2⟩
                rw [HRa.out]
                have A2 : At w2 w.heap.size a := by first | exact A1.below b2 | exact (A1.alloc _).below b2 | exact ((A1.alloc _).alloc _).below b2
                have B2 : At w2 (w.heap.size + 1) b := by first | exact B1.below b2 | exact (B1.alloc _).below b2 | exact ((B1.alloc _).alloc _).below b2
                have C2 : At w2 (w.heap.size + 2) c := by first | exact C1.below b2 | exact (C1.alloc _).below b2 | exact ((C1.alloc _).alloc _).below b2
                have c2 : Below w.heap.size w w2 := by have z := c1.size; first | exact chain c1 b2 | exact chain (c1.alloc z _) b2 | exact chain ((c1.alloc z _).alloc (by simp; omega) _) b2
                clear b2 c1 A1 B1 C1
                clear sa pa qa sb pb qb sc pc qc
                obtain ⟨sa, pa, qa⟩ := id A2
                obtain ⟨sb, pb, qb⟩ := id B2
                obtain ⟨sc, pc, qc⟩ := id C2
                go_wp2_with fail
                refine (h.right b _ hb).mono ?_
                rintro e w3 ⟨rfl, b3⟩
                rw [HRb.out]
                have A3 : At w3 w.heap.size a := by first | exact A2.below b3 | exact (A2.alloc _).below b3 | exact ((A2.alloc _).alloc _).below b3
                have B3 : At w3 (w.heap.size + 1) b := by first | exact B2.below b3 | exact (B2.alloc _).below b3 | exact ((B2.alloc _).alloc _).below b3
                have C3 : At w3 (w.heap.size + 2) c := by first | exact C2.below b3 | exact (C2.alloc _).below b3 | exact ((C2.alloc _).alloc _).below b3
                have c3 : Below w.heap.size w w3 := by have z := c2.size; first | exact chain c2 b3 | exact chain (c2.alloc z _) b3 | exact chain ((c2.alloc z _).alloc (by simp; omega) _) b3
                clear b3 c2 A2 B2 C2
                clear sa pa qa sb pb qb sc pc qc
                obtain ⟨sa, pa, qa⟩ := id A3
                obtain ⟨sb, pb, qb⟩ := id B3
                obtain ⟨sc, pc, qc⟩ := id C3
                go_wp2_with fail
                refine (h.right c _ hc).mono ?_
                rintro e w4 ⟨rfl, b4⟩
                rw [HRc.out]
                have A4 : At w4 w.heap.size a := by first | exact A3.below b4 | exact (A3.alloc _).below b4 | exact ((A3.alloc _).alloc _).below b4
                have B4 : At w4 (w.heap.size + 1) b := by first | exact B3.below b4 | exact (B3.alloc _).below b4 | exact ((B3.alloc _).alloc _).below b4
                have C4 : At w4 (w.heap.size + 2) c := by first | exact C3.below b4 | exact (C3.alloc _).below b4 | exact ((C3.alloc _).alloc _).below b4
                have c4 : Below w.heap.size w w4 := by have z := c3.size; first | exact chain c3 b4 | exact chain (c3.alloc z _) b4 | exact chain ((c3.alloc z _).alloc (by simp; omega) _) b4
                clear b4 c3 A3 B3 C3
                clear sa pa qa sb pb qb sc pc qc
                obtain ⟨sa, pa, qa⟩ := id A4
                obtain ⟨sb, pb, qb⟩ := id B4
                obtain ⟨sc, pc, qc⟩ := id C4
                go_wp2_with fail
                refine (h.cmp a b _ ha hb).mono ?_
                rintro e w5 ⟨rfl, b5⟩
                rw [HX.out]
                have A5 : At w5 w.heap.size a := by first | exact A4.below b5 | exact (A4.alloc _).below b5 | exact ((A4.alloc _).alloc _).below b5
                have B5 : At w5 (w.heap.size + 1) b := by first | exact B4.below b5 | exact (B4.alloc _).below b5 | exact ((B4.alloc _).alloc _).below b5
                have C5 : At w5 (w.heap.size + 2) c := by first | exact C4.below b5 | exact (C4.alloc _).below b5 | exact ((C4.alloc _).alloc _).below b5
                have c5 : Below w.heap.size w w5 := by have z := c4.size; first | exact chain c4 b5 | exact chain (c4.alloc z _) b5 | exact chain ((c4.alloc z _).alloc (by simp; omega) _) b5
                clear b5 c4 A4 B4 C4
                clear sa pa qa sb pb qb sc pc qc
                obtain ⟨sa, pa, qa⟩ := id A5
                obtain ⟨sb, pb, qb⟩ := id B5
                obtain ⟨sc, pc, qc⟩ := id C5
                go_wp2_with fail
                refine (h.cmp b a _ hb ha).mono ?_
                rintro e w6 ⟨rfl, b6⟩
                rw [HY.out]
                have A6 : At w6 w.heap.size a := by first | exact A5.below b6 | exact (A5.alloc _).below b6 | exact ((A5.alloc _).alloc _).below b6
                have B6 : At w6 (w.heap.size + 1) b := by first | exact B5.below b6 | exact (B5.alloc _).below b6 | exact ((B5.alloc _).alloc _).below b6
                have C6 : At w6 (w.heap.size + 2) c := by first | exact C5.below b6 | exact (C5.alloc _).below b6 | exact ((C5.alloc _).alloc _).below b6
                have c6 : Below w.heap.size w w6 := by have z := c5.size; first | exact chain c5 b6 | exact chain (c5.alloc z _) b6 | exact chain ((c5.alloc z _).alloc (by simp; omega) _) b6
                clear b6 c5 A5 B5 C5
                clear sa pa qa sb pb qb sc pc qc
                obtain ⟨sa, pa, qa⟩ := id A6
                obtain ⟨sb, pb, qb⟩ := id B6
                obtain ⟨sc, pc, qc⟩ := id C6
                go_wp2_with fail
                refine (h.cmp b c _ hb hc).mono ?_
                rintro e w7 ⟨rfl, b7⟩
                rw [HT.out]
                have A7 : At w7 w.heap.size a := by first | exact A6.below b7 | exact (A6.alloc _).below b7 | exact ((A6.alloc _).alloc _).below b7
                have B7 : At w7 (w.heap.size + 1) b := by first | exact B6.below b7 | exact (B6.alloc _).below b7 | exact ((B6.alloc _).alloc _).below b7
                have C7 : At w7 (w.heap.size + 2) c := by first | exact C6.below b7 | exact (C6.alloc _).below b7 | exact ((C6.alloc _).alloc _).below b7
                have c7 : Below w.heap.size w w7 := by have z := c6.size; first | exact chain c6 b7 | exact chain (c6.alloc z _) b7 | exact chain ((c6.alloc z _).alloc (by simp; omega) _) b7
                clear b7 c6 A6 B6 C6
                clear sa pa qa sb pb qb sc pc qc
                obtain ⟨sa, pa, qa⟩ := id A7
                obtain ⟨sb, pb, qb⟩ := id B7
                obtain ⟨sc, pc, qc⟩ := id C7
                go_wp2_with fail
                refine (h.sub a b _ ha hb).mono ?_
                rintro e w8 ⟨rfl, b8⟩
                rw [HS.out]
                simp only [rok]
                have A8 : At w8 w.heap.size a := by first | exact A7.below b8 | exact (A7.alloc _).below b8 | exact ((A7.alloc _).alloc _).below b8
                have B8 : At w8 (w.heap.size + 1) b := by first | exact B7.below b8 | exact (B7.alloc _).below b8 | exact ((B7.alloc _).alloc _).below b8
                have C8 : At w8 (w.heap.size + 2) c := by first | exact C7.below b8 | exact (C7.alloc _).below b8 | exact ((C7.alloc _).alloc _).below b8
                have c8 : Below w.heap.size w w8 := by have z := c7.size; first | exact chain c7 b8 | exact chain (c7.alloc z _) b8 | exact chain ((c7.alloc z _).alloc (by simp; omega) _) b8
                clear b8 c7 A7 B7 C7
                clear sa pa qa sb pb qb sc pc qc
                obtain ⟨sa, pa, qa⟩ := id A8
                obtain ⟨sb, pb, qb⟩ := id B8
                obtain ⟨sc, pc, qc⟩ := id C8
                go_wp2_with fail
                go_ret
                have z := c8.size
                first | exact ⟨rfl, c8⟩ | exact ⟨rfl, c8.alloc z _⟩ | exact ⟨rfl, (c8.alloc z _).alloc (by simp; omega) _⟩
              · have HT := Lib.hid T
                clear T
                have HU := Lib.hid U
                clear U
                go_enter Try.func6, Try.ntmps6
                go_wp2_with fail
                refine (sane_x h _).mono ?_
                rintro e w1 ⟨rfl, b1⟩
                have A1 : At w1 w.heap.size a := (((At.new w a _ w.heap.size rfl).alloc _).alloc _).below b1
                have B1 : At w1 (w.heap.size + 1) b := ((At.new (w.alloc _) b _ (w.heap.size + 1) (by simp)).alloc _).below b1
                have C1 : At w1 (w.heap.size + 2) c := (At.new ((w.alloc _).alloc _) c _ (w.heap.size + 2) (by simp)).below b1
                have c1 := chain ((((Below.refl w.heap.size w).alloc (Nat.le_refl _) _).alloc (by simp; try omega) _).alloc (by simp; try omega) _) b1
                clear b1
                obtain ⟨sa, pa, qa⟩ := id A1
                obtain ⟨sb, pb, qb⟩ := id B1
                obtain ⟨sc, pc, qc⟩ := id C1
                go_wp2_with fail
                refine (h.right a _ ha).mono ?_
                rintro e w2 ⟨rfl, b2⟩
                rw [HRa.out]
                have A2 : At w2 w.heap.size a := by first | exact A1.below b2 | exact (A1.alloc _).below b2 | exact ((A1.alloc _).alloc _).below b2
                have B2 : At w2 (w.heap.size + 1) b := by first | exact B1.below b2 | exact (B1.alloc _).below b2 | exact ((B1.alloc _).alloc _).below b2
                have C2 : At w2 (w.heap.size + 2) c := by first | exact C1.below b2 | exact (C1.alloc _).below b2 | exact ((C1.alloc _).alloc _).below b2
                have c2 : Below w.heap.size w w2 := by have z := c1.size; first | exact chain c1 b2 | exact chain (c1.alloc z _) b2 | exact chain ((c1.alloc z _).alloc (by simp; omega) _) b2
                clear b2 c1 A1 B1 C1
                clear sa pa qa sb pb qb sc pc qc
                obtain ⟨sa, pa, qa⟩ := id A2
                obtain ⟨sb, pb, qb⟩ := id B2
                obtain ⟨sc, pc, qc⟩ := id C2
                go_wp2_with fail
                refine (h.right b _ hb).mono ?_
                rintro e w3 ⟨rfl, b3⟩
                rw [HRb.out]
                have A3 : At w3 w.heap.size a := by first | exact A2.below b3 | exact (A2.alloc _).below b3 | exact ((A2.alloc _).alloc _).below b3
                have B3 : At w3 (w.heap.size + 1) b := by first | exact B2.below b3 | exact (B2.alloc _).below b3 | exact ((B2.alloc _).alloc _).below b3
                have C3 : At w3 (w.heap.size + 2) c := by first | exact C2.below b3 | exact (C2.alloc _).below b3 | exact ((C2.alloc _).alloc _).below b3
                have c3 : Below w.heap.size w w3 := by have z := c2.size; first | exact chain c2 b3 | exact chain (c2.alloc z _) b3 | exact chain ((c2.alloc z _).alloc (by simp; omega) _) b3
                clear b3 c2 A2 B2 C2
                clear sa pa qa sb pb qb sc pc qc
                obtain ⟨sa, pa, qa⟩ := id A3
                obtain ⟨sb, pb, qb⟩ := id B3
                obtain ⟨sc, pc, qc⟩ := id C3
                go_wp2_with fail
                refine (h.right c _ hc).mono ?_
                rintro e w4 ⟨rfl, b4⟩
                rw [HRc.out]
                have A4 : At w4 w.heap.size a := by first | exact A3.below b4 | exact (A3.alloc _).below b4 | exact ((A3.alloc _).alloc _).below b4
                have B4 : At w4 (w.heap.size + 1) b := by first | exact B3.below b4 | exact (B3.alloc _).below b4 | exact ((B3.alloc _).alloc _).below b4
                have C4 : At w4 (w.heap.size + 2) c := by first | exact C3.below b4 | exact (C3.alloc _).below b4 | exact ((C3.alloc _).alloc _).below b4
                have c4 : Below w.heap.size w w4 := by have z := c3.size; first | exact chain c3 b4 | exact chain (c3.alloc z _) b4 | exact chain ((c3.alloc z _).alloc (by simp; omega) _) b4
                clear b4 c3 A3 B3 C3
                clear sa pa qa sb pb qb sc pc qc
                obtain ⟨sa, pa, qa⟩ := id A4
                obtain ⟨sb, pb, qb⟩ := id B4
                obtain ⟨sc, pc, qc⟩ := id C4
                go_wp2_with fail
                refine (h.cmp a b _ ha hb).mono ?_
                rintro e w5 ⟨rfl, b5⟩
                rw [HX.out]
                have A5 : At w5 w.heap.size a := by first | exact A4.below b5 | exact (A4.alloc _).below b5 | exact ((A4.alloc _).alloc _).below b5
                have B5 : At w5 (w.heap.size + 1) b := by first | exact B4.below b5 | exact (B4.alloc _).below b5 | exact ((B4.alloc _).alloc _).below b5
                have C5 : At w5 (w.heap.size + 2) c := by first | exact C4.below b5 | exact (C4.alloc _).below b5 | exact ((C4.alloc _).alloc _).below b5
                have c5 : Below w.heap.size w w5 := by have z := c4.size; first | exact chain c4 b5 | exact chain (c4.alloc z _) b5 | exact chain ((c4.alloc z _).alloc (by simp; omega) _) b5
                clear b5 c4 A4 B4 C4
                clear sa pa qa sb pb qb sc pc qc
                obtain ⟨sa, pa, qa⟩ := id A5
                obtain ⟨sb, pb, qb⟩ := id B5
                obtain ⟨sc, pc, qc⟩ := id C5
                go_wp2_with fail
                refine (h.cmp b a _ hb ha).mono ?_
                rintro e w6 ⟨rfl, b6⟩
                rw [HY.out]
                have A6 : At w6 w.heap.size a := by first | exact A5.below b6 | exact (A5.alloc _).below b6 | exact ((A5.alloc _).alloc _).below b6
                have B6 : At w6 (w.heap.size + 1) b := by first | exact B5.below b6 | exact (B5.alloc _).below b6 | exact ((B5.alloc _).alloc _).below b6
                have C6 : At w6 (w.heap.size + 2) c := by first | exact C5.below b6 | exact (C5.alloc _).below b6 | exact ((C5.alloc _).alloc _).below b6
                have c6 : Below w.heap.size w w6 := by have z := c5.size; first | exact chain c5 b6 | exact chain (c5.alloc z _) b6 | exact chain ((c5.alloc z _).alloc (by simp; omega) _) b6
                clear b6 c5 A5 B5 C5
                clear sa pa qa sb pb qb sc pc qc
                obtain ⟨sa, pa, qa⟩ := id A6
                obtain ⟨sb, pb, qb⟩ := id B6
                obtain ⟨sc, pc, qc⟩ := id C6
                go_wp2_with fail
                refine (h.cmp b c _ hb hc).mono ?_
                rintro e w7 ⟨rfl, b7⟩
                rw [HT.out]
                have A7 : At w7 w.heap.size a := by first | exact A6.below b7 | exact (A6.alloc _).below b7 | exact ((A6.alloc _).alloc _).below b7
                have B7 : At w7 (w.heap.size + 1) b := by first | exact B6.below b7 | exact (B6.alloc _).below b7 | exact ((B6.alloc _).alloc _).below b7
                have C7 : At w7 (w.heap.size + 2) c := by first | exact C6.below b7 | exact (C6.alloc _).below b7 | exact ((C6.alloc _).alloc _).below b7
                have c7 : Below w.heap.size w w7 := by have z := c6.size; first | exact chain c6 b7 | exact chain (c6.alloc z _) b7 | exact chain ((c6.alloc z _).alloc (by simp; omega) _) b7
                clear b7 c6 A6 B6 C6
                clear sa pa qa sb pb qb sc pc qc
                obtain ⟨sa, pa, qa⟩ := id A7
                obtain ⟨sb, pb, qb⟩ := id B7
                obtain ⟨sc, pc, qc⟩ := id C7
                go_wp2_with fail
                refine (h.cmp a c _ ha hc).mono ?_
                rintro e w8 ⟨rfl, b8⟩
                rw [HU.out]
                have A8 : At w8 w.heap.size a := by first | exact A7.below b8 | exact (A7.alloc _).below b8 | exact ((A7.alloc _).alloc _).below b8
                have B8 : At w8 (w.heap.size + 1) b := by first | exact B7.below b8 | exact (B7.alloc _).below b8 | exact ((B7.alloc _).alloc _).below b8
                have C8 : At w8 (w.heap.size + 2) c := by first | exact C7.below b8 | exact (C7.alloc _).below b8 | exact ((C7.alloc _).alloc _).below b8
                have c8 : Below w.heap.size w w8 := by have z := c7.size; first | exact chain c7 b8 | exact chain (c7.alloc z _) b8 | exact chain ((c7.alloc z _).alloc (by simp; omega) _) b8
                clear b8 c7 A7 B7 C7
                clear sa pa qa sb pb qb sc pc qc
                obtain ⟨sa, pa, qa⟩ := id A8
                obtain ⟨sb, pb, qb⟩ := id B8
                obtain ⟨sc, pc, qc⟩ := id C8
                go_wp2_with fail
                refine (h.sub a b _ ha hb).mono ?_
                rintro e w9 ⟨rfl, b9⟩
                rw [HS.out]
                simp only [rok]
                have A9 : At w9 w.heap.size a := by first | exact A8.below b9 | exact (A8.alloc _).below b9 | exact ((A8.alloc _).alloc _).below b9
                have B9 : At w9 (w.heap.size + 1) b := by first | exact B8.below b9 | exact (B8.alloc _).below b9 | exact ((B8.alloc _).alloc _).below b9
                have C9 : At w9 (w.heap.size + 2) c := by first | exact C8.below b9 | exact (C8.alloc _).below b9 | exact ((C8.alloc _).alloc _).below b9
                have c9 : Below w.heap.size w w9 := by have z := c8.size; first | exact chain c8 b9 | exact chain (c8.alloc z _) b9 | exact chain ((c8.alloc z _).alloc (by simp; omega) _) b9
                clear b9 c8 A8 B8 C8
                clear sa pa qa sb pb qb sc pc qc
                obtain ⟨sa, pa, qa⟩ := id A9
                obtain ⟨sb, pb, qb⟩ := id B9
                obtain ⟨sc, pc, qc⟩ := id C9
                go_wp2_with fail
                go_ret
                have z := c9.size
                first | exact ⟨rfl, c9⟩ | exact ⟨rfl, c9.alloc z _⟩ | exact ⟨rfl, (c9.alloc z _).alloc (by simp; omega) _⟩
        · have HRa := Lib.hid Ra
          have HRb := Lib.hid Rb
          have HRc := Lib.hid Rc
          have HX := Lib.hid X
          have HY := Lib.hid Y
          clear Ra Rb Rc X Y
          obtain ⟨E1, E2⟩ := E
          rcases S with ⟨d, S, hd, sd, sd'⟩ | S
          · have HS := Lib.hid S
            clear S
            have sd1 : decide (d.n < 0) = false := by simp; omega
            have sd2 : decide (0 < d.n) = false := by simp; omega
            rcases T with ⟨y, T, hy⟩ | ⟨y, z, T, hy, U, hz⟩
            · have HT := Lib.hid T
              clear T
              go_enter Try.func6, Try.ntmps6
              go_wp2_with fail
              refine (sane_x h _).mono ?_
              rintro e w1 ⟨rfl, b1⟩
              have A1 : At w1 w.heap.size a := (((At.new w a _ w.heap.size rfl).alloc _).alloc _).below b1
              have B1 : At w1 (w.heap.size + 1) b := ((At.new (w.alloc _) b _ (w.heap.size + 1) (by simp)).alloc _).below b1
              have C1 : At w1 (w.heap.size + 2) c := (At.new ((w.alloc _).alloc _) c _ (w.heap.size + 2) (by simp)).below b1
              have c1 := chain ((((Below.refl w.heap.size w).alloc (Nat.le_refl _) _).alloc (by simp; try omega) _).alloc (by simp; try omega) _) b1
              clear b1
              obtain ⟨sa, pa, qa⟩ := id A1
              obtain ⟨sb, pb, qb⟩ := id B1
              obtain ⟨sc, pc, qc⟩ := id C1
              go_wp2_with fail
              refine (h.right a _ ha).mono ?_
              rintro e w2 ⟨rfl, b2⟩
              rw [HRa.out]
              have A2 : At w2 w.heap.size a := by first | exact A1.below b2 | exact (A1.alloc _).below b2 | exact ((A1.alloc _).alloc _).below b2
              have B2 : At w2 (w.heap.size + 1) b := by first | exact B1.below b2 | exact (B1.alloc _).below b2 | exact ((B1.alloc _).alloc _).below b2
              have C2 : At w2 (w.heap.size + 2) c := by first | exact C1.below b2 | exact (C1.alloc _).below b2 | exact ((C1.alloc _).alloc _).below b2
              have c2 : Below w.heap.size w w2 := by have z := c1.size; first | exact chain c1 b2 | exact chain (c1.alloc z _) b2 | exact chain ((c1.alloc z _).alloc (by simp; omega) _) b2
              clear b2 c1 A1 B1 C1
              clear sa pa qa sb pb qb sc pc qc
              obtain ⟨sa, pa, qa⟩ := id A2
              obtain ⟨sb, pb, qb⟩ := id B2
              obtain ⟨sc, pc, qc⟩ := id C2
              go_wp2_with fail
              refine (h.right b _ hb).mono ?_
              rintro e w3 ⟨rfl, b3⟩
              rw [HRb.out]
              have A3 : At w3 w.heap.size a := by first | exact A2.below b3 | exact (A2.alloc _).below b3 | exact ((A2.alloc _).alloc _).below b3
              have B3 : At w3 (w.heap.size + 1) b := by first | exact B2.below b3 | exact (B2.alloc _).below b3 | exact ((B2.alloc _).alloc _).below b3
              have C3 : At w3 (w.heap.size + 2) c := by first | exact C2.below b3 | exact (C2.alloc _).below b3 | exact ((C2.alloc _).alloc _).below b3
              have c3 : Below w.heap.size w w3 := by have z := c2.size; first | exact chain c2 b3 | exact chain (c2.alloc z _) b3 | exact chain ((c2.alloc z _).alloc (by simp; omega) _) b3
              clear b3 c2 A2 B2 C2
              clear sa pa qa sb pb qb sc pc qc
              obtain ⟨sa, pa, qa⟩ := id A3
              obtain ⟨sb, pb, qb⟩ := id B3
              obtain ⟨sc, pc, qc⟩ := id C3
              go_wp2_with fail
              refine (h.right c _ hc).mono ?_
              rintro e w4 ⟨rfl, b4⟩
              rw [HRc.out]
              have A4 : At w4 w.heap.size a := by first | exact A3.below b4 | exact (A3.alloc _).below b4 | exact ((A3.alloc _).alloc _).below b4
              have B4 : At w4 (w.heap.size + 1) b := by first | exact B3.below b4 | exact (B3.alloc _).below b4 | exact ((B3.alloc _).alloc _).below b4
              have C4 : At w4 (w.heap.size + 2) c := by first | exact C3.below b4 | exact (C3.alloc _).below b4 | exact ((C3.alloc _).alloc _).below b4
              have c4 : Below w.heap.size w w4 := by have z := c3.size; first | exact chain c3 b4 | exact chain (c3.alloc z _) b4 | exact chain ((c3.alloc z _).alloc (by simp; omega) _) b4
              clear b4 c3 A3 B3 C3
              clear sa pa qa sb pb qb sc pc qc
              obtain ⟨sa, pa, qa⟩ := id A4
              obtain ⟨sb, pb, qb⟩ := id B4
              obtain ⟨sc, pc, qc⟩ := id C4
              go_wp2_with fail
              refine (h.cmp a b _ ha hb).mono ?_
              rintro e w5 ⟨rfl, b5⟩
              rw [HX.out]
              have A5 : At w5 w.heap.size a := by first | exact A4.below b5 | exact (A4.alloc _).below b5 | exact ((A4.alloc _).alloc _).below b5
              have B5 : At w5 (w.heap.size + 1) b := by first | exact B4.below b5 | exact (B4.alloc _).below b5 | exact ((B4.alloc _).alloc _).below b5
              have C5 : At w5 (w.heap.size + 2) c := by first | exact C4.below b5 | exact (C4.alloc _).below b5 | exact ((C4.alloc _).alloc _).below b5
              have c5 : Below w.heap.size w w5 := by have z := c4.size; first | exact chain c4 b5 | exact chain (c4.alloc z _) b5 | exact chain ((c4.alloc z _).alloc (by simp; omega) _) b5
              clear b5 c4 A4 B4 C4
              clear sa pa qa sb pb qb sc pc qc
              obtain ⟨sa, pa, qa⟩ := id A5
              obtain ⟨sb, pb, qb⟩ := id B5
              obtain ⟨sc, pc, qc⟩ := id C5
              go_wp2_with fail
              refine (h.cmp b a _ hb ha).mono ?_
              rintro e w6 ⟨rfl, b6⟩
              rw [HY.out]
              have A6 : At w6 w.heap.size a := by first | exact A5.below b6 | exact (A5.alloc _).below b6 | exact ((A5.alloc _).alloc _).below b6
              have B6 : At w6 (w.heap.size + 1) b := by first | exact B5.below b6 | exact (B5.alloc _).below b6 | exact ((B5.alloc _).alloc _).below b6
              have C6 : At w6 (w.heap.size + 2) c := by first | exact C5.below b6 | exact (C5.alloc _).below b6 | exact ((C5.alloc _).alloc _).below b6
              have c6 : Below w.heap.size w w6 := by have z := c5.size; first | exact chain c5 b6 | exact chain (c5.alloc z _) b6 | exact chain ((c5.alloc z _).alloc (by simp; omega) _) b6
              clear b6 c5 A5 B5 C5
              clear sa pa qa sb pb qb sc pc qc
              obtain ⟨sa, pa, qa⟩ := id A6
              obtain ⟨sb, pb, qb⟩ := id B6
              obtain ⟨sc, pc, qc⟩ := id C6
              go_wp2_with fail
              refine (h.cmp b c _ hb hc).mono ?_
              rintro e w7 ⟨rfl, b7⟩
              rw [HT.out]
              have A7 : At w7 w.heap.size a := by first | exact A6.below b7 | exact (A6.alloc _).below b7 | exact ((A6.alloc _).alloc _).below b7
              have B7 : At w7 (w.heap.size + 1) b := by first | exact B6.below b7 | exact (B6.alloc _).below b7 | exact ((B6.alloc _).alloc _).below b7
              have C7 : At w7 (w.heap.size + 2) c := by first | exact C6.below b7 | exact (C6.alloc _).below b7 | exact ((C6.alloc _).alloc _).below b7
              have c7 : Below w.heap.size w w7 := by have z := c6.size; first | exact chain c6 b7 | exact chain (c6.alloc z _) b7 | exact chain ((c6.alloc z _).alloc (by simp; omega) _) b7
              clear b7 c6 A6 B6 C6
              clear sa pa qa sb pb qb sc pc qc
              obtain ⟨sa, pa, qa⟩ := id A7
              obtain ⟨sb, pb, qb⟩ := id B7
              obtain ⟨sc, pc, qc⟩ := id C7
              go_wp2_with fail
              refine (h.sub a b _ ha hb).mono ?_
              rintro e w8 ⟨rfl, b8⟩
              rw [HS.out]
              simp only [rok]
              have A8 : At w8 w.heap.size a := by first | exact A7.below b8 | exact (A7.alloc _).below b8 | exact ((A7.alloc _).alloc _).below b8
              have B8 : At w8 (w.heap.size + 1) b := by first | exact B7.below b8 | exact (B7.alloc _).below b8 | exact ((B7.alloc _).alloc _).below b8
              have C8 : At w8 (w.heap.size + 2) c := by first | exact C7.below b8 | exact (C7.alloc _).below b8 | exact ((C7.alloc _).alloc _).below b8
              have c8 : Below w.heap.size w w8 := by have z := c7.size; first | exact chain c7 b8 | exact chain (c7.alloc z _) b8 | exact chain ((c7.alloc z _).alloc (by simp; omega) _) b8
              clear b8 c7 A7 B7 C7
              clear sa pa qa sb pb qb sc pc qc
              obtain ⟨sa, pa, qa⟩ := id A8
              obtain ⟨sb, pb, qb⟩ := id B8
              obtain ⟨sc, pc, qc⟩ := id C8
              go_wp2_with fail
              go_ret
              have z := c8.size
              first | exact ⟨rfl, c8⟩ | exact ⟨rfl, c8.alloc z _⟩ | exact ⟨rfl, (c8.alloc z _).alloc (by simp; omega) _⟩
            · have HT := Lib.hid T
              clear T
              have HU := Lib.hid U
              clear U
              go_enter Try.func6, Try.ntmps6
              go_wp2_with fail
              refine (sane_x h _).mono ?_
              rintro e w1 ⟨rfl, b1⟩
              have A1 : At w1 w.heap.size a := (((At.new w a _ w.heap.size rfl).alloc _).alloc _).below b1
              have B1 : At w1 (w.heap.size + 1) b := ((At.new (w.alloc _) b _ (w.heap.size + 1) (by simp)).alloc _).below b1
              have C1 : At w1 (w.heap.size + 2) c := (At.new ((w.alloc _).alloc _) c _ (w.heap.size + 2) (by simp)).below b1
              have c1 := chain ((((Below.refl w.heap.size w).alloc (Nat.le_refl _) _).alloc (by simp; try omega) _).alloc (by simp; try omega) _) b1
              clear b1
              obtain ⟨sa, pa, qa⟩ := id A1
              obtain ⟨sb, pb, qb⟩ := id B1
              obtain ⟨sc, pc, qc⟩ := id C1
              go_wp2_with fail
              refine (h.right a _ ha).mono ?_
              rintro e w2 ⟨rfl, b2⟩
              rw [HRa.out]
              have A2 : At w2 w.heap.size a := by first | exact A1.below b2 | exact (A1.alloc _).below b2 | exact ((A1.alloc _).alloc _).below b2
              have B2 : At w2 (w.heap.size + 1) b := by first | exact B1.below b2 | exact (B1.alloc _).below b2 | exact ((B1.alloc _).alloc _).below b2
              have C2 : At w2 (w.heap.size + 2) c := by first | exact C1.below b2 | exact (C1.alloc _).below b2 | exact ((C1.alloc _).alloc _).below b2
              have c2 : Below w.heap.size w w2 := by have z := c1.size; first | exact chain c1 b2 | exact chain (c1.alloc z _) b2 | exact chain ((c1.alloc z _).alloc (by simp; omega) _) b2
              clear b2 c1 A1 B1 C1
              clear sa pa qa sb pb qb sc pc qc
              obtain ⟨sa, pa, qa⟩ := id A2
              obtain ⟨sb, pb, qb⟩ := id B2
              obtain ⟨sc, pc, qc⟩ := id C2
              go_wp2_with fail
              refine (h.right b _ hb).mono ?_
              rintro e w3 ⟨rfl, b3⟩
              rw [HRb.out]
              have A3 : At w3 w.heap.size a := by first | exact A2.below b3 | exact (A2.alloc _).below b3 | exact ((A2.alloc _).alloc _).below b3
              have B3 : At w3 (w.heap.size + 1) b := by first | exact B2.below b3 | exact (B2.alloc _).below b3 | exact ((B2.alloc _).alloc _).below b3
              have C3 : At w3 (w.heap.size + 2) c := by first | exact C2.below b3 | exact (C2.alloc _).below b3 | exact ((C2.alloc _).alloc _).below b3
              have c3 : Below w.heap.size w w3 := by have z := c2.size; first | exact chain c2 b3 | exact chain (c2.alloc z _) b3 | exact chain ((c2.alloc z _).alloc (by simp; omega) _) b3
              clear b3 c2 A2 B2 C2
              clear sa pa qa sb pb qb sc pc qc
              obtain ⟨sa, pa, qa⟩ := id A3
              obtain ⟨sb, pb, qb⟩ := id B3
              obtain ⟨sc, pc, qc⟩ := id C3
              go_wp2_with fail
              refine (h.right c _ hc).mono ?_
              rintro e w4 ⟨rfl, b4⟩
              rw [HRc.out]
              have A4 : At w4 w.heap.size a := by first | exact A3.below b4 | exact (A3.alloc _).below b4 | exact ((A3.alloc _).alloc _).below b4
              have B4 : At w4 (w.heap.size + 1) b := by first | exact B3.below b4 | exact (B3.alloc _).below b4 | exact ((B3.alloc _).alloc _).below b4
              have C4 : At w4 (w.heap.size + 2) c := by first | exact C3.below b4 | exact (C3.alloc _).below b4 | exact ((C3.alloc _).alloc _).below b4
              have c4 : Below w.heap.size w w4 := by have z := c3.size; first | exact chain c3 b4 | exact chain (c3.alloc z _) b4 | exact chain ((c3.alloc z _).alloc (by simp; omega) _) b4
              clear b4 c3 A3 B3 C3
              clear sa pa qa sb pb qb sc pc qc
              obtain ⟨sa, pa, qa⟩ := id A4
              obtain ⟨sb, pb, qb⟩ := id B4
              obtain ⟨sc, pc, qc⟩ := id C4
              go_wp2_with fail
              refine (h.cmp a b _ ha hb).mono ?_
              rintro e w5 ⟨rfl, b5⟩
              rw [HX.out]
              have A5 : At w5 w.heap.size a := by first | exact A4.below b5 | exact (A4.alloc _).below b5 | exact ((A4.alloc _).alloc _).below b5
              have B5 : At w5 (w.heap.size + 1) b := by first | exact B4.below b5 | exact (B4.alloc _).below b5 | exact ((B4.alloc _).alloc _).below b5
              have C5 : At w5 (w.heap.size + 2) c := by first | exact C4.below b5 | exact (C4.alloc _).below b5 | exact ((C4.alloc _).alloc _).below b5
              have c5 : Below w.heap.size w w5 := by have z := c4.size; first | exact chain c4 b5 | exact chain (c4.alloc z _) b5 | exact chain ((c4.alloc z _).alloc (by simp; omega) _) b5
              clear b5 c4 A4 B4 C4
              clear sa pa qa sb pb qb sc pc qc
              obtain ⟨sa, pa, qa⟩ := id A5
              obtain ⟨sb, pb, qb⟩ := id B5
              obtain ⟨sc, pc, qc⟩ := id C5
              go_wp2_with fail
              refine (h.cmp b a _ hb ha).mono ?_
              rintro e w6 ⟨rfl, b6⟩
              rw [HY.out]
              have A6 : At w6 w.heap.size a := by first | exact A5.below b6 | exact (A5.alloc _).below b6 | exact ((A5.alloc _).alloc _).below b6
              have B6 : At w6 (w.heap.size + 1) b := by first | exact B5.below b6 | exact (B5.alloc _).below b6 | exact ((B5.alloc _).alloc _).below b6
              have C6 : At w6 (w.heap.size + 2) c := by first | exact C5.below b6 | exact (C5.alloc _).below b6 | exact ((C5.alloc _).alloc _).below b6
              have c6 : Below w.heap.size w w6 := by have z := c5.size; first | exact chain c5 b6 | exact chain (c5.alloc z _) b6 | exact chain ((c5.alloc z _).alloc (by simp; omega) _) b6
              clear b6 c5 A5 B5 C5
              clear sa pa qa sb pb qb sc pc qc
              obtain ⟨sa, pa, qa⟩ := id A6
              obtain ⟨sb, pb, qb⟩ := id B6
              obtain ⟨sc, pc, qc⟩ := id C6
              go_wp2_with fail
              refine (h.cmp b c _ hb hc).mono ?_
              rintro e w7 ⟨rfl, b7⟩
              rw [HT.out]
              have A7 : At w7 w.heap.size a := by first | exact A6.below b7 | exact (A6.alloc _).below b7 | exact ((A6.alloc _).alloc _).below b7
              have B7 : At w7 (w.heap.size + 1) b := by first | exact B6.below b7 | exact (B6.alloc _).below b7 | exact ((B6.alloc _).alloc _).below b7
              have C7 : At w7 (w.heap.size + 2) c := by first | exact C6.below b7 | exact (C6.alloc _).below b7 | exact ((C6.alloc _).alloc _).below b7
              have c7 : Below w.heap.size w w7 := by have z := c6.size; first | exact chain c6 b7 | exact chain (c6.alloc z _) b7 | exact chain ((c6.alloc z _).alloc (by simp; omega) _) b7
              clear b7 c6 A6 B6 C6
              clear sa pa qa sb pb qb sc pc qc
              obtain ⟨sa, pa, qa⟩ := id A7
              obtain ⟨sb, pb, qb⟩ := id B7
              obtain ⟨sc, pc, qc⟩ := id C7
              go_wp2_with fail
              refine (h.cmp a c _ ha hc).mono ?_
              rintro e w8 ⟨rfl, b8⟩
              rw [HU.out]
              have A8 : At w8 w.heap.size a := by first | exact A7.below b8 | exact (A7.alloc _).below b8 | exact ((A7.alloc _).alloc _).below b8
              have B8 : At w8 (w.heap.size + 1) b := by first | exact B7.below b8 | exact (B7.alloc _).below b8 | exact ((B7.alloc _).alloc _).below b8
              have C8 : At w8 (w.heap.size + 2) c := by first | exact C7.below b8 | exact (C7.alloc _).below b8 | exact ((C7.alloc _).alloc _).below b8
              have c8 : Below w.heap.size w w8 := by have z := c7.size; first | exact chain c7 b8 | exact chain (c7.alloc z _) b8 | exact chain ((c7.alloc z _).alloc (by simp; omega) _) b8
              clear b8 c7 A7 B7 C7
              clear sa pa qa sb pb qb sc pc qc
              obtain ⟨sa, pa, qa⟩ := id A8
              obtain ⟨sb, pb, qb⟩ := id B8
              obtain ⟨sc, pc, qc⟩ := id C8
              go_wp2_with fail
              refine (h.sub a b _ ha hb).mono ?_
              rintro e w9 ⟨rfl, b9⟩
              rw [HS.out]
              simp only [rok]
              have A9 : At w9 w.heap.size a := by first | exact A8.below b9 | exact (A8.alloc _).below b9 | exact ((A8.alloc _).alloc _).below b9
              have B9 : At w9 (w.heap.size + 1) b := by first | exact B8.below b9 | exact (B8.alloc _).below b9 | exact ((B8.alloc _).alloc _).below b9
              have C9 : At w9 (w.heap.size + 2) c := by first | exact C8.below b9 | exact (C8.alloc _).below b9 | exact ((C8.alloc _).alloc _).below b9
              have c9 : Below w.heap.size w w9 := by have z := c8.size; first | exact chain c8 b9 | exact chain (c8.alloc z _) b9 | exact chain ((c8.alloc z _).alloc (by simp; omega) _) b9
              clear b9 c8 A8 B8 C8
              clear sa pa qa sb pb qb sc pc qc
              obtain ⟨sa, pa, qa⟩ := id A9
              obtain ⟨sb, pb, qb⟩ := id B9
              obtain ⟨sc, pc, qc⟩ := id C9
              go_wp2_with fail
              go_ret
              have z := c9.size
              first | exact ⟨rfl, c9⟩ | exact ⟨rfl, c9.alloc z _⟩ | exact ⟨rfl, (c9.alloc z _).alloc (by simp; omega) _⟩
          · have HS := Lib.hid S
            clear S
            rcases T with ⟨y, T, hy⟩ | ⟨y, z, T, hy, U, hz⟩
            · have HT := Lib.hid T
              clear T
              go_enter Try.func6, Try.ntmps6
              go_wp2_with fail
              refine (sane_x h _).mono ?_
              rintro e w1 ⟨rfl, b1⟩
              have A1 : At w1 w.heap.size a := (((At.new w a _ w.heap.size rfl).alloc _).alloc _).below b1
              have B1 : At w1 (w.heap.size + 1) b := ((At.new (w.alloc _) b _ (w.heap.size + 1) (by simp)).alloc _).below b1
              have C1 : At w1 (w.heap.size + 2) c := (At.new ((w.alloc _).alloc _) c _ (w.heap.size + 2) (by simp)).below b1
              have c1 := chain ((((Below.refl w.heap.size w).alloc (Nat.le_refl _) _).alloc (by simp; try omega) _).alloc (by simp; try omega) _) b1
              clear b1
              obtain ⟨sa, pa, qa⟩ := id A1
              obtain ⟨sb, pb, qb⟩ := id B1
              obtain ⟨sc, pc, qc⟩ := id C1
              go_wp2_with fail
              refine (h.right a _ ha).mono ?_
              rintro e w2 ⟨rfl, b2⟩
              rw [HRa.out]
              have A2 : At w2 w.heap.size a := by first | exact A1.below b2 | exact (A1.alloc _).below b2 | exact ((A1.alloc _).alloc _).below b2
              have B2 : At w2 (w.heap.size + 1) b := by first | exact B1.below b2 | exact (B1.alloc _).below b2 | exact ((B1.alloc _).alloc _).below b2
              have C2 : At w2 (w.heap.size + 2) c := by first | exact C1.below b2 | exact (C1.alloc _).below b2 | exact ((C1.alloc _).alloc _).below b2
              have c2 : Below w.heap.size w w2 := by have z := c1.size; first | exact chain c1 b2 | exact chain (c1.alloc z _) b2 | exact chain ((c1.alloc z _).alloc (by simp; omega) _) b2
              clear b2 c1 A1 B1 C1
              clear sa pa qa sb pb qb sc pc qc
              obtain ⟨sa, pa, qa⟩ := id A2
              obtain ⟨sb, pb, qb⟩ := id B2
              obtain ⟨sc, pc, qc⟩ := id C2
              go_wp2_with fail
              refine (h.right b _ hb).mono ?_
              rintro e w3 ⟨rfl, b3⟩
              rw [HRb.out]
              have A3 : At w3 w.heap.size a := by first | exact A2.below b3 | exact (A2.alloc _).below b3 | exact ((A2.alloc _).alloc _).below b3
              have B3 : At w3 (w.heap.size + 1) b := by first | exact B2.below b3 | exact (B2.alloc _).below b3 | exact ((B2.alloc _).alloc _).below b3
              have C3 : At w3 (w.heap.size + 2) c := by first | exact C2.below b3 | exact (C2.alloc _).below b3 | exact ((C2.alloc _).alloc _).below b3
              have c3 : Below w.heap.size w w3 := by have z := c2.size; first | exact chain c2 b3 | exact chain (c2.alloc z _) b3 | exact chain ((c2.alloc z _).alloc (by simp; omega) _) b3
              clear b3 c2 A2 B2 C2
              clear sa pa qa sb pb qb sc pc qc
              obtain ⟨sa, pa, qa⟩ := id A3
              obtain ⟨sb, pb, qb⟩ := id B3
              obtain ⟨sc, pc, qc⟩ := id C3
              go_wp2_with fail
              refine (h.right c _ hc).mono ?_
              rintro e w4 ⟨rfl, b4⟩
              rw [HRc.out]
              have A4 : At w4 w.heap.size a := by first | exact A3.below b4 | exact (A3.alloc _).below b4 | exact ((A3.alloc _).alloc _).below b4
              have B4 : At w4 (w.heap.size + 1) b := by first | exact B3.below b4 | exact (B3.alloc _).below b4 | exact ((B3.alloc _).alloc _).below b4
              have C4 : At w4 (w.heap.size + 2) c := by first | exact C3.below b4 | exact (C3.alloc _).below b4 | exact ((C3.alloc _).alloc _).below b4
              have c4 : Below w.heap.size w w4 := by have z := c3.size; first | exact chain c3 b4 | exact chain (c3.alloc z _) b4 | exact chain ((c3.alloc z _).alloc (by simp; omega) _) b4
              clear b4 c3 A3 B3 C3
              clear sa pa qa sb pb qb sc pc qc
              obtain ⟨sa, pa, qa⟩ := id A4
              obtain ⟨sb, pb, qb⟩ := id B4
              obtain ⟨sc, pc, qc⟩ := id C4
              go_wp2_with fail
              refine (h.cmp a b _ ha hb).mono ?_
              rintro e w5 ⟨rfl, b5⟩
              rw [HX.out]
              have A5 : At w5 w.heap.size a := by first | exact A4.below b5 | exact (A4.alloc _).below b5 | exact ((A4.alloc _).alloc _).below b5
              have B5 : At w5 (w.heap.size + 1) b := by first | exact B4.below b5 | exact (B4.alloc _).below b5 | exact ((B4.alloc _).alloc _).below b5
              have C5 : At w5 (w.heap.size + 2) c := by first | exact C4.below b5 | exact (C4.alloc _).below b5 | exact ((C4.alloc _).alloc _).below b5
              have c5 : Below w.heap.size w w5 := by have z := c4.size; first | exact chain c4 b5 | exact chain (c4.alloc z _) b5 | exact chain ((c4.alloc z _).alloc (by simp; omega) _) b5
              clear b5 c4 A4 B4 C4
              clear sa pa qa sb pb qb sc pc qc
              obtain ⟨sa, pa, qa⟩ := id A5
              obtain ⟨sb, pb, qb⟩ := id B5
              obtain ⟨sc, pc, qc⟩ := id C5
              go_wp2_with fail
              refine (h.cmp b a _ hb ha).mono ?_
              rintro e w6 ⟨rfl, b6⟩
              rw [HY.out]
              have A6 : At w6 w.heap.size a := by first | exact A5.below b6 | exact (A5.alloc _).below b6 | exact ((A5.alloc _).alloc _).below b6
              have B6 : At w6 (w.heap.size + 1) b := by first | exact B5.below b6 | exact (B5.alloc _).below b6 | exact ((B5.alloc _).alloc _).below b6
              have C6 : At w6 (w.heap.size + 2) c := by first | exact C5.below b6 | exact (C5.alloc _).below b6 | exact ((C5.alloc _).alloc _).below b6
              have c6 : Below w.heap.size w w6 := by have z := c5.size; first | exact chain c5 b6 | exact chain (c5.alloc z _) b6 | exact chain ((c5.alloc z _).alloc (by simp; omega) _) b6
              clear b6 c5 A5 B5 C5
              clear sa pa qa sb pb qb sc pc qc
              obtain ⟨sa, pa, qa⟩ := id A6
              obtain ⟨sb, pb, qb⟩ := id B6
              obtain ⟨sc, pc, qc⟩ := id C6
              go_wp2_with fail
              refine (h.cmp b c _ hb hc).mono ?_
              rintro e w7 ⟨rfl, b7⟩
              rw [HT.out]
              have A7 : At w7 w.heap.size a := by first | exact A6.below b7 | exact (A6.alloc _).below b7 | exact ((A6.alloc _).alloc _).below b7
              have B7 : At w7 (w.heap.size + 1) b := by first | exact B6.below b7 | exact (B6.alloc _).below b7 | exact ((B6.alloc _).alloc _).below b7
              have C7 : At w7 (w.heap.size + 2) c := by first | exact C6.below b7 | exact (C6.alloc _).below b7 | exact ((C6.alloc _).alloc _).below b7
              have c7 : Below w.heap.size w w7 := by have z := c6.size; first | exact chain c6 b7 | exact chain (c6.alloc z _) b7 | exact chain ((c6.alloc z _).alloc (by simp; omega) _) b7
              clear b7 c6 A6 B6 C6
              clear sa pa qa sb pb qb sc pc qc
              obtain ⟨sa, pa, qa⟩ := id A7
              obtain ⟨sb, pb, qb⟩ := id B7
              obtain ⟨sc, pc, qc⟩ := id C7
              go_wp2_with fail
              refine (h.sub a b _ ha hb).mono ?_
              rintro e w8 ⟨rfl, b8⟩
              rw [HS.out]
              simp only [rok]
              have A8 : At w8 w.heap.size a := by first | exact A7.below b8 | exact (A7.alloc _).below b8 | exact ((A7.alloc _).alloc _).below b8
              have B8 : At w8 (w.heap.size + 1) b := by first | exact B7.below b8 | exact (B7.alloc _).below b8 | exact ((B7.alloc _).alloc _).below b8
              have C8 : At w8 (w.heap.size + 2) c := by first | exact C7.below b8 | exact (C7.alloc _).below b8 | exact ((C7.alloc _).alloc _).below b8
              have c8 : Below w.heap.size w w8 := by have z := c7.size; first | exact chain c7 b8 | exact chain (c7.alloc z _) b8 | exact chain ((c7.alloc z _).alloc (by simp; omega) _) b8
              clear b8 c7 A7 B7 C7
              clear sa pa qa sb pb qb sc pc qc
              obtain ⟨sa, pa, qa⟩ := id A8
              obtain ⟨sb, pb, qb⟩ := id B8
              obtain ⟨sc, pc, qc⟩ := id C8
              go_wp2_with fail
              go_ret
              have z := c8.size
              first | exact ⟨rfl, c8⟩ | exact ⟨rfl, c8.alloc z _⟩ | exact ⟨rfl, (c8.alloc z _).alloc (by simp; omega) _⟩
            · have HT := Lib.hid T
              clear T
              have HU := Lib.hid U
              clear U
              go_enter Try.func6, Try.ntmps6
              go_wp2_with fail
              refine (sane_x h _).mono ?_
              rintro e w1 ⟨rfl, b1⟩
              have A1 : At w1 w.heap.size a := (((At.new w a _ w.heap.size rfl).alloc _).alloc _).below b1
              have B1 : At w1 (w.heap.size + 1) b := ((At.new (w.alloc _) b _ (w.heap.size + 1) (by simp)).alloc _).below b1
              have C1 : At w1 (w.heap.size + 2) c := (At.new ((w.alloc _).alloc _) c _ (w.heap.size + 2) (by simp)).below b1
              have c1 := chain ((((Below.refl w.heap.size w).alloc (Nat.le_refl _) _).alloc (by simp; try omega) _).alloc (by simp; try omega) _) b1
              clear b1
              obtain ⟨sa, pa, qa⟩ := id A1
              obtain ⟨sb, pb, qb⟩ := id B1
              obtain ⟨sc, pc, qc⟩ := id C1
              go_wp2_with fail
              refine (h.right a _ ha).mono ?_
              rintro e w2 ⟨rfl, b2⟩
              rw [HRa.out]
              have A2 : At w2 w.heap.size a := by first | exact A1.below b2 | exact (A1.alloc _).below b2 | exact ((A1.alloc _).alloc _).below b2
              have B2 : At w2 (w.heap.size + 1) b := by first | exact B1.below b2 | exact (B1.alloc _).below b2 | exact ((B1.alloc _).alloc _).below b2
              have C2 : At w2 (w.heap.size + 2) c := by first | exact C1.below b2 | exact (C1.alloc _).below b2 | exact ((C1.alloc _).alloc _).below b2
              have c2 : Below w.heap.size w w2 := by have z := c1.size; first | exact chain c1 b2 | exact chain (c1.alloc z _) b2 | exact chain ((c1.alloc z _).alloc (by simp; omega) _) b2
              clear b2 c1 A1 B1 C1
              clear sa pa qa sb pb qb sc pc qc
              obtain ⟨sa, pa, qa⟩ := id A2
              obtain ⟨sb, pb, qb⟩ := id B2
              obtain ⟨sc, pc, qc⟩ := id C2
              go_wp2_with fail
              refine (h.right b _ hb).mono ?_
              rintro e w3 ⟨rfl, b3⟩
              rw [HRb.out]
              have A3 : At w3 w.heap.size a := by first | exact A2.below b3 | exact (A2.alloc _).below b3 | exact ((A2.alloc _).alloc _).below b3
              have B3 : At w3 (w.heap.size + 1) b := by first | exact B2.below b3 | exact (B2.alloc _).below b3 | exact ((B2.alloc _).alloc _).below b3
              have C3 : At w3 (w.heap.size + 2) c := by first | exact C2.below b3 | exact (C2.alloc _).below b3 | exact ((C2.alloc _).alloc _).below b3
              have c3 : Below w.heap.size w w3 := by have z := c2.size; first | exact chain c2 b3 | exact chain (c2.alloc z _) b3 | exact chain ((c2.alloc z _).alloc (by simp; omega) _) b3
              clear b3 c2 A2 B2 C2
              clear sa pa qa sb pb qb sc pc qc
              obtain ⟨sa, pa, qa⟩ := id A3
              obtain ⟨sb, pb, qb⟩ := id B3
              obtain ⟨sc, pc, qc⟩ := id C3
              go_wp2_with fail
              refine (h.right c _ hc).mono ?_
              rintro e w4 ⟨rfl, b4⟩
              rw [HRc.out]
              have A4 : At w4 w.heap.size a := by first | exact A3.below b4 | exact (A3.alloc _).below b4 | exact ((A3.alloc _).alloc _).below b4
              have B4 : At w4 (w.heap.size + 1) b := by first | exact B3.below b4 | exact (B3.alloc _).below b4 | exact ((B3.alloc _).alloc _).below b4
              have C4 : At w4 (w.heap.size + 2) c := by first | exact C3.below b4 | exact (C3.alloc _).below b4 | exact ((C3.alloc _).alloc _).below b4
              have c4 : Below w.heap.size w w4 := by have z := c3.size; first | exact chain c3 b4 | exact chain (c3.alloc z _) b4 | exact chain ((c3.alloc z _).alloc (by simp; omega) _) b4
              clear b4 c3 A3 B3 C3
              clear sa pa qa sb pb qb sc pc qc
              obtain ⟨sa, pa, qa⟩ := id A4
              obtain ⟨sb, pb, qb⟩ := id B4
              obtain ⟨sc, pc, qc⟩ := id C4
              go_wp2_with fail
              refine (h.cmp a b _ ha hb).mono ?_
              rintro e w5 ⟨rfl, b5⟩
              rw [HX.out]
              have A5 : At w5 w.heap.size a := by first | exact A4.below b5 | exact (A4.alloc _).below b5 | exact ((A4.alloc _).alloc _).below b5
              have B5 : At w5 (w.heap.size + 1) b := by first | exact B4.below b5 | exact (B4.alloc _).below b5 | exact ((B4.alloc _).alloc _).below b5
              have C5 : At w5 (w.heap.size + 2) c := by first | exact C4.below b5 | exact (C4.alloc _).below b5 | exact ((C4.alloc _).alloc _).below b5
              have c5 : Below w.heap.size w w5 := by have z := c4.size; first | exact chain c4 b5 | exact chain (c4.alloc z _) b5 | exact chain ((c4.alloc z _).alloc (by simp; omega) _) b5
              clear b5 c4 A4 B4 C4
              clear sa pa qa sb pb qb sc pc qc
              obtain ⟨sa, pa, qa⟩ := id A5
              obtain ⟨sb, pb, qb⟩ := id B5
              obtain ⟨sc, pc, qc⟩ := id C5
              go_wp2_with fail
              refine (h.cmp b a _ hb ha).mono ?_
              rintro e w6 ⟨rfl, b6⟩
              rw [HY.out]
              have A6 : At w6 w.heap.size a := by first | exact A5.below b6 | exact (A5.alloc _).below b6 | exact ((A5.alloc _).alloc _).below b6
              have B6 : At w6 (w.heap.size + 1) b := by first | exact B5.below b6 | exact (B5.alloc _).below b6 | exact ((B5.alloc _).alloc _).below b6
              have C6 : At w6 (w.heap.size + 2) c := by first | exact C5.below b6 | exact (C5.alloc _).below b6 | exact ((C5.alloc _).alloc _).below b6
              have c6 : Below w.heap.size w w6 := by have z := c5.size; first | exact chain c5 b6 | exact chain (c5.alloc z _) b6 | exact chain ((c5.alloc z _).alloc (by simp; omega) _) b6
              clear b6 c5 A5 B5 C5
              clear sa pa qa sb pb qb sc pc qc
              obtain ⟨sa, pa, qa⟩ := id A6
              obtain ⟨sb, pb, qb⟩ := id B6
              obtain ⟨sc, pc, qc⟩ := id C6
              go_wp2_with fail
              refine (h.cmp b c _ hb hc).mono ?_
              rintro e w7 ⟨rfl, b7⟩
              rw [HT.out]
              have A7 : At w7 w.heap.size a := by first | exact A6.below b7 | exact (A6.alloc _).below b7 | exact ((A6.alloc _).alloc _).below b7
              have B7 : At w7 (w.heap.size + 1) b := by first | exact B6.below b7 | exact (B6.alloc _).below b7 | exact ((B6.alloc _).alloc _).below b7
              have C7 : At w7 (w.heap.size + 2) c := by first | exact C6.below b7 | exact (C6.alloc _).below b7 | exact ((C6.alloc _).alloc _).below b7
              have c7 : Below w.heap.size w w7 := by have z := c6.size; first | exact chain c6 b7 | exact chain (c6.alloc z _) b7 | exact chain ((c6.alloc z _).alloc (by simp; omega) _) b7
              clear b7 c6 A6 B6 C6
              clear sa pa qa sb pb qb sc pc qc
              obtain ⟨sa, pa, qa⟩ := id A7
              obtain ⟨sb, pb, qb⟩ := id B7
              obtain ⟨sc, pc, qc⟩ := id C7
              go_wp2_with fail
              refine (h.cmp a c _ ha hc).mono ?_
              rintro e w8 ⟨rfl, b8⟩
              rw [HU.out]
              have A8 : At w8 w.heap.size a := by first | exact A7.below b8 | exact (A7.alloc _).below b8 | exact ((A7.alloc _).alloc _).below b8
              have B8 : At w8 (w.heap.size + 1) b := by first | exact B7.below b8 | exact (B7.alloc _).below b8 | exact ((B7.alloc _).alloc _).below b8
              have C8 : At w8 (w.heap.size + 2) c := by first | exact C7.below b8 | exact (C7.alloc _).below b8 | exact ((C7.alloc _).alloc _).below b8
              have c8 : Below w.heap.size w w8 := by have z := c7.size; first | exact chain c7 b8 | exact chain (c7.alloc z _) b8 | exact chain ((c7.alloc z _).alloc (by simp; omega) _) b8
              clear b8 c7 A7 B7 C7
              clear sa pa qa sb pb qb sc pc qc
              obtain ⟨sa, pa, qa⟩ := id A8
              obtain ⟨sb, pb, qb⟩ := id B8
              obtain ⟨sc, pc, qc⟩ := id C8
              go_wp2_with fail
              refine (h.sub a b _ ha hb).mono ?_
              rintro e w9 ⟨rfl, b9⟩
              rw [HS.out]
              simp only [rok]
              have A9 : At w9 w.heap.size a := by first | exact A8.below b9 | exact (A8.alloc _).below b9 | exact ((A8.alloc _).alloc _).below b9
              have B9 : At w9 (w.heap.size + 1) b := by first | exact B8.below b9 | exact (B8.alloc _).below b9 | exact ((B8.alloc _).alloc _).below b9
              have C9 : At w9 (w.heap.size + 2) c := by first | exact C8.below b9 | exact (C8.alloc _).below b9 | exact ((C8.alloc _).alloc _).below b9
              have c9 : Below w.heap.size w w9 := by have z := c8.size; first | exact chain c8 b9 | exact chain (c8.alloc z _) b9 | exact chain ((c8.alloc z _).alloc (by simp; omega) _) b9
              clear b9 c8 A8 B8 C8
              clear sa pa qa sb pb qb sc pc qc
              obtain ⟨sa, pa, qa⟩ := id A9
              obtain ⟨sb, pb, qb⟩ := id B9
              obtain ⟨sc, pc, qc⟩ := id C9
              go_wp2_with fail
              go_ret
              have z := c9.size
              first | exact ⟨rfl, c9⟩ | exact ⟨rfl, c9.alloc z _⟩ | exact ⟨rfl, (c9.alloc z _).alloc (by simp; omega) _⟩
        · have HRa := Lib.hid Ra
          have HRb := Lib.hid Rb
          have HRc := Lib.hid Rc
          have HX := Lib.hid X
          have HY := Lib.hid Y
          clear Ra Rb Rc X Y
          rcases E with E1 | ⟨E1, E2⟩
          · rcases S with ⟨d, S, hd, sd⟩ | S
            · have HS := Lib.hid S
              clear S
              have sd1 : decide (d.n < 0) = false := by simp; omega
              have sd2 : decide (0 < d.n) = true := by simp; omega
              go_enter Try.func6, Try.ntmps6
              go_wp2_with fail
              refine (sane_x h _).mono ?_
              rintro e w1 ⟨rfl, b1⟩
              have A1 : At w1 w.heap.size a := (((At.new w a _ w.heap.size rfl).alloc _).alloc _).below b1
              have B1 : At w1 (w.heap.size + 1) b := ((At.new (w.alloc _) b _ (w.heap.size + 1) (by simp)).alloc _).below b1
              have C1 : At w1 (w.heap.size + 2) c := (At.new ((w.alloc _).alloc _) c _ (w.heap.size + 2) (by simp)).below b1
              have c1 := chain ((((Below.refl w.heap.size w).alloc (Nat.le_refl _) _).alloc (by simp; try omega) _).alloc (by simp; try omega) _) b1
              clear b1
              obtain ⟨sa, pa, qa⟩ := id A1
              obtain ⟨sb, pb, qb⟩ := id B1
              obtain ⟨sc, pc, qc⟩ := id C1
              go_wp2_with fail
              refine (h.right a _ ha).mono ?_
              rintro e w2 ⟨rfl, b2⟩
              rw [HRa.out]
              have A2 : At w2 w.heap.size a := by first | exact A1.below b2 | exact (A1.alloc _).below b2 | exact ((A1.alloc _).alloc _).below b2
              have B2 : At w2 (w.heap.size + 1) b := by first | exact B1.below b2 | exact (B1.alloc _).below b2 | exact ((B1.alloc _).alloc _).below b2
              have C2 : At w2 (w.heap.size + 2) c := by first | exact C1.below b2 | exact (C1.alloc _).below b2 | exact ((C1.alloc _).alloc _).below b2
              have c2 : Below w.heap.size w w2 := by have z := c1.size; first | exact chain c1 b2 | exact chain (c1.alloc z _) b2 | exact chain ((c1.alloc z _).alloc (by simp; omega) _) b2
              clear b2 c1 A1 B1 C1
              clear sa pa qa sb pb qb sc pc qc
              obtain ⟨sa, pa, qa⟩ := id A2
              obtain ⟨sb, pb, qb⟩ := id B2
              obtain ⟨sc, pc, qc⟩ := id C2
              go_wp2_with fail
              refine (h.right b _ hb).mono ?_
              rintro e w3 ⟨rfl, b3⟩
              rw [HRb.out]
              have A3 : At w3 w.heap.size a := by first | exact A2.below b3 | exact (A2.alloc _).below b3 | exact ((A2.alloc _).alloc _).below b3
              have B3 : At w3 (w.heap.size + 1) b := by first | exact B2.below b3 | exact (B2.alloc _).below b3 | exact ((B2.alloc _).alloc _).below b3
              have C3 : At w3 (w.heap.size + 2) c := by first | exact C2.below b3 | exact (C2.alloc _).below b3 | exact ((C2.alloc _).alloc _).below b3
              have c3 : Below w.heap.size w w3 := by have z := c2.size; first | exact chain c2 b3 | exact chain (c2.alloc z _) b3 | exact chain ((c2.alloc z _).alloc (by simp; omega) _) b3
              clear b3 c2 A2 B2 C2
              clear sa pa qa sb pb qb sc pc qc
              obtain ⟨sa, pa, qa⟩ := id A3
              obtain ⟨sb, pb, qb⟩ := id B3
              obtain ⟨sc, pc, qc⟩ := id C3
              go_wp2_with fail
              refine (h.right c _ hc).mono ?_
              rintro e w4 ⟨rfl, b4⟩
              rw [HRc.out]
              have A4 : At w4 w.heap.size a := by first | exact A3.below b4 | exact (A3.alloc _).below b4 | exact ((A3.alloc _).alloc _).below b4
              have B4 : At w4 (w.heap.size + 1) b := by first | exact B3.below b4 | exact (B3.alloc _).below b4 | exact ((B3.alloc _).alloc _).below b4
              have C4 : At w4 (w.heap.size + 2) c := by first | exact C3.below b4 | exact (C3.alloc _).below b4 | exact ((C3.alloc _).alloc _).below b4
              have c4 : Below w.heap.size w w4 := by have z := c3.size; first | exact chain c3 b4 | exact chain (c3.alloc z _) b4 | exact chain ((c3.alloc z _).alloc (by simp; omega) _) b4
              clear b4 c3 A3 B3 C3
              clear sa pa qa sb pb qb sc pc qc
              obtain ⟨sa, pa, qa⟩ := id A4
              obtain ⟨sb, pb, qb⟩ := id B4
              obtain ⟨sc, pc, qc⟩ := id C4
              go_wp2_with fail
              refine (h.cmp a b _ ha hb).mono ?_
              rintro e w5 ⟨rfl, b5⟩
              rw [HX.out]
              have A5 : At w5 w.heap.size a := by first | exact A4.below b5 | exact (A4.alloc _).below b5 | exact ((A4.alloc _).alloc _).below b5
              have B5 : At w5 (w.heap.size + 1) b := by first | exact B4.below b5 | exact (B4.alloc _).below b5 | exact ((B4.alloc _).alloc _).below b5
              have C5 : At w5 (w.heap.size + 2) c := by first | exact C4.below b5 | exact (C4.alloc _).below b5 | exact ((C4.alloc _).alloc _).below b5
              have c5 : Below w.heap.size w w5 := by have z := c4.size; first | exact chain c4 b5 | exact chain (c4.alloc z _) b5 | exact chain ((c4.alloc z _).alloc (by simp; omega) _) b5
              clear b5 c4 A4 B4 C4
              clear sa pa qa sb pb qb sc pc qc
              obtain ⟨sa, pa, qa⟩ := id A5
              obtain ⟨sb, pb, qb⟩ := id B5
              obtain ⟨sc, pc, qc⟩ := id C5
              go_wp2_with fail
              refine (h.cmp b a _ hb ha).mono ?_
              rintro e w6 ⟨rfl, b6⟩
              rw [HY.out]
              have A6 : At w6 w.heap.size a := by first | exact A5.below b6 | exact (A5.alloc _).below b6 | exact ((A5.alloc _).alloc _).below b6
              have B6 : At w6 (w.heap.size + 1) b := by first | exact B5.below b6 | exact (B5.alloc _).below b6 | exact ((B5.alloc _).alloc _).below b6
              have C6 : At w6 (w.heap.size + 2) c := by first | exact C5.below b6 | exact (C5.alloc _).below b6 | exact ((C5.alloc _).alloc _).below b6
              have c6 : Below w.heap.size w w6 := by have z := c5.size; first | exact chain c5 b6 | exact chain (c5.alloc z _) b6 | exact chain ((c5.alloc z _).alloc (by simp; omega) _) b6
              clear b6 c5 A5 B5 C5
              clear sa pa qa sb pb qb sc pc qc
              obtain ⟨sa, pa, qa⟩ := id A6
              obtain ⟨sb, pb, qb⟩ := id B6
              obtain ⟨sc, pc, qc⟩ := id C6
              go_wp2_with fail
              refine (h.sub a b _ ha hb).mono ?_
              rintro e w7 ⟨rfl, b7⟩
              rw [HS.out]
              simp only [rok]
              have A7 : At w7 w.heap.size a := by first | exact A6.below b7 | exact (A6.alloc _).below b7 | exact ((A6.alloc _).alloc _).below b7
              have B7 : At w7 (w.heap.size + 1) b := by first | exact B6.below b7 | exact (B6.alloc _).below b7 | exact ((B6.alloc _).alloc _).below b7
              have C7 : At w7 (w.heap.size + 2) c := by first | exact C6.below b7 | exact (C6.alloc _).below b7 | exact ((C6.alloc _).alloc _).below b7
              have c7 : Below w.heap.size w w7 := by have z := c6.size; first | exact chain c6 b7 | exact chain (c6.alloc z _) b7 | exact chain ((c6.alloc z _).alloc (by simp; omega) _) b7
              clear b7 c6 A6 B6 C6
              clear sa pa qa sb pb qb sc pc qc
              obtain ⟨sa, pa, qa⟩ := id A7
              obtain ⟨sb, pb, qb⟩ := id B7
              obtain ⟨sc, pc, qc⟩ := id C7
              go_wp2_with fail
              go_ret
              have z := c7.size
              first | exact ⟨rfl, c7⟩ | exact ⟨rfl, c7.alloc z _⟩ | exact ⟨rfl, (c7.alloc z _).alloc (by simp; omega) _⟩
            · have HS := Lib.hid S
              clear S
              go_enter Try.func6, Try.ntmps6
              go_wp2_with fail
              refine (sane_x h _).mono ?_
              rintro e w1 ⟨rfl, b1⟩
              have A1 : At w1 w.heap.size a := (((At.new w a _ w.heap.size rfl).alloc _).alloc _).below b1
              have B1 : At w1 (w.heap.size + 1) b := ((At.new (w.alloc _) b _ (w.heap.size + 1) (by simp)).alloc _).below b1
              have C1 : At w1 (w.heap.size + 2) c := (At.new ((w.alloc _).alloc _) c _ (w.heap.size + 2) (by simp)).below b1
              have c1 := chain ((((Below.refl w.heap.size w).alloc (Nat.le_refl _) _).alloc (by simp; try omega) _).alloc (by simp; try omega) _) b1
              clear b1
              obtain ⟨sa, pa, qa⟩ := id A1
              obtain ⟨sb, pb, qb⟩ := id B1
              obtain ⟨sc, pc, qc⟩ := id C1
              go_wp2_with fail
              refine (h.right a _ ha).mono ?_
              rintro e w2 ⟨rfl, b2⟩
              rw [HRa.out]
              have A2 : At w2 w.heap.size a := by first | exact A1.below b2 | exact (A1.alloc _).below b2 | exact ((A1.alloc _).alloc _).below b2
              have B2 : At w2 (w.heap.size + 1) b := by first | exact B1.below b2 | exact (B1.alloc _).below b2 | exact ((B1.alloc _).alloc _).below b2
              have C2 : At w2 (w.heap.size + 2) c := by first | exact C1.below b2 | exact (C1.alloc _).below b2 | exact ((C1.alloc _).alloc _).below b2
              have c2 : Below w.heap.size w w2 := by have z := c1.size; first | exact chain c1 b2 | exact chain (c1.alloc z _) b2 | exact chain ((c1.alloc z _).alloc (by simp; omega) _) b2
              clear b2 c1 A1 B1 C1
              clear sa pa qa sb pb qb sc pc qc
              obtain ⟨sa, pa, qa⟩ := id A2
              obtain ⟨sb, pb, qb⟩ := id B2
              obtain ⟨sc, pc, qc⟩ := id C2
              go_wp2_with fail
              refine (h.right b _ hb).mono ?_
              rintro e w3 ⟨rfl, b3⟩
              rw [HRb.out]
              have A3 : At w3 w.heap.size a := by first | exact A2.below b3 | exact (A2.alloc _).below b3 | exact ((A2.alloc _).alloc _).below b3
              have B3 : At w3 (w.heap.size + 1) b := by first | exact B2.below b3 | exact (B2.alloc _).below b3 | exact ((B2.alloc _).alloc _).below b3
              have C3 : At w3 (w.heap.size + 2) c := by first | exact C2.below b3 | exact (C2.alloc _).below b3 | exact ((C2.alloc _).alloc _).below b3
              have c3 : Below w.heap.size w w3 := by have z := c2.size; first | exact chain c2 b3 | exact chain (c2.alloc z _) b3 | exact chain ((c2.alloc z _).alloc (by simp; omega) _) b3
              clear b3 c2 A2 B2 C2
              clear sa pa qa sb pb qb sc pc qc
              obtain ⟨sa, pa, qa⟩ := id A3
              obtain ⟨sb, pb, qb⟩ := id B3
              obtain ⟨sc, pc, qc⟩ := id C3
              go_wp2_with fail
              refine (h.right c _ hc).mono ?_
              rintro e w4 ⟨rfl, b4⟩
              rw [HRc.out]
              have A4 : At w4 w.heap.size a := by first | exact A3.below b4 | exact (A3.alloc _).below b4 | exact ((A3.alloc _).alloc _).below b4
              have B4 : At w4 (w.heap.size + 1) b := by first | exact B3.below b4 | exact (B3.alloc _).below b4 | exact ((B3.alloc _).alloc _).below b4
              have C4 : At w4 (w.heap.size + 2) c := by first | exact C3.below b4 | exact (C3.alloc _).below b4 | exact ((C3.alloc _).alloc _).below b4
              have c4 : Below w.heap.size w w4 := by have z := c3.size; first | exact chain c3 b4 | exact chain (c3.alloc z _) b4 | exact chain ((c3.alloc z _).alloc (by simp; omega) _) b4
              clear b4 c3 A3 B3 C3
              clear sa pa qa sb pb qb sc pc qc
              obtain ⟨sa, pa, qa⟩ := id A4
              obtain ⟨sb, pb, qb⟩ := id B4
              obtain ⟨sc, pc, qc⟩ := id C4
              go_wp2_with fail
              refine (h.cmp a b _ ha hb).mono ?_
              rintro e w5 ⟨rfl, b5⟩
              rw [HX.out]
              have A5 : At w5 w.heap.size a := by first | exact A4.below b5 | exact (A4.alloc _).below b5 | exact ((A4.alloc _).alloc _).below b5
              have B5 : At w5 (w.heap.size + 1) b := by first | exact B4.below b5 | exact (B4.alloc _).below b5 | exact ((B4.alloc _).alloc _).below b5
              have C5 : At w5 (w.heap.size + 2) c := by first | exact C4.below b5 | exact (C4.alloc _).below b5 | exact ((C4.alloc _).alloc _).below b5
              have c5 : Below w.heap.size w w5 := by have z := c4.size; first | exact chain c4 b5 | exact chain (c4.alloc z _) b5 | exact chain ((c4.alloc z _).alloc (by simp; omega) _) b5
              clear b5 c4 A4 B4 C4
              clear sa pa qa sb pb qb sc pc qc
              obtain ⟨sa, pa, qa⟩ := id A5
              obtain ⟨sb, pb, qb⟩ := id B5
              obtain ⟨sc, pc, qc⟩ := id C5
              go_wp2_with fail
              refine (h.cmp b a _ hb ha).mono ?_
              rintro e w6 ⟨rfl, b6⟩
              rw [HY.out]
              have A6 : At w6 w.heap.size a := by first | exact A5.below b6 | exact (A5.alloc _).below b6 | exact ((A5.alloc _).alloc _).below b6
              have B6 : At w6 (w.heap.size + 1) b := by first | exact B5.below b6 | exact (B5.alloc _).below b6 | exact ((B5.alloc _).alloc _).below b6
              have C6 : At w6 (w.heap.size + 2) c := by first | exact C5.below b6 | exact (C5.alloc _).below b6 | exact ((C5.alloc _).alloc _).below b6
              have c6 : Below w.heap.size w w6 := by have z := c5.size; first | exact chain c5 b6 | exact chain (c5.alloc z _) b6 | exact chain ((c5.alloc z _).alloc (by simp; omega) _) b6
              clear b6 c5 A5 B5 C5
              clear sa pa qa sb pb qb sc pc qc
              obtain ⟨sa, pa, qa⟩ := id A6
              obtain ⟨sb, pb, qb⟩ := id B6
              obtain ⟨sc, pc, qc⟩ := id C6
              go_wp2_with fail
              refine (h.sub a b _ ha hb).mono ?_
              rintro e w7 ⟨rfl, b7⟩
              rw [HS.out]
              simp only [rok]
              have A7 : At w7 w.heap.size a := by first | exact A6.below b7 | exact (A6.alloc _).below b7 | exact ((A6.alloc _).alloc _).below b7
              have B7 : At w7 (w.heap.size + 1) b := by first | exact B6.below b7 | exact (B6.alloc _).below b7 | exact ((B6.alloc _).alloc _).below b7
              have C7 : At w7 (w.heap.size + 2) c := by first | exact C6.below b7 | exact (C6.alloc _).below b7 | exact ((C6.alloc _).alloc _).below b7
              have c7 : Below w.heap.size w w7 := by have z := c6.size; first | exact chain c6 b7 | exact chain (c6.alloc z _) b7 | exact chain ((c6.alloc z _).alloc (by simp; omega) _) b7
              clear b7 c6 A6 B6 C6
              clear sa pa qa sb pb qb sc pc qc
              obtain ⟨sa, pa, qa⟩ := id A7
              obtain ⟨sb, pb, qb⟩ := id B7
              obtain ⟨sc, pc, qc⟩ := id C7
              go_wp2_with fail
              go_ret
              have z := c7.size
              first | exact ⟨rfl, c7⟩ | exact ⟨rfl, c7.alloc z _⟩ | exact ⟨rfl, (c7.alloc z _).alloc (by simp; omega) _⟩
          · rcases S with ⟨d, S, hd, sd⟩ | S
            · have HS := Lib.hid S
              clear S
              have sd1 : decide (d.n < 0) = false := by simp; omega
              have sd2 : decide (0 < d.n) = true := by simp; omega
              go_enter Try.func6, Try.ntmps6
              go_wp2_with fail
              refine (sane_x h _).mono ?_
              rintro e w1 ⟨rfl, b1⟩
              have A1 : At w1 w.heap.size a := (((At.new w a _ w.heap.size rfl).alloc _).alloc _).below b1
              have B1 : At w1 (w.heap.size + 1) b := ((At.new (w.alloc _) b _ (w.heap.size + 1) (by simp)).alloc _).below b1
              have C1 : At w1 (w.heap.size + 2) c := (At.new ((w.alloc _).alloc _) c _ (w.heap.size + 2) (by simp)).below b1
              have c1 := chain ((((Below.refl w.heap.size w).alloc (Nat.le_refl _) _).alloc (by simp; try omega) _).alloc (by simp; try omega) _) b1
              clear b1
              obtain ⟨sa, pa, qa⟩ := id A1
              obtain ⟨sb, pb, qb⟩ := id B1
              obtain ⟨sc, pc, qc⟩ := id C1
              go_wp2_with fail
              refine (h.right a _ ha).mono ?_
              rintro e w2 ⟨rfl, b2⟩
              rw [HRa.out]
              have A2 : At w2 w.heap.size a := by first | exact A1.below b2 | exact (A1.alloc _).below b2 | exact ((A1.alloc _).alloc _).below b2
              have B2 : At w2 (w.heap.size + 1) b := by first | exact B1.below b2 | exact (B1.alloc _).below b2 | exact ((B1.alloc _).alloc _).below b2
              have C2 : At w2 (w.heap.size + 2) c := by first | exact C1.below b2 | exact (C1.alloc _).below b2 | exact ((C1.alloc _).alloc _).below b2
              have c2 : Below w.heap.size w w2 := by have z := c1.size; first | exact chain c1 b2 | exact chain (c1.alloc z _) b2 | exact chain ((c1.alloc z _).alloc (by simp; omega) _) b2
              clear b2 c1 A1 B1 C1
              clear sa pa qa sb pb qb sc pc qc
              obtain ⟨sa, pa, qa⟩ := id A2
              obtain ⟨sb, pb, qb⟩ := id B2
              obtain ⟨sc, pc, qc⟩ := id C2
              go_wp2_with fail
              refine (h.right b _ hb).mono ?_
              rintro e w3 ⟨rfl, b3⟩
              rw [HRb.out]
              have A3 : At w3 w.heap.size a := by first | exact A2.below b3 | exact (A2.alloc _).below b3 | exact ((A2.alloc _).alloc _).below b3
              have B3 : At w3 (w.heap.size + 1) b := by first | exact B2.below b3 | exact (B2.alloc _).below b3 | exact ((B2.alloc _).alloc _).below b3
              have C3 : At w3 (w.heap.size + 2) c := by first | exact C2.below b3 | exact (C2.alloc _).below b3 | exact ((C2.alloc _).alloc _).below b3
              have c3 : Below w.heap.size w w3 := by have z := c2.size; first | exact chain c2 b3 | exact chain (c2.alloc z _) b3 | exact chain ((c2.alloc z _).alloc (by simp; omega) _) b3
              clear b3 c2 A2 B2 C2
              clear sa pa qa sb pb qb sc pc qc
              obtain ⟨sa, pa, qa⟩ := id A3
              obtain ⟨sb, pb, qb⟩ := id B3
              obtain ⟨sc, pc, qc⟩ := id C3
              go_wp2_with fail
              refine (h.right c _ hc).mono ?_
              rintro e w4 ⟨rfl, b4⟩
              rw [HRc.out]
              have A4 : At w4 w.heap.size a := by first | exact A3.below b4 | exact (A3.alloc _).below b4 | exact ((A3.alloc _).alloc _).below b4
              have B4 : At w4 (w.heap.size + 1) b := by first | exact B3.below b4 | exact (B3.alloc _).below b4 | exact ((B3.alloc _).alloc _).below b4
              have C4 : At w4 (w.heap.size + 2) c := by first | exact C3.below b4 | exact (C3.alloc _).below b4 | exact ((C3.alloc _).alloc _).below b4
              have c4 : Below w.heap.size w w4 := by have z := c3.size; first | exact chain c3 b4 | exact chain (c3.alloc z _) b4 | exact chain ((c3.alloc z _).alloc (by simp; omega) _) b4
              clear b4 c3 A3 B3 C3
              clear sa pa qa sb pb qb sc pc qc
              obtain ⟨sa, pa, qa⟩ := id A4
              obtain ⟨sb, pb, qb⟩ := id B4
              obtain ⟨sc, pc, qc⟩ := id C4
              go_wp2_with fail
              refine (h.cmp a b _ ha hb).mono ?_
              rintro e w5 ⟨rfl, b5⟩
              rw [HX.out]
              have A5 : At w5 w.heap.size a := by first | exact A4.below b5 | exact (A4.alloc _).below b5 | exact ((A4.alloc _).alloc _).below b5
              have B5 : At w5 (w.heap.size + 1) b := by first | exact B4.below b5 | exact (B4.alloc _).below b5 | exact ((B4.alloc _).alloc _).below b5
              have C5 : At w5 (w.heap.size + 2) c := by first | exact C4.below b5 | exact (C4.alloc _).below b5 | exact ((C4.alloc _).alloc _).below b5
              have c5 : Below w.heap.size w w5 := by have z := c4.size; first | exact chain c4 b5 | exact chain (c4.alloc z _) b5 | exact chain ((c4.alloc z _).alloc (by simp; omega) _) b5
              clear b5 c4 A4 B4 C4
              clear sa pa qa sb pb qb sc pc qc
              obtain ⟨sa, pa, qa⟩ := id A5
              obtain ⟨sb, pb, qb⟩ := id B5
              obtain ⟨sc, pc, qc⟩ := id C5
              go_wp2_with fail
              refine (h.cmp b a _ hb ha).mono ?_
              rintro e w6 ⟨rfl, b6⟩
              rw [HY.out]
              have A6 : At w6 w.heap.size a := by first | exact A5.below b6 | exact (A5.alloc _).below b6 | exact ((A5.alloc _).alloc _).below b6
              have B6 : At w6 (w.heap.size + 1) b := by first | exact B5.below b6 | exact (B5.alloc _).below b6 | exact ((B5.alloc _).alloc _).below b6
              have C6 : At w6 (w.heap.size + 2) c := by first | exact C5.below b6 | exact (C5.alloc _).below b6 | exact ((C5.alloc _).alloc _).below b6
              have c6 : Below w.heap.size w w6 := by have z := c5.size; first | exact chain c5 b6 | exact chain (c5.alloc z _) b6 | exact chain ((c5.alloc z _).alloc (by simp; omega) _) b6
              clear b6 c5 A5 B5 C5
              clear sa pa qa sb pb qb sc pc qc
              obtain ⟨sa, pa, qa⟩ := id A6
              obtain ⟨sb, pb, qb⟩ := id B6
              obtain ⟨sc, pc, qc⟩ := id C6
              go_wp2_with fail
              refine (h.sub a b _ ha hb).mono ?_
              rintro e w7 ⟨rfl, b7⟩
              rw [HS.out]
              simp only [rok]
              have A7 : At w7 w.heap.size a := by first | exact A6.below b7 | exact (A6.alloc _).below b7 | exact ((A6.alloc _).alloc _).below b7
              have B7 : At w7 (w.heap.size + 1) b := by first | exact B6.below b7 | exact (B6.alloc _).below b7 | exact ((B6.alloc _).alloc _).below b7
              have C7 : At w7 (w.heap.size + 2) c := by first | exact C6.below b7 | exact (C6.alloc _).below b7 | exact ((C6.alloc _).alloc _).below b7
              have c7 : Below w.heap.size w w7 := by have z := c6.size; first | exact chain c6 b7 | exact chain (c6.alloc z _) b7 | exact chain ((c6.alloc z _).alloc (by simp; omega) _) b7
              clear b7 c6 A6 B6 C6
              clear sa pa qa sb pb qb sc pc qc
              obtain ⟨sa, pa, qa⟩ := id A7
              obtain ⟨sb, pb, qb⟩ := id B7
              obtain ⟨sc, pc, qc⟩ := id C7
              go_wp2_with fail
              go_ret
              have z := c7.size
              first | exact ⟨rfl, c7⟩ | exact ⟨rfl, c7.alloc z _⟩ | exact ⟨rfl, (c7.alloc z _).alloc (by simp; omega) _⟩
            · have HS := Lib.hid S
              clear S
              go_enter Try.func6, Try.ntmps6
              go_wp2_with fail
              refine (sane_x h _).mono ?_
              rintro e w1 ⟨rfl, b1⟩
              have A1 : At w1 w.heap.size a := (((At.new w a _ w.heap.size rfl).alloc _).alloc _).below b1
              have B1 : At w1 (w.heap.size + 1) b := ((At.new (w.alloc _) b _ (w.heap.size + 1) (by simp)).alloc _).below b1
              have C1 : At w1 (w.heap.size + 2) c := (At.new ((w.alloc _).alloc _) c _ (w.heap.size + 2) (by simp)).below b1
              have c1 := chain ((((Below.refl w.heap.size w).alloc (Nat.le_refl _) _).alloc (by simp; try omega) _).alloc (by simp; try omega) _) b1
              clear b1
              obtain ⟨sa, pa, qa⟩ := id A1
              obtain ⟨sb, pb, qb⟩ := id B1
              obtain ⟨sc, pc, qc⟩ := id C1
              go_wp2_with fail
              refine (h.right a _ ha).mono ?_
              rintro e w2 ⟨rfl, b2⟩
              rw [HRa.out]
              have A2 : At w2 w.heap.size a := by first | exact A1.below b2 | exact (A1.alloc _).below b2 | exact ((A1.alloc _).alloc _).below b2
              have B2 : At w2 (w.heap.size + 1) b := by first | exact B1.below b2 | exact (B1.alloc _).below b2 | exact ((B1.alloc _).alloc _).below b2
              have C2 : At w2 (w.heap.size + 2) c := by first | exact C1.below b2 | exact (C1.alloc _).below b2 | exact ((C1.alloc _).alloc _).below b2
              have c2 : Below w.heap.size w w2 := by have z := c1.size; first | exact chain c1 b2 | exact chain (c1.alloc z _) b2 | exact chain ((c1.alloc z _).alloc (by simp; omega) _) b2
              clear b2 c1 A1 B1 C1
              clear sa pa qa sb pb qb sc pc qc
              obtain ⟨sa, pa, qa⟩ := id A2
              obtain ⟨sb, pb, qb⟩ := id B2
              obtain ⟨sc, pc, qc⟩ := id C2
              go_wp2_with fail
              refine (h.right b _ hb).mono ?_
              rintro e w3 ⟨rfl, b3⟩
              rw [HRb.out]
              have A3 : At w3 w.heap.size a := by first | exact A2.below b3 | exact (A2.alloc _).below b3 | exact ((A2.alloc _).alloc _).below b3
              have B3 : At w3 (w.heap.size + 1) b := by first | exact B2.below b3 | exact (B2.alloc _).below b3 | exact ((B2.alloc _).alloc _).below b3
              have C3 : At w3 (w.heap.size + 2) c := by first | exact C2.below b3 | exact (C2.alloc _).below b3 | exact ((C2.alloc _).alloc _).below b3
              have c3 : Below w.heap.size w w3 := by have z := c2.size; first | exact chain c2 b3 | exact chain (c2.alloc z _) b3 | exact chain ((c2.alloc z _).alloc (by simp; omega) _) b3
              clear b3 c2 A2 B2 C2
              clear sa pa qa sb pb qb sc pc qc
              obtain ⟨sa, pa, qa⟩ := id A3
              obtain ⟨sb, pb, qb⟩ := id B3
              obtain ⟨sc, pc, qc⟩ := id C3
              go_wp2_with fail
              refine (h.right c _ hc).mono ?_
              rintro e w4 ⟨rfl, b4⟩
              rw [HRc.out]
              have A4 : At w4 w.heap.size a := by first | exact A3.below b4 | exact (A3.alloc _).below b4 | exact ((A3.alloc _).alloc _).below b4
              have B4 : At w4 (w.heap.size + 1) b := by first | exact B3.below b4 | exact (B3.alloc _).below b4 | exact ((B3.alloc _).alloc _).below b4
              have C4 : At w4 (w.heap.size + 2) c := by first | exact C3.below b4 | exact (C3.alloc _).below b4 | exact ((C3.alloc _).alloc _).below b4
              have c4 : Below w.heap.size w w4 := by have z := c3.size; first | exact chain c3 b4 | exact chain (c3.alloc z _) b4 | exact chain ((c3.alloc z _).alloc (by simp; omega) _) b4
              clear b4 c3 A3 B3 C3
              clear sa pa qa sb pb qb sc pc qc
              obtain ⟨sa, pa, qa⟩ := id A4
              obtain ⟨sb, pb, qb⟩ := id B4
              obtain ⟨sc, pc, qc⟩ := id C4
              go_wp2_with fail
              refine (h.cmp a b _ ha hb).mono ?_
              rintro e w5 ⟨rfl, b5⟩
              rw [HX.out]
              have A5 : At w5 w.heap.size a := by first | exact A4.below b5 | exact (A4.alloc _).below b5 | exact ((A4.alloc _).alloc _).below b5
              have B5 : At w5 (w.heap.size + 1) b := by first | exact B4.below b5 | exact (B4.alloc _).below b5 | exact ((B4.alloc _).alloc _).below b5
              have C5 : At w5 (w.heap.size + 2) c := by first | exact C4.below b5 | exact (C4.alloc _).below b5 | exact ((C4.alloc _).alloc _).below b5
              have c5 : Below w.heap.size w w5 := by have z := c4.size; first | exact chain c4 b5 | exact chain (c4.alloc z _) b5 | exact chain ((c4.alloc z _).alloc (by simp; omega) _) b5
              clear b5 c4 A4 B4 C4
              clear sa pa qa sb pb qb sc pc qc
              obtain ⟨sa, pa, qa⟩ := id A5
              obtain ⟨sb, pb, qb⟩ := id B5
              obtain ⟨sc, pc, qc⟩ := id C5
              go_wp2_with fail
              refine (h.cmp b a _ hb ha).mono ?_
              rintro e w6 ⟨rfl, b6⟩
              rw [HY.out]
              have A6 : At w6 w.heap.size a := by first | exact A5.below b6 | exact (A5.alloc _).below b6 | exact ((A5.alloc _).alloc _).below b6
              have B6 : At w6 (w.heap.size + 1) b := by first | exact B5.below b6 | exact (B5.alloc _).below b6 | exact ((B5.alloc _).alloc _).below b6
              have C6 : At w6 (w.heap.size + 2) c := by first | exact C5.below b6 | exact (C5.alloc _).below b6 | exact ((C5.alloc _).alloc _).below b6
              have c6 : Below w.heap.size w w6 := by have z := c5.size; first | exact chain c5 b6 | exact chain (c5.alloc z _) b6 | exact chain ((c5.alloc z _).alloc (by simp; omega) _) b6
              clear b6 c5 A5 B5 C5
              clear sa pa qa sb pb qb sc pc qc
              obtain ⟨sa, pa, qa⟩ := id A6
              obtain ⟨sb, pb, qb⟩ := id B6
              obtain ⟨sc, pc, qc⟩ := id C6
              go_wp2_with fail
              refine (h.sub a b _ ha hb).mono ?_
              rintro e w7 ⟨rfl, b7⟩
              rw [HS.out]
              simp only [rok]
              have A7 : At w7 w.heap.size a := by first | exact A6.below b7 | exact (A6.alloc _).below b7 | exact ((A6.alloc _).alloc _).below b7
              have B7 : At w7 (w.heap.size + 1) b := by first | exact B6.below b7 | exact (B6.alloc _).below b7 | exact ((B6.alloc _).alloc _).below b7
              have C7 : At w7 (w.heap.size + 2) c := by first | exact C6.below b7 | exact (C6.alloc _).below b7 | exact ((C6.alloc _).alloc _).below b7
              have c7 : Below w.heap.size w w7 := by have z := c6.size; first | exact chain c6 b7 | exact chain (c6.alloc z _) b7 | exact chain ((c6.alloc z _).alloc (by simp; omega) _) b7
              clear b7 c6 A6 B6 C6
              clear sa pa qa sb pb qb sc pc qc
              obtain ⟨sa, pa, qa⟩ := id A7
              obtain ⟨sb, pb, qb⟩ := id B7
              obtain ⟨sc, pc, qc⟩ := id C7
              go_wp2_with fail
              go_ret
              have z := c7.size
              first | exact ⟨rfl, c7⟩ | exact ⟨rfl, c7.alloc z _⟩ | exact ⟨rfl, (c7.alloc z _).alloc (by simp; omega) _⟩

end Go.Proofs.Ytnddfngdlmdmhaa
