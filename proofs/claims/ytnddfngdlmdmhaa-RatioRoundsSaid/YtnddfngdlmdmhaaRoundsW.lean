/-
  The law RatioRounds' walk.
-/
import Derived.Test.YtnddfngdlmdmhaaSane
import Derived.Deep.RegionHeld3
namespace Go.Proofs.Ytnddfngdlmdmhaa
open Go.RowKit

theorem tmod_two {n : Int} : ((n.tmod 2 == 0) = true ↔ n % 2 = 0) ∧ ((n.tmod 2 == 0) = false ↔ n % 2 ≠ 0) := by
  have h : n.tmod 2 = 0 ↔ n % 2 = 0 := by
    rw [← Int.dvd_iff_tmod_eq_zero, ← Int.dvd_iff_emod_eq_zero]
  constructor
  · rw [beq_iff_eq]; exact h
  · rw [beq_eq_false_iff_ne, ne_eq, h]

/-- what rounding gives, by cases: near is the lower one or the upper one -/
def Half (c lo : Int) : Prop := (c < 0) ∨ (c = 0 ∧ (lo.tmod 2 == 0) = true)
theorem rounds_ways {a : Rt.R} (ha : Rt.right a = true) : ∃ lo hi nr : Int, Rt.floor a = lo ∧ Rt.ceil a = hi ∧ Rt.nearest a = nr ∧ (-1152921504606846976 ≤ lo ∧ lo ≤ 1152921504606846976) ∧ (-1152921504606846976 ≤ hi ∧ hi ≤ 1152921504606846976) ∧ (-1152921504606846976 ≤ nr ∧ nr ≤ 1152921504606846976) ∧
    Rt.make lo 1 = (⟨lo, 1⟩, 0) ∧ Rt.make hi 1 = (⟨hi, 1⟩, 0) ∧ Rt.make nr 1 = (⟨nr, 1⟩, 0) ∧ (∃ x, Rt.cmp ⟨lo, 1⟩ a = x ∧ x ≤ 0) ∧ (∃ y, Rt.cmp a ⟨hi, 1⟩ = y ∧ y ≤ 0) ∧
    ((((a.d == 1) = true ∧ (lo == a.n) = true ∧ (hi == a.n) = true ∧ (nr == a.n) = true ∧ (nr != lo) = false)) ∨
     ((a.d == 1) = false ∧ ∃ dn up c, Rt.sub a ⟨lo, 1⟩ = (dn, 0) ∧ Rt.sub ⟨hi, 1⟩ a = (up, 0) ∧ In dn ∧ In up ∧ Rt.cmp dn up = c ∧ (hi != lo + 1) = false ∧
      (((nr == lo) = true ∧ (nr != lo) = false ∧ (c < 0 ∨ (c = 0 ∧ (lo.tmod 2 == 0) = true))) ∨
       ((nr == lo) = false ∧ (nr != lo) = true ∧ (nr != hi) = false ∧ (0 < c ∨ (c = 0 ∧ (hi.tmod 2 == 0) = true)))))) := by
  obtain ⟨m1, m2, m3, k1, k2, k3, k4, k5⟩ := Rt.rounds ha
  have bnd : ∀ n : Int, Rt.make n 1 = (⟨n, 1⟩, 0) → -1152921504606846976 ≤ n ∧ n ≤ 1152921504606846976 := fun n h => by
    unfold Rt.make at h
    rw [if_neg (by decide)] at h
    have := Rt.right_iff.1 (Rt.give_ok (by decide) h).1
    unfold Rt.M at this
    simp only at this
    omega
  refine ⟨_, _, _, rfl, rfl, rfl, bnd _ m1, bnd _ m2, bnd _ m3, m1, m2, m3, ⟨_, rfl, k1⟩, ⟨_, rfl, k2⟩, ?_⟩
  by_cases hd : a.d = 1
  · left
    obtain ⟨e1, e2, e3⟩ := k4 hd
    exact ⟨int_eq hd, int_eq e1, int_eq e2, int_eq e3, by rw [bne_eq_false_iff_eq, e3, e1]⟩
  · right
    obtain ⟨dn, up, s1, s2, st, q1, q2⟩ := k5 hd
    have r1 : In dn := by
      refine right_In ?_
      · rcases Rt.two_ways (a := a) (b := ⟨Rt.floor a, 1⟩) (a.n * 1 - Rt.floor a * a.d) (a.d * 1) with ⟨x1, x2, _⟩ | ⟨_, x⟩
        · have : Rt.give (a.n * 1 - Rt.floor a * a.d) (a.d * 1) = (dn, 0) := by rw [← Rt.two_right x1 x2]; exact s1
          exact (Rt.give_ok (Rt.mul_ne (Rt.ne x1) (Rt.ne x2)) this).1
        · have : Rt.sub a ⟨Rt.floor a, 1⟩ = (⟨0, 0⟩, 1) := x
          rw [s1] at this
          injection this with _ h; cases h
    have r2 : In up := by
      refine right_In ?_
      · rcases Rt.two_ways (a := ⟨Rt.ceil a, 1⟩) (b := a) (Rt.ceil a * a.d - a.n * 1) (1 * a.d) with ⟨x1, x2, _⟩ | ⟨_, x⟩
        · have : Rt.give (Rt.ceil a * a.d - a.n * 1) (1 * a.d) = (up, 0) := by rw [← Rt.two_right x1 x2]; exact s2
          exact (Rt.give_ok (Rt.mul_ne (Rt.ne x1) (Rt.ne x2)) this).1
        · have : Rt.sub ⟨Rt.ceil a, 1⟩ a = (⟨0, 0⟩, 1) := x
          rw [s2] at this
          injection this with _ h; cases h
    refine ⟨int_ne hd, dn, up, _, s1, s2, r1, r2, rfl, by rw [bne_eq_false_iff_eq]; exact st, ?_⟩
    by_cases hn : Rt.nearest a = Rt.floor a
    · left
      refine ⟨int_eq hn, by rw [bne_eq_false_iff_eq]; exact hn, ?_⟩
      rcases q1 hn with h | ⟨h, h'⟩
      · exact .inl h
      · exact .inr ⟨h, tmod_two.1.2 h'⟩
    · right
      refine ⟨int_ne hn, by rw [bne_iff_ne]; exact hn, ?_, ?_⟩
      · rw [bne_eq_false_iff_eq]; exact k3.resolve_left hn
      · rcases q2 hn with h | ⟨h, h'⟩
        · exact .inl h
        · exact .inr ⟨h, tmod_two.1.2 h'⟩

theorem rounds_not {a : Rt.R} (h : Rt.right a = false) : Rt.floor a = 0 ∧ Rt.ceil a = 0 ∧ Rt.nearest a = 0 := by
  unfold Rt.floor Rt.ceil Rt.nearest; rw [h]; exact ⟨rfl, rfl, rfl⟩

set_option maxHeartbeats 12800000 in
set_option maxRecDepth 100000 in
theorem RatioRounds_x (h : RatioOk) (a : Rt.R) (w : World) (ha : In a) :
    Calls Try.prog 7 #[.agg #[.int .i64 a.n, .int .i64 a.d]] w fun e w' => e = .returned (.bool true) ∧ Below w.heap.size w w' := by
  cases Ra : Rt.right a with
  | false =>
    obtain ⟨F, C, N⟩ := rounds_not Ra
    have HRa := Lib.hid Ra
    have HF := Lib.hid F
    have HC := Lib.hid C
    have HN := Lib.hid N
    clear Ra F C N
    go_enter Try.func7, Try.ntmps7
    go_wp2_with fail
    refine (sane_x h _).mono ?_
    rintro e w1 ⟨rfl, b1⟩
    have A1 : At w1 w.heap.size a := (At.new w a _ w.heap.size rfl).below b1
    have c1 := chain ((Below.refl w.heap.size w).alloc (Nat.le_refl _) _) b1
    clear b1
    obtain ⟨sa, pa, qa⟩ := id A1
    go_wp2_with fail
    refine (h.right a _ ha).mono ?_
    rintro e w2 ⟨rfl, b2⟩
    rw [HRa.out]
    have A2 : At w2 w.heap.size a := by first | exact A1.below b2 | exact (A1.alloc _).below b2 | exact ((A1.alloc _).alloc _).below b2
    have c2 : Below w.heap.size w w2 := by have z := c1.size; first | exact chain c1 b2 | exact chain (c1.alloc z _) b2 | exact chain ((c1.alloc z _).alloc (by simp; omega) _) b2
    clear b2 c1 A1
    clear sa pa qa
    obtain ⟨sa, pa, qa⟩ := id A2
    go_wp2_with fail
    refine (h.floor a _ ha).mono ?_
    rintro e w3 ⟨rfl, b3⟩
    rw [HF.out]
    have A3 : At w3 w.heap.size a := by first | exact A2.below b3 | exact (A2.alloc _).below b3 | exact ((A2.alloc _).alloc _).below b3
    have c3 : Below w.heap.size w w3 := by have z := c2.size; first | exact chain c2 b3 | exact chain (c2.alloc z _) b3 | exact chain ((c2.alloc z _).alloc (by simp; omega) _) b3
    clear b3 c2 A2
    clear sa pa qa
    obtain ⟨sa, pa, qa⟩ := id A3
    go_wp2_with fail
    refine (h.ceil a _ ha).mono ?_
    rintro e w4 ⟨rfl, b4⟩
    rw [HC.out]
    have A4 : At w4 w.heap.size a := by first | exact A3.below b4 | exact (A3.alloc _).below b4 | exact ((A3.alloc _).alloc _).below b4
    have c4 : Below w.heap.size w w4 := by have z := c3.size; first | exact chain c3 b4 | exact chain (c3.alloc z _) b4 | exact chain ((c3.alloc z _).alloc (by simp; omega) _) b4
    clear b4 c3 A3
    clear sa pa qa
    obtain ⟨sa, pa, qa⟩ := id A4
    go_wp2_with fail
    refine (h.nearest a _ ha).mono ?_
    rintro e w5 ⟨rfl, b5⟩
    rw [HN.out]
    have A5 : At w5 w.heap.size a := by first | exact A4.below b5 | exact (A4.alloc _).below b5 | exact ((A4.alloc _).alloc _).below b5
    have c5 : Below w.heap.size w w5 := by have z := c4.size; first | exact chain c4 b5 | exact chain (c4.alloc z _) b5 | exact chain ((c4.alloc z _).alloc (by simp; omega) _) b5
    clear b5 c4 A4
    clear sa pa qa
    obtain ⟨sa, pa, qa⟩ := id A5
    go_wp2_with fail
    go_ret
    have z := c5.size
    first | exact ⟨rfl, c5⟩ | exact ⟨rfl, c5.alloc z _⟩ | exact ⟨rfl, (c5.alloc z _).alloc (by simp; omega) _⟩
  | true =>
    obtain ⟨lo, hi, nr, F, C, N, ⟨lo1, lo2⟩, ⟨hi1, hi2⟩, ⟨nr1, nr2⟩, ML, MH, MN, ⟨vx, X, hx⟩, ⟨vy, Y, hy⟩, K⟩ := rounds_ways Ra
    have iLo : Hid (In ⟨lo, 1⟩) := small_In lo1 lo2 (by decide) (by decide)
    have iHi : Hid (In ⟨hi, 1⟩) := small_In hi1 hi2 (by decide) (by decide)
    have i1 : Hid (I64 1) := small_i (by decide) (by decide)
    have jLo : Hid (I64 lo) := small_i lo1 lo2
    have jHi : Hid (I64 hi) := small_i hi1 hi2
    have jNr : Hid (I64 nr) := small_i nr1 nr2
    have HRa := Lib.hid Ra
    have HF := Lib.hid F
    have HC := Lib.hid C
    have HN := Lib.hid N
    have HML := Lib.hid ML
    have HMH := Lib.hid MH
    have HMN := Lib.hid MN
    have HX := Lib.hid X
    have HY := Lib.hid Y
    clear Ra F C N ML MH MN X Y
    rcases K with ⟨D1, D2, D3, D4, D5⟩ | ⟨D1, dn, up, c, S1, S2, id, iu, CC, D2, K⟩
    · go_enter Try.func7, Try.ntmps7
      go_wp2_with fail
      refine (sane_x h _).mono ?_
      rintro e w1 ⟨rfl, b1⟩
      have A1 : At w1 w.heap.size a := (At.new w a _ w.heap.size rfl).below b1
      have c1 := chain ((Below.refl w.heap.size w).alloc (Nat.le_refl _) _) b1
      clear b1
      obtain ⟨sa, pa, qa⟩ := id A1
      go_wp2_with fail
      refine (h.right a _ ha).mono ?_
      rintro e w2 ⟨rfl, b2⟩
      rw [HRa.out]
      have A2 : At w2 w.heap.size a := by first | exact A1.below b2 | exact (A1.alloc _).below b2 | exact ((A1.alloc _).alloc _).below b2
      have c2 : Below w.heap.size w w2 := by have z := c1.size; first | exact chain c1 b2 | exact chain (c1.alloc z _) b2 | exact chain ((c1.alloc z _).alloc (by simp; omega) _) b2
      clear b2 c1 A1
      clear sa pa qa
      obtain ⟨sa, pa, qa⟩ := id A2
      go_wp2_with fail
      go_region_held3 (fun w' => Below w.heap.size w w' ∧ w.heap.size < w'.heap.size ∧ w'.cell? ⟨w.heap.size, 0, none⟩ = some (.int .i64 (a : Rt.R).n) ∧ w'.cell? ⟨w.heap.size, 1, none⟩ = some (.int .i64 (a : Rt.R).d))
        (first
          | exact ⟨Below.drew c2, by simpa using sa, by simpa using pa, by simpa using qa⟩
          | exact ⟨c2, by simpa using sa, by simpa using pa, by simpa using qa⟩
          | (go_split_ands
             exact ⟨chain (by assumption) hb, by have := hb.size; omega, by rw [hb.cell (p := ⟨w.heap.size, 0, none⟩) (by assumption)]; assumption, by rw [hb.cell (p := ⟨w.heap.size, 1, none⟩) (by assumption)]; assumption⟩))
        (first
          | (go_at_call 23; refine (h.floor a _ ha).mono ?_; rintro e w' ⟨rfl, hb⟩; rw [HF.out])
          | (go_at_call 25; refine (h.ceil a _ ha).mono ?_; rintro e w' ⟨rfl, hb⟩; rw [HC.out])
          | (go_at_call 27; refine (h.nearest a _ ha).mono ?_; rintro e w' ⟨rfl, hb⟩; rw [HN.out]))
      rename_i hHeld
      obtain ⟨c3, sa', pa', qa'⟩ := hHeld
      clear hb
      have A3 : At w' w.heap.size a := ⟨sa', pa', qa'⟩
      clear sa' pa' qa' A2 c2
      clear sa pa qa
      obtain ⟨w3, hw⟩ : ∃ x, x = w' := ⟨w', rfl⟩
      subst hw
      obtain ⟨sa, pa, qa⟩ := id A3
      go_wp2_with fail
      refine (h.make lo 1 _ jLo.out i1.out).mono ?_
      rintro e w4 ⟨rfl, b4⟩
      rw [HML.out]
      simp only [rok]
      have A4 : At w4 w.heap.size a := by first | exact A3.below b4 | exact (A3.alloc _).below b4 | exact ((A3.alloc _).alloc _).below b4
      have c4 : Below w.heap.size w w4 := by have z := c3.size; first | exact chain c3 b4 | exact chain (c3.alloc z _) b4 | exact chain ((c3.alloc z _).alloc (by simp; omega) _) b4
      clear b4 c3 A3
      clear sa pa qa
      obtain ⟨sa, pa, qa⟩ := id A4
      go_wp2_with fail
      refine (h.make hi 1 _ jHi.out i1.out).mono ?_
      rintro e w5 ⟨rfl, b5⟩
      rw [HMH.out]
      simp only [rok]
      have A5 : At w5 w.heap.size a := by first | exact A4.below b5 | exact (A4.alloc _).below b5 | exact ((A4.alloc _).alloc _).below b5
      have X5 : At w5 w4.heap.size ⟨lo, 1⟩ := by first | exact (At.new w4 ⟨lo, 1⟩ _ _ rfl).below b5 | exact ((At.new w4 ⟨lo, 1⟩ _ _ rfl).alloc _).below b5
      have c5 : Below w.heap.size w w5 := by have z := c4.size; first | exact chain c4 b5 | exact chain (c4.alloc z _) b5 | exact chain ((c4.alloc z _).alloc (by simp; omega) _) b5
      clear b5 c4 A4
      clear sa pa qa
      obtain ⟨sa, pa, qa⟩ := id A5
      obtain ⟨sx, px, qx⟩ := id X5
      go_wp2_with fail
      refine (h.make nr 1 _ jNr.out i1.out).mono ?_
      rintro e w6 ⟨rfl, b6⟩
      rw [HMN.out]
      simp only [rok]
      have A6 : At w6 w.heap.size a := by first | exact A5.below b6 | exact (A5.alloc _).below b6 | exact ((A5.alloc _).alloc _).below b6
      have X6 : At w6 w4.heap.size ⟨lo, 1⟩ := by first | exact X5.below b6 | exact (X5.alloc _).below b6 | exact ((X5.alloc _).alloc _).below b6
      have Y6 : At w6 w5.heap.size ⟨hi, 1⟩ := by first | exact (At.new w5 ⟨hi, 1⟩ _ _ rfl).below b6 | exact ((At.new w5 ⟨hi, 1⟩ _ _ rfl).alloc _).below b6
      have c6 : Below w.heap.size w w6 := by have z := c5.size; first | exact chain c5 b6 | exact chain (c5.alloc z _) b6 | exact chain ((c5.alloc z _).alloc (by simp; omega) _) b6
      clear b6 c5 A5 X5
      clear sa pa qa sx px qx
      obtain ⟨sa, pa, qa⟩ := id A6
      obtain ⟨sx, px, qx⟩ := id X6
      obtain ⟨sy, py, qy⟩ := id Y6
      go_wp2_with fail
      refine (h.cmp ⟨lo, 1⟩ a _ iLo.out ha).mono ?_
      rintro e w7 ⟨rfl, b7⟩
      rw [HX.out]
      have A7 : At w7 w.heap.size a := by first | exact A6.below b7 | exact (A6.alloc _).below b7 | exact ((A6.alloc _).alloc _).below b7
      have X7 : At w7 w4.heap.size ⟨lo, 1⟩ := by first | exact X6.below b7 | exact (X6.alloc _).below b7 | exact ((X6.alloc _).alloc _).below b7
      have Y7 : At w7 w5.heap.size ⟨hi, 1⟩ := by first | exact Y6.below b7 | exact (Y6.alloc _).below b7 | exact ((Y6.alloc _).alloc _).below b7
      have Z7 : At w7 w6.heap.size ⟨nr, 1⟩ := by first | exact (At.new w6 ⟨nr, 1⟩ _ _ rfl).below b7 | exact ((At.new w6 ⟨nr, 1⟩ _ _ rfl).alloc _).below b7
      have c7 : Below w.heap.size w w7 := by have z := c6.size; first | exact chain c6 b7 | exact chain (c6.alloc z _) b7 | exact chain ((c6.alloc z _).alloc (by simp; omega) _) b7
      clear b7 c6 A6 X6 Y6
      clear sa pa qa sx px qx sy py qy
      obtain ⟨sa, pa, qa⟩ := id A7
      obtain ⟨sx, px, qx⟩ := id X7
      obtain ⟨sy, py, qy⟩ := id Y7
      obtain ⟨sz, pz, qz⟩ := id Z7
      go_wp2_with fail
      refine (h.cmp a ⟨hi, 1⟩ _ ha iHi.out).mono ?_
      rintro e w8 ⟨rfl, b8⟩
      rw [HY.out]
      have A8 : At w8 w.heap.size a := by first | exact A7.below b8 | exact (A7.alloc _).below b8 | exact ((A7.alloc _).alloc _).below b8
      have X8 : At w8 w4.heap.size ⟨lo, 1⟩ := by first | exact X7.below b8 | exact (X7.alloc _).below b8 | exact ((X7.alloc _).alloc _).below b8
      have Y8 : At w8 w5.heap.size ⟨hi, 1⟩ := by first | exact Y7.below b8 | exact (Y7.alloc _).below b8 | exact ((Y7.alloc _).alloc _).below b8
      have Z8 : At w8 w6.heap.size ⟨nr, 1⟩ := by first | exact Z7.below b8 | exact (Z7.alloc _).below b8 | exact ((Z7.alloc _).alloc _).below b8
      have c8 : Below w.heap.size w w8 := by have z := c7.size; first | exact chain c7 b8 | exact chain (c7.alloc z _) b8 | exact chain ((c7.alloc z _).alloc (by simp; omega) _) b8
      clear b8 c7 A7 X7 Y7 Z7
      clear sa pa qa sx px qx sy py qy sz pz qz
      obtain ⟨sa, pa, qa⟩ := id A8
      obtain ⟨sx, px, qx⟩ := id X8
      obtain ⟨sy, py, qy⟩ := id Y8
      obtain ⟨sz, pz, qz⟩ := id Z8
      go_wp2_with fail
      go_ret
      have z := c8.size
      first | exact ⟨rfl, c8⟩ | exact ⟨rfl, c8.alloc z _⟩ | exact ⟨rfl, (c8.alloc z _).alloc (by simp; omega) _⟩
    · have Hid1 := Lib.hid id
      have Hiu := Lib.hid iu
      clear id iu
      have HS1 := Lib.hid S1
      have HS2 := Lib.hid S2
      have HCC := Lib.hid CC
      clear S1 S2 CC
      rcases K with ⟨N1, N2, hc | ⟨hc, hp⟩⟩ | ⟨N1, N2, N3, hc | ⟨hc, hp⟩⟩
      · go_enter Try.func7, Try.ntmps7
        go_wp2_with fail
        refine (sane_x h _).mono ?_
        rintro e w1 ⟨rfl, b1⟩
        have A1 : At w1 w.heap.size a := (At.new w a _ w.heap.size rfl).below b1
        have c1 := chain ((Below.refl w.heap.size w).alloc (Nat.le_refl _) _) b1
        clear b1
        obtain ⟨sa, pa, qa⟩ := id A1
        go_wp2_with fail
        refine (h.right a _ ha).mono ?_
        rintro e w2 ⟨rfl, b2⟩
        rw [HRa.out]
        have A2 : At w2 w.heap.size a := by first | exact A1.below b2 | exact (A1.alloc _).below b2 | exact ((A1.alloc _).alloc _).below b2
        have c2 : Below w.heap.size w w2 := by have z := c1.size; first | exact chain c1 b2 | exact chain (c1.alloc z _) b2 | exact chain ((c1.alloc z _).alloc (by simp; omega) _) b2
        clear b2 c1 A1
        clear sa pa qa
        obtain ⟨sa, pa, qa⟩ := id A2
        go_wp2_with fail
        go_region_held3 (fun w' => Below w.heap.size w w' ∧ w.heap.size < w'.heap.size ∧ w'.cell? ⟨w.heap.size, 0, none⟩ = some (.int .i64 (a : Rt.R).n) ∧ w'.cell? ⟨w.heap.size, 1, none⟩ = some (.int .i64 (a : Rt.R).d))
          (first
            | exact ⟨Below.drew c2, by simpa using sa, by simpa using pa, by simpa using qa⟩
            | exact ⟨c2, by simpa using sa, by simpa using pa, by simpa using qa⟩
            | (go_split_ands
               exact ⟨chain (by assumption) hb, by have := hb.size; omega, by rw [hb.cell (p := ⟨w.heap.size, 0, none⟩) (by assumption)]; assumption, by rw [hb.cell (p := ⟨w.heap.size, 1, none⟩) (by assumption)]; assumption⟩))
          (first
            | (go_at_call 23; refine (h.floor a _ ha).mono ?_; rintro e w' ⟨rfl, hb⟩; rw [HF.out])
            | (go_at_call 25; refine (h.ceil a _ ha).mono ?_; rintro e w' ⟨rfl, hb⟩; rw [HC.out])
            | (go_at_call 27; refine (h.nearest a _ ha).mono ?_; rintro e w' ⟨rfl, hb⟩; rw [HN.out]))
        rename_i hHeld
        obtain ⟨c3, sa', pa', qa'⟩ := hHeld
        clear hb
        have A3 : At w' w.heap.size a := ⟨sa', pa', qa'⟩
        clear sa' pa' qa' A2 c2
        clear sa pa qa
        obtain ⟨w3, hw⟩ : ∃ x, x = w' := ⟨w', rfl⟩
        subst hw
        obtain ⟨sa, pa, qa⟩ := id A3
        go_wp2_with fail
        refine (h.make lo 1 _ jLo.out i1.out).mono ?_
        rintro e w4 ⟨rfl, b4⟩
        rw [HML.out]
        simp only [rok]
        have A4 : At w4 w.heap.size a := by first | exact A3.below b4 | exact (A3.alloc _).below b4 | exact ((A3.alloc _).alloc _).below b4
        have c4 : Below w.heap.size w w4 := by have z := c3.size; first | exact chain c3 b4 | exact chain (c3.alloc z _) b4 | exact chain ((c3.alloc z _).alloc (by simp; omega) _) b4
        clear b4 c3 A3
        clear sa pa qa
        obtain ⟨sa, pa, qa⟩ := id A4
        go_wp2_with fail
        refine (h.make hi 1 _ jHi.out i1.out).mono ?_
        rintro e w5 ⟨rfl, b5⟩
        rw [HMH.out]
        simp only [rok]
        have A5 : At w5 w.heap.size a := by first | exact A4.below b5 | exact (A4.alloc _).below b5 | exact ((A4.alloc _).alloc _).below b5
        have X5 : At w5 w4.heap.size ⟨lo, 1⟩ := by first | exact (At.new w4 ⟨lo, 1⟩ _ _ rfl).below b5 | exact ((At.new w4 ⟨lo, 1⟩ _ _ rfl).alloc _).below b5
        have c5 : Below w.heap.size w w5 := by have z := c4.size; first | exact chain c4 b5 | exact chain (c4.alloc z _) b5 | exact chain ((c4.alloc z _).alloc (by simp; omega) _) b5
        clear b5 c4 A4
        clear sa pa qa
        obtain ⟨sa, pa, qa⟩ := id A5
        obtain ⟨sx, px, qx⟩ := id X5
        go_wp2_with fail
        refine (h.make nr 1 _ jNr.out i1.out).mono ?_
        rintro e w6 ⟨rfl, b6⟩
        rw [HMN.out]
        simp only [rok]
        have A6 : At w6 w.heap.size a := by first | exact A5.below b6 | exact (A5.alloc _).below b6 | exact ((A5.alloc _).alloc _).below b6
        have X6 : At w6 w4.heap.size ⟨lo, 1⟩ := by first | exact X5.below b6 | exact (X5.alloc _).below b6 | exact ((X5.alloc _).alloc _).below b6
        have Y6 : At w6 w5.heap.size ⟨hi, 1⟩ := by first | exact (At.new w5 ⟨hi, 1⟩ _ _ rfl).below b6 | exact ((At.new w5 ⟨hi, 1⟩ _ _ rfl).alloc _).below b6
        have c6 : Below w.heap.size w w6 := by have z := c5.size; first | exact chain c5 b6 | exact chain (c5.alloc z _) b6 | exact chain ((c5.alloc z _).alloc (by simp; omega) _) b6
        clear b6 c5 A5 X5
        clear sa pa qa sx px qx
        obtain ⟨sa, pa, qa⟩ := id A6
        obtain ⟨sx, px, qx⟩ := id X6
        obtain ⟨sy, py, qy⟩ := id Y6
        go_wp2_with fail
        refine (h.cmp ⟨lo, 1⟩ a _ iLo.out ha).mono ?_
        rintro e w7 ⟨rfl, b7⟩
        rw [HX.out]
        have A7 : At w7 w.heap.size a := by first | exact A6.below b7 | exact (A6.alloc _).below b7 | exact ((A6.alloc _).alloc _).below b7
        have X7 : At w7 w4.heap.size ⟨lo, 1⟩ := by first | exact X6.below b7 | exact (X6.alloc _).below b7 | exact ((X6.alloc _).alloc _).below b7
        have Y7 : At w7 w5.heap.size ⟨hi, 1⟩ := by first | exact Y6.below b7 | exact (Y6.alloc _).below b7 | exact ((Y6.alloc _).alloc _).below b7
        have Z7 : At w7 w6.heap.size ⟨nr, 1⟩ := by first | exact (At.new w6 ⟨nr, 1⟩ _ _ rfl).below b7 | exact ((At.new w6 ⟨nr, 1⟩ _ _ rfl).alloc _).below b7
        have c7 : Below w.heap.size w w7 := by have z := c6.size; first | exact chain c6 b7 | exact chain (c6.alloc z _) b7 | exact chain ((c6.alloc z _).alloc (by simp; omega) _) b7
        clear b7 c6 A6 X6 Y6
        clear sa pa qa sx px qx sy py qy
        obtain ⟨sa, pa, qa⟩ := id A7
        obtain ⟨sx, px, qx⟩ := id X7
        obtain ⟨sy, py, qy⟩ := id Y7
        obtain ⟨sz, pz, qz⟩ := id Z7
        go_wp2_with fail
        refine (h.cmp a ⟨hi, 1⟩ _ ha iHi.out).mono ?_
        rintro e w8 ⟨rfl, b8⟩
        rw [HY.out]
        have A8 : At w8 w.heap.size a := by first | exact A7.below b8 | exact (A7.alloc _).below b8 | exact ((A7.alloc _).alloc _).below b8
        have X8 : At w8 w4.heap.size ⟨lo, 1⟩ := by first | exact X7.below b8 | exact (X7.alloc _).below b8 | exact ((X7.alloc _).alloc _).below b8
        have Y8 : At w8 w5.heap.size ⟨hi, 1⟩ := by first | exact Y7.below b8 | exact (Y7.alloc _).below b8 | exact ((Y7.alloc _).alloc _).below b8
        have Z8 : At w8 w6.heap.size ⟨nr, 1⟩ := by first | exact Z7.below b8 | exact (Z7.alloc _).below b8 | exact ((Z7.alloc _).alloc _).below b8
        have c8 : Below w.heap.size w w8 := by have z := c7.size; first | exact chain c7 b8 | exact chain (c7.alloc z _) b8 | exact chain ((c7.alloc z _).alloc (by simp; omega) _) b8
        clear b8 c7 A7 X7 Y7 Z7
        clear sa pa qa sx px qx sy py qy sz pz qz
        obtain ⟨sa, pa, qa⟩ := id A8
        obtain ⟨sx, px, qx⟩ := id X8
        obtain ⟨sy, py, qy⟩ := id Y8
        obtain ⟨sz, pz, qz⟩ := id Z8
        go_wp2_with fail
        refine (h.sub a ⟨lo, 1⟩ _ ha iLo.out).mono ?_
        rintro e w9 ⟨rfl, b9⟩
        rw [HS1.out]
        simp only [rok]
        have A9 : At w9 w.heap.size a := by first | exact A8.below b9 | exact (A8.alloc _).below b9 | exact ((A8.alloc _).alloc _).below b9
        have X9 : At w9 w4.heap.size ⟨lo, 1⟩ := by first | exact X8.below b9 | exact (X8.alloc _).below b9 | exact ((X8.alloc _).alloc _).below b9
        have Y9 : At w9 w5.heap.size ⟨hi, 1⟩ := by first | exact Y8.below b9 | exact (Y8.alloc _).below b9 | exact ((Y8.alloc _).alloc _).below b9
        have Z9 : At w9 w6.heap.size ⟨nr, 1⟩ := by first | exact Z8.below b9 | exact (Z8.alloc _).below b9 | exact ((Z8.alloc _).alloc _).below b9
        have c9 : Below w.heap.size w w9 := by have z := c8.size; first | exact chain c8 b9 | exact chain (c8.alloc z _) b9 | exact chain ((c8.alloc z _).alloc (by simp; omega) _) b9
        clear b9 c8 A8 X8 Y8 Z8
        clear sa pa qa sx px qx sy py qy sz pz qz
        obtain ⟨sa, pa, qa⟩ := id A9
        obtain ⟨sx, px, qx⟩ := id X9
        obtain ⟨sy, py, qy⟩ := id Y9
        obtain ⟨sz, pz, qz⟩ := id Z9
        go_wp2_with fail
        refine (h.sub ⟨hi, 1⟩ a _ iHi.out ha).mono ?_
        rintro e w10 ⟨rfl, b10⟩
        rw [HS2.out]
        simp only [rok]
        have A10 : At w10 w.heap.size a := by first | exact A9.below b10 | exact (A9.alloc _).below b10 | exact ((A9.alloc _).alloc _).below b10
        have X10 : At w10 w4.heap.size ⟨lo, 1⟩ := by first | exact X9.below b10 | exact (X9.alloc _).below b10 | exact ((X9.alloc _).alloc _).below b10
        have Y10 : At w10 w5.heap.size ⟨hi, 1⟩ := by first | exact Y9.below b10 | exact (Y9.alloc _).below b10 | exact ((Y9.alloc _).alloc _).below b10
        have Z10 : At w10 w6.heap.size ⟨nr, 1⟩ := by first | exact Z9.below b10 | exact (Z9.alloc _).below b10 | exact ((Z9.alloc _).alloc _).below b10
        have D10 : At w10 w9.heap.size dn := by first | exact (At.new w9 dn _ _ rfl).below b10 | exact ((At.new w9 dn _ _ rfl).alloc _).below b10
        have c10 : Below w.heap.size w w10 := by have z := c9.size; first | exact chain c9 b10 | exact chain (c9.alloc z _) b10 | exact chain ((c9.alloc z _).alloc (by simp; omega) _) b10
        clear b10 c9 A9 X9 Y9 Z9
        clear sa pa qa sx px qx sy py qy sz pz qz
        obtain ⟨sa, pa, qa⟩ := id A10
        obtain ⟨sx, px, qx⟩ := id X10
        obtain ⟨sy, py, qy⟩ := id Y10
        obtain ⟨sz, pz, qz⟩ := id Z10
        obtain ⟨sd, pd, qd⟩ := id D10
        go_wp2_with fail
        refine (h.cmp dn up _ Hid1.out Hiu.out).mono ?_
        rintro e w11 ⟨rfl, b11⟩
        rw [HCC.out]
        have A11 : At w11 w.heap.size a := by first | exact A10.below b11 | exact (A10.alloc _).below b11 | exact ((A10.alloc _).alloc _).below b11
        have X11 : At w11 w4.heap.size ⟨lo, 1⟩ := by first | exact X10.below b11 | exact (X10.alloc _).below b11 | exact ((X10.alloc _).alloc _).below b11
        have Y11 : At w11 w5.heap.size ⟨hi, 1⟩ := by first | exact Y10.below b11 | exact (Y10.alloc _).below b11 | exact ((Y10.alloc _).alloc _).below b11
        have Z11 : At w11 w6.heap.size ⟨nr, 1⟩ := by first | exact Z10.below b11 | exact (Z10.alloc _).below b11 | exact ((Z10.alloc _).alloc _).below b11
        have D11 : At w11 w9.heap.size dn := by first | exact D10.below b11 | exact (D10.alloc _).below b11 | exact ((D10.alloc _).alloc _).below b11
        have U11 : At w11 w10.heap.size up := by first | exact (At.new w10 up _ _ rfl).below b11 | exact ((At.new w10 up _ _ rfl).alloc _).below b11
        have c11 : Below w.heap.size w w11 := by have z := c10.size; first | exact chain c10 b11 | exact chain (c10.alloc z _) b11 | exact chain ((c10.alloc z _).alloc (by simp; omega) _) b11
        clear b11 c10 A10 X10 Y10 Z10 D10
        clear sa pa qa sx px qx sy py qy sz pz qz sd pd qd
        obtain ⟨sa, pa, qa⟩ := id A11
        obtain ⟨sx, px, qx⟩ := id X11
        obtain ⟨sy, py, qy⟩ := id Y11
        obtain ⟨sz, pz, qz⟩ := id Z11
        obtain ⟨sd, pd, qd⟩ := id D11
        obtain ⟨su, pu, qu⟩ := id U11
        go_wp2_with fail
        go_ret
        have z := c11.size
        first | exact ⟨rfl, c11⟩ | exact ⟨rfl, c11.alloc z _⟩ | exact ⟨rfl, (c11.alloc z _).alloc (by simp; omega) _⟩
      · subst hc
        go_enter Try.func7, Try.ntmps7
        go_wp2_with fail
        refine (sane_x h _).mono ?_
        rintro e w1 ⟨rfl, b1⟩
        have A1 : At w1 w.heap.size a := (At.new w a _ w.heap.size rfl).below b1
        have c1 := chain ((Below.refl w.heap.size w).alloc (Nat.le_refl _) _) b1
        clear b1
        obtain ⟨sa, pa, qa⟩ := id A1
        go_wp2_with fail
        refine (h.right a _ ha).mono ?_
        rintro e w2 ⟨rfl, b2⟩
        rw [HRa.out]
        have A2 : At w2 w.heap.size a := by first | exact A1.below b2 | exact (A1.alloc _).below b2 | exact ((A1.alloc _).alloc _).below b2
        have c2 : Below w.heap.size w w2 := by have z := c1.size; first | exact chain c1 b2 | exact chain (c1.alloc z _) b2 | exact chain ((c1.alloc z _).alloc (by simp; omega) _) b2
        clear b2 c1 A1
        clear sa pa qa
        obtain ⟨sa, pa, qa⟩ := id A2
        go_wp2_with fail
        go_region_held3 (fun w' => Below w.heap.size w w' ∧ w.heap.size < w'.heap.size ∧ w'.cell? ⟨w.heap.size, 0, none⟩ = some (.int .i64 (a : Rt.R).n) ∧ w'.cell? ⟨w.heap.size, 1, none⟩ = some (.int .i64 (a : Rt.R).d))
          (first
            | exact ⟨Below.drew c2, by simpa using sa, by simpa using pa, by simpa using qa⟩
            | exact ⟨c2, by simpa using sa, by simpa using pa, by simpa using qa⟩
            | (go_split_ands
               exact ⟨chain (by assumption) hb, by have := hb.size; omega, by rw [hb.cell (p := ⟨w.heap.size, 0, none⟩) (by assumption)]; assumption, by rw [hb.cell (p := ⟨w.heap.size, 1, none⟩) (by assumption)]; assumption⟩))
          (first
            | (go_at_call 23; refine (h.floor a _ ha).mono ?_; rintro e w' ⟨rfl, hb⟩; rw [HF.out])
            | (go_at_call 25; refine (h.ceil a _ ha).mono ?_; rintro e w' ⟨rfl, hb⟩; rw [HC.out])
            | (go_at_call 27; refine (h.nearest a _ ha).mono ?_; rintro e w' ⟨rfl, hb⟩; rw [HN.out]))
        rename_i hHeld
        obtain ⟨c3, sa', pa', qa'⟩ := hHeld
        clear hb
        have A3 : At w' w.heap.size a := ⟨sa', pa', qa'⟩
        clear sa' pa' qa' A2 c2
        clear sa pa qa
        obtain ⟨w3, hw⟩ : ∃ x, x = w' := ⟨w', rfl⟩
        subst hw
        obtain ⟨sa, pa, qa⟩ := id A3
        go_wp2_with fail
        refine (h.make lo 1 _ jLo.out i1.out).mono ?_
        rintro e w4 ⟨rfl, b4⟩
        rw [HML.out]
        simp only [rok]
        have A4 : At w4 w.heap.size a := by first | exact A3.below b4 | exact (A3.alloc _).below b4 | exact ((A3.alloc _).alloc _).below b4
        have c4 : Below w.heap.size w w4 := by have z := c3.size; first | exact chain c3 b4 | exact chain (c3.alloc z _) b4 | exact chain ((c3.alloc z _).alloc (by simp; omega) _) b4
        clear b4 c3 A3
        clear sa pa qa
        obtain ⟨sa, pa, qa⟩ := id A4
        go_wp2_with fail
        refine (h.make hi 1 _ jHi.out i1.out).mono ?_
        rintro e w5 ⟨rfl, b5⟩
        rw [HMH.out]
        simp only [rok]
        have A5 : At w5 w.heap.size a := by first | exact A4.below b5 | exact (A4.alloc _).below b5 | exact ((A4.alloc _).alloc _).below b5
        have X5 : At w5 w4.heap.size ⟨lo, 1⟩ := by first | exact (At.new w4 ⟨lo, 1⟩ _ _ rfl).below b5 | exact ((At.new w4 ⟨lo, 1⟩ _ _ rfl).alloc _).below b5
        have c5 : Below w.heap.size w w5 := by have z := c4.size; first | exact chain c4 b5 | exact chain (c4.alloc z _) b5 | exact chain ((c4.alloc z _).alloc (by simp; omega) _) b5
        clear b5 c4 A4
        clear sa pa qa
        obtain ⟨sa, pa, qa⟩ := id A5
        obtain ⟨sx, px, qx⟩ := id X5
        go_wp2_with fail
        refine (h.make nr 1 _ jNr.out i1.out).mono ?_
        rintro e w6 ⟨rfl, b6⟩
        rw [HMN.out]
        simp only [rok]
        have A6 : At w6 w.heap.size a := by first | exact A5.below b6 | exact (A5.alloc _).below b6 | exact ((A5.alloc _).alloc _).below b6
        have X6 : At w6 w4.heap.size ⟨lo, 1⟩ := by first | exact X5.below b6 | exact (X5.alloc _).below b6 | exact ((X5.alloc _).alloc _).below b6
        have Y6 : At w6 w5.heap.size ⟨hi, 1⟩ := by first | exact (At.new w5 ⟨hi, 1⟩ _ _ rfl).below b6 | exact ((At.new w5 ⟨hi, 1⟩ _ _ rfl).alloc _).below b6
        have c6 : Below w.heap.size w w6 := by have z := c5.size; first | exact chain c5 b6 | exact chain (c5.alloc z _) b6 | exact chain ((c5.alloc z _).alloc (by simp; omega) _) b6
        clear b6 c5 A5 X5
        clear sa pa qa sx px qx
        obtain ⟨sa, pa, qa⟩ := id A6
        obtain ⟨sx, px, qx⟩ := id X6
        obtain ⟨sy, py, qy⟩ := id Y6
        go_wp2_with fail
        refine (h.cmp ⟨lo, 1⟩ a _ iLo.out ha).mono ?_
        rintro e w7 ⟨rfl, b7⟩
        rw [HX.out]
        have A7 : At w7 w.heap.size a := by first | exact A6.below b7 | exact (A6.alloc _).below b7 | exact ((A6.alloc _).alloc _).below b7
        have X7 : At w7 w4.heap.size ⟨lo, 1⟩ := by first | exact X6.below b7 | exact (X6.alloc _).below b7 | exact ((X6.alloc _).alloc _).below b7
        have Y7 : At w7 w5.heap.size ⟨hi, 1⟩ := by first | exact Y6.below b7 | exact (Y6.alloc _).below b7 | exact ((Y6.alloc _).alloc _).below b7
        have Z7 : At w7 w6.heap.size ⟨nr, 1⟩ := by first | exact (At.new w6 ⟨nr, 1⟩ _ _ rfl).below b7 | exact ((At.new w6 ⟨nr, 1⟩ _ _ rfl).alloc _).below b7
        have c7 : Below w.heap.size w w7 := by have z := c6.size; first | exact chain c6 b7 | exact chain (c6.alloc z _) b7 | exact chain ((c6.alloc z _).alloc (by simp; omega) _) b7
        clear b7 c6 A6 X6 Y6
        clear sa pa qa sx px qx sy py qy
        obtain ⟨sa, pa, qa⟩ := id A7
        obtain ⟨sx, px, qx⟩ := id X7
        obtain ⟨sy, py, qy⟩ := id Y7
        obtain ⟨sz, pz, qz⟩ := id Z7
        go_wp2_with fail
        refine (h.cmp a ⟨hi, 1⟩ _ ha iHi.out).mono ?_
        rintro e w8 ⟨rfl, b8⟩
        rw [HY.out]
        have A8 : At w8 w.heap.size a := by first | exact A7.below b8 | exact (A7.alloc _).below b8 | exact ((A7.alloc _).alloc _).below b8
        have X8 : At w8 w4.heap.size ⟨lo, 1⟩ := by first | exact X7.below b8 | exact (X7.alloc _).below b8 | exact ((X7.alloc _).alloc _).below b8
        have Y8 : At w8 w5.heap.size ⟨hi, 1⟩ := by first | exact Y7.below b8 | exact (Y7.alloc _).below b8 | exact ((Y7.alloc _).alloc _).below b8
        have Z8 : At w8 w6.heap.size ⟨nr, 1⟩ := by first | exact Z7.below b8 | exact (Z7.alloc _).below b8 | exact ((Z7.alloc _).alloc _).below b8
        have c8 : Below w.heap.size w w8 := by have z := c7.size; first | exact chain c7 b8 | exact chain (c7.alloc z _) b8 | exact chain ((c7.alloc z _).alloc (by simp; omega) _) b8
        clear b8 c7 A7 X7 Y7 Z7
        clear sa pa qa sx px qx sy py qy sz pz qz
        obtain ⟨sa, pa, qa⟩ := id A8
        obtain ⟨sx, px, qx⟩ := id X8
        obtain ⟨sy, py, qy⟩ := id Y8
        obtain ⟨sz, pz, qz⟩ := id Z8
        go_wp2_with fail
        refine (h.sub a ⟨lo, 1⟩ _ ha iLo.out).mono ?_
        rintro e w9 ⟨rfl, b9⟩
        rw [HS1.out]
        simp only [rok]
        have A9 : At w9 w.heap.size a := by first | exact A8.below b9 | exact (A8.alloc _).below b9 | exact ((A8.alloc _).alloc _).below b9
        have X9 : At w9 w4.heap.size ⟨lo, 1⟩ := by first | exact X8.below b9 | exact (X8.alloc _).below b9 | exact ((X8.alloc _).alloc _).below b9
        have Y9 : At w9 w5.heap.size ⟨hi, 1⟩ := by first | exact Y8.below b9 | exact (Y8.alloc _).below b9 | exact ((Y8.alloc _).alloc _).below b9
        have Z9 : At w9 w6.heap.size ⟨nr, 1⟩ := by first | exact Z8.below b9 | exact (Z8.alloc _).below b9 | exact ((Z8.alloc _).alloc _).below b9
        have c9 : Below w.heap.size w w9 := by have z := c8.size; first | exact chain c8 b9 | exact chain (c8.alloc z _) b9 | exact chain ((c8.alloc z _).alloc (by simp; omega) _) b9
        clear b9 c8 A8 X8 Y8 Z8
        clear sa pa qa sx px qx sy py qy sz pz qz
        obtain ⟨sa, pa, qa⟩ := id A9
        obtain ⟨sx, px, qx⟩ := id X9
        obtain ⟨sy, py, qy⟩ := id Y9
        obtain ⟨sz, pz, qz⟩ := id Z9
        go_wp2_with fail
        refine (h.sub ⟨hi, 1⟩ a _ iHi.out ha).mono ?_
        rintro e w10 ⟨rfl, b10⟩
        rw [HS2.out]
        simp only [rok]
        have A10 : At w10 w.heap.size a := by first | exact A9.below b10 | exact (A9.alloc _).below b10 | exact ((A9.alloc _).alloc _).below b10
        have X10 : At w10 w4.heap.size ⟨lo, 1⟩ := by first | exact X9.below b10 | exact (X9.alloc _).below b10 | exact ((X9.alloc _).alloc _).below b10
        have Y10 : At w10 w5.heap.size ⟨hi, 1⟩ := by first | exact Y9.below b10 | exact (Y9.alloc _).below b10 | exact ((Y9.alloc _).alloc _).below b10
        have Z10 : At w10 w6.heap.size ⟨nr, 1⟩ := by first | exact Z9.below b10 | exact (Z9.alloc _).below b10 | exact ((Z9.alloc _).alloc _).below b10
        have D10 : At w10 w9.heap.size dn := by first | exact (At.new w9 dn _ _ rfl).below b10 | exact ((At.new w9 dn _ _ rfl).alloc _).below b10
        have c10 : Below w.heap.size w w10 := by have z := c9.size; first | exact chain c9 b10 | exact chain (c9.alloc z _) b10 | exact chain ((c9.alloc z _).alloc (by simp; omega) _) b10
        clear b10 c9 A9 X9 Y9 Z9
        clear sa pa qa sx px qx sy py qy sz pz qz
        obtain ⟨sa, pa, qa⟩ := id A10
        obtain ⟨sx, px, qx⟩ := id X10
        obtain ⟨sy, py, qy⟩ := id Y10
        obtain ⟨sz, pz, qz⟩ := id Z10
        obtain ⟨sd, pd, qd⟩ := id D10
        go_wp2_with fail
        refine (h.cmp dn up _ Hid1.out Hiu.out).mono ?_
        rintro e w11 ⟨rfl, b11⟩
        rw [HCC.out]
        have A11 : At w11 w.heap.size a := by first | exact A10.below b11 | exact (A10.alloc _).below b11 | exact ((A10.alloc _).alloc _).below b11
        have X11 : At w11 w4.heap.size ⟨lo, 1⟩ := by first | exact X10.below b11 | exact (X10.alloc _).below b11 | exact ((X10.alloc _).alloc _).below b11
        have Y11 : At w11 w5.heap.size ⟨hi, 1⟩ := by first | exact Y10.below b11 | exact (Y10.alloc _).below b11 | exact ((Y10.alloc _).alloc _).below b11
        have Z11 : At w11 w6.heap.size ⟨nr, 1⟩ := by first | exact Z10.below b11 | exact (Z10.alloc _).below b11 | exact ((Z10.alloc _).alloc _).below b11
        have D11 : At w11 w9.heap.size dn := by first | exact D10.below b11 | exact (D10.alloc _).below b11 | exact ((D10.alloc _).alloc _).below b11
        have U11 : At w11 w10.heap.size up := by first | exact (At.new w10 up _ _ rfl).below b11 | exact ((At.new w10 up _ _ rfl).alloc _).below b11
        have c11 : Below w.heap.size w w11 := by have z := c10.size; first | exact chain c10 b11 | exact chain (c10.alloc z _) b11 | exact chain ((c10.alloc z _).alloc (by simp; omega) _) b11
        clear b11 c10 A10 X10 Y10 Z10 D10
        clear sa pa qa sx px qx sy py qy sz pz qz sd pd qd
        obtain ⟨sa, pa, qa⟩ := id A11
        obtain ⟨sx, px, qx⟩ := id X11
        obtain ⟨sy, py, qy⟩ := id Y11
        obtain ⟨sz, pz, qz⟩ := id Z11
        obtain ⟨sd, pd, qd⟩ := id D11
        obtain ⟨su, pu, qu⟩ := id U11
        go_wp2_with fail
        go_ret
        have z := c11.size
        first | exact ⟨rfl, c11⟩ | exact ⟨rfl, c11.alloc z _⟩ | exact ⟨rfl, (c11.alloc z _).alloc (by simp; omega) _⟩
      · go_enter Try.func7, Try.ntmps7
        go_wp2_with fail
        refine (sane_x h _).mono ?_
        rintro e w1 ⟨rfl, b1⟩
        have A1 : At w1 w.heap.size a := (At.new w a _ w.heap.size rfl).below b1
        have c1 := chain ((Below.refl w.heap.size w).alloc (Nat.le_refl _) _) b1
        clear b1
        obtain ⟨sa, pa, qa⟩ := id A1
        go_wp2_with fail
        refine (h.right a _ ha).mono ?_
        rintro e w2 ⟨rfl, b2⟩
        rw [HRa.out]
        have A2 : At w2 w.heap.size a := by first | exact A1.below b2 | exact (A1.alloc _).below b2 | exact ((A1.alloc _).alloc _).below b2
        have c2 : Below w.heap.size w w2 := by have z := c1.size; first | exact chain c1 b2 | exact chain (c1.alloc z _) b2 | exact chain ((c1.alloc z _).alloc (by simp; omega) _) b2
        clear b2 c1 A1
        clear sa pa qa
        obtain ⟨sa, pa, qa⟩ := id A2
        go_wp2_with fail
        go_region_held3 (fun w' => Below w.heap.size w w' ∧ w.heap.size < w'.heap.size ∧ w'.cell? ⟨w.heap.size, 0, none⟩ = some (.int .i64 (a : Rt.R).n) ∧ w'.cell? ⟨w.heap.size, 1, none⟩ = some (.int .i64 (a : Rt.R).d))
          (first
            | exact ⟨Below.drew c2, by simpa using sa, by simpa using pa, by simpa using qa⟩
            | exact ⟨c2, by simpa using sa, by simpa using pa, by simpa using qa⟩
            | (go_split_ands
               exact ⟨chain (by assumption) hb, by have := hb.size; omega, by rw [hb.cell (p := ⟨w.heap.size, 0, none⟩) (by assumption)]; assumption, by rw [hb.cell (p := ⟨w.heap.size, 1, none⟩) (by assumption)]; assumption⟩))
          (first
            | (go_at_call 23; refine (h.floor a _ ha).mono ?_; rintro e w' ⟨rfl, hb⟩; rw [HF.out])
            | (go_at_call 25; refine (h.ceil a _ ha).mono ?_; rintro e w' ⟨rfl, hb⟩; rw [HC.out])
            | (go_at_call 27; refine (h.nearest a _ ha).mono ?_; rintro e w' ⟨rfl, hb⟩; rw [HN.out]))
        rename_i hHeld
        obtain ⟨c3, sa', pa', qa'⟩ := hHeld
        clear hb
        have A3 : At w' w.heap.size a := ⟨sa', pa', qa'⟩
        clear sa' pa' qa' A2 c2
        clear sa pa qa
        obtain ⟨w3, hw⟩ : ∃ x, x = w' := ⟨w', rfl⟩
        subst hw
        obtain ⟨sa, pa, qa⟩ := id A3
        go_wp2_with fail
        refine (h.make lo 1 _ jLo.out i1.out).mono ?_
        rintro e w4 ⟨rfl, b4⟩
        rw [HML.out]
        simp only [rok]
        have A4 : At w4 w.heap.size a := by first | exact A3.below b4 | exact (A3.alloc _).below b4 | exact ((A3.alloc _).alloc _).below b4
        have c4 : Below w.heap.size w w4 := by have z := c3.size; first | exact chain c3 b4 | exact chain (c3.alloc z _) b4 | exact chain ((c3.alloc z _).alloc (by simp; omega) _) b4
        clear b4 c3 A3
        clear sa pa qa
        obtain ⟨sa, pa, qa⟩ := id A4
        go_wp2_with fail
        refine (h.make hi 1 _ jHi.out i1.out).mono ?_
        rintro e w5 ⟨rfl, b5⟩
        rw [HMH.out]
        simp only [rok]
        have A5 : At w5 w.heap.size a := by first | exact A4.below b5 | exact (A4.alloc _).below b5 | exact ((A4.alloc _).alloc _).below b5
        have X5 : At w5 w4.heap.size ⟨lo, 1⟩ := by first | exact (At.new w4 ⟨lo, 1⟩ _ _ rfl).below b5 | exact ((At.new w4 ⟨lo, 1⟩ _ _ rfl).alloc _).below b5
        have c5 : Below w.heap.size w w5 := by have z := c4.size; first | exact chain c4 b5 | exact chain (c4.alloc z _) b5 | exact chain ((c4.alloc z _).alloc (by simp; omega) _) b5
        clear b5 c4 A4
        clear sa pa qa
        obtain ⟨sa, pa, qa⟩ := id A5
        obtain ⟨sx, px, qx⟩ := id X5
        go_wp2_with fail
        refine (h.make nr 1 _ jNr.out i1.out).mono ?_
        rintro e w6 ⟨rfl, b6⟩
        rw [HMN.out]
        simp only [rok]
        have A6 : At w6 w.heap.size a := by first | exact A5.below b6 | exact (A5.alloc _).below b6 | exact ((A5.alloc _).alloc _).below b6
        have X6 : At w6 w4.heap.size ⟨lo, 1⟩ := by first | exact X5.below b6 | exact (X5.alloc _).below b6 | exact ((X5.alloc _).alloc _).below b6
        have Y6 : At w6 w5.heap.size ⟨hi, 1⟩ := by first | exact (At.new w5 ⟨hi, 1⟩ _ _ rfl).below b6 | exact ((At.new w5 ⟨hi, 1⟩ _ _ rfl).alloc _).below b6
        have c6 : Below w.heap.size w w6 := by have z := c5.size; first | exact chain c5 b6 | exact chain (c5.alloc z _) b6 | exact chain ((c5.alloc z _).alloc (by simp; omega) _) b6
        clear b6 c5 A5 X5
        clear sa pa qa sx px qx
        obtain ⟨sa, pa, qa⟩ := id A6
        obtain ⟨sx, px, qx⟩ := id X6
        obtain ⟨sy, py, qy⟩ := id Y6
        go_wp2_with fail
        refine (h.cmp ⟨lo, 1⟩ a _ iLo.out ha).mono ?_
        rintro e w7 ⟨rfl, b7⟩
        rw [HX.out]
        have A7 : At w7 w.heap.size a := by first | exact A6.below b7 | exact (A6.alloc _).below b7 | exact ((A6.alloc _).alloc _).below b7
        have X7 : At w7 w4.heap.size ⟨lo, 1⟩ := by first | exact X6.below b7 | exact (X6.alloc _).below b7 | exact ((X6.alloc _).alloc _).below b7
        have Y7 : At w7 w5.heap.size ⟨hi, 1⟩ := by first | exact Y6.below b7 | exact (Y6.alloc _).below b7 | exact ((Y6.alloc _).alloc _).below b7
        have Z7 : At w7 w6.heap.size ⟨nr, 1⟩ := by first | exact (At.new w6 ⟨nr, 1⟩ _ _ rfl).below b7 | exact ((At.new w6 ⟨nr, 1⟩ _ _ rfl).alloc _).below b7
        have c7 : Below w.heap.size w w7 := by have z := c6.size; first | exact chain c6 b7 | exact chain (c6.alloc z _) b7 | exact chain ((c6.alloc z _).alloc (by simp; omega) _) b7
        clear b7 c6 A6 X6 Y6
        clear sa pa qa sx px qx sy py qy
        obtain ⟨sa, pa, qa⟩ := id A7
        obtain ⟨sx, px, qx⟩ := id X7
        obtain ⟨sy, py, qy⟩ := id Y7
        obtain ⟨sz, pz, qz⟩ := id Z7
        go_wp2_with fail
        refine (h.cmp a ⟨hi, 1⟩ _ ha iHi.out).mono ?_
        rintro e w8 ⟨rfl, b8⟩
        rw [HY.out]
        have A8 : At w8 w.heap.size a := by first | exact A7.below b8 | exact (A7.alloc _).below b8 | exact ((A7.alloc _).alloc _).below b8
        have X8 : At w8 w4.heap.size ⟨lo, 1⟩ := by first | exact X7.below b8 | exact (X7.alloc _).below b8 | exact ((X7.alloc _).alloc _).below b8
        have Y8 : At w8 w5.heap.size ⟨hi, 1⟩ := by first | exact Y7.below b8 | exact (Y7.alloc _).below b8 | exact ((Y7.alloc _).alloc _).below b8
        have Z8 : At w8 w6.heap.size ⟨nr, 1⟩ := by first | exact Z7.below b8 | exact (Z7.alloc _).below b8 | exact ((Z7.alloc _).alloc _).below b8
        have c8 : Below w.heap.size w w8 := by have z := c7.size; first | exact chain c7 b8 | exact chain (c7.alloc z _) b8 | exact chain ((c7.alloc z _).alloc (by simp; omega) _) b8
        clear b8 c7 A7 X7 Y7 Z7
        clear sa pa qa sx px qx sy py qy sz pz qz
        obtain ⟨sa, pa, qa⟩ := id A8
        obtain ⟨sx, px, qx⟩ := id X8
        obtain ⟨sy, py, qy⟩ := id Y8
        obtain ⟨sz, pz, qz⟩ := id Z8
        go_wp2_with fail
        refine (h.sub a ⟨lo, 1⟩ _ ha iLo.out).mono ?_
        rintro e w9 ⟨rfl, b9⟩
        rw [HS1.out]
        simp only [rok]
        have A9 : At w9 w.heap.size a := by first | exact A8.below b9 | exact (A8.alloc _).below b9 | exact ((A8.alloc _).alloc _).below b9
        have X9 : At w9 w4.heap.size ⟨lo, 1⟩ := by first | exact X8.below b9 | exact (X8.alloc _).below b9 | exact ((X8.alloc _).alloc _).below b9
        have Y9 : At w9 w5.heap.size ⟨hi, 1⟩ := by first | exact Y8.below b9 | exact (Y8.alloc _).below b9 | exact ((Y8.alloc _).alloc _).below b9
        have Z9 : At w9 w6.heap.size ⟨nr, 1⟩ := by first | exact Z8.below b9 | exact (Z8.alloc _).below b9 | exact ((Z8.alloc _).alloc _).below b9
        have c9 : Below w.heap.size w w9 := by have z := c8.size; first | exact chain c8 b9 | exact chain (c8.alloc z _) b9 | exact chain ((c8.alloc z _).alloc (by simp; omega) _) b9
        clear b9 c8 A8 X8 Y8 Z8
        clear sa pa qa sx px qx sy py qy sz pz qz
        obtain ⟨sa, pa, qa⟩ := id A9
        obtain ⟨sx, px, qx⟩ := id X9
        obtain ⟨sy, py, qy⟩ := id Y9
        obtain ⟨sz, pz, qz⟩ := id Z9
        go_wp2_with fail
        refine (h.sub ⟨hi, 1⟩ a _ iHi.out ha).mono ?_
        rintro e w10 ⟨rfl, b10⟩
        rw [HS2.out]
        simp only [rok]
        have A10 : At w10 w.heap.size a := by first | exact A9.below b10 | exact (A9.alloc _).below b10 | exact ((A9.alloc _).alloc _).below b10
        have X10 : At w10 w4.heap.size ⟨lo, 1⟩ := by first | exact X9.below b10 | exact (X9.alloc _).below b10 | exact ((X9.alloc _).alloc _).below b10
        have Y10 : At w10 w5.heap.size ⟨hi, 1⟩ := by first | exact Y9.below b10 | exact (Y9.alloc _).below b10 | exact ((Y9.alloc _).alloc _).below b10
        have Z10 : At w10 w6.heap.size ⟨nr, 1⟩ := by first | exact Z9.below b10 | exact (Z9.alloc _).below b10 | exact ((Z9.alloc _).alloc _).below b10
        have D10 : At w10 w9.heap.size dn := by first | exact (At.new w9 dn _ _ rfl).below b10 | exact ((At.new w9 dn _ _ rfl).alloc _).below b10
        have c10 : Below w.heap.size w w10 := by have z := c9.size; first | exact chain c9 b10 | exact chain (c9.alloc z _) b10 | exact chain ((c9.alloc z _).alloc (by simp; omega) _) b10
        clear b10 c9 A9 X9 Y9 Z9
        clear sa pa qa sx px qx sy py qy sz pz qz
        obtain ⟨sa, pa, qa⟩ := id A10
        obtain ⟨sx, px, qx⟩ := id X10
        obtain ⟨sy, py, qy⟩ := id Y10
        obtain ⟨sz, pz, qz⟩ := id Z10
        obtain ⟨sd, pd, qd⟩ := id D10
        go_wp2_with fail
        refine (h.cmp dn up _ Hid1.out Hiu.out).mono ?_
        rintro e w11 ⟨rfl, b11⟩
        rw [HCC.out]
        have A11 : At w11 w.heap.size a := by first | exact A10.below b11 | exact (A10.alloc _).below b11 | exact ((A10.alloc _).alloc _).below b11
        have X11 : At w11 w4.heap.size ⟨lo, 1⟩ := by first | exact X10.below b11 | exact (X10.alloc _).below b11 | exact ((X10.alloc _).alloc _).below b11
        have Y11 : At w11 w5.heap.size ⟨hi, 1⟩ := by first | exact Y10.below b11 | exact (Y10.alloc _).below b11 | exact ((Y10.alloc _).alloc _).below b11
        have Z11 : At w11 w6.heap.size ⟨nr, 1⟩ := by first | exact Z10.below b11 | exact (Z10.alloc _).below b11 | exact ((Z10.alloc _).alloc _).below b11
        have D11 : At w11 w9.heap.size dn := by first | exact D10.below b11 | exact (D10.alloc _).below b11 | exact ((D10.alloc _).alloc _).below b11
        have U11 : At w11 w10.heap.size up := by first | exact (At.new w10 up _ _ rfl).below b11 | exact ((At.new w10 up _ _ rfl).alloc _).below b11
        have c11 : Below w.heap.size w w11 := by have z := c10.size; first | exact chain c10 b11 | exact chain (c10.alloc z _) b11 | exact chain ((c10.alloc z _).alloc (by simp; omega) _) b11
        clear b11 c10 A10 X10 Y10 Z10 D10
        clear sa pa qa sx px qx sy py qy sz pz qz sd pd qd
        obtain ⟨sa, pa, qa⟩ := id A11
        obtain ⟨sx, px, qx⟩ := id X11
        obtain ⟨sy, py, qy⟩ := id Y11
        obtain ⟨sz, pz, qz⟩ := id Z11
        obtain ⟨sd, pd, qd⟩ := id D11
        obtain ⟨su, pu, qu⟩ := id U11
        go_wp2_with fail
        go_ret
        have z := c11.size
        first | exact ⟨rfl, c11⟩ | exact ⟨rfl, c11.alloc z _⟩ | exact ⟨rfl, (c11.alloc z _).alloc (by simp; omega) _⟩
      · subst hc
        go_enter Try.func7, Try.ntmps7
        go_wp2_with fail
        refine (sane_x h _).mono ?_
        rintro e w1 ⟨rfl, b1⟩
        have A1 : At w1 w.heap.size a := (At.new w a _ w.heap.size rfl).below b1
        have c1 := chain ((Below.refl w.heap.size w).alloc (Nat.le_refl _) _) b1
        clear b1
        obtain ⟨sa, pa, qa⟩ := id A1
        go_wp2_with fail
        refine (h.right a _ ha).mono ?_
        rintro e w2 ⟨rfl, b2⟩
        rw [HRa.out]
        have A2 : At w2 w.heap.size a := by first | exact A1.below b2 | exact (A1.alloc _).below b2 | exact ((A1.alloc _).alloc _).below b2
        have c2 : Below w.heap.size w w2 := by have z := c1.size; first | exact chain c1 b2 | exact chain (c1.alloc z _) b2 | exact chain ((c1.alloc z _).alloc (by simp; omega) _) b2
        clear b2 c1 A1
        clear sa pa qa
        obtain ⟨sa, pa, qa⟩ := id A2
        go_wp2_with fail
        go_region_held3 (fun w' => Below w.heap.size w w' ∧ w.heap.size < w'.heap.size ∧ w'.cell? ⟨w.heap.size, 0, none⟩ = some (.int .i64 (a : Rt.R).n) ∧ w'.cell? ⟨w.heap.size, 1, none⟩ = some (.int .i64 (a : Rt.R).d))
          (first
            | exact ⟨Below.drew c2, by simpa using sa, by simpa using pa, by simpa using qa⟩
            | exact ⟨c2, by simpa using sa, by simpa using pa, by simpa using qa⟩
            | (go_split_ands
               exact ⟨chain (by assumption) hb, by have := hb.size; omega, by rw [hb.cell (p := ⟨w.heap.size, 0, none⟩) (by assumption)]; assumption, by rw [hb.cell (p := ⟨w.heap.size, 1, none⟩) (by assumption)]; assumption⟩))
          (first
            | (go_at_call 23; refine (h.floor a _ ha).mono ?_; rintro e w' ⟨rfl, hb⟩; rw [HF.out])
            | (go_at_call 25; refine (h.ceil a _ ha).mono ?_; rintro e w' ⟨rfl, hb⟩; rw [HC.out])
            | (go_at_call 27; refine (h.nearest a _ ha).mono ?_; rintro e w' ⟨rfl, hb⟩; rw [HN.out]))
        rename_i hHeld
        obtain ⟨c3, sa', pa', qa'⟩ := hHeld
        clear hb
        have A3 : At w' w.heap.size a := ⟨sa', pa', qa'⟩
        clear sa' pa' qa' A2 c2
        clear sa pa qa
        obtain ⟨w3, hw⟩ : ∃ x, x = w' := ⟨w', rfl⟩
        subst hw
        obtain ⟨sa, pa, qa⟩ := id A3
        go_wp2_with fail
        refine (h.make lo 1 _ jLo.out i1.out).mono ?_
        rintro e w4 ⟨rfl, b4⟩
        rw [HML.out]
        simp only [rok]
        have A4 : At w4 w.heap.size a := by first | exact A3.below b4 | exact (A3.alloc _).below b4 | exact ((A3.alloc _).alloc _).below b4
        have c4 : Below w.heap.size w w4 := by have z := c3.size; first | exact chain c3 b4 | exact chain (c3.alloc z _) b4 | exact chain ((c3.alloc z _).alloc (by simp; omega) _) b4
        clear b4 c3 A3
        clear sa pa qa
        obtain ⟨sa, pa, qa⟩ := id A4
        go_wp2_with fail
        refine (h.make hi 1 _ jHi.out i1.out).mono ?_
        rintro e w5 ⟨rfl, b5⟩
        rw [HMH.out]
        simp only [rok]
        have A5 : At w5 w.heap.size a := by first | exact A4.below b5 | exact (A4.alloc _).below b5 | exact ((A4.alloc _).alloc _).below b5
        have X5 : At w5 w4.heap.size ⟨lo, 1⟩ := by first | exact (At.new w4 ⟨lo, 1⟩ _ _ rfl).below b5 | exact ((At.new w4 ⟨lo, 1⟩ _ _ rfl).alloc _).below b5
        have c5 : Below w.heap.size w w5 := by have z := c4.size; first | exact chain c4 b5 | exact chain (c4.alloc z _) b5 | exact chain ((c4.alloc z _).alloc (by simp; omega) _) b5
        clear b5 c4 A4
        clear sa pa qa
        obtain ⟨sa, pa, qa⟩ := id A5
        obtain ⟨sx, px, qx⟩ := id X5
        go_wp2_with fail
        refine (h.make nr 1 _ jNr.out i1.out).mono ?_
        rintro e w6 ⟨rfl, b6⟩
        rw [HMN.out]
        simp only [rok]
        have A6 : At w6 w.heap.size a := by first | exact A5.below b6 | exact (A5.alloc _).below b6 | exact ((A5.alloc _).alloc _).below b6
        have X6 : At w6 w4.heap.size ⟨lo, 1⟩ := by first | exact X5.below b6 | exact (X5.alloc _).below b6 | exact ((X5.alloc _).alloc _).below b6
        have Y6 : At w6 w5.heap.size ⟨hi, 1⟩ := by first | exact (At.new w5 ⟨hi, 1⟩ _ _ rfl).below b6 | exact ((At.new w5 ⟨hi, 1⟩ _ _ rfl).alloc _).below b6
        have c6 : Below w.heap.size w w6 := by have z := c5.size; first | exact chain c5 b6 | exact chain (c5.alloc z _) b6 | exact chain ((c5.alloc z _).alloc (by simp; omega) _) b6
        clear b6 c5 A5 X5
        clear sa pa qa sx px qx
        obtain ⟨sa, pa, qa⟩ := id A6
        obtain ⟨sx, px, qx⟩ := id X6
        obtain ⟨sy, py, qy⟩ := id Y6
        go_wp2_with fail
        refine (h.cmp ⟨lo, 1⟩ a _ iLo.out ha).mono ?_
        rintro e w7 ⟨rfl, b7⟩
        rw [HX.out]
        have A7 : At w7 w.heap.size a := by first | exact A6.below b7 | exact (A6.alloc _).below b7 | exact ((A6.alloc _).alloc _).below b7
        have X7 : At w7 w4.heap.size ⟨lo, 1⟩ := by first | exact X6.below b7 | exact (X6.alloc _).below b7 | exact ((X6.alloc _).alloc _).below b7
        have Y7 : At w7 w5.heap.size ⟨hi, 1⟩ := by first | exact Y6.below b7 | exact (Y6.alloc _).below b7 | exact ((Y6.alloc _).alloc _).below b7
        have Z7 : At w7 w6.heap.size ⟨nr, 1⟩ := by first | exact (At.new w6 ⟨nr, 1⟩ _ _ rfl).below b7 | exact ((At.new w6 ⟨nr, 1⟩ _ _ rfl).alloc _).below b7
        have c7 : Below w.heap.size w w7 := by have z := c6.size; first | exact chain c6 b7 | exact chain (c6.alloc z _) b7 | exact chain ((c6.alloc z _).alloc (by simp; omega) _) b7
        clear b7 c6 A6 X6 Y6
        clear sa pa qa sx px qx sy py qy
        obtain ⟨sa, pa, qa⟩ := id A7
        obtain ⟨sx, px, qx⟩ := id X7
        obtain ⟨sy, py, qy⟩ := id Y7
        obtain ⟨sz, pz, qz⟩ := id Z7
        go_wp2_with fail
        refine (h.cmp a ⟨hi, 1⟩ _ ha iHi.out).mono ?_
        rintro e w8 ⟨rfl, b8⟩
        rw [HY.out]
        have A8 : At w8 w.heap.size a := by first | exact A7.below b8 | exact (A7.alloc _).below b8 | exact ((A7.alloc _).alloc _).below b8
        have X8 : At w8 w4.heap.size ⟨lo, 1⟩ := by first | exact X7.below b8 | exact (X7.alloc _).below b8 | exact ((X7.alloc _).alloc _).below b8
        have Y8 : At w8 w5.heap.size ⟨hi, 1⟩ := by first | exact Y7.below b8 | exact (Y7.alloc _).below b8 | exact ((Y7.alloc _).alloc _).below b8
        have Z8 : At w8 w6.heap.size ⟨nr, 1⟩ := by first | exact Z7.below b8 | exact (Z7.alloc _).below b8 | exact ((Z7.alloc _).alloc _).below b8
        have c8 : Below w.heap.size w w8 := by have z := c7.size; first | exact chain c7 b8 | exact chain (c7.alloc z _) b8 | exact chain ((c7.alloc z _).alloc (by simp; omega) _) b8
        clear b8 c7 A7 X7 Y7 Z7
        clear sa pa qa sx px qx sy py qy sz pz qz
        obtain ⟨sa, pa, qa⟩ := id A8
        obtain ⟨sx, px, qx⟩ := id X8
        obtain ⟨sy, py, qy⟩ := id Y8
        obtain ⟨sz, pz, qz⟩ := id Z8
        go_wp2_with fail
        refine (h.sub a ⟨lo, 1⟩ _ ha iLo.out).mono ?_
        rintro e w9 ⟨rfl, b9⟩
        rw [HS1.out]
        simp only [rok]
        have A9 : At w9 w.heap.size a := by first | exact A8.below b9 | exact (A8.alloc _).below b9 | exact ((A8.alloc _).alloc _).below b9
        have X9 : At w9 w4.heap.size ⟨lo, 1⟩ := by first | exact X8.below b9 | exact (X8.alloc _).below b9 | exact ((X8.alloc _).alloc _).below b9
        have Y9 : At w9 w5.heap.size ⟨hi, 1⟩ := by first | exact Y8.below b9 | exact (Y8.alloc _).below b9 | exact ((Y8.alloc _).alloc _).below b9
        have Z9 : At w9 w6.heap.size ⟨nr, 1⟩ := by first | exact Z8.below b9 | exact (Z8.alloc _).below b9 | exact ((Z8.alloc _).alloc _).below b9
        have c9 : Below w.heap.size w w9 := by have z := c8.size; first | exact chain c8 b9 | exact chain (c8.alloc z _) b9 | exact chain ((c8.alloc z _).alloc (by simp; omega) _) b9
        clear b9 c8 A8 X8 Y8 Z8
        clear sa pa qa sx px qx sy py qy sz pz qz
        obtain ⟨sa, pa, qa⟩ := id A9
        obtain ⟨sx, px, qx⟩ := id X9
        obtain ⟨sy, py, qy⟩ := id Y9
        obtain ⟨sz, pz, qz⟩ := id Z9
        go_wp2_with fail
        refine (h.sub ⟨hi, 1⟩ a _ iHi.out ha).mono ?_
        rintro e w10 ⟨rfl, b10⟩
        rw [HS2.out]
        simp only [rok]
        have A10 : At w10 w.heap.size a := by first | exact A9.below b10 | exact (A9.alloc _).below b10 | exact ((A9.alloc _).alloc _).below b10
        have X10 : At w10 w4.heap.size ⟨lo, 1⟩ := by first | exact X9.below b10 | exact (X9.alloc _).below b10 | exact ((X9.alloc _).alloc _).below b10
        have Y10 : At w10 w5.heap.size ⟨hi, 1⟩ := by first | exact Y9.below b10 | exact (Y9.alloc _).below b10 | exact ((Y9.alloc _).alloc _).below b10
        have Z10 : At w10 w6.heap.size ⟨nr, 1⟩ := by first | exact Z9.below b10 | exact (Z9.alloc _).below b10 | exact ((Z9.alloc _).alloc _).below b10
        have D10 : At w10 w9.heap.size dn := by first | exact (At.new w9 dn _ _ rfl).below b10 | exact ((At.new w9 dn _ _ rfl).alloc _).below b10
        have c10 : Below w.heap.size w w10 := by have z := c9.size; first | exact chain c9 b10 | exact chain (c9.alloc z _) b10 | exact chain ((c9.alloc z _).alloc (by simp; omega) _) b10
        clear b10 c9 A9 X9 Y9 Z9
        clear sa pa qa sx px qx sy py qy sz pz qz
        obtain ⟨sa, pa, qa⟩ := id A10
        obtain ⟨sx, px, qx⟩ := id X10
        obtain ⟨sy, py, qy⟩ := id Y10
        obtain ⟨sz, pz, qz⟩ := id Z10
        obtain ⟨sd, pd, qd⟩ := id D10
        go_wp2_with fail
        refine (h.cmp dn up _ Hid1.out Hiu.out).mono ?_
        rintro e w11 ⟨rfl, b11⟩
        rw [HCC.out]
        have A11 : At w11 w.heap.size a := by first | exact A10.below b11 | exact (A10.alloc _).below b11 | exact ((A10.alloc _).alloc _).below b11
        have X11 : At w11 w4.heap.size ⟨lo, 1⟩ := by first | exact X10.below b11 | exact (X10.alloc _).below b11 | exact ((X10.alloc _).alloc _).below b11
        have Y11 : At w11 w5.heap.size ⟨hi, 1⟩ := by first | exact Y10.below b11 | exact (Y10.alloc _).below b11 | exact ((Y10.alloc _).alloc _).below b11
        have Z11 : At w11 w6.heap.size ⟨nr, 1⟩ := by first | exact Z10.below b11 | exact (Z10.alloc _).below b11 | exact ((Z10.alloc _).alloc _).below b11
        have D11 : At w11 w9.heap.size dn := by first | exact D10.below b11 | exact (D10.alloc _).below b11 | exact ((D10.alloc _).alloc _).below b11
        have U11 : At w11 w10.heap.size up := by first | exact (At.new w10 up _ _ rfl).below b11 | exact ((At.new w10 up _ _ rfl).alloc _).below b11
        have c11 : Below w.heap.size w w11 := by have z := c10.size; first | exact chain c10 b11 | exact chain (c10.alloc z _) b11 | exact chain ((c10.alloc z _).alloc (by simp; omega) _) b11
        clear b11 c10 A10 X10 Y10 Z10 D10
        clear sa pa qa sx px qx sy py qy sz pz qz sd pd qd
        obtain ⟨sa, pa, qa⟩ := id A11
        obtain ⟨sx, px, qx⟩ := id X11
        obtain ⟨sy, py, qy⟩ := id Y11
        obtain ⟨sz, pz, qz⟩ := id Z11
        obtain ⟨sd, pd, qd⟩ := id D11
        obtain ⟨su, pu, qu⟩ := id U11
        go_wp2_with fail
        go_ret
        have z := c11.size
        first | exact ⟨rfl, c11⟩ | exact ⟨rfl, c11.alloc z _⟩ | exact ⟨rfl, (c11.alloc z _).alloc (by simp; omega) _⟩

end Go.Proofs.Ytnddfngdlmdmhaa
