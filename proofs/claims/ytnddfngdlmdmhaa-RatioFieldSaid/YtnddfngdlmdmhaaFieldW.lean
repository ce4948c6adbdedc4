/-
  The law RatioField's walk; the laws' plus and times; the reference's Fits.
-/
import Derived.Test.YtnddfngdlmdmhaaSane
import Derived.Deep.RegionHeld3
namespace Go.Proofs.Ytnddfngdlmdmhaa
open Go.RowKit

abbrev pok (x : Rt.R × Int) : Value := .tuple #[.agg #[.int .i64 x.1.n, .int .i64 x.1.d], .bool (x.2 == 0)]
theorem pok_ok (r : Rt.R) : pok (r, 0) = .tuple #[.agg #[.int .i64 r.n, .int .i64 r.d], .bool true] := rfl

theorem frozen_new (w : World) (C : Array Value) (T : TypeId) (n : Nat) (hn : n = w.heap.size) : ∀ o, (w.alloc (.cells C T)).frozen? ⟨n, o, none⟩ = false := by
  subst hn; intro o; simp

def fitsB (a : Rt.R) (m : Int) : Bool := decide (-m ≤ a.n) && decide (a.n ≤ m) && decide (-m ≤ a.d) && decide (a.d ≤ m)
theorem fits_iff {a : Rt.R} {m : Int} : fitsB a m = true ↔ -m ≤ a.n ∧ a.n ≤ m ∧ -m ≤ a.d ∧ a.d ≤ m := by unfold fitsB; simp [and_assoc]

theorem two_ok {a b r : Rt.R} {p q : Int} (h : Rt.two a b p q = (r, 0)) (hq : Rt.right a = true → Rt.right b = true → q ≠ 0) : Rt.right r = true := by
  rcases Rt.two_ways (a := a) (b := b) p q with ⟨x1, x2, _⟩ | ⟨_, x⟩
  · rw [Rt.two_right x1 x2] at h
    exact (Rt.give_ok (hq x1 x2) h).1
  · rw [x] at h
    injection h with _ h; cases h
theorem add_In {a b r : Rt.R} (h : Rt.add a b = (r, 0)) : In r := right_In (two_ok h fun x y => Rt.mul_ne (Rt.ne x) (Rt.ne y))
theorem mul_In {a b r : Rt.R} (h : Rt.mul a b = (r, 0)) : In r := right_In (two_ok h fun x y => Rt.mul_ne (Rt.ne x) (Rt.ne y))

set_option maxHeartbeats 1600000 in
theorem Fits_x (a : Rt.R) (w : World) (ha : In a) : Calls Try.prog 29 #[rv a, .int .i64 1000] w fun e w' => e = .returned (.bool (fitsB a 1000)) ∧ Below w.heap.size w w' := by
  obtain ⟨n, d⟩ := a
  obtain ⟨⟨i1, i2⟩, i3, i4⟩ := ha
  simp only at i1 i2 i3 i4
  by_cases h1 : -1000 ≤ n
  · by_cases h2 : n ≤ 1000
    · by_cases h3 : -1000 ≤ d
      · have hv : Hid (fitsB ⟨n, d⟩ 1000 = decide (d ≤ 1000)) := by show _ = _; unfold fitsB; simp only; rw [decide_eq_true h1, decide_eq_true h2, decide_eq_true h3]; rfl
        go_enter Try.func29, Try.ntmps29
        go_wp2_with fail
        go_ret
        exact ⟨by rw [hv.out]; rfl, (Below.refl _ _).alloc (Nat.le_refl _) _⟩
      · have hv : Hid (fitsB ⟨n, d⟩ 1000 = false) := by show _ = _; unfold fitsB; simp only; rw [decide_eq_false h3, Bool.and_false, Bool.false_and]
        go_enter Try.func29, Try.ntmps29
        go_wp2_with fail
        go_ret
        exact ⟨by rw [hv.out]; rfl, (Below.refl _ _).alloc (Nat.le_refl _) _⟩
    · have hv : Hid (fitsB ⟨n, d⟩ 1000 = false) := by show _ = _; unfold fitsB; simp only; rw [decide_eq_false h2, Bool.and_false, Bool.false_and, Bool.false_and]
      go_enter Try.func29, Try.ntmps29
      go_wp2_with fail
      go_ret
      exact ⟨by rw [hv.out]; rfl, (Below.refl _ _).alloc (Nat.le_refl _) _⟩
  · have hv : Hid (fitsB ⟨n, d⟩ 1000 = false) := by show _ = _; unfold fitsB; simp only; rw [decide_eq_false h1, Bool.false_and, Bool.false_and, Bool.false_and]
    go_enter Try.func29, Try.ntmps29
    go_wp2_with fail
    go_ret
    exact ⟨by rw [hv.out]; rfl, (Below.refl _ _).alloc (Nat.le_refl _) _⟩

set_option maxHeartbeats 1600000 in
theorem plus_x (h : RatioOk) (a b r : Rt.R) (w : World) (ha : In a) (hb : In b) (E : Rt.add a b = (r, 0)) : Calls Try.prog 30 #[rv a, rv b] w fun e w' => e = .returned (pok (r, 0)) ∧ Below w.heap.size w w' := by
  have HE := Lib.hid E
  clear E
  go_enter Try.func30, Try.ntmps30
  go_wp2_with fail
  refine (h.add a b _ ha hb).mono ?_
  rintro e w1 ⟨rfl, b1⟩
  rw [HE.out]
  simp only [rok]
  have c1 := chain ((((Below.refl w.heap.size w).alloc (Nat.le_refl _) _).alloc (by simp) _).alloc (by simp; omega) _) b1
  have z := c1.size
  have Z1 : At w1 (w.heap.size + 1 + 1) ⟨0, 0⟩ := (At.new ((w.alloc _).alloc _) ⟨0, 0⟩ _ (w.heap.size + 1 + 1) (by simp)).below b1
  have hf : ∀ o, w1.frozen? ⟨w.heap.size + 1 + 1, o, none⟩ = false := fun o => (b1.frozen (p := ⟨w.heap.size + 1 + 1, o, none⟩) (by first | omega | (simp; done) | (simp; omega))).trans (frozen_new _ _ _ _ (by simp) o)
  obtain ⟨sz, pz, qz⟩ := id Z1
  clear b1
  go_wp2_with fail
  exact bodyPost_ret (v := .tuple #[.agg #[.int .i64 r.n, .int .i64 r.d], .bool true]) (by simp [results, Try.results30, go_sem, pz, qz, sz]) rfl ⟨rfl, by repeat (first | exact c1 | refine Below.alloc ?_ (by simp; omega) _ | refine Below.setCell ?_ (by simp; omega) _)⟩

set_option maxHeartbeats 1600000 in
theorem times_x (h : RatioOk) (a b r : Rt.R) (w : World) (ha : In a) (hb : In b) (E : Rt.mul a b = (r, 0)) : Calls Try.prog 31 #[rv a, rv b] w fun e w' => e = .returned (pok (r, 0)) ∧ Below w.heap.size w w' := by
  have HE := Lib.hid E
  clear E
  go_enter Try.func31, Try.ntmps31
  go_wp2_with fail
  refine (h.mul a b _ ha hb).mono ?_
  rintro e w1 ⟨rfl, b1⟩
  rw [HE.out]
  simp only [rok]
  have c1 := chain ((((Below.refl w.heap.size w).alloc (Nat.le_refl _) _).alloc (by simp) _).alloc (by simp; omega) _) b1
  have z := c1.size
  have Z1 : At w1 (w.heap.size + 1 + 1) ⟨0, 0⟩ := (At.new ((w.alloc _).alloc _) ⟨0, 0⟩ _ (w.heap.size + 1 + 1) (by simp)).below b1
  have hf : ∀ o, w1.frozen? ⟨w.heap.size + 1 + 1, o, none⟩ = false := fun o => (b1.frozen (p := ⟨w.heap.size + 1 + 1, o, none⟩) (by first | omega | (simp; done) | (simp; omega))).trans (frozen_new _ _ _ _ (by simp) o)
  obtain ⟨sz, pz, qz⟩ := id Z1
  clear b1
  go_wp2_with fail
  exact bodyPost_ret (v := .tuple #[.agg #[.int .i64 r.n, .int .i64 r.d], .bool true]) (by simp [results, Try.results31, go_sem, pz, qz, sz]) rfl ⟨rfl, by repeat (first | exact c1 | refine Below.alloc ?_ (by simp; omega) _ | refine Below.setCell ?_ (by simp; omega) _)⟩

set_option maxHeartbeats 12800000 in
set_option maxRecDepth 100000 in
theorem RatioField_x (h : RatioOk) (a b c : Rt.R) (w : World) (ha : In a) (hb : In b) (hc : In c) :
    Calls Try.prog 4 #[.agg #[.int .i64 a.n, .int .i64 a.d], .agg #[.int .i64 b.n, .int .i64 b.d], .agg #[.int .i64 c.n, .int .i64 c.d]] w fun e w' => e = .returned (.bool true) ∧ Below w.heap.size w w' := by
  cases Ra : Rt.right a with
  | false =>
    have HRa := Lib.hid Ra
    clear Ra
    go_enter Try.func4, Try.ntmps4
    go_wp2_with fail
    refine (sane_x h _).mono ?_
    rintro e w1 ⟨rfl, b1⟩
    have A1 : At w1 w.heap.size a := (((At.new w a _ w.heap.size rfl).alloc _).alloc _).below b1
    have B1 : At w1 (w.heap.size + 1) b := ((At.new (w.alloc _) b _ (w.heap.size + 1) (by simp)).alloc _).below b1
    have C1 : At w1 (w.heap.size + 2) c := (At.new ((w.alloc _).alloc _) c _ (w.heap.size + 2) (by simp)).below b1
    have c1 := chain ((((Below.refl w.heap.size w).alloc (Nat.le_refl _) _).alloc (by simp; try omega) _).alloc (by simp; try omega) _) b1
    clear b1
    obtain ⟨sa, pa, qa⟩ := id A1
    obtain ⟨sb, pb, qb⟩ := id B1
    obtain ⟨sc, pc, qc⟩ := id C1
    go_wp2_with fail
    refine (h.right a _ ha).mono ?_
    rintro e w2 ⟨rfl, b2⟩
    rw [HRa.out]
    have A2 : At w2 w.heap.size a := by first | exact A1.below b2 | exact (A1.alloc _).below b2 | exact ((A1.alloc _).alloc _).below b2
    have B2 : At w2 (w.heap.size + 1) b := by first | exact B1.below b2 | exact (B1.alloc _).below b2 | exact ((B1.alloc _).alloc _).below b2
    have C2 : At w2 (w.heap.size + 2) c := by first | exact C1.below b2 | exact (C1.alloc _).below b2 | exact ((C1.alloc _).alloc _).below b2
    have c2 : Below w.heap.size w w2 := by have z := c1.size; first | exact chain c1 b2 | exact chain (c1.alloc z _) b2 | exact chain ((c1.alloc z _).alloc (by simp; omega) _) b2
    clear b2 c1 A1 B1 C1
    clear sa pa qa sb pb qb sc pc qc
    obtain ⟨sa, pa, qa⟩ := id A2
    obtain ⟨sb, pb, qb⟩ := id B2
    obtain ⟨sc, pc, qc⟩ := id C2
    go_wp2_with fail
    go_ret
    have z := c2.size
    first | exact ⟨rfl, c2⟩ | exact ⟨rfl, c2.alloc z _⟩ | exact ⟨rfl, (c2.alloc z _).alloc (by simp; omega) _⟩
  | true =>
    cases Rb : Rt.right b with
    | false =>
      have HRa := Lib.hid Ra
      have HRb := Lib.hid Rb
      clear Ra Rb
      go_enter Try.func4, Try.ntmps4
      go_wp2_with fail
      refine (sane_x h _).mono ?_
      rintro e w1 ⟨rfl, b1⟩
      have A1 : At w1 w.heap.size a := (((At.new w a _ w.heap.size rfl).alloc _).alloc _).below b1
      have B1 : At w1 (w.heap.size + 1) b := ((At.new (w.alloc _) b _ (w.heap.size + 1) (by simp)).alloc _).below b1
      have C1 : At w1 (w.heap.size + 2) c := (At.new ((w.alloc _).alloc _) c _ (w.heap.size + 2) (by simp)).below b1
      have c1 := chain ((((Below.refl w.heap.size w).alloc (Nat.le_refl _) _).alloc (by simp; try omega) _).alloc (by simp; try omega) _) b1
      clear b1
      obtain ⟨sa, pa, qa⟩ := id A1
      obtain ⟨sb, pb, qb⟩ := id B1
      obtain ⟨sc, pc, qc⟩ := id C1
      go_wp2_with fail
      refine (h.right a _ ha).mono ?_
      rintro e w2 ⟨rfl, b2⟩
      rw [HRa.out]
      have A2 : At w2 w.heap.size a := by first | exact A1.below b2 | exact (A1.alloc _).below b2 | exact ((A1.alloc _).alloc _).below b2
      have B2 : At w2 (w.heap.size + 1) b := by first | exact B1.below b2 | exact (B1.alloc _).below b2 | exact ((B1.alloc _).alloc _).below b2
      have C2 : At w2 (w.heap.size + 2) c := by first | exact C1.below b2 | exact (C1.alloc _).below b2 | exact ((C1.alloc _).alloc _).below b2
      have c2 : Below w.heap.size w w2 := by have z := c1.size; first | exact chain c1 b2 | exact chain (c1.alloc z _) b2 | exact chain ((c1.alloc z _).alloc (by simp; omega) _) b2
      clear b2 c1 A1 B1 C1
      clear sa pa qa sb pb qb sc pc qc
      obtain ⟨sa, pa, qa⟩ := id A2
      obtain ⟨sb, pb, qb⟩ := id B2
      obtain ⟨sc, pc, qc⟩ := id C2
      go_wp2_with fail
      refine (h.right b _ hb).mono ?_
      rintro e w3 ⟨rfl, b3⟩
      rw [HRb.out]
      have A3 : At w3 w.heap.size a := by first | exact A2.below b3 | exact (A2.alloc _).below b3 | exact ((A2.alloc _).alloc _).below b3
      have B3 : At w3 (w.heap.size + 1) b := by first | exact B2.below b3 | exact (B2.alloc _).below b3 | exact ((B2.alloc _).alloc _).below b3
      have C3 : At w3 (w.heap.size + 2) c := by first | exact C2.below b3 | exact (C2.alloc _).below b3 | exact ((C2.alloc _).alloc _).below b3
      have c3 : Below w.heap.size w w3 := by have z := c2.size; first | exact chain c2 b3 | exact chain (c2.alloc z _) b3 | exact chain ((c2.alloc z _).alloc (by simp; omega) _) b3
      clear b3 c2 A2 B2 C2
      clear sa pa qa sb pb qb sc pc qc
      obtain ⟨sa, pa, qa⟩ := id A3
      obtain ⟨sb, pb, qb⟩ := id B3
      obtain ⟨sc, pc, qc⟩ := id C3
      go_wp2_with fail
      go_ret
      have z := c3.size
      first | exact ⟨rfl, c3⟩ | exact ⟨rfl, c3.alloc z _⟩ | exact ⟨rfl, (c3.alloc z _).alloc (by simp; omega) _⟩
    | true =>
      cases Rc : Rt.right c with
      | false =>
        have HRa := Lib.hid Ra
        have HRb := Lib.hid Rb
        have HRc := Lib.hid Rc
        clear Ra Rb Rc
        go_enter Try.func4, Try.ntmps4
        go_wp2_with fail
        refine (sane_x h _).mono ?_
        rintro e w1 ⟨rfl, b1⟩
        have A1 : At w1 w.heap.size a := (((At.new w a _ w.heap.size rfl).alloc _).alloc _).below b1
        have B1 : At w1 (w.heap.size + 1) b := ((At.new (w.alloc _) b _ (w.heap.size + 1) (by simp)).alloc _).below b1
        have C1 : At w1 (w.heap.size + 2) c := (At.new ((w.alloc _).alloc _) c _ (w.heap.size + 2) (by simp)).below b1
        have c1 := chain ((((Below.refl w.heap.size w).alloc (Nat.le_refl _) _).alloc (by simp; try omega) _).alloc (by simp; try omega) _) b1
        clear b1
        obtain ⟨sa, pa, qa⟩ := id A1
        obtain ⟨sb, pb, qb⟩ := id B1
        obtain ⟨sc, pc, qc⟩ := id C1
        go_wp2_with fail
        refine (h.right a _ ha).mono ?_
        rintro e w2 ⟨rfl, b2⟩
        rw [HRa.out]
        have A2 : At w2 w.heap.size a := by first | exact A1.below b2 | exact (A1.alloc _).below b2 | exact ((A1.alloc _).alloc _).below b2
        have B2 : At w2 (w.heap.size + 1) b := by first | exact B1.below b2 | exact (B1.alloc _).below b2 | exact ((B1.alloc _).alloc _).below b2
        have C2 : At w2 (w.heap.size + 2) c := by first | exact C1.below b2 | exact (C1.alloc _).below b2 | exact ((C1.alloc _).alloc _).below b2
        have c2 : Below w.heap.size w w2 := by have z := c1.size; first | exact chain c1 b2 | exact chain (c1.alloc z _) b2 | exact chain ((c1.alloc z _).alloc (by simp; omega) _) b2
        clear b2 c1 A1 B1 C1
        clear sa pa qa sb pb qb sc pc qc
        obtain ⟨sa, pa, qa⟩ := id A2
        obtain ⟨sb, pb, qb⟩ := id B2
        obtain ⟨sc, pc, qc⟩ := id C2
        go_wp2_with fail
        refine (h.right b _ hb).mono ?_
        rintro e w3 ⟨rfl, b3⟩
        rw [HRb.out]
        have A3 : At w3 w.heap.size a := by first | exact A2.below b3 | exact (A2.alloc _).below b3 | exact ((A2.alloc _).alloc _).below b3
        have B3 : At w3 (w.heap.size + 1) b := by first | exact B2.below b3 | exact (B2.alloc _).below b3 | exact ((B2.alloc _).alloc _).below b3
        have C3 : At w3 (w.heap.size + 2) c := by first | exact C2.below b3 | exact (C2.alloc _).below b3 | exact ((C2.alloc _).alloc _).below b3
        have c3 : Below w.heap.size w w3 := by have z := c2.size; first | exact chain c2 b3 | exact chain (c2.alloc z _) b3 | exact chain ((c2.alloc z _).alloc (by simp; omega) _) b3
        clear b3 c2 A2 B2 C2
        clear sa pa qa sb pb qb sc pc qc
        obtain ⟨sa, pa, qa⟩ := id A3
        obtain ⟨sb, pb, qb⟩ := id B3
        obtain ⟨sc, pc, qc⟩ := id C3
        go_wp2_with fail
        refine (h.right c _ hc).mono ?_
        rintro e w4 ⟨rfl, b4⟩
        rw [HRc.out]
        have A4 : At w4 w.heap.size a := by first | exact A3.below b4 | exact (A3.alloc _).below b4 | exact ((A3.alloc _).alloc _).below b4
        have B4 : At w4 (w.heap.size + 1) b := by first | exact B3.below b4 | exact (B3.alloc _).below b4 | exact ((B3.alloc _).alloc _).below b4
        have C4 : At w4 (w.heap.size + 2) c := by first | exact C3.below b4 | exact (C3.alloc _).below b4 | exact ((C3.alloc _).alloc _).below b4
        have c4 : Below w.heap.size w w4 := by have z := c3.size; first | exact chain c3 b4 | exact chain (c3.alloc z _) b4 | exact chain ((c3.alloc z _).alloc (by simp; omega) _) b4
        clear b4 c3 A3 B3 C3
        clear sa pa qa sb pb qb sc pc qc
        obtain ⟨sa, pa, qa⟩ := id A4
        obtain ⟨sb, pb, qb⟩ := id B4
        obtain ⟨sc, pc, qc⟩ := id C4
        go_wp2_with fail
        go_ret
        have z := c4.size
        first | exact ⟨rfl, c4⟩ | exact ⟨rfl, c4.alloc z _⟩ | exact ⟨rfl, (c4.alloc z _).alloc (by simp; omega) _⟩
      | true =>
        cases Fa : fitsB a 1000 with
        | false =>
          have HRa := Lib.hid Ra
          have HRb := Lib.hid Rb
          have HRc := Lib.hid Rc
          have HFa := Lib.hid Fa
          clear Ra Rb Rc Fa
          go_enter Try.func4, Try.ntmps4
          go_wp2_with fail
          refine (sane_x h _).mono ?_
          rintro e w1 ⟨rfl, b1⟩
          have A1 : At w1 w.heap.size a := (((At.new w a _ w.heap.size rfl).alloc _).alloc _).below b1
          have B1 : At w1 (w.heap.size + 1) b := ((At.new (w.alloc _) b _ (w.heap.size + 1) (by simp)).alloc _).below b1
          have C1 : At w1 (w.heap.size + 2) c := (At.new ((w.alloc _).alloc _) c _ (w.heap.size + 2) (by simp)).below b1
          have c1 := chain ((((Below.refl w.heap.size w).alloc (Nat.le_refl _) _).alloc (by simp; try omega) _).alloc (by simp; try omega) _) b1
          clear b1
          obtain ⟨sa, pa, qa⟩ := id A1
          obtain ⟨sb, pb, qb⟩ := id B1
          obtain ⟨sc, pc, qc⟩ := id C1
          go_wp2_with fail
          refine (h.right a _ ha).mono ?_
          rintro e w2 ⟨rfl, b2⟩
          rw [HRa.out]
          have A2 : At w2 w.heap.size a := by first | exact A1.below b2 | exact (A1.alloc _).below b2 | exact ((A1.alloc _).alloc _).below b2
          have B2 : At w2 (w.heap.size + 1) b := by first | exact B1.below b2 | exact (B1.alloc _).below b2 | exact ((B1.alloc _).alloc _).below b2
          have C2 : At w2 (w.heap.size + 2) c := by first | exact C1.below b2 | exact (C1.alloc _).below b2 | exact ((C1.alloc _).alloc _).below b2
          have c2 : Below w.heap.size w w2 := by have z := c1.size; first | exact chain c1 b2 | exact chain (c1.alloc z _) b2 | exact chain ((c1.alloc z _).alloc (by simp; omega) _) b2
          clear b2 c1 A1 B1 C1
          clear sa pa qa sb pb qb sc pc qc
          obtain ⟨sa, pa, qa⟩ := id A2
          obtain ⟨sb, pb, qb⟩ := id B2
          obtain ⟨sc, pc, qc⟩ := id C2
          go_wp2_with fail
          refine (h.right b _ hb).mono ?_
          rintro e w3 ⟨rfl, b3⟩
          rw [HRb.out]
          have A3 : At w3 w.heap.size a := by first | exact A2.below b3 | exact (A2.alloc _).below b3 | exact ((A2.alloc _).alloc _).below b3
          have B3 : At w3 (w.heap.size + 1) b := by first | exact B2.below b3 | exact (B2.alloc _).below b3 | exact ((B2.alloc _).alloc _).below b3
          have C3 : At w3 (w.heap.size + 2) c := by first | exact C2.below b3 | exact (C2.alloc _).below b3 | exact ((C2.alloc _).alloc _).below b3
          have c3 : Below w.heap.size w w3 := by have z := c2.size; first | exact chain c2 b3 | exact chain (c2.alloc z _) b3 | exact chain ((c2.alloc z _).alloc (by simp; omega) _) b3
          clear b3 c2 A2 B2 C2
          clear sa pa qa sb pb qb sc pc qc
          obtain ⟨sa, pa, qa⟩ := id A3
          obtain ⟨sb, pb, qb⟩ := id B3
          obtain ⟨sc, pc, qc⟩ := id C3
          go_wp2_with fail
          refine (h.right c _ hc).mono ?_
          rintro e w4 ⟨rfl, b4⟩
          rw [HRc.out]
          have A4 : At w4 w.heap.size a := by first | exact A3.below b4 | exact (A3.alloc _).below b4 | exact ((A3.alloc _).alloc _).below b4
          have B4 : At w4 (w.heap.size + 1) b := by first | exact B3.below b4 | exact (B3.alloc _).below b4 | exact ((B3.alloc _).alloc _).below b4
          have C4 : At w4 (w.heap.size + 2) c := by first | exact C3.below b4 | exact (C3.alloc _).below b4 | exact ((C3.alloc _).alloc _).below b4
          have c4 : Below w.heap.size w w4 := by have z := c3.size; first | exact chain c3 b4 | exact chain (c3.alloc z _) b4 | exact chain ((c3.alloc z _).alloc (by simp; omega) _) b4
          clear b4 c3 A3 B3 C3
          clear sa pa qa sb pb qb sc pc qc
          obtain ⟨sa, pa, qa⟩ := id A4
          obtain ⟨sb, pb, qb⟩ := id B4
          obtain ⟨sc, pc, qc⟩ := id C4
          go_wp2_with fail
          refine (Fits_x a _ ha).mono ?_
          rintro e w5 ⟨rfl, b5⟩
          rw [HFa.out]
          have A5 : At w5 w.heap.size a := by first | exact A4.below b5 | exact (A4.alloc _).below b5 | exact ((A4.alloc _).alloc _).below b5
          have B5 : At w5 (w.heap.size + 1) b := by first | exact B4.below b5 | exact (B4.alloc _).below b5 | exact ((B4.alloc _).alloc _).below b5
          have C5 : At w5 (w.heap.size + 2) c := by first | exact C4.below b5 | exact (C4.alloc _).below b5 | exact ((C4.alloc _).alloc _).below b5
          have c5 : Below w.heap.size w w5 := by have z := c4.size; first | exact chain c4 b5 | exact chain (c4.alloc z _) b5 | exact chain ((c4.alloc z _).alloc (by simp; omega) _) b5
          clear b5 c4 A4 B4 C4
          clear sa pa qa sb pb qb sc pc qc
          obtain ⟨sa, pa, qa⟩ := id A5
          obtain ⟨sb, pb, qb⟩ := id B5
          obtain ⟨sc, pc, qc⟩ := id C5
          go_wp2_with fail
          go_ret
          have z := c5.size
          first | exact ⟨rfl, c5⟩ | exact ⟨rfl, c5.alloc z _⟩ | exact ⟨rfl, (c5.alloc z _).alloc (by simp; omega) _⟩
        | true =>
          cases Fb : fitsB b 1000 with
          | false =>
            have HRa := Lib.hid Ra
            have HRb := Lib.hid Rb
            have HRc := Lib.hid Rc
            have HFa := Lib.hid Fa
            have HFb := Lib.hid Fb
            clear Ra Rb Rc Fa Fb
            go_enter Try.func4, Try.ntmps4
            go_wp2_with fail
            refine (sane_x h _).mono ?_
            rintro e w1 ⟨rfl, b1⟩
            have A1 : At w1 w.heap.size a := (((At.new w a _ w.heap.size rfl).alloc _).alloc _).below b1
            have B1 : At w1 (w.heap.size + 1) b := ((At.new (w.alloc _) b _ (w.heap.size + 1) (by simp)).alloc _).below b1
            have C1 : At w1 (w.heap.size + 2) c := (At.new ((w.alloc _).alloc _) c _ (w.heap.size + 2) (by simp)).below b1
            have c1 := chain ((((Below.refl w.heap.size w).alloc (Nat.le_refl _) _).alloc (by simp; try omega) _).alloc (by simp; try omega) _) b1
            clear b1
            obtain ⟨sa, pa, qa⟩ := id A1
            obtain ⟨sb, pb, qb⟩ := id B1
            obtain ⟨sc, pc, qc⟩ := id C1
            go_wp2_with fail
            refine (h.right a _ ha).mono ?_
            rintro e w2 ⟨rfl, b2⟩
            rw [HRa.out]
            have A2 : At w2 w.heap.size a := by first | exact A1.below b2 | exact (A1.alloc _).below b2 | exact ((A1.alloc _).alloc _).below b2
            have B2 : At w2 (w.heap.size + 1) b := by first | exact B1.below b2 | exact (B1.alloc _).below b2 | exact ((B1.alloc _).alloc _).below b2
            have C2 : At w2 (w.heap.size + 2) c := by first | exact C1.below b2 | exact (C1.alloc _).below b2 | exact ((C1.alloc _).alloc _).below b2
            have c2 : Below w.heap.size w w2 := by have z := c1.size; first | exact chain c1 b2 | exact chain (c1.alloc z _) b2 | exact chain ((c1.alloc z _).alloc (by simp; omega) _) b2
            clear b2 c1 A1 B1 C1
            clear sa pa qa sb pb qb sc pc qc
            obtain ⟨sa, pa, qa⟩ := id A2
            obtain ⟨sb, pb, qb⟩ := id B2
            obtain ⟨sc, pc, qc⟩ := id C2
            go_wp2_with fail
            refine (h.right b _ hb).mono ?_
            rintro e w3 ⟨rfl, b3⟩
            rw [HRb.out]
            have A3 : At w3 w.heap.size a := by first | exact A2.below b3 | exact (A2.alloc _).below b3 | exact ((A2.alloc _).alloc _).below b3
            have B3 : At w3 (w.heap.size + 1) b := by first | exact B2.below b3 | exact (B2.alloc _).below b3 | exact ((B2.alloc _).alloc _).below b3
            have C3 : At w3 (w.heap.size + 2) c := by first | exact C2.below b3 | exact (C2.alloc _).below b3 | exact ((C2.alloc _).alloc _).below b3
            have c3 : Below w.heap.size w w3 := by have z := c2.size; first | exact chain c2 b3 | exact chain (c2.alloc z _) b3 | exact chain ((c2.alloc z _).alloc (by simp; omega) _) b3
            clear b3 c2 A2 B2 C2
            clear sa pa qa sb pb qb sc pc qc
            obtain ⟨sa, pa, qa⟩ := id A3
            obtain ⟨sb, pb, qb⟩ := id B3
            obtain ⟨sc, pc, qc⟩ := id C3
            go_wp2_with fail
            refine (h.right c _ hc).mono ?_
            rintro e w4 ⟨rfl, b4⟩
            rw [HRc.out]
            have A4 : At w4 w.heap.size a := by first | exact A3.below b4 | exact (A3.alloc _).below b4 | exact ((A3.alloc _).alloc _).below b4
            have B4 : At w4 (w.heap.size + 1) b := by first | exact B3.below b4 | exact (B3.alloc _).below b4 | exact ((B3.alloc _).alloc _).below b4
            have C4 : At w4 (w.heap.size + 2) c := by first | exact C3.below b4 | exact (C3.alloc _).below b4 | exact ((C3.alloc _).alloc _).below b4
            have c4 : Below w.heap.size w w4 := by have z := c3.size; first | exact chain c3 b4 | exact chain (c3.alloc z _) b4 | exact chain ((c3.alloc z _).alloc (by simp; omega) _) b4
            clear b4 c3 A3 B3 C3
            clear sa pa qa sb pb qb sc pc qc
            obtain ⟨sa, pa, qa⟩ := id A4
            obtain ⟨sb, pb, qb⟩ := id B4
            obtain ⟨sc, pc, qc⟩ := id C4
            go_wp2_with fail
            refine (Fits_x a _ ha).mono ?_
            rintro e w5 ⟨rfl, b5⟩
            rw [HFa.out]
            have A5 : At w5 w.heap.size a := by first | exact A4.below b5 | exact (A4.alloc _).below b5 | exact ((A4.alloc _).alloc _).below b5
            have B5 : At w5 (w.heap.size + 1) b := by first | exact B4.below b5 | exact (B4.alloc _).below b5 | exact ((B4.alloc _).alloc _).below b5
            have C5 : At w5 (w.heap.size + 2) c := by first | exact C4.below b5 | exact (C4.alloc _).below b5 | exact ((C4.alloc _).alloc _).below b5
            have c5 : Below w.heap.size w w5 := by have z := c4.size; first | exact chain c4 b5 | exact chain (c4.alloc z _) b5 | exact chain ((c4.alloc z _).alloc (by simp; omega) _) b5
            clear b5 c4 A4 B4 C4
            clear sa pa qa sb pb qb sc pc qc
            obtain ⟨sa, pa, qa⟩ := id A5
            obtain ⟨sb, pb, qb⟩ := id B5
            obtain ⟨sc, pc, qc⟩ := id C5
            go_wp2_with fail
            refine (Fits_x b _ hb).mono ?_
            rintro e w6 ⟨rfl, b6⟩
            rw [HFb.out]
            have A6 : At w6 w.heap.size a := by first | exact A5.below b6 | exact (A5.alloc _).below b6 | exact ((A5.alloc _).alloc _).below b6
            have B6 : At w6 (w.heap.size + 1) b := by first | exact B5.below b6 | exact (B5.alloc _).below b6 | exact ((B5.alloc _).alloc _).below b6
            have C6 : At w6 (w.heap.size + 2) c := by first | exact C5.below b6 | exact (C5.alloc _).below b6 | exact ((C5.alloc _).alloc _).below b6
            have c6 : Below w.heap.size w w6 := by have z := c5.size; first | exact chain c5 b6 | exact chain (c5.alloc z _) b6 | exact chain ((c5.alloc z _).alloc (by simp; omega) _) b6
            clear b6 c5 A5 B5 C5
            clear sa pa qa sb pb qb sc pc qc
            obtain ⟨sa, pa, qa⟩ := id A6
            obtain ⟨sb, pb, qb⟩ := id B6
            obtain ⟨sc, pc, qc⟩ := id C6
            go_wp2_with fail
            go_ret
            have z := c6.size
            first | exact ⟨rfl, c6⟩ | exact ⟨rfl, c6.alloc z _⟩ | exact ⟨rfl, (c6.alloc z _).alloc (by simp; omega) _⟩
          | true =>
            cases Fc : fitsB c 1000 with
            | false =>
              have HRa := Lib.hid Ra
              have HRb := Lib.hid Rb
              have HRc := Lib.hid Rc
              have HFa := Lib.hid Fa
              have HFb := Lib.hid Fb
              have HFc := Lib.hid Fc
              clear Ra Rb Rc Fa Fb Fc
              go_enter Try.func4, Try.ntmps4
              go_wp2_with fail
              refine (sane_x h _).mono ?_
              rintro e w1 ⟨rfl, b1⟩
              have A1 : At w1 w.heap.size a := (((At.new w a _ w.heap.size rfl).alloc _).alloc _).below b1
              have B1 : At w1 (w.heap.size + 1) b := ((At.new (w.alloc _) b _ (w.heap.size + 1) (by simp)).alloc _).below b1
              have C1 : At w1 (w.heap.size + 2) c := (At.new ((w.alloc _).alloc _) c _ (w.heap.size + 2) (by simp)).below b1
              have c1 := chain ((((Below.refl w.heap.size w).alloc (Nat.le_refl _) _).alloc (by simp; try omega) _).alloc (by simp; try omega) _) b1
              clear b1
              obtain ⟨sa, pa, qa⟩ := id A1
              obtain ⟨sb, pb, qb⟩ := id B1
              obtain ⟨sc, pc, qc⟩ := id C1
              go_wp2_with fail
              refine (h.right a _ ha).mono ?_
              rintro e w2 ⟨rfl, b2⟩
              rw [HRa.out]
              have A2 : At w2 w.heap.size a := by first | exact A1.below b2 | exact (A1.alloc _).below b2 | exact ((A1.alloc _).alloc _).below b2
              have B2 : At w2 (w.heap.size + 1) b := by first | exact B1.below b2 | exact (B1.alloc _).below b2 | exact ((B1.alloc _).alloc _).below b2
              have C2 : At w2 (w.heap.size + 2) c := by first | exact C1.below b2 | exact (C1.alloc _).below b2 | exact ((C1.alloc _).alloc _).below b2
              have c2 : Below w.heap.size w w2 := by have z := c1.size; first | exact chain c1 b2 | exact chain (c1.alloc z _) b2 | exact chain ((c1.alloc z _).alloc (by simp; omega) _) b2
              clear b2 c1 A1 B1 C1
              clear sa pa qa sb pb qb sc pc qc
              obtain ⟨sa, pa, qa⟩ := id A2
              obtain ⟨sb, pb, qb⟩ := id B2
              obtain ⟨sc, pc, qc⟩ := id C2
              go_wp2_with fail
              refine (h.right b _ hb).mono ?_
              rintro e w3 ⟨rfl, b3⟩
              rw [HRb.out]
              have A3 : At w3 w.heap.size a := by first | exact A2.below b3 | exact (A2.alloc _).below b3 | exact ((A2.alloc _).alloc _).below b3
              have B3 : At w3 (w.heap.size + 1) b := by first | exact B2.below b3 | exact (B2.alloc _).below b3 | exact ((B2.alloc _).alloc _).below b3
              have C3 : At w3 (w.heap.size + 2) c := by first | exact C2.below b3 | exact (C2.alloc _).below b3 | exact ((C2.alloc _).alloc _).below b3
              have c3 : Below w.heap.size w w3 := by have z := c2.size; first | exact chain c2 b3 | exact chain (c2.alloc z _) b3 | exact chain ((c2.alloc z _).alloc (by simp; omega) _) b3
              clear b3 c2 A2 B2 C2
              clear sa pa qa sb pb qb sc pc qc
              obtain ⟨sa, pa, qa⟩ := id A3
              obtain ⟨sb, pb, qb⟩ := id B3
              obtain ⟨sc, pc, qc⟩ := id C3
              go_wp2_with fail
              refine (h.right c _ hc).mono ?_
              rintro e w4 ⟨rfl, b4⟩
              rw [HRc.out]
              have A4 : At w4 w.heap.size a := by first | exact A3.below b4 | exact (A3.alloc _).below b4 | exact ((A3.alloc _).alloc _).below b4
              have B4 : At w4 (w.heap.size + 1) b := by first | exact B3.below b4 | exact (B3.alloc _).below b4 | exact ((B3.alloc _).alloc _).below b4
              have C4 : At w4 (w.heap.size + 2) c := by first | exact C3.below b4 | exact (C3.alloc _).below b4 | exact ((C3.alloc _).alloc _).below b4
              have c4 : Below w.heap.size w w4 := by have z := c3.size; first | exact chain c3 b4 | exact chain (c3.alloc z _) b4 | exact chain ((c3.alloc z _).alloc (by simp; omega) _) b4
              clear b4 c3 A3 B3 C3
              clear sa pa qa sb pb qb sc pc qc
              obtain ⟨sa, pa, qa⟩ := id A4
              obtain ⟨sb, pb, qb⟩ := id B4
              obtain ⟨sc, pc, qc⟩ := id C4
              go_wp2_with fail
              refine (Fits_x a _ ha).mono ?_
              rintro e w5 ⟨rfl, b5⟩
              rw [HFa.out]
              have A5 : At w5 w.heap.size a := by first | exact A4.below b5 | exact (A4.alloc _).below b5 | exact ((A4.alloc _).alloc _).below b5
              have B5 : At w5 (w.heap.size + 1) b := by first | exact B4.below b5 | exact (B4.alloc _).below b5 | exact ((B4.alloc _).alloc _).below b5
              have C5 : At w5 (w.heap.size + 2) c := by first | exact C4.below b5 | exact (C4.alloc _).below b5 | exact ((C4.alloc _).alloc _).below b5
              have c5 : Below w.heap.size w w5 := by have z := c4.size; first | exact chain c4 b5 | exact chain (c4.alloc z _) b5 | exact chain ((c4.alloc z _).alloc (by simp; omega) _) b5
              clear b5 c4 A4 B4 C4
              clear sa pa qa sb pb qb sc pc qc
              obtain ⟨sa, pa, qa⟩ := id A5
              obtain ⟨sb, pb, qb⟩ := id B5
              obtain ⟨sc, pc, qc⟩ := id C5
              go_wp2_with fail
              refine (Fits_x b _ hb).mono ?_
              rintro e w6 ⟨rfl, b6⟩
              rw [HFb.out]
              have A6 : At w6 w.heap.size a := by first | exact A5.below b6 | exact (A5.alloc _).below b6 | exact ((A5.alloc _).alloc _).below b6
              have B6 : At w6 (w.heap.size + 1) b := by first | exact B5.below b6 | exact (B5.alloc _).below b6 | exact ((B5.alloc _).alloc _).below b6
              have C6 : At w6 (w.heap.size + 2) c := by first | exact C5.below b6 | exact (C5.alloc _).below b6 | exact ((C5.alloc _).alloc _).below b6
              have c6 : Below w.heap.size w w6 := by have z := c5.size; first | exact chain c5 b6 | exact chain (c5.alloc z _) b6 | exact chain ((c5.alloc z _).alloc (by simp; omega) _) b6
              clear b6 c5 A5 B5 C5
              clear sa pa qa sb pb qb sc pc qc
              obtain ⟨sa, pa, qa⟩ := id A6
              obtain ⟨sb, pb, qb⟩ := id B6
              obtain ⟨sc, pc, qc⟩ := id C6
              go_wp2_with fail
              refine (Fits_x c _ hc).mono ?_
              rintro e w7 ⟨rfl, b7⟩
              rw [HFc.out]
              have A7 : At w7 w.heap.size a := by first | exact A6.below b7 | exact (A6.alloc _).below b7 | exact ((A6.alloc _).alloc _).below b7
              have B7 : At w7 (w.heap.size + 1) b := by first | exact B6.below b7 | exact (B6.alloc _).below b7 | exact ((B6.alloc _).alloc _).below b7
              have C7 : At w7 (w.heap.size + 2) c := by first | exact C6.below b7 | exact (C6.alloc _).below b7 | exact ((C6.alloc _).alloc _).below b7
              have c7 : Below w.heap.size w w7 := by have z := c6.size; first | exact chain c6 b7 | exact chain (c6.alloc z _) b7 | exact chain ((c6.alloc z _).alloc (by simp; omega) _) b7
              clear b7 c6 A6 B6 C6
              clear sa pa qa sb pb qb sc pc qc
              obtain ⟨sa, pa, qa⟩ := id A7
              obtain ⟨sb, pb, qb⟩ := id B7
              obtain ⟨sc, pc, qc⟩ := id C7
              go_wp2_with fail
              go_ret
              have z := c7.size
              first | exact ⟨rfl, c7⟩ | exact ⟨rfl, c7.alloc z _⟩ | exact ⟨rfl, (c7.alloc z _).alloc (by simp; omega) _⟩
            | true =>
              obtain ⟨fa1, fa2, fa3, fa4⟩ := fits_iff.1 Fa
              obtain ⟨fb1, fb2, fb3, fb4⟩ := fits_iff.1 Fb
              obtain ⟨fc1, fc2, fc3, fc4⟩ := fits_iff.1 Fc
              obtain ⟨m, o, l, p, q, s, u, E1, E2, E3, E4, E5, E6, E7, E8, E9, E10, E11⟩ := Rt.field Ra Rb Rc (by omega) (by omega) (by omega) (by omega) (by omega) (by omega)
              clear fa1 fa2 fa3 fa4 fb1 fb2 fb3 fb4 fc1 fc2 fc3 fc4
              have im := Lib.hid (add_In E1)
              have io := Lib.hid (add_In E3)
              have ip := Lib.hid (mul_In E6)
              have iq := Lib.hid (mul_In E7)
              have HRa := Lib.hid Ra
              have HRb := Lib.hid Rb
              have HRc := Lib.hid Rc
              have HFa := Lib.hid Fa
              have HFb := Lib.hid Fb
              have HFc := Lib.hid Fc
              clear Ra Rb Rc Fa Fb Fc
              have HE1 := Lib.hid E1
              have HE2 := Lib.hid E2
              have HE3 := Lib.hid E3
              have HE4 := Lib.hid E4
              have HE5 := Lib.hid E5
              have HE6 := Lib.hid E6
              have HE7 := Lib.hid E7
              have HE8 := Lib.hid E8
              have HE9 := Lib.hid E9
              have HE10 := Lib.hid E10
              have HE11 := Lib.hid E11
              clear E1 E2 E3 E4 E5 E6 E7 E8 E9 E10 E11
              go_enter Try.func4, Try.ntmps4
              go_wp2_with fail
              refine (sane_x h _).mono ?_
              rintro e w1 ⟨rfl, b1⟩
              have A1 : At w1 w.heap.size a := (((At.new w a _ w.heap.size rfl).alloc _).alloc _).below b1
              have B1 : At w1 (w.heap.size + 1) b := ((At.new (w.alloc _) b _ (w.heap.size + 1) (by simp)).alloc _).below b1
              have C1 : At w1 (w.heap.size + 2) c := (At.new ((w.alloc _).alloc _) c _ (w.heap.size + 2) (by simp)).below b1
              have c1 := chain ((((Below.refl w.heap.size w).alloc (Nat.le_refl _) _).alloc (by simp; try omega) _).alloc (by simp; try omega) _) b1
              clear b1
              obtain ⟨sa, pa, qa⟩ := id A1
              obtain ⟨sb, pb, qb⟩ := id B1
              obtain ⟨sc, pc, qc⟩ := id C1
              go_wp2_with fail
              refine (h.right a _ ha).mono ?_
              rintro e w2 ⟨rfl, b2⟩
              rw [HRa.out]
              have A2 : At w2 w.heap.size a := by first | exact A1.below b2 | exact (A1.alloc _).below b2 | exact ((A1.alloc _).alloc _).below b2
              have B2 : At w2 (w.heap.size + 1) b := by first | exact B1.below b2 | exact (B1.alloc _).below b2 | exact ((B1.alloc _).alloc _).below b2
              have C2 : At w2 (w.heap.size + 2) c := by first | exact C1.below b2 | exact (C1.alloc _).below b2 | exact ((C1.alloc _).alloc _).below b2
              have c2 : Below w.heap.size w w2 := by have z := c1.size; first | exact chain c1 b2 | exact chain (c1.alloc z _) b2 | exact chain ((c1.alloc z _).alloc (by simp; omega) _) b2
              clear b2 c1 A1 B1 C1
              clear sa pa qa sb pb qb sc pc qc
              obtain ⟨sa, pa, qa⟩ := id A2
              obtain ⟨sb, pb, qb⟩ := id B2
              obtain ⟨sc, pc, qc⟩ := id C2
              go_wp2_with fail
              refine (h.right b _ hb).mono ?_
              rintro e w3 ⟨rfl, b3⟩
              rw [HRb.out]
              have A3 : At w3 w.heap.size a := by first | exact A2.below b3 | exact (A2.alloc _).below b3 | exact ((A2.alloc _).alloc _).below b3
              have B3 : At w3 (w.heap.size + 1) b := by first | exact B2.below b3 | exact (B2.alloc _).below b3 | exact ((B2.alloc _).alloc _).below b3
              have C3 : At w3 (w.heap.size + 2) c := by first | exact C2.below b3 | exact (C2.alloc _).below b3 | exact ((C2.alloc _).alloc _).below b3
              have c3 : Below w.heap.size w w3 := by have z := c2.size; first | exact chain c2 b3 | exact chain (c2.alloc z _) b3 | exact chain ((c2.alloc z _).alloc (by simp; omega) _) b3
              clear b3 c2 A2 B2 C2
              clear sa pa qa sb pb qb sc pc qc
              obtain ⟨sa, pa, qa⟩ := id A3
              obtain ⟨sb, pb, qb⟩ := id B3
              obtain ⟨sc, pc, qc⟩ := id C3
              go_wp2_with fail
              refine (h.right c _ hc).mono ?_
              rintro e w4 ⟨rfl, b4⟩
              rw [HRc.out]
              have A4 : At w4 w.heap.size a := by first | exact A3.below b4 | exact (A3.alloc _).below b4 | exact ((A3.alloc _).alloc _).below b4
              have B4 : At w4 (w.heap.size + 1) b := by first | exact B3.below b4 | exact (B3.alloc _).below b4 | exact ((B3.alloc _).alloc _).below b4
              have C4 : At w4 (w.heap.size + 2) c := by first | exact C3.below b4 | exact (C3.alloc _).below b4 | exact ((C3.alloc _).alloc _).below b4
              have c4 : Below w.heap.size w w4 := by have z := c3.size; first | exact chain c3 b4 | exact chain (c3.alloc z _) b4 | exact chain ((c3.alloc z _).alloc (by simp; omega) _) b4
              clear b4 c3 A3 B3 C3
              clear sa pa qa sb pb qb sc pc qc
              obtain ⟨sa, pa, qa⟩ := id A4
              obtain ⟨sb, pb, qb⟩ := id B4
              obtain ⟨sc, pc, qc⟩ := id C4
              go_wp2_with fail
              refine (Fits_x a _ ha).mono ?_
              rintro e w5 ⟨rfl, b5⟩
              rw [HFa.out]
              have A5 : At w5 w.heap.size a := by first | exact A4.below b5 | exact (A4.alloc _).below b5 | exact ((A4.alloc _).alloc _).below b5
              have B5 : At w5 (w.heap.size + 1) b := by first | exact B4.below b5 | exact (B4.alloc _).below b5 | exact ((B4.alloc _).alloc _).below b5
              have C5 : At w5 (w.heap.size + 2) c := by first | exact C4.below b5 | exact (C4.alloc _).below b5 | exact ((C4.alloc _).alloc _).below b5
              have c5 : Below w.heap.size w w5 := by have z := c4.size; first | exact chain c4 b5 | exact chain (c4.alloc z _) b5 | exact chain ((c4.alloc z _).alloc (by simp; omega) _) b5
              clear b5 c4 A4 B4 C4
              clear sa pa qa sb pb qb sc pc qc
              obtain ⟨sa, pa, qa⟩ := id A5
              obtain ⟨sb, pb, qb⟩ := id B5
              obtain ⟨sc, pc, qc⟩ := id C5
              go_wp2_with fail
              refine (Fits_x b _ hb).mono ?_
              rintro e w6 ⟨rfl, b6⟩
              rw [HFb.out]
              have A6 : At w6 w.heap.size a := by first | exact A5.below b6 | exact (A5.alloc _).below b6 | exact ((A5.alloc _).alloc _).below b6
              have B6 : At w6 (w.heap.size + 1) b := by first | exact B5.below b6 | exact (B5.alloc _).below b6 | exact ((B5.alloc _).alloc _).below b6
              have C6 : At w6 (w.heap.size + 2) c := by first | exact C5.below b6 | exact (C5.alloc _).below b6 | exact ((C5.alloc _).alloc _).below b6
              have c6 : Below w.heap.size w w6 := by have z := c5.size; first | exact chain c5 b6 | exact chain (c5.alloc z _) b6 | exact chain ((c5.alloc z _).alloc (by simp; omega) _) b6
              clear b6 c5 A5 B5 C5
              clear sa pa qa sb pb qb sc pc qc
              obtain ⟨sa, pa, qa⟩ := id A6
              obtain ⟨sb, pb, qb⟩ := id B6
              obtain ⟨sc, pc, qc⟩ := id C6
              go_wp2_with fail
              refine (Fits_x c _ hc).mono ?_
              rintro e w7 ⟨rfl, b7⟩
              rw [HFc.out]
              have A7 : At w7 w.heap.size a := by first | exact A6.below b7 | exact (A6.alloc _).below b7 | exact ((A6.alloc _).alloc _).below b7
              have B7 : At w7 (w.heap.size + 1) b := by first | exact B6.below b7 | exact (B6.alloc _).below b7 | exact ((B6.alloc _).alloc _).below b7
              have C7 : At w7 (w.heap.size + 2) c := by first | exact C6.below b7 | exact (C6.alloc _).below b7 | exact ((C6.alloc _).alloc _).below b7
              have c7 : Below w.heap.size w w7 := by have z := c6.size; first | exact chain c6 b7 | exact chain (c6.alloc z _) b7 | exact chain ((c6.alloc z _).alloc (by simp; omega) _) b7
              clear b7 c6 A6 B6 C6
              clear sa pa qa sb pb qb sc pc qc
              obtain ⟨sa, pa, qa⟩ := id A7
              obtain ⟨sb, pb, qb⟩ := id B7
              obtain ⟨sc, pc, qc⟩ := id C7
              go_wp2_with fail
              refine (plus_x h a b m _ ha hb HE1.out).mono ?_
              rintro e w8 ⟨rfl, b8⟩
              rw [pok_ok]
              have A8 : At w8 w.heap.size a := by first | exact A7.below b8 | exact (A7.alloc _).below b8 | exact ((A7.alloc _).alloc _).below b8
              have B8 : At w8 (w.heap.size + 1) b := by first | exact B7.below b8 | exact (B7.alloc _).below b8 | exact ((B7.alloc _).alloc _).below b8
              have C8 : At w8 (w.heap.size + 2) c := by first | exact C7.below b8 | exact (C7.alloc _).below b8 | exact ((C7.alloc _).alloc _).below b8
              have c8 : Below w.heap.size w w8 := by have z := c7.size; first | exact chain c7 b8 | exact chain (c7.alloc z _) b8 | exact chain ((c7.alloc z _).alloc (by simp; omega) _) b8
              clear b8 c7 A7 B7 C7
              clear sa pa qa sb pb qb sc pc qc
              obtain ⟨sa, pa, qa⟩ := id A8
              obtain ⟨sb, pb, qb⟩ := id B8
              obtain ⟨sc, pc, qc⟩ := id C8
              go_wp2_with fail
              refine (plus_x h b a m _ hb ha HE2.out).mono ?_
              rintro e w9 ⟨rfl, b9⟩
              rw [pok_ok]
              have A9 : At w9 w.heap.size a := by first | exact A8.below b9 | exact (A8.alloc _).below b9 | exact ((A8.alloc _).alloc _).below b9
              have B9 : At w9 (w.heap.size + 1) b := by first | exact B8.below b9 | exact (B8.alloc _).below b9 | exact ((B8.alloc _).alloc _).below b9
              have C9 : At w9 (w.heap.size + 2) c := by first | exact C8.below b9 | exact (C8.alloc _).below b9 | exact ((C8.alloc _).alloc _).below b9
              have M9 : At w9 w8.heap.size m := by first | exact (At.new w8 m _ _ rfl).below b9 | exact ((At.new w8 m _ _ rfl).alloc _).below b9
              have c9 : Below w.heap.size w w9 := by have z := c8.size; first | exact chain c8 b9 | exact chain (c8.alloc z _) b9 | exact chain ((c8.alloc z _).alloc (by simp; omega) _) b9
              clear b9 c8 A8 B8 C8
              clear sa pa qa sb pb qb sc pc qc
              obtain ⟨sa, pa, qa⟩ := id A9
              obtain ⟨sb, pb, qb⟩ := id B9
              obtain ⟨sc, pc, qc⟩ := id C9
              obtain ⟨sm, pm, qm⟩ := id M9
              go_wp2_with fail
              refine (plus_x h b c o _ hb hc HE3.out).mono ?_
              rintro e w10 ⟨rfl, b10⟩
              rw [pok_ok]
              have A10 : At w10 w.heap.size a := by first | exact A9.below b10 | exact (A9.alloc _).below b10 | exact ((A9.alloc _).alloc _).below b10
              have B10 : At w10 (w.heap.size + 1) b := by first | exact B9.below b10 | exact (B9.alloc _).below b10 | exact ((B9.alloc _).alloc _).below b10
              have C10 : At w10 (w.heap.size + 2) c := by first | exact C9.below b10 | exact (C9.alloc _).below b10 | exact ((C9.alloc _).alloc _).below b10
              have M10 : At w10 w8.heap.size m := by first | exact M9.below b10 | exact (M9.alloc _).below b10 | exact ((M9.alloc _).alloc _).below b10
              have N10 : At w10 w9.heap.size m := by first | exact (At.new w9 m _ _ rfl).below b10 | exact ((At.new w9 m _ _ rfl).alloc _).below b10
              have c10 : Below w.heap.size w w10 := by have z := c9.size; first | exact chain c9 b10 | exact chain (c9.alloc z _) b10 | exact chain ((c9.alloc z _).alloc (by simp; omega) _) b10
              clear b10 c9 A9 B9 C9 M9
              clear sa pa qa sb pb qb sc pc qc sm pm qm
              obtain ⟨sa, pa, qa⟩ := id A10
              obtain ⟨sb, pb, qb⟩ := id B10
              obtain ⟨sc, pc, qc⟩ := id C10
              obtain ⟨sm, pm, qm⟩ := id M10
              obtain ⟨sn, pn, qn⟩ := id N10
              go_wp2_with fail
              refine (plus_x h m c l _ im.out hc HE4.out).mono ?_
              rintro e w11 ⟨rfl, b11⟩
              rw [pok_ok]
              have A11 : At w11 w.heap.size a := by first | exact A10.below b11 | exact (A10.alloc _).below b11 | exact ((A10.alloc _).alloc _).below b11
              have B11 : At w11 (w.heap.size + 1) b := by first | exact B10.below b11 | exact (B10.alloc _).below b11 | exact ((B10.alloc _).alloc _).below b11
              have C11 : At w11 (w.heap.size + 2) c := by first | exact C10.below b11 | exact (C10.alloc _).below b11 | exact ((C10.alloc _).alloc _).below b11
              have M11 : At w11 w8.heap.size m := by first | exact M10.below b11 | exact (M10.alloc _).below b11 | exact ((M10.alloc _).alloc _).below b11
              have N11 : At w11 w9.heap.size m := by first | exact N10.below b11 | exact (N10.alloc _).below b11 | exact ((N10.alloc _).alloc _).below b11
              have O11 : At w11 w10.heap.size o := by first | exact (At.new w10 o _ _ rfl).below b11 | exact ((At.new w10 o _ _ rfl).alloc _).below b11
              have c11 : Below w.heap.size w w11 := by have z := c10.size; first | exact chain c10 b11 | exact chain (c10.alloc z _) b11 | exact chain ((c10.alloc z _).alloc (by simp; omega) _) b11
              clear b11 c10 A10 B10 C10 M10 N10
              clear sa pa qa sb pb qb sc pc qc sm pm qm sn pn qn
              obtain ⟨sa, pa, qa⟩ := id A11
              obtain ⟨sb, pb, qb⟩ := id B11
              obtain ⟨sc, pc, qc⟩ := id C11
              obtain ⟨sm, pm, qm⟩ := id M11
              obtain ⟨sn, pn, qn⟩ := id N11
              obtain ⟨so, po, qo⟩ := id O11
              go_wp2_with fail
              refine (plus_x h a o l _ ha io.out HE5.out).mono ?_
              rintro e w12 ⟨rfl, b12⟩
              rw [pok_ok]
              have A12 : At w12 w.heap.size a := by first | exact A11.below b12 | exact (A11.alloc _).below b12 | exact ((A11.alloc _).alloc _).below b12
              have B12 : At w12 (w.heap.size + 1) b := by first | exact B11.below b12 | exact (B11.alloc _).below b12 | exact ((B11.alloc _).alloc _).below b12
              have C12 : At w12 (w.heap.size + 2) c := by first | exact C11.below b12 | exact (C11.alloc _).below b12 | exact ((C11.alloc _).alloc _).below b12
              have M12 : At w12 w8.heap.size m := by first | exact M11.below b12 | exact (M11.alloc _).below b12 | exact ((M11.alloc _).alloc _).below b12
              have N12 : At w12 w9.heap.size m := by first | exact N11.below b12 | exact (N11.alloc _).below b12 | exact ((N11.alloc _).alloc _).below b12
              have O12 : At w12 w10.heap.size o := by first | exact O11.below b12 | exact (O11.alloc _).below b12 | exact ((O11.alloc _).alloc _).below b12
              have L12 : At w12 w11.heap.size l := by first | exact (At.new w11 l _ _ rfl).below b12 | exact ((At.new w11 l _ _ rfl).alloc _).below b12
              have c12 : Below w.heap.size w w12 := by have z := c11.size; first | exact chain c11 b12 | exact chain (c11.alloc z _) b12 | exact chain ((c11.alloc z _).alloc (by simp; omega) _) b12
              clear b12 c11 A11 B11 C11 M11 N11 O11
              clear sa pa qa sb pb qb sc pc qc sm pm qm sn pn qn so po qo
              obtain ⟨sa, pa, qa⟩ := id A12
              obtain ⟨sb, pb, qb⟩ := id B12
              obtain ⟨sc, pc, qc⟩ := id C12
              obtain ⟨sm, pm, qm⟩ := id M12
              obtain ⟨sn, pn, qn⟩ := id N12
              obtain ⟨so, po, qo⟩ := id O12
              obtain ⟨sl, pl, ql⟩ := id L12
              go_wp2_with fail
              refine (times_x h a b p _ ha hb HE6.out).mono ?_
              rintro e w13 ⟨rfl, b13⟩
              rw [pok_ok]
              have A13 : At w13 w.heap.size a := by first | exact A12.below b13 | exact (A12.alloc _).below b13 | exact ((A12.alloc _).alloc _).below b13
              have B13 : At w13 (w.heap.size + 1) b := by first | exact B12.below b13 | exact (B12.alloc _).below b13 | exact ((B12.alloc _).alloc _).below b13
              have C13 : At w13 (w.heap.size + 2) c := by first | exact C12.below b13 | exact (C12.alloc _).below b13 | exact ((C12.alloc _).alloc _).below b13
              have M13 : At w13 w8.heap.size m := by first | exact M12.below b13 | exact (M12.alloc _).below b13 | exact ((M12.alloc _).alloc _).below b13
              have N13 : At w13 w9.heap.size m := by first | exact N12.below b13 | exact (N12.alloc _).below b13 | exact ((N12.alloc _).alloc _).below b13
              have O13 : At w13 w10.heap.size o := by first | exact O12.below b13 | exact (O12.alloc _).below b13 | exact ((O12.alloc _).alloc _).below b13
              have L13 : At w13 w11.heap.size l := by first | exact L12.below b13 | exact (L12.alloc _).below b13 | exact ((L12.alloc _).alloc _).below b13
              have R13 : At w13 w12.heap.size l := by first | exact (At.new w12 l _ _ rfl).below b13 | exact ((At.new w12 l _ _ rfl).alloc _).below b13
              have c13 : Below w.heap.size w w13 := by have z := c12.size; first | exact chain c12 b13 | exact chain (c12.alloc z _) b13 | exact chain ((c12.alloc z _).alloc (by simp; omega) _) b13
              clear b13 c12 A12 B12 C12 M12 N12 O12 L12
              clear sa pa qa sb pb qb sc pc qc sm pm qm sn pn qn so po qo sl pl ql
              obtain ⟨sa, pa, qa⟩ := id A13
              obtain ⟨sb, pb, qb⟩ := id B13
              obtain ⟨sc, pc, qc⟩ := id C13
              obtain ⟨sm, pm, qm⟩ := id M13
              obtain ⟨sn, pn, qn⟩ := id N13
              obtain ⟨so, po, qo⟩ := id O13
              obtain ⟨sl, pl, ql⟩ := id L13
              obtain ⟨sr, pr, qr⟩ := id R13
              go_wp2_with fail
              refine (times_x h a c q _ ha hc HE7.out).mono ?_
              rintro e w14 ⟨rfl, b14⟩
              rw [pok_ok]
              have A14 : At w14 w.heap.size a := by first | exact A13.below b14 | exact (A13.alloc _).below b14 | exact ((A13.alloc _).alloc _).below b14
              have B14 : At w14 (w.heap.size + 1) b := by first | exact B13.below b14 | exact (B13.alloc _).below b14 | exact ((B13.alloc _).alloc _).below b14
              have C14 : At w14 (w.heap.size + 2) c := by first | exact C13.below b14 | exact (C13.alloc _).below b14 | exact ((C13.alloc _).alloc _).below b14
              have M14 : At w14 w8.heap.size m := by first | exact M13.below b14 | exact (M13.alloc _).below b14 | exact ((M13.alloc _).alloc _).below b14
              have N14 : At w14 w9.heap.size m := by first | exact N13.below b14 | exact (N13.alloc _).below b14 | exact ((N13.alloc _).alloc _).below b14
              have O14 : At w14 w10.heap.size o := by first | exact O13.below b14 | exact (O13.alloc _).below b14 | exact ((O13.alloc _).alloc _).below b14
              have L14 : At w14 w11.heap.size l := by first | exact L13.below b14 | exact (L13.alloc _).below b14 | exact ((L13.alloc _).alloc _).below b14
              have R14 : At w14 w12.heap.size l := by first | exact R13.below b14 | exact (R13.alloc _).below b14 | exact ((R13.alloc _).alloc _).below b14
              have E14 : At w14 w13.heap.size p := by first | exact (At.new w13 p _ _ rfl).below b14 | exact ((At.new w13 p _ _ rfl).alloc _).below b14
              have c14 : Below w.heap.size w w14 := by have z := c13.size; first | exact chain c13 b14 | exact chain (c13.alloc z _) b14 | exact chain ((c13.alloc z _).alloc (by simp; omega) _) b14
              clear b14 c13 A13 B13 C13 M13 N13 O13 L13 R13
              clear sa pa qa sb pb qb sc pc qc sm pm qm sn pn qn so po qo sl pl ql sr pr qr
              obtain ⟨sa, pa, qa⟩ := id A14
              obtain ⟨sb, pb, qb⟩ := id B14
              obtain ⟨sc, pc, qc⟩ := id C14
              obtain ⟨sm, pm, qm⟩ := id M14
              obtain ⟨sn, pn, qn⟩ := id N14
              obtain ⟨so, po, qo⟩ := id O14
              obtain ⟨sl, pl, ql⟩ := id L14
              obtain ⟨sr, pr, qr⟩ := id R14
              obtain ⟨se, pe, qe⟩ := id E14
              go_wp2_with fail
              refine (times_x h a o s _ ha io.out HE8.out).mono ?_
              rintro e w15 ⟨rfl, b15⟩
              rw [pok_ok]
              have A15 : At w15 w.heap.size a := by first | exact A14.below b15 | exact (A14.alloc _).below b15 | exact ((A14.alloc _).alloc _).below b15
              have B15 : At w15 (w.heap.size + 1) b := by first | exact B14.below b15 | exact (B14.alloc _).below b15 | exact ((B14.alloc _).alloc _).below b15
              have C15 : At w15 (w.heap.size + 2) c := by first | exact C14.below b15 | exact (C14.alloc _).below b15 | exact ((C14.alloc _).alloc _).below b15
              have M15 : At w15 w8.heap.size m := by first | exact M14.below b15 | exact (M14.alloc _).below b15 | exact ((M14.alloc _).alloc _).below b15
              have N15 : At w15 w9.heap.size m := by first | exact N14.below b15 | exact (N14.alloc _).below b15 | exact ((N14.alloc _).alloc _).below b15
              have O15 : At w15 w10.heap.size o := by first | exact O14.below b15 | exact (O14.alloc _).below b15 | exact ((O14.alloc _).alloc _).below b15
              have L15 : At w15 w11.heap.size l := by first | exact L14.below b15 | exact (L14.alloc _).below b15 | exact ((L14.alloc _).alloc _).below b15
              have R15 : At w15 w12.heap.size l := by first | exact R14.below b15 | exact (R14.alloc _).below b15 | exact ((R14.alloc _).alloc _).below b15
              have E15 : At w15 w13.heap.size p := by first | exact E14.below b15 | exact (E14.alloc _).below b15 | exact ((E14.alloc _).alloc _).below b15
              have F15 : At w15 w14.heap.size q := by first | exact (At.new w14 q _ _ rfl).below b15 | exact ((At.new w14 q _ _ rfl).alloc _).below b15
              have c15 : Below w.heap.size w w15 := by have z := c14.size; first | exact chain c14 b15 | exact chain (c14.alloc z _) b15 | exact chain ((c14.alloc z _).alloc (by simp; omega) _) b15
              clear b15 c14 A14 B14 C14 M14 N14 O14 L14 R14 E14
              clear sa pa qa sb pb qb sc pc qc sm pm qm sn pn qn so po qo sl pl ql sr pr qr se pe qe
              obtain ⟨sa, pa, qa⟩ := id A15
              obtain ⟨sb, pb, qb⟩ := id B15
              obtain ⟨sc, pc, qc⟩ := id C15
              obtain ⟨sm, pm, qm⟩ := id M15
              obtain ⟨sn, pn, qn⟩ := id N15
              obtain ⟨so, po, qo⟩ := id O15
              obtain ⟨sl, pl, ql⟩ := id L15
              obtain ⟨sr, pr, qr⟩ := id R15
              obtain ⟨se, pe, qe⟩ := id E15
              obtain ⟨sf, pf, qf⟩ := id F15
              go_wp2_with fail
              refine (plus_x h p q s _ ip.out iq.out HE9.out).mono ?_
              rintro e w16 ⟨rfl, b16⟩
              rw [pok_ok]
              have A16 : At w16 w.heap.size a := by first | exact A15.below b16 | exact (A15.alloc _).below b16 | exact ((A15.alloc _).alloc _).below b16
              have B16 : At w16 (w.heap.size + 1) b := by first | exact B15.below b16 | exact (B15.alloc _).below b16 | exact ((B15.alloc _).alloc _).below b16
              have C16 : At w16 (w.heap.size + 2) c := by first | exact C15.below b16 | exact (C15.alloc _).below b16 | exact ((C15.alloc _).alloc _).below b16
              have M16 : At w16 w8.heap.size m := by first | exact M15.below b16 | exact (M15.alloc _).below b16 | exact ((M15.alloc _).alloc _).below b16
              have N16 : At w16 w9.heap.size m := by first | exact N15.below b16 | exact (N15.alloc _).below b16 | exact ((N15.alloc _).alloc _).below b16
              have O16 : At w16 w10.heap.size o := by first | exact O15.below b16 | exact (O15.alloc _).below b16 | exact ((O15.alloc _).alloc _).below b16
              have L16 : At w16 w11.heap.size l := by first | exact L15.below b16 | exact (L15.alloc _).below b16 | exact ((L15.alloc _).alloc _).below b16
              have R16 : At w16 w12.heap.size l := by first | exact R15.below b16 | exact (R15.alloc _).below b16 | exact ((R15.alloc _).alloc _).below b16
              have E16 : At w16 w13.heap.size p := by first | exact E15.below b16 | exact (E15.alloc _).below b16 | exact ((E15.alloc _).alloc _).below b16
              have F16 : At w16 w14.heap.size q := by first | exact F15.below b16 | exact (F15.alloc _).below b16 | exact ((F15.alloc _).alloc _).below b16
              have G16 : At w16 w15.heap.size s := by first | exact (At.new w15 s _ _ rfl).below b16 | exact ((At.new w15 s _ _ rfl).alloc _).below b16
              have c16 : Below w.heap.size w w16 := by have z := c15.size; first | exact chain c15 b16 | exact chain (c15.alloc z _) b16 | exact chain ((c15.alloc z _).alloc (by simp; omega) _) b16
              clear b16 c15 A15 B15 C15 M15 N15 O15 L15 R15 E15 F15
              clear sa pa qa sb pb qb sc pc qc sm pm qm sn pn qn so po qo sl pl ql sr pr qr se pe qe sf pf qf
              obtain ⟨sa, pa, qa⟩ := id A16
              obtain ⟨sb, pb, qb⟩ := id B16
              obtain ⟨sc, pc, qc⟩ := id C16
              obtain ⟨sm, pm, qm⟩ := id M16
              obtain ⟨sn, pn, qn⟩ := id N16
              obtain ⟨so, po, qo⟩ := id O16
              obtain ⟨sl, pl, ql⟩ := id L16
              obtain ⟨sr, pr, qr⟩ := id R16
              obtain ⟨se, pe, qe⟩ := id E16
              obtain ⟨sf, pf, qf⟩ := id F16
              obtain ⟨sg, pg, qg⟩ := id G16
              go_wp2_with fail
              refine (times_x h p c u _ ip.out hc HE10.out).mono ?_
              rintro e w17 ⟨rfl, b17⟩
              rw [pok_ok]
              have A17 : At w17 w.heap.size a := by first | exact A16.below b17 | exact (A16.alloc _).below b17 | exact ((A16.alloc _).alloc _).below b17
              have B17 : At w17 (w.heap.size + 1) b := by first | exact B16.below b17 | exact (B16.alloc _).below b17 | exact ((B16.alloc _).alloc _).below b17
              have C17 : At w17 (w.heap.size + 2) c := by first | exact C16.below b17 | exact (C16.alloc _).below b17 | exact ((C16.alloc _).alloc _).below b17
              have M17 : At w17 w8.heap.size m := by first | exact M16.below b17 | exact (M16.alloc _).below b17 | exact ((M16.alloc _).alloc _).below b17
              have N17 : At w17 w9.heap.size m := by first | exact N16.below b17 | exact (N16.alloc _).below b17 | exact ((N16.alloc _).alloc _).below b17
              have O17 : At w17 w10.heap.size o := by first | exact O16.below b17 | exact (O16.alloc _).below b17 | exact ((O16.alloc _).alloc _).below b17
              have L17 : At w17 w11.heap.size l := by first | exact L16.below b17 | exact (L16.alloc _).below b17 | exact ((L16.alloc _).alloc _).below b17
              have R17 : At w17 w12.heap.size l := by first | exact R16.below b17 | exact (R16.alloc _).below b17 | exact ((R16.alloc _).alloc _).below b17
              have E17 : At w17 w13.heap.size p := by first | exact E16.below b17 | exact (E16.alloc _).below b17 | exact ((E16.alloc _).alloc _).below b17
              have F17 : At w17 w14.heap.size q := by first | exact F16.below b17 | exact (F16.alloc _).below b17 | exact ((F16.alloc _).alloc _).below b17
              have G17 : At w17 w15.heap.size s := by first | exact G16.below b17 | exact (G16.alloc _).below b17 | exact ((G16.alloc _).alloc _).below b17
              have T17 : At w17 w16.heap.size s := by first | exact (At.new w16 s _ _ rfl).below b17 | exact ((At.new w16 s _ _ rfl).alloc _).below b17
              have c17 : Below w.heap.size w w17 := by have z := c16.size; first | exact chain c16 b17 | exact chain (c16.alloc z _) b17 | exact chain ((c16.alloc z _).alloc (by simp; omega) _) b17
              clear b17 c16 A16 B16 C16 M16 N16 O16 L16 R16 E16 F16 G16
              clear sa pa qa sb pb qb sc pc qc sm pm qm sn pn qn so po qo sl pl ql sr pr qr se pe qe sf pf qf sg pg qg
              obtain ⟨sa, pa, qa⟩ := id A17
              obtain ⟨sb, pb, qb⟩ := id B17
              obtain ⟨sc, pc, qc⟩ := id C17
              obtain ⟨sm, pm, qm⟩ := id M17
              obtain ⟨sn, pn, qn⟩ := id N17
              obtain ⟨so, po, qo⟩ := id O17
              obtain ⟨sl, pl, ql⟩ := id L17
              obtain ⟨sr, pr, qr⟩ := id R17
              obtain ⟨se, pe, qe⟩ := id E17
              obtain ⟨sf, pf, qf⟩ := id F17
              obtain ⟨sg, pg, qg⟩ := id G17
              obtain ⟨st, pt, qt⟩ := id T17
              go_wp2_with fail
              refine (times_x h q b u _ iq.out hb HE11.out).mono ?_
              rintro e w18 ⟨rfl, b18⟩
              rw [pok_ok]
              have A18 : At w18 w.heap.size a := by first | exact A17.below b18 | exact (A17.alloc _).below b18 | exact ((A17.alloc _).alloc _).below b18
              have B18 : At w18 (w.heap.size + 1) b := by first | exact B17.below b18 | exact (B17.alloc _).below b18 | exact ((B17.alloc _).alloc _).below b18
              have C18 : At w18 (w.heap.size + 2) c := by first | exact C17.below b18 | exact (C17.alloc _).below b18 | exact ((C17.alloc _).alloc _).below b18
              have M18 : At w18 w8.heap.size m := by first | exact M17.below b18 | exact (M17.alloc _).below b18 | exact ((M17.alloc _).alloc _).below b18
              have N18 : At w18 w9.heap.size m := by first | exact N17.below b18 | exact (N17.alloc _).below b18 | exact ((N17.alloc _).alloc _).below b18
              have O18 : At w18 w10.heap.size o := by first | exact O17.below b18 | exact (O17.alloc _).below b18 | exact ((O17.alloc _).alloc _).below b18
              have L18 : At w18 w11.heap.size l := by first | exact L17.below b18 | exact (L17.alloc _).below b18 | exact ((L17.alloc _).alloc _).below b18
              have R18 : At w18 w12.heap.size l := by first | exact R17.below b18 | exact (R17.alloc _).below b18 | exact ((R17.alloc _).alloc _).below b18
              have E18 : At w18 w13.heap.size p := by first | exact E17.below b18 | exact (E17.alloc _).below b18 | exact ((E17.alloc _).alloc _).below b18
              have F18 : At w18 w14.heap.size q := by first | exact F17.below b18 | exact (F17.alloc _).below b18 | exact ((F17.alloc _).alloc _).below b18
              have G18 : At w18 w15.heap.size s := by first | exact G17.below b18 | exact (G17.alloc _).below b18 | exact ((G17.alloc _).alloc _).below b18
              have T18 : At w18 w16.heap.size s := by first | exact T17.below b18 | exact (T17.alloc _).below b18 | exact ((T17.alloc _).alloc _).below b18
              have I18 : At w18 w17.heap.size u := by first | exact (At.new w17 u _ _ rfl).below b18 | exact ((At.new w17 u _ _ rfl).alloc _).below b18
              have c18 : Below w.heap.size w w18 := by have z := c17.size; first | exact chain c17 b18 | exact chain (c17.alloc z _) b18 | exact chain ((c17.alloc z _).alloc (by simp; omega) _) b18
              clear b18 c17 A17 B17 C17 M17 N17 O17 L17 R17 E17 F17 G17 T17
              clear sa pa qa sb pb qb sc pc qc sm pm qm sn pn qn so po qo sl pl ql sr pr qr se pe qe sf pf qf sg pg qg st pt qt
              obtain ⟨sa, pa, qa⟩ := id A18
              obtain ⟨sb, pb, qb⟩ := id B18
              obtain ⟨sc, pc, qc⟩ := id C18
              obtain ⟨sm, pm, qm⟩ := id M18
              obtain ⟨sn, pn, qn⟩ := id N18
              obtain ⟨so, po, qo⟩ := id O18
              obtain ⟨sl, pl, ql⟩ := id L18
              obtain ⟨sr, pr, qr⟩ := id R18
              obtain ⟨se, pe, qe⟩ := id E18
              obtain ⟨sf, pf, qf⟩ := id F18
              obtain ⟨sg, pg, qg⟩ := id G18
              obtain ⟨st, pt, qt⟩ := id T18
              obtain ⟨si, pi, qi⟩ := id I18
              go_wp2_with fail
              go_ret
              have z := c18.size
              first | exact ⟨rfl, c18⟩ | exact ⟨rfl, c18.alloc z _⟩ | exact ⟨rfl, (c18.alloc z _).alloc (by simp; omega) _⟩

end Go.Proofs.Ytnddfngdlmdmhaa
