/-
  The program's Nearest, Compare, Mul.
-/
import Derived.Test.YtnddfngdlmdmhaaProE
namespace Go.Proofs.Ytnddfngdlmdmhaa
open Go.RowKit

theorem tmod_half (q : Int) : (q.tmod 2 = 0 ↔ q % 2 = 0) ∧ -2 < q.tmod 2 ∧ q.tmod 2 < 2 := by
  have e := Int.mul_tdiv_add_tmod q 2
  have h := Int.natAbs_tmod q 2
  have h2 := Nat.mod_lt q.natAbs (show 0 < (2 : Int).natAbs by decide)
  rw [← h] at h2
  generalize q.tmod 2 = t at *
  generalize q.tdiv 2 = x at *
  have : (2 : Int).natAbs = 2 := rfl
  omega

set_option maxHeartbeats 1600000 in
theorem Nearest_x (a : Rt.R) (w : World) (ha : In a) : Calls Try.prog 27 #[rv a] w fun e w' => e = .returned (.int .i64 (Rt.nearest a)) ∧ Below w.heap.size w w' := by
  have HA : Hid (In a) := ha
  have A0 := Lib.hid (At.new w a 23 _ rfl)
  cases ra : Rt.right a with
  | false =>
    have hv : Hid (Rt.nearest a = 0) := by show _ = _; unfold Rt.nearest; rw [ra]; rfl
    have Ra := Lib.hid ra
    clear ra ha
    go_enter Try.func27, Try.ntmps27
    go_wp2_with fail
    refine (Right_x a _ HA.out).mono ?_
    rintro e w1 ⟨rfl, b1⟩
    have c1 := chain ((Below.refl w.heap.size w).alloc (Nat.le_refl _) _) b1
    rw [Ra.out]
    clear b1
    go_wp2_with fail
    go_ret
    exact ⟨by rw [hv.out]; rfl, c1⟩
  | true =>
    obtain ⟨d1, d2, n1, n2, hg⟩ := Rt.right_iff.1 ra
    unfold Rt.M at d2 n1 n2
    have HS : Hid (∀ w : World, Calls Try.prog 52 #[.agg #[.int .i64 a.n, .int .i64 a.d]] w fun e w' => e = .returned (.tuple #[.int .i64 (a.n / a.d), .int .i64 (a.n % a.d)]) ∧ Below w.heap.size w w') := fun w => split_x a w ha d1 (by omega)
    have hfl := Rt.floor_facts d1 (show -Rt.M ≤ a.n by unfold Rt.M; omega) (show a.n ≤ Rt.M by unfold Rt.M; omega)
    have m0 := Int.emod_nonneg a.n (show a.d ≠ 0 by omega)
    have m1 := Int.emod_lt_of_pos a.n (show 0 < a.d by omega)
    have hb1 : -1152921504606846976 ≤ a.n / a.d := by have := hfl.2.2.2.1; unfold Rt.M at this; exact this
    have hb2 : a.n / a.d ≤ 1152921504606846976 := by have := hfl.2.2.2.2; unfold Rt.M at this; exact this
    have hn : Rt.nearest a = if 2 * (a.n % a.d) < a.d ∨ 2 * (a.n % a.d) = a.d ∧ (a.n / a.d) % 2 = 0 then a.n / a.d else a.n / a.d + 1 := by unfold Rt.nearest; rw [ra]; rfl
    have Ra := Lib.hid ra
    clear ra ha hg hfl n1 n2
    have f1 : IntKind.i64.wrap (2 * (a.n % a.d)) = 2 * (a.n % a.d) := IntWalk.i64_in _ (by omega)
    have f2 : IntKind.i64.wrap (a.n / a.d + 1) = a.n / a.d + 1 := IntWalk.i64_in _ (by omega)
    have f3 : IntKind.i64.wrap ((a.n / a.d).tmod 2) = (a.n / a.d).tmod 2 := IntWalk.i64_in _ (by have := (tmod_half (a.n / a.d)).2; omega)
    by_cases k1 : a.d < 2 * (a.n % a.d)
    · have hv : Hid (Rt.nearest a = a.n / a.d + 1) := by show _ = _; rw [hn, if_neg (by omega)]
      have b1 : decide (a.d < 2 * (a.n % a.d)) = true := decide_eq_true k1
      clear hn
      generalize a.n / a.d = q at *
      generalize a.n % a.d = r at *
      go_enter Try.func27, Try.ntmps27
      go_wp2_with fail
      refine (Right_x a _ HA.out).mono ?_
      rintro e w1 ⟨rfl, b1⟩
      have A1 := Lib.hid (A0.out.below b1)
      have c1 := chain ((Below.refl w.heap.size w).alloc (Nat.le_refl _) _) b1
      rw [Ra.out]
      clear b1 A0
      obtain ⟨x0, x1, x2⟩ := A1.out
      go_wp2_with fail
      refine (HS.out _).mono ?_
      rintro e w2 ⟨rfl, b2⟩
      have A2 := Lib.hid (A1.out.below b2)
      have c2 := chain c1 b2
      clear b2 A1 c1 x0 x1 x2
      obtain ⟨x0, x1, x2⟩ := A2.out
      go_wp2_with fail
      go_ret
      exact ⟨by rw [hv.out]; rfl, c2⟩
    · have b1 : decide (a.d < 2 * (a.n % a.d)) = false := decide_eq_false k1
      by_cases k2 : 2 * (a.n % a.d) = a.d
      · have b2 : (2 * (a.n % a.d) == a.d) = true := by rw [beq_iff_eq]; exact k2
        by_cases k3 : (a.n / a.d) % 2 = 0
        · have hv : Hid (Rt.nearest a = a.n / a.d) := by show _ = _; rw [hn, if_pos (Or.inr ⟨k2, k3⟩)]
          have b3 : ((a.n / a.d).tmod 2 != 0) = false := by
            have : (a.n / a.d).tmod 2 = 0 := (tmod_half (a.n / a.d)).1.2 k3
            rw [this]; rfl
          have b4 : ((a.n / a.d).tmod 2 == 0) = true := by
            have : (a.n / a.d).tmod 2 = 0 := (tmod_half (a.n / a.d)).1.2 k3
            rw [this]; rfl
          clear hn k1 k2 k3
          generalize a.n / a.d = q at *
          generalize a.n % a.d = r at *
          go_enter Try.func27, Try.ntmps27
          go_wp2_with fail
          refine (Right_x a _ HA.out).mono ?_
          rintro e w1 ⟨rfl, b1⟩
          have A1 := Lib.hid (A0.out.below b1)
          have c1 := chain ((Below.refl w.heap.size w).alloc (Nat.le_refl _) _) b1
          rw [Ra.out]
          clear b1 A0
          obtain ⟨x0, x1, x2⟩ := A1.out
          go_wp2_with fail
          refine (HS.out _).mono ?_
          rintro e w2 ⟨rfl, b2⟩
          have A2 := Lib.hid (A1.out.below b2)
          have c2 := chain c1 b2
          clear b2 A1 c1 x0 x1 x2
          obtain ⟨x0, x1, x2⟩ := A2.out
          go_wp2_with fail
          go_ret
          exact ⟨by rw [hv.out]; rfl, c2⟩
        · have hv : Hid (Rt.nearest a = a.n / a.d + 1) := by show _ = _; rw [hn, if_neg (by omega)]
          have b3 : ((a.n / a.d).tmod 2 != 0) = true := by
            rw [bne_iff_ne]; exact fun h => k3 ((tmod_half (a.n / a.d)).1.1 h)
          have b4 : ((a.n / a.d).tmod 2 == 0) = false := by
            rw [beq_eq_false_iff_ne]; exact fun h => k3 ((tmod_half (a.n / a.d)).1.1 h)
          clear hn k1 k2 k3
          generalize a.n / a.d = q at *
          generalize a.n % a.d = r at *
          go_enter Try.func27, Try.ntmps27
          go_wp2_with fail
          refine (Right_x a _ HA.out).mono ?_
          rintro e w1 ⟨rfl, b1⟩
          have A1 := Lib.hid (A0.out.below b1)
          have c1 := chain ((Below.refl w.heap.size w).alloc (Nat.le_refl _) _) b1
          rw [Ra.out]
          clear b1 A0
          obtain ⟨x0, x1, x2⟩ := A1.out
          go_wp2_with fail
          refine (HS.out _).mono ?_
          rintro e w2 ⟨rfl, b2⟩
          have A2 := Lib.hid (A1.out.below b2)
          have c2 := chain c1 b2
          clear b2 A1 c1 x0 x1 x2
          obtain ⟨x0, x1, x2⟩ := A2.out
          go_wp2_with fail
          go_ret
          exact ⟨by rw [hv.out]; rfl, c2⟩
      · have b2 : (2 * (a.n % a.d) == a.d) = false := by rw [beq_eq_false_iff_ne]; exact k2
        have hv : Hid (Rt.nearest a = a.n / a.d) := by show _ = _; rw [hn, if_pos (Or.inl (by omega))]
        clear hn k1 k2
        generalize a.n / a.d = q at *
        generalize a.n % a.d = r at *
        go_enter Try.func27, Try.ntmps27
        go_wp2_with fail
        refine (Right_x a _ HA.out).mono ?_
        rintro e w1 ⟨rfl, b1⟩
        have A1 := Lib.hid (A0.out.below b1)
        have c1 := chain ((Below.refl w.heap.size w).alloc (Nat.le_refl _) _) b1
        rw [Ra.out]
        clear b1 A0
        obtain ⟨x0, x1, x2⟩ := A1.out
        go_wp2_with fail
        refine (HS.out _).mono ?_
        rintro e w2 ⟨rfl, b2⟩
        have A2 := Lib.hid (A1.out.below b2)
        have c2 := chain c1 b2
        clear b2 A1 c1 x0 x1 x2
        obtain ⟨x0, x1, x2⟩ := A2.out
        go_wp2_with fail
        go_ret
        exact ⟨by rw [hv.out]; rfl, c2⟩

end Go.Proofs.Ytnddfngdlmdmhaa
