/-
  The program's Right, Make, Floor, Ceil, Nearest.
-/
import Derived.Test.YtnddfngdlmdmhaaWideB
namespace Go.Proofs.Ytnddfngdlmdmhaa
open Go.RowKit

set_option maxHeartbeats 1600000 in
theorem Right_x (a : Rt.R) (w : World) (ha : In a) : Calls Try.prog 11 #[rv a] w fun e w' => e = .returned (.bool (Rt.right a)) ∧ Below w.heap.size w w' := by
  obtain ⟨n, d⟩ := a
  obtain ⟨hn, hd⟩ := ha
  simp only at hn hd
  have A0 := Lib.hid (At.new w ⟨n, d⟩ 23 _ rfl)
  have HM : Hid (∀ w : World, Calls Try.prog 33 #[.int .i64 n] w fun e w' => e = .returned (.int .u64 (n.natAbs : Nat)) ∧ Below w.heap.size w w') := fun w => magnitude_x n w hn
  have hr : Rt.right ⟨n, d⟩ = (decide (1 ≤ d) && (decide (d ≤ 1152921504606846976) && (decide (n.natAbs ≤ 1152921504606846976) && decide (Nat.gcd n.natAbs d.natAbs = 1)))) := by
    unfold Rt.right Rt.M
    simp only [← Bool.decide_and]
    rw [decide_eq_decide]
    show (1 ≤ d ∧ d ≤ 1152921504606846976 ∧ -1152921504606846976 ≤ n ∧ n ≤ 1152921504606846976 ∧ Nat.gcd n.natAbs d.natAbs = 1) ↔ _
    omega
  show Calls Try.prog 11 #[.agg #[.int .i64 n, .int .i64 d]] w fun e w' => e = .returned (.bool (Rt.right ⟨n, d⟩)) ∧ Below w.heap.size w w'
  rw [hr]
  clear hr
  have hn64 : n.natAbs ≤ 9223372036854775808 := by unfold I64 at hn; omega
  clear hn hd
  have HN := Lib.hid hn64
  clear hn64
  by_cases c1 : 1 ≤ d
  · rw [decide_eq_true c1, Bool.true_and]
    obtain ⟨k, rfl⟩ : ∃ k : Nat, d = (k : Int) := ⟨d.natAbs, by omega⟩
    have k1 : decide ((1 : Int) ≤ (k : Int)) = true := decide_eq_true c1
    rw [Int.natAbs_natCast]
    clear c1
    by_cases c2 : (k : Int) ≤ 1152921504606846976
    · rw [decide_eq_true c2, Bool.true_and]
      have k2 : decide ((k : Int) ≤ 1152921504606846976) = true := decide_eq_true c2
      by_cases c3 : n.natAbs ≤ 1152921504606846976
      · rw [decide_eq_true c3, Bool.true_and]
        have k3 : decide ((n.natAbs : Int) ≤ 1152921504606846976) = true := decide_eq_true (by omega)
        have HG : Hid (∀ w : World, Calls Try.prog 37 #[.int .u64 (n.natAbs : Nat), .int .u64 (k : Nat)] w fun e w' => e = .returned (.int .u64 (Nat.gcd n.natAbs k : Nat)) ∧ Below w.heap.size w w') := fun w => divisor_x n.natAbs k w (by omega) (by omega)
        generalize n.natAbs = m at *
        have k4 : ((Nat.gcd m k : Int) == 1) = decide (Nat.gcd m k = 1) := by
          by_cases h : Nat.gcd m k = 1
          · rw [decide_eq_true h, h]; rfl
          · rw [decide_eq_false h, beq_eq_false_iff_ne]; omega
        generalize decide (Nat.gcd m k = 1) = bq at *
        generalize Nat.gcd m k = g at *
        have K4 := Lib.hid k4
        clear k4
        go_enter Try.func11, Try.ntmps11
        go_wp2_with fail
        refine (HM.out _).mono ?_
        rintro e w1 ⟨rfl, b1⟩
        have A1 := A0.out.below b1
        have c1 := chain ((Below.refl w.heap.size w).alloc (Nat.le_refl _) _) b1
        clear b1 A0
        obtain ⟨x0, x1, x2⟩ := A1
        simp only at x1 x2
        go_wp2_with fail
        refine (HG.out _).mono ?_
        rintro e w2 ⟨rfl, b2⟩
        have c2 := chain c1 b2
        clear c1 b2 x0 x1 x2
        go_wp2_with fail
        go_ret
        exact ⟨congrArg (fun x => Ending.returned (Value.bool x)) K4.out, c2⟩
      · rw [decide_eq_false c3, Bool.false_and]
        have k3 : decide ((n.natAbs : Int) ≤ 1152921504606846976) = false := decide_eq_false (by omega)
        clear c3
        generalize n.natAbs = m at *
        go_enter Try.func11, Try.ntmps11
        go_wp2_with fail
        refine (HM.out _).mono ?_
        rintro e w1 ⟨rfl, b1⟩
        have A1 := A0.out.below b1
        have c1 := chain ((Below.refl w.heap.size w).alloc (Nat.le_refl _) _) b1
        clear b1 A0
        obtain ⟨x0, x1, x2⟩ := A1
        simp only at x1 x2
        go_wp2_with fail
        go_ret
        exact ⟨rfl, c1⟩
    · rw [decide_eq_false c2, Bool.false_and]
      have k2 : decide ((k : Int) ≤ 1152921504606846976) = false := decide_eq_false c2
      clear c2
      generalize n.natAbs = m at *
      go_enter Try.func11, Try.ntmps11
      go_wp2_with fail
      refine (HM.out _).mono ?_
      rintro e w1 ⟨rfl, b1⟩
      have A1 := A0.out.below b1
      have c1 := chain ((Below.refl w.heap.size w).alloc (Nat.le_refl _) _) b1
      clear b1 A0
      obtain ⟨x0, x1, x2⟩ := A1
      simp only at x1 x2
      go_wp2_with fail
      go_ret
      exact ⟨rfl, c1⟩
  · rw [decide_eq_false c1, Bool.false_and]
    have k1 : decide ((1 : Int) ≤ d) = false := decide_eq_false c1
    clear c1
    generalize n.natAbs = m at *
    go_enter Try.func11, Try.ntmps11
    go_wp2_with fail
    refine (HM.out _).mono ?_
    rintro e w1 ⟨rfl, b1⟩
    have A1 := A0.out.below b1
    have c1 := chain ((Below.refl w.heap.size w).alloc (Nat.le_refl _) _) b1
    clear b1 A0
    obtain ⟨x0, x1, x2⟩ := A1
    simp only at x1 x2
    go_wp2_with fail
    go_ret
    exact ⟨rfl, c1⟩

set_option maxHeartbeats 1600000 in
theorem Make_x (p q : Int) (w : World) (hp : I64 p) (hq : I64 q) : Calls Try.prog 9 #[.int .i64 p, .int .i64 q] w fun e w' => e = .returned (rok (Rt.make p q)) ∧ Below w.heap.size w w' := by
  by_cases h0 : q = 0
  · have hv : Hid (Rt.make p q = (⟨0, 0⟩, 1)) := by show _ = _; unfold Rt.make; rw [if_pos h0]
    have k0 : (q == 0) = true := by rw [h0]; rfl
    clear h0
    go_enter Try.func9, Try.ntmps9
    go_wp2_with fail
    exact bodyPost_ret (v := .tuple #[.agg #[.int .i64 0, .int .i64 0], .int .i64 1]) (by simp [results, Try.results9, go_sem]) rfl ⟨by rw [hv.out], (by repeat (first | exact Below.refl _ _ | assumption | refine below_drewN ?_ _ | refine Below.drew ?_ | refine Below.setCell ?_ (by simp; try omega) _ | refine Below.alloc ?_ (by simp; try omega) _))⟩
  · have hv : Hid (rok (gp (decide (p < 0) != decide (q < 0)) (p.natAbs / Nat.gcd p.natAbs q.natAbs) (q.natAbs / Nat.gcd p.natAbs q.natAbs)) = rok (Rt.make p q)) := by
      show _ = _
      rw [make_gp h0]; unfold Rt.make; rw [if_neg h0]
    have k0 : (q == 0) = false := by simp [h0]
    have P1 : Hid (∀ w : World, Calls Try.prog 33 #[.int .i64 p] w fun e w' => e = .returned (.int .u64 (p.natAbs : Nat)) ∧ Below w.heap.size w w') := fun w => magnitude_x p w hp
    have P2 : Hid (∀ w : World, Calls Try.prog 33 #[.int .i64 q] w fun e w' => e = .returned (.int .u64 (q.natAbs : Nat)) ∧ Below w.heap.size w w') := fun w => magnitude_x q w hq
    have P3 : Hid (∀ w : World, Calls Try.prog 32 #[.int .u64 (p.natAbs : Nat), .int .u64 (q.natAbs : Nat)] w fun e w' => e = .returned (.tuple #[.int .u64 (p.natAbs / Nat.gcd p.natAbs q.natAbs : Nat), .int .u64 (q.natAbs / Nat.gcd p.natAbs q.natAbs : Nat)]) ∧ Below w.heap.size w w') := fun w => reduce_x p.natAbs q.natAbs w (by omega) (by unfold I64 at hp; omega) (by unfold I64 at hq; omega)
    have hx : p.natAbs / Nat.gcd p.natAbs q.natAbs < 18446744073709551616 := Nat.lt_of_le_of_lt (Nat.div_le_self _ _) (by unfold I64 at hp; omega)
    have hy : q.natAbs / Nat.gcd p.natAbs q.natAbs < 18446744073709551616 := Nat.lt_of_le_of_lt (Nat.div_le_self _ _) (by unfold I64 at hq; omega)
    clear hp hq h0
    generalize p.natAbs / Nat.gcd p.natAbs q.natAbs = x at *
    generalize q.natAbs / Nat.gcd p.natAbs q.natAbs = y at *
    generalize p.natAbs = pn at *
    generalize q.natAbs = qn at *
    obtain ⟨f1, hf1⟩ : ∃ f1, decide (p < 0) = f1 := ⟨_, rfl⟩
    obtain ⟨f2, hf2⟩ : ∃ f2, decide (q < 0) = f2 := ⟨_, rfl⟩
    rw [hf1, hf2] at hv
    have P4 : Hid (∀ w : World, Calls Try.prog 34 #[.bool (f1 != f2), .agg #[.int .u64 0, .int .u64 x], .agg #[.int .u64 0, .int .u64 y]] w fun e w' => e = .returned (rok (Rt.make p q)) ∧ Below w.heap.size w w') := fun w => by
      have h := give_x (f1 != f2) x y w
      rw [hv.out] at h
      unfold wv at h
      rw [Nat.div_eq_of_lt hx, Nat.div_eq_of_lt hy, Nat.mod_eq_of_lt hx, Nat.mod_eq_of_lt hy] at h
      exact h
    obtain ⟨⟨⟨n0, d0⟩, e0⟩, HR⟩ : ∃ R, R = Rt.make p q := ⟨_, rfl⟩
    rw [← HR] at P4 ⊢
    unfold rok at P4 ⊢
    simp only at P4 ⊢
    clear HR hv hx hy
    have Z0 := At.new w ⟨0, 0⟩ 23 _ rfl
    have F0 : Hid (∀ o, (w.alloc (.cells #[.int .i64 0, .int .i64 0] 23)).frozen? ⟨w.heap.size, o, none⟩ = false) := fun o => by simp
    cases f1 <;> cases f2
    all_goals
      try simp only [bne_self_eq_false, Bool.bne_true, Bool.bne_false, Bool.not_false] at P4
      go_enter Try.func9, Try.ntmps9
      go_wp2_with fail
      refine (P1.out _).mono ?_
      rintro e w1 ⟨rfl, b1⟩
      have Z1 := Z0.below b1
      have F1 : Hid (∀ o, w1.frozen? ⟨w.heap.size, o, none⟩ = false) := fun o => (b1.frozen (p := ⟨w.heap.size, o, none⟩) (by simp)).trans (F0.out o)
      have c1 := chain ((Below.refl w.heap.size w).alloc (Nat.le_refl _) _) b1
      clear b1 Z0 F0
      go_wp2_with fail
      refine (P2.out _).mono ?_
      rintro e w2 ⟨rfl, b2⟩
      have Z2 := Z1.below b2
      have F2 : Hid (∀ o, w2.frozen? ⟨w.heap.size, o, none⟩ = false) := fun o => (b2.frozen (p := ⟨w.heap.size, o, none⟩) Z1.1).trans (F1.out o)
      have c2 := chain c1 b2
      clear b2 Z1 F1 c1
      go_wp2_with fail
      refine (P3.out _).mono ?_
      rintro e w3 ⟨rfl, b3⟩
      have Z3 := Z2.below b3
      have F3 : Hid (∀ o, w3.frozen? ⟨w.heap.size, o, none⟩ = false) := fun o => (b3.frozen (p := ⟨w.heap.size, o, none⟩) Z2.1).trans (F2.out o)
      have c3 := chain c2 b3
      clear b3 Z2 F2 c2
      go_wp2_with fail
      refine (P4.out _).mono ?_
      rintro e w4 ⟨rfl, b4⟩
      have Z4 := Z3.below b4
      have F4 : Hid (∀ o, w4.frozen? ⟨w.heap.size, o, none⟩ = false) := fun o => (b4.frozen (p := ⟨w.heap.size, o, none⟩) Z3.1).trans (F3.out o)
      have c4 := chain c3 b4
      clear b4 Z3 F3 c3
      obtain ⟨x0, x1, x2⟩ := Z4
      simp only at x1 x2
      have x3 := F4.out 0
      have x4 := F4.out 1
      go_wp2_with fail
      exact bodyPost_ret (v := .tuple #[.agg #[.int .i64 n0, .int .i64 d0], .int .i64 e0]) (by simp [results, Try.results9, go_sem, x1, x2]) rfl ⟨rfl, (by repeat (first | exact Below.refl _ _ | assumption | refine below_drewN ?_ _ | refine Below.drew ?_ | refine Below.setCell ?_ (by simp; try omega) _ | refine Below.alloc ?_ (by simp; try omega) _))⟩

set_option maxHeartbeats 1600000 in
theorem Floor_x (a : Rt.R) (w : World) (ha : In a) : Calls Try.prog 23 #[rv a] w fun e w' => e = .returned (.int .i64 (Rt.floor a)) ∧ Below w.heap.size w w' := by
  have HA : Hid (In a) := ha
  have A0 := Lib.hid (At.new w a 23 _ rfl)
  cases ra : Rt.right a with
  | false =>
    have hv : Hid (Rt.floor a = 0) := by show _ = _; unfold Rt.floor; rw [ra]; rfl
    have Ra := Lib.hid ra
    clear ra ha
    go_enter Try.func23, Try.ntmps23
    go_wp2_with fail
    refine (Right_x a _ HA.out).mono ?_
    rintro e w1 ⟨rfl, b1⟩
    have c1 := chain ((Below.refl w.heap.size w).alloc (Nat.le_refl _) _) b1
    rw [Ra.out]
    clear b1
    go_wp2_with fail
    go_ret
    exact ⟨by rw [hv.out]; rfl, c1⟩
  | true =>
    obtain ⟨d1, d2, n1, n2, hg⟩ := Rt.right_iff.1 ra
    unfold Rt.M at d2 n1 n2
    have HS : Hid (∀ w : World, Calls Try.prog 52 #[.agg #[.int .i64 a.n, .int .i64 a.d]] w fun e w' => e = .returned (.tuple #[.int .i64 (a.n / a.d), .int .i64 (a.n % a.d)]) ∧ Below w.heap.size w w') := fun w => split_x a w ha d1 (by omega)
    have hfl := Rt.floor_facts d1 (show -Rt.M ≤ a.n by unfold Rt.M; omega) (show a.n ≤ Rt.M by unfold Rt.M; omega)
    have m0 := Int.emod_nonneg a.n (show a.d ≠ 0 by omega)
    have m1 := Int.emod_lt_of_pos a.n (show 0 < a.d by omega)
    have hv : Hid (Rt.floor a = a.n / a.d) := by show _ = _; unfold Rt.floor; rw [ra]; rfl
    have Ra := Lib.hid ra
    clear ra ha hg hfl m0 m1 d1 d2 n1 n2
    go_enter Try.func23, Try.ntmps23
    go_wp2_with fail
    refine (Right_x a _ HA.out).mono ?_
    rintro e w1 ⟨rfl, b1⟩
    have A1 := Lib.hid (A0.out.below b1)
    have c1 := chain ((Below.refl w.heap.size w).alloc (Nat.le_refl _) _) b1
    rw [Ra.out]
    clear b1 A0
    obtain ⟨x0, x1, x2⟩ := A1.out
    go_wp2_with fail
    refine (HS.out _).mono ?_
    rintro e w2 ⟨rfl, b2⟩
    have A2 := Lib.hid (A1.out.below b2)
    have c2 := chain c1 b2
    clear b2 A1 c1 x0 x1 x2
    obtain ⟨x0, x1, x2⟩ := A2.out
    go_wp2_with fail
    go_ret
    exact ⟨by rw [hv.out]; rfl, c2⟩

theorem ceil_math (n : Int) {d : Int} (hd : 1 ≤ d) : (n % d = 0 → -((-n) / d) = n / d) ∧ (¬ n % d = 0 → -((-n) / d) = n / d + 1) := by
  have e := Int.mul_ediv_add_emod n d
  have l := Int.emod_nonneg n (show d ≠ 0 by omega)
  have u := Int.emod_lt_of_pos n (show 0 < d by omega)
  constructor
  · intro h
    have := ((Int.ediv_emod_unique (a := -n) (b := d) (q := -(n / d)) (r := 0) (by omega)).2 ⟨by rw [Int.mul_neg]; omega, by omega, by omega⟩).1
    omega
  · intro h
    have := ((Int.ediv_emod_unique (a := -n) (b := d) (q := -(n / d) - 1) (r := d - n % d) (by omega)).2 ⟨by rw [Int.mul_sub, Int.mul_neg]; omega, by omega, by omega⟩).1
    omega

set_option maxHeartbeats 1600000 in
theorem Ceil_x (a : Rt.R) (w : World) (ha : In a) : Calls Try.prog 25 #[rv a] w fun e w' => e = .returned (.int .i64 (Rt.ceil a)) ∧ Below w.heap.size w w' := by
  have HA : Hid (In a) := ha
  have A0 := Lib.hid (At.new w a 23 _ rfl)
  cases ra : Rt.right a with
  | false =>
    have hv : Hid (Rt.ceil a = 0) := by show _ = _; unfold Rt.ceil; rw [ra]; rfl
    have Ra := Lib.hid ra
    clear ra ha
    go_enter Try.func25, Try.ntmps25
    go_wp2_with fail
    refine (Right_x a _ HA.out).mono ?_
    rintro e w1 ⟨rfl, b1⟩
    have c1 := chain ((Below.refl w.heap.size w).alloc (Nat.le_refl _) _) b1
    rw [Ra.out]
    clear b1
    go_wp2_with fail
    go_ret
    exact ⟨by rw [hv.out]; rfl, c1⟩
  | true =>
    obtain ⟨d1, d2, n1, n2, hg⟩ := Rt.right_iff.1 ra
    unfold Rt.M at d2 n1 n2
    have HS : Hid (∀ w : World, Calls Try.prog 52 #[.agg #[.int .i64 a.n, .int .i64 a.d]] w fun e w' => e = .returned (.tuple #[.int .i64 (a.n / a.d), .int .i64 (a.n % a.d)]) ∧ Below w.heap.size w w') := fun w => split_x a w ha d1 (by omega)
    have hfl := Rt.floor_facts d1 (show -Rt.M ≤ a.n by unfold Rt.M; omega) (show a.n ≤ Rt.M by unfold Rt.M; omega)
    have m0 := Int.emod_nonneg a.n (show a.d ≠ 0 by omega)
    have m1 := Int.emod_lt_of_pos a.n (show 0 < a.d by omega)
    have hc : Rt.ceil a = -((-a.n) / a.d) := by unfold Rt.ceil; rw [ra]; rfl
    have hcl := Rt.floor_facts (n := -a.n) d1 (show -Rt.M ≤ -a.n by unfold Rt.M; omega) (show -a.n ≤ Rt.M by unfold Rt.M; omega)
    have hq := ceil_math a.n d1
    rw [← hc] at hq
    have Ra := Lib.hid ra
    have hb1 : -1152921504606846976 ≤ a.n / a.d := by have := hfl.2.2.2.1; unfold Rt.M at this; exact this
    have hb2 : a.n / a.d ≤ 1152921504606846976 := by have := hfl.2.2.2.2; unfold Rt.M at this; exact this
    clear ra ha hg hfl hcl m1 d1 d2 n1 n2 hc
    by_cases k : a.n % a.d = 0
    · have hv : Hid (Rt.ceil a = a.n / a.d) := hq.1 k
      have k1 : decide (0 < a.n % a.d) = false := decide_eq_false (by omega)
      clear hq k m0
      go_enter Try.func25, Try.ntmps25
      go_wp2_with fail
      refine (Right_x a _ HA.out).mono ?_
      rintro e w1 ⟨rfl, b1⟩
      have A1 := Lib.hid (A0.out.below b1)
      have c1 := chain ((Below.refl w.heap.size w).alloc (Nat.le_refl _) _) b1
      rw [Ra.out]
      clear b1 A0
      obtain ⟨x0, x1, x2⟩ := A1.out
      go_wp2_with fail
      refine (HS.out _).mono ?_
      rintro e w2 ⟨rfl, b2⟩
      have A2 := Lib.hid (A1.out.below b2)
      have c2 := chain c1 b2
      clear b2 A1 c1 x0 x1 x2
      obtain ⟨x0, x1, x2⟩ := A2.out
      go_wp2_with fail
      go_ret
      exact ⟨by rw [hv.out]; rfl, c2⟩
    · have hv : Hid (Rt.ceil a = a.n / a.d + 1) := hq.2 k
      have k1 : decide (0 < a.n % a.d) = true := decide_eq_true (by omega)
      have f1 : IntKind.i64.wrap (a.n / a.d + 1) = a.n / a.d + 1 := IntWalk.i64_in _ (by omega)
      clear hq k m0
      go_enter Try.func25, Try.ntmps25
      go_wp2_with fail
      refine (Right_x a _ HA.out).mono ?_
      rintro e w1 ⟨rfl, b1⟩
      have A1 := Lib.hid (A0.out.below b1)
      have c1 := chain ((Below.refl w.heap.size w).alloc (Nat.le_refl _) _) b1
      rw [Ra.out]
      clear b1 A0
      obtain ⟨x0, x1, x2⟩ := A1.out
      go_wp2_with fail
      refine (HS.out _).mono ?_
      rintro e w2 ⟨rfl, b2⟩
      have A2 := Lib.hid (A1.out.below b2)
      have c2 := chain c1 b2
      clear b2 A1 c1 x0 x1 x2
      obtain ⟨x0, x1, x2⟩ := A2.out
      go_wp2_with fail
      go_ret
      exact ⟨by rw [hv.out]; rfl, c2⟩


end Go.Proofs.Ytnddfngdlmdmhaa
