/-
  The reference's Floor, Ceil and Nearest.
-/
import Derived.Test.YtnddfngdlmdmhaaNumG
namespace Go.Proofs.Ytnddfngdlmdmhaa
open Go.RowKit

/-- the quotient that is cut off towards 0, beside the floor and the ceiling -/
theorem cut_facts {n d : Int} (hd : 1 ≤ d) : (n < n.tdiv d * d → n / d = n.tdiv d - 1) ∧ (¬ n < n.tdiv d * d → n / d = n.tdiv d) ∧
    (n.tdiv d * d < n → -((-n) / d) = n.tdiv d + 1) ∧ (¬ n.tdiv d * d < n → -((-n) / d) = n.tdiv d) ∧ -d < n - n.tdiv d * d ∧ n - n.tdiv d * d < d := by
  have e : d * n.tdiv d + n.tmod d = n := Int.mul_tdiv_add_tmod n d
  have l1 : n.tmod d < d := Int.tmod_lt_of_pos n (by omega)
  have l2 : -d < n.tmod d := by
    have := Int.tmod_lt_of_pos (-n) (show 0 < d by omega)
    rw [Int.neg_tmod] at this
    omega
  generalize n.tmod d = r at e l1 l2
  generalize n.tdiv d = q at e ⊢
  have c : d * q = q * d := Int.mul_comm _ _
  have key : ∀ k s : Int, d * k + s = n → 0 ≤ s → s < d → n / d = k := fun k s h1 h2 h3 => by
    rw [← h1, Int.add_comm, Int.add_mul_ediv_left _ _ (by omega), Int.ediv_eq_zero_of_lt h2 h3, Int.zero_add]
  have key' : ∀ k s : Int, d * k + s = -n → 0 ≤ s → s < d → (-n) / d = k := fun k s h1 h2 h3 => by
    rw [← h1, Int.add_comm, Int.add_mul_ediv_left _ _ (by omega), Int.ediv_eq_zero_of_lt h2 h3, Int.zero_add]
  refine ⟨fun h => ?_, fun h => ?_, fun h => ?_, fun h => ?_, by omega, by omega⟩
  · exact key (q - 1) (r + d) (by rw [Int.mul_sub, Int.mul_one]; omega) (by omega) (by omega)
  · exact key q r e (by omega) l1
  · rw [key' (-q - 1) (d - r) (by rw [Int.mul_sub, Int.mul_neg, Int.mul_one]; omega) (by omega) (by omega)]; omega
  · rw [key' (-q) (-r) (by rw [Int.mul_neg]; omega) (by omega) (by omega)]; omega
theorem cut_small (n d : Int) : (n.tdiv d).natAbs ≤ n.natAbs := by
  rw [Int.natAbs_tdiv]
  exact Nat.div_le_self _ _

/-- the operand's block, the first new one -/
structure Bx (w : World) (a : Rt.R) (W : World) : Prop where
  below : Below w.heap.size w W
  size : w.heap.size < W.heap.size
  a0 : W.cell? ⟨w.heap.size, 0, none⟩ = some (.int .i64 a.n)
  a1 : W.cell? ⟨w.heap.size, 1, none⟩ = some (.int .i64 a.d)
theorem Bx.next {w : World} {a : Rt.R} {W W' : World} (h : Bx w a W) (hb : Below W.heap.size W W') : Bx w a W' := by
  have s := h.size
  refine ⟨chain h.below hb, by have := hb.size; omega, ?_, ?_⟩
  · rw [hb.cell (p := ⟨w.heap.size, 0, none⟩) s]; exact h.a0
  · rw [hb.cell (p := ⟨w.heap.size, 1, none⟩) s]; exact h.a1
theorem Bx.start (w : World) (a : Rt.R) (T : TypeId) : Bx w a (w.alloc (.cells #[.int .i64 a.n, .int .i64 a.d] T)) := by
  obtain ⟨p0, p1, p2⟩ := At.new w a T _ rfl
  exact ⟨(Below.refl _ _).alloc (Nat.le_refl _) _, p0, p1, p2⟩

set_option maxHeartbeats 1600000 in
theorem FloorR_x (a : Rt.R) (w : World) (ha : In a) : Calls Try.prog 24 #[rv a] w fun e w' => e = .returned (.int .i64 (Rt.floor a)) ∧ Below w.heap.size w w' := by
  have hA := Lib.hid ha
  clear ha
  cases ra : Rt.right a with
  | false =>
    have hv : Hid (Rt.floor a = 0) := by show _ = _; unfold Rt.floor; rw [ra]; rfl
    have Ra := Lib.hid ra
    clear ra
    go_enter Try.func24, Try.ntmps24
    go_wp2_with fail
    refine (RightR_x a _ hA.out).mono ?_
    rintro e w1 ⟨rfl, b1⟩
    have t1 := (Bx.start w a 23).next b1
    clear b1
    rw [Ra.out]
    go_wp2_with fail
    go_ret
    exact ⟨by rw [hv.out]; try rfl, t1.below⟩
  | true =>
    have Ra := Lib.hid ra
    obtain ⟨a1, a2, a3⟩ := right_small ra
    obtain ⟨c1, c2, -, -, c5, c6⟩ := cut_facts (n := a.n) (d := a.d) a3
    have c7 := cut_small a.n a.d
    have d0 : ¬ a.d = 0 := by omega
    have hv : Hid (Rt.floor a = a.n / a.d) := by show _ = _; unfold Rt.floor; rw [ra]; rfl
    obtain ⟨q, hq⟩ : ∃ q, a.n.tdiv a.d = q := ⟨_, rfl⟩
    rw [hq] at c1 c2 c5 c6 c7
    obtain ⟨m, hm⟩ : ∃ m, q * a.d = m := ⟨_, rfl⟩
    rw [hm] at c1 c2 c5 c6
    have q1 : -1152921504606846976 ≤ q := by omega
    have q2 : q ≤ 1152921504606846976 := by omega
    have m1 : -2305843009213693952 ≤ m := by omega
    have m2 : m ≤ 2305843009213693952 := by omega
    have wm : IntKind.i64.wrap (q * a.d) = m := by rw [hm]; exact IntWalk.i64_in _ (by omega)
    have wq : IntKind.i64.wrap (a.n.tdiv a.d) = q := by rw [hq]; exact IntWalk.i64_in _ (by omega)
    by_cases g : a.n < m
    · have hr : Hid (a.n / a.d = q - 1) := c1 g
      have g1 : decide (a.n < m) = true := decide_eq_true g
      clear ra a1 a2 a3 c1 c2 c5 c6 c7 g
      go_enter Try.func24, Try.ntmps24
      go_wp2_with fail
      refine (RightR_x a _ hA.out).mono ?_
      rintro e w1 ⟨rfl, b1⟩
      have t1 := (Bx.start w a 23).next b1
      clear b1
      rw [Ra.out]
      have y1 := t1.size
      have y2 := t1.a0
      have y3 := t1.a1
      go_wp2_with fail
      go_ret
      exact ⟨by rw [hv.out, hr.out]; try rfl, t1.below⟩
    · have hr : Hid (a.n / a.d = q) := c2 g
      have g1 : decide (a.n < m) = false := decide_eq_false g
      clear ra a1 a2 a3 c1 c2 c5 c6 c7 g
      go_enter Try.func24, Try.ntmps24
      go_wp2_with fail
      refine (RightR_x a _ hA.out).mono ?_
      rintro e w1 ⟨rfl, b1⟩
      have t1 := (Bx.start w a 23).next b1
      clear b1
      rw [Ra.out]
      have y1 := t1.size
      have y2 := t1.a0
      have y3 := t1.a1
      go_wp2_with fail
      go_ret
      exact ⟨by rw [hv.out, hr.out]; try rfl, t1.below⟩

set_option maxHeartbeats 1600000 in
theorem CeilR_x (a : Rt.R) (w : World) (ha : In a) : Calls Try.prog 26 #[rv a] w fun e w' => e = .returned (.int .i64 (Rt.ceil a)) ∧ Below w.heap.size w w' := by
  have hA := Lib.hid ha
  clear ha
  cases ra : Rt.right a with
  | false =>
    have hv : Hid (Rt.ceil a = 0) := by show _ = _; unfold Rt.ceil; rw [ra]; rfl
    have Ra := Lib.hid ra
    clear ra
    go_enter Try.func26, Try.ntmps26
    go_wp2_with fail
    refine (RightR_x a _ hA.out).mono ?_
    rintro e w1 ⟨rfl, b1⟩
    have t1 := (Bx.start w a 23).next b1
    clear b1
    rw [Ra.out]
    go_wp2_with fail
    go_ret
    exact ⟨by rw [hv.out]; try rfl, t1.below⟩
  | true =>
    have Ra := Lib.hid ra
    obtain ⟨a1, a2, a3⟩ := right_small ra
    obtain ⟨-, -, c1, c2, c5, c6⟩ := cut_facts (n := a.n) (d := a.d) a3
    have c7 := cut_small a.n a.d
    have d0 : ¬ a.d = 0 := by omega
    have hv : Hid (Rt.ceil a = -((-a.n) / a.d)) := by show _ = _; unfold Rt.ceil; rw [ra]; rfl
    obtain ⟨q, hq⟩ : ∃ q, a.n.tdiv a.d = q := ⟨_, rfl⟩
    rw [hq] at c1 c2 c5 c6 c7
    obtain ⟨m, hm⟩ : ∃ m, q * a.d = m := ⟨_, rfl⟩
    rw [hm] at c1 c2 c5 c6
    have q1 : -1152921504606846976 ≤ q := by omega
    have q2 : q ≤ 1152921504606846976 := by omega
    have m1 : -2305843009213693952 ≤ m := by omega
    have m2 : m ≤ 2305843009213693952 := by omega
    have wm : IntKind.i64.wrap (q * a.d) = m := by rw [hm]; exact IntWalk.i64_in _ (by omega)
    have wq : IntKind.i64.wrap (a.n.tdiv a.d) = q := by rw [hq]; exact IntWalk.i64_in _ (by omega)
    by_cases g : m < a.n
    · have hr : Hid (-((-a.n) / a.d) = q + 1) := c1 g
      have g1 : decide (m < a.n) = true := decide_eq_true g
      clear ra a1 a2 a3 c1 c2 c5 c6 c7 g
      go_enter Try.func26, Try.ntmps26
      go_wp2_with fail
      refine (RightR_x a _ hA.out).mono ?_
      rintro e w1 ⟨rfl, b1⟩
      have t1 := (Bx.start w a 23).next b1
      clear b1
      rw [Ra.out]
      have y1 := t1.size
      have y2 := t1.a0
      have y3 := t1.a1
      go_wp2_with fail
      go_ret
      exact ⟨by rw [hv.out, hr.out]; try rfl, t1.below⟩
    · have hr : Hid (-((-a.n) / a.d) = q) := c2 g
      have g1 : decide (m < a.n) = false := decide_eq_false g
      clear ra a1 a2 a3 c1 c2 c5 c6 c7 g
      go_enter Try.func26, Try.ntmps26
      go_wp2_with fail
      refine (RightR_x a _ hA.out).mono ?_
      rintro e w1 ⟨rfl, b1⟩
      have t1 := (Bx.start w a 23).next b1
      clear b1
      rw [Ra.out]
      have y1 := t1.size
      have y2 := t1.a0
      have y3 := t1.a1
      go_wp2_with fail
      go_ret
      exact ⟨by rw [hv.out, hr.out]; try rfl, t1.below⟩

set_option maxHeartbeats 3200000 in
theorem NearestR_x (a : Rt.R) (w : World) (ha : In a) : Calls Try.prog 28 #[rv a] w fun e w' => e = .returned (.int .i64 (Rt.nearest a)) ∧ Below w.heap.size w w' := by
  have hA := Lib.hid ha
  clear ha
  cases ra : Rt.right a with
  | false =>
    have hv : Hid (Rt.nearest a = 0) := by show _ = _; unfold Rt.nearest; rw [ra]; rfl
    have Ra := Lib.hid ra
    clear ra
    go_enter Try.func28, Try.ntmps28
    go_wp2_with fail
    refine (RightR_x a _ hA.out).mono ?_
    rintro e w1 ⟨rfl, b1⟩
    have t1 := (Bx.start w a 23).next b1
    clear b1
    rw [Ra.out]
    go_wp2_with fail
    go_ret
    exact ⟨by rw [hv.out]; try rfl, t1.below⟩
  | true =>
    have Ra := Lib.hid ra
    obtain ⟨a1, a2, a3⟩ := right_small ra
    have hv : Hid (Rt.nearest a = if 2 * (a.n % a.d) < a.d ∨ 2 * (a.n % a.d) = a.d ∧ (a.n / a.d) % 2 = 0 then a.n / a.d else a.n / a.d + 1) := by show _ = _; unfold Rt.nearest; rw [ra]; rfl
    have hf : Hid (Rt.floor a = a.n / a.d) := by show _ = _; unfold Rt.floor; rw [ra]; rfl
    have e1 : a.n / a.d * a.d + a.n % a.d = a.n := by rw [Int.mul_comm]; exact Int.mul_ediv_add_emod a.n a.d
    have e2 : 0 ≤ a.n % a.d := Int.emod_nonneg _ (by omega)
    have e3 : a.n % a.d < a.d := Int.emod_lt_of_pos _ (by omega)
    have e4 : (a.n / a.d).natAbs ≤ a.n.natAbs := Int.natAbs_ediv_le_natAbs a.n a.d
    obtain ⟨q, hq⟩ : ∃ q, q = a.n / a.d := ⟨_, rfl⟩
    obtain ⟨r, hr⟩ : ∃ r, r = a.n % a.d := ⟨_, rfl⟩
    rw [← hq, ← hr] at hv
    rw [← hq] at hf
    rw [← hq] at e4
    rw [← hq, ← hr] at e1
    rw [← hr] at e2 e3
    obtain ⟨m, hm⟩ : ∃ m, q * a.d = m := ⟨_, rfl⟩
    rw [hm] at e1
    have q1 : -1152921504606846976 ≤ q := by omega
    have q2 : q ≤ 1152921504606846976 := by omega
    have m1 : -2305843009213693952 ≤ m := by omega
    have m2 : m ≤ 2305843009213693952 := by omega
    have wm : IntKind.i64.wrap (q * a.d) = m := by rw [hm]; exact IntWalk.i64_in _ (by omega)
    have wr : a.n - m = r := by omega
    have wr1 : IntKind.i64.wrap (a.n - m) = r := by rw [wr]; exact IntWalk.i64_in _ (by omega)
    obtain ⟨u, hu⟩ : ∃ u, a.d - r = u := ⟨_, rfl⟩
    have wu1 : IntKind.i64.wrap (a.d - r) = u := by rw [hu]; exact IntWalk.i64_in _ (by omega)
    have wq1 : IntKind.i64.wrap (q + 1) = q + 1 := IntWalk.i64_in _ (by omega)
    have tm : q.tmod 2 = 0 ↔ q % 2 = 0 := by
      rw [← Int.dvd_iff_tmod_eq_zero, ← Int.dvd_iff_emod_eq_zero]
    obtain ⟨s, hs⟩ : ∃ s, q.tmod 2 = s := ⟨_, rfl⟩
    rw [hs] at tm
    have s1 : -2 ≤ s := by have := Int.lt_tmod_of_pos q (show (0 : Int) < 2 by omega); omega
    have s2 : s ≤ 2 := by have := Int.tmod_lt_of_pos q (show (0 : Int) < 2 by omega); omega
    have ws : IntKind.i64.wrap (q.tmod 2) = s := by rw [hs]; exact IntWalk.i64_in _ (by omega)
    have HF := Lib.hid hf.out
    obtain ⟨g1, hg1⟩ : ∃ g1, decide (r < u) = g1 := ⟨_, rfl⟩
    obtain ⟨g2, hg2⟩ : ∃ g2, (r == u) = g2 := ⟨_, rfl⟩
    obtain ⟨g3, hg3⟩ : ∃ g3, (s == 0) = g3 := ⟨_, rfl⟩
    have hres : Hid (Rt.nearest a = if g1 || (g2 && g3) then q else q + 1) := by
      show _ = _
      rw [hv.out, ← hg1, ← hg2, ← hg3]
      have i1 : (2 * r < a.d) ↔ r < u := by omega
      have i2 : (2 * r = a.d) ↔ r = u := by omega
      simp only [i1, i2, ← tm, Bool.or_eq_true, Bool.and_eq_true, decide_eq_true_iff, beq_iff_eq]
    clear hv hf hq hr e1 e2 e3 e4 ra a1 a2 a3 tm
    clear wr hu
    cases g1 <;> cases g2 <;> cases g3
    all_goals
      go_enter Try.func28, Try.ntmps28
      go_wp2_with fail
      refine (RightR_x a _ hA.out).mono ?_
      rintro e w1 ⟨rfl, b1⟩
      have t1 := (Bx.start w a 23).next b1
      clear b1
      rw [Ra.out]
      have y1 := t1.size
      have y2 := t1.a0
      have y3 := t1.a1
      go_wp2_with fail
      refine (FloorR_x a _ hA.out).mono ?_
      rintro e w2 ⟨rfl, b2⟩
      have t2 := t1.next b2
      clear b2 t1 y1 y2 y3
      rw [HF.out]
      have y1 := t2.size
      have y2 := t2.a0
      have y3 := t2.a1
      go_wp2_with fail
      go_ret
      exact ⟨by rw [hres.out]; try rfl, t2.below⟩

end Go.Proofs.Ytnddfngdlmdmhaa
