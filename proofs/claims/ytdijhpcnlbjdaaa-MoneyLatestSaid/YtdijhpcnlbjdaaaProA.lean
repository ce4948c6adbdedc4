/-
  The program's isSum, isPermille, isDay, isPart and scale.
-/
import Derived.Test.YtdijhpcnlbjdaaaRefB
import Derived.Test.YtdijhpcnlbjdaaaDiv
import Derived.OwnWalk
namespace Go.Proofs.Ytdijhpcnlbjdaaa
open Go.RowKit Mon

def permB (p : Int) : Bool := decide (0 ≤ p ∧ p ≤ 1000)
def partB (n : Int) : Bool := decide (partP n)

theorem isSum_x (n : Int) (w : World) : Calls Try.prog 17 #[.int .i64 n] w fun e w' => e = .returned (.bool (sumB n)) ∧ w = w' := by
  by_cases h1 : 0 ≤ n
  · by_cases h2 : n ≤ 1099511627776
    · have hv : Hid (sumB n = true) := decide_eq_true ⟨h1, h2⟩
      go_enter Try.func17, Try.ntmps17
      go_wp2_with fail
      go_ret
      exact ⟨by rw [hv.out]; try rfl, rfl⟩
    · have hv : Hid (sumB n = false) := decide_eq_false (by omega)
      go_enter Try.func17, Try.ntmps17
      go_wp2_with fail
      go_ret
      exact ⟨by rw [hv.out]; try rfl, rfl⟩
  · have hv : Hid (sumB n = false) := decide_eq_false (by omega)
    go_enter Try.func17, Try.ntmps17
    go_wp2_with fail
    go_ret
    exact ⟨by rw [hv.out]; try rfl, rfl⟩

theorem isPermille_x (n : Int) (w : World) : Calls Try.prog 18 #[.int .i64 n] w fun e w' => e = .returned (.bool (permB n)) ∧ w = w' := by
  by_cases h1 : 0 ≤ n
  · by_cases h2 : n ≤ 1000
    · have hv : Hid (permB n = true) := decide_eq_true ⟨h1, h2⟩
      go_enter Try.func18, Try.ntmps18
      go_wp2_with fail
      go_ret
      exact ⟨by rw [hv.out]; try rfl, rfl⟩
    · have hv : Hid (permB n = false) := decide_eq_false (by omega)
      go_enter Try.func18, Try.ntmps18
      go_wp2_with fail
      go_ret
      exact ⟨by rw [hv.out]; try rfl, rfl⟩
  · have hv : Hid (permB n = false) := decide_eq_false (by omega)
    go_enter Try.func18, Try.ntmps18
    go_wp2_with fail
    go_ret
    exact ⟨by rw [hv.out]; try rfl, rfl⟩

theorem isDay_x (n : Int) (w : World) : Calls Try.prog 19 #[.int .i64 n] w fun e w' => e = .returned (.bool (dayB n)) ∧ w = w' := by
  by_cases h1 : 0 ≤ n
  · by_cases h2 : n ≤ 100000
    · have hv : Hid (dayB n = true) := decide_eq_true ⟨h1, h2⟩
      go_enter Try.func19, Try.ntmps19
      go_wp2_with fail
      go_ret
      exact ⟨by rw [hv.out]; try rfl, rfl⟩
    · have hv : Hid (dayB n = false) := decide_eq_false (by omega)
      go_enter Try.func19, Try.ntmps19
      go_wp2_with fail
      go_ret
      exact ⟨by rw [hv.out]; try rfl, rfl⟩
  · have hv : Hid (dayB n = false) := decide_eq_false (by omega)
    go_enter Try.func19, Try.ntmps19
    go_wp2_with fail
    go_ret
    exact ⟨by rw [hv.out]; try rfl, rfl⟩

theorem isPart_x (n : Int) (w : World) : Calls Try.prog 28 #[.int .i64 n] w fun e w' => e = .returned (.bool (partB n)) ∧ w = w' := by
  by_cases h1 : 1 ≤ n
  · by_cases h2 : n ≤ 1073741824
    · have hv : Hid (partB n = true) := decide_eq_true ⟨h1, h2⟩
      go_enter Try.func28, Try.ntmps28
      go_wp2_with fail
      go_ret
      exact ⟨by rw [hv.out]; try rfl, rfl⟩
    · have hv : Hid (partB n = false) := decide_eq_false (by omega)
      go_enter Try.func28, Try.ntmps28
      go_wp2_with fail
      go_ret
      exact ⟨by rw [hv.out]; try rfl, rfl⟩
  · have hv : Hid (partB n = false) := decide_eq_false (by omega)
    go_enter Try.func28, Try.ntmps28
    go_wp2_with fail
    go_ret
    exact ⟨by rw [hv.out]; try rfl, rfl⟩

/-- what scale answers -/
def sc (s a b : Nat) : Value := if 1099511627776 < s * a / b then .tuple #[.int .i64 0, .bool false, .int .i64 3] else .tuple #[.int .i64 ((s * a / b : Nat) : Int), .bool (decide (s * a % b = 0)), .int .i64 0]

set_option maxHeartbeats 3200000 in
theorem scale_x (s a b : Nat) (w : World) (hs : s < 9223372036854775808) (ha : a < 9223372036854775808) (h0 : 0 < b) (hb : b < 9223372036854775808) :
    Calls Try.prog 20 #[.int .i64 s, .int .i64 a, .int .i64 b] w fun e w' => e = .returned (sc s a b) ∧ Below w.heap.size w w' := by
  have e1 : IntKind.u64.wrap (s : Int) = (s : Int) := wrapU s (by omega)
  have e2 : IntKind.u64.wrap (a : Int) = (a : Int) := wrapU a (by omega)
  have e3 : IntKind.u64.wrap (b : Int) = (b : Int) := wrapU b (by omega)
  have HM : Hid (∀ w : World, Calls Try.prog 26 #[.int .u64 s, .int .u64 a] w fun e w' => e = .returned (.tuple #[.int .u64 ((s * a / 18446744073709551616 : Nat) : Int), .int .u64 ((s * a % 18446744073709551616 : Nat) : Int)]) ∧ w' = w) := fun w => mul64_x s a (by omega) (by omega) w
  have eN : s * a / 18446744073709551616 * 18446744073709551616 + s * a % 18446744073709551616 = s * a := Nat.div_add_mod' _ _
  have hl : s * a % 18446744073709551616 < 18446744073709551616 := Nat.mod_lt _ (by decide)
  show Calls Try.prog 20 #[.int .i64 s, .int .i64 a, .int .i64 b] w fun e w' => e = .returned (sc s a b) ∧ Below w.heap.size w w'
  obtain ⟨X, hX⟩ : ∃ X, X = s * a := ⟨_, rfl⟩
  have hsc : sc s a b = if 1099511627776 < X / b then .tuple #[.int .i64 0, .bool false, .int .i64 3] else .tuple #[.int .i64 ((X / b : Nat) : Int), .bool (decide (X % b = 0)), .int .i64 0] := by rw [hX]; rfl
  rw [← hX] at HM eN hl
  clear hX
  obtain ⟨H, hH⟩ : ∃ H, H = X / 18446744073709551616 := ⟨_, rfl⟩
  obtain ⟨L, hL⟩ : ∃ L, L = X % 18446744073709551616 := ⟨_, rfl⟩
  rw [← hH, ← hL] at HM eN
  rw [← hL] at hl
  clear hH hL
  by_cases c : b ≤ H
  · have c1 : decide ((b : Int) ≤ (H : Int)) = true := decide_eq_true (by omega)
    have hq : 1099511627776 < X / b := by
      have h1 : b * 18446744073709551616 ≤ X := by
        have := Nat.mul_le_mul_right 18446744073709551616 c
        omega
      have h2 : 18446744073709551616 ≤ X / b := by
        rw [Nat.le_div_iff_mul_le h0, Nat.mul_comm]
        exact h1
      omega
    have hv : Hid (sc s a b = .tuple #[.int .i64 0, .bool false, .int .i64 3]) := by show _ = _; rw [hsc, if_pos hq]
    clear hsc hq eN hl hs ha
    go_enter Try.func20, Try.ntmps20
    go_wp2_with fail
    refine (HM.out _).mono ?_
    rintro e w2 ⟨rfl, rfl⟩
    go_wp2_with fail
    go_ret3
    exact ⟨by rw [hv.out]; try rfl, Below.refl _ _⟩
  · have c1 : decide ((b : Int) ≤ (H : Int)) = false := decide_eq_false (by omega)
    have HD : Hid (∀ w : World, Calls Try.prog 27 #[.int .u64 H, .int .u64 L, .int .u64 b] w fun e w' => e = .returned (.tuple #[.int .u64 ((X / b : Nat) : Int), .int .u64 ((X % b : Nat) : Int)]) ∧ Below w.heap.size w w') := fun w => by
      have h := div64_x H L b w (by omega) hl (by omega)
      rw [eN] at h
      exact h
    obtain ⟨Q, hQ⟩ : ∃ Q, Q = X / b := ⟨_, rfl⟩
    obtain ⟨T, hT⟩ : ∃ T, T = X % b := ⟨_, rfl⟩
    rw [← hQ, ← hT] at hsc HD
    clear hQ hT eN hl hs ha
    by_cases q : 1099511627776 < Q
    · have hv : Hid (sc s a b = .tuple #[.int .i64 0, .bool false, .int .i64 3]) := by show _ = _; rw [hsc, if_pos q]
      have q1 : decide ((1099511627776 : Int) < (Q : Int)) = true := decide_eq_true (by omega)
      clear hsc
      go_enter Try.func20, Try.ntmps20
      go_wp2_with fail
      refine (HM.out _).mono ?_
      rintro e w2 ⟨rfl, rfl⟩
      go_wp2_with fail
      refine (HD.out _).mono ?_
      rintro e w3 ⟨rfl, b3⟩
      go_wp2_with fail
      go_ret3
      exact ⟨by rw [hv.out]; try rfl, b3⟩
    · have hv : Hid (sc s a b = .tuple #[.int .i64 (Q : Int), .bool (decide (T = 0)), .int .i64 0]) := by show _ = _; rw [hsc, if_neg q]
      have q1 : decide ((1099511627776 : Int) < (Q : Int)) = false := decide_eq_false (by omega)
      have q2 : IntKind.i64.wrap (Q : Int) = (Q : Int) := IntWalk.i64_in _ (by omega)
      clear hsc
      by_cases t : T = 0
      · have t1 : ((T : Int) == 0) = true := by simp [t]
        have tv : Hid (decide (T = 0) = true) := decide_eq_true t
        clear t
        go_enter Try.func20, Try.ntmps20
        go_wp2_with fail
        refine (HM.out _).mono ?_
        rintro e w2 ⟨rfl, rfl⟩
        go_wp2_with fail
        refine (HD.out _).mono ?_
        rintro e w3 ⟨rfl, b3⟩
        go_wp2_with fail
        go_ret3
        exact ⟨by rw [hv.out, tv.out]; try rfl, b3⟩
      · have t1 : ((T : Int) == 0) = false := by simp; omega
        have tv : Hid (decide (T = 0) = false) := decide_eq_false t
        clear t
        go_enter Try.func20, Try.ntmps20
        go_wp2_with fail
        refine (HM.out _).mono ?_
        rintro e w2 ⟨rfl, rfl⟩
        go_wp2_with fail
        refine (HD.out _).mono ?_
        rintro e w3 ⟨rfl, b3⟩
        go_wp2_with fail
        go_ret3
        exact ⟨by rw [hv.out, tv.out]; try rfl, b3⟩

end Go.Proofs.Ytdijhpcnlbjdaaa
