/-
  The reference's sum, day, Interest, Discount and value.
-/
import Derived.Test.YtdijhpcnlbjdaaaMon
import Derived.Test.YtdijhpcnlbjdaaaProg
import Derived.WalkKit
import Derived.WalkSpells
import Derived.WalkLawsBesides
import Derived.Lib.Hide
import Derived.IntWalk
import Derived.Deep.DeepCutAuto
import Derived.RegionTactic
import Derived.Deep.QuietTactic
import Derived.BigQuiet
namespace Go.Proofs.Ytdijhpcnlbjdaaa
open Go.RowKit Mon

def I64 (n : Int) : Prop := -9223372036854775808 ≤ n ∧ n ≤ 9223372036854775807
abbrev pv (x : Int × Int) : Value := .tuple #[.int .i64 x.1, .int .i64 x.2]
theorem below_drewN {B : Nat} {a w : World} (h : Below B a w) (n : Nat) : Below B a (w.drewN n) := ⟨h.os, h.tape, h.output, h.size, h.block⟩
theorem chain {W a b : World} (h : Below W.heap.size W a) (k : Below a.heap.size a b) : Below W.heap.size W b := h.trans (k.mono h.size)
def sumB (s : Int) : Bool := decide (sumP s)
def dayB (s : Int) : Bool := decide (dayP s)

theorem sum_x (n : Int) (w : World) : Calls Try.prog 21 #[.int .i64 n] w fun e w' => e = .returned (.bool (sumB n)) ∧ w = w' := by
  by_cases h1 : 0 ≤ n
  · by_cases h2 : n ≤ 1099511627776
    · have hv : Hid (sumB n = true) := decide_eq_true ⟨h1, h2⟩
      go_enter Try.func21, Try.ntmps21
      go_wp2_with fail
      go_ret
      exact ⟨by rw [hv.out]; try rfl, rfl⟩
    · have hv : Hid (sumB n = false) := decide_eq_false (by omega)
      go_enter Try.func21, Try.ntmps21
      go_wp2_with fail
      go_ret
      exact ⟨by rw [hv.out]; try rfl, rfl⟩
  · have hv : Hid (sumB n = false) := decide_eq_false (by omega)
    go_enter Try.func21, Try.ntmps21
    go_wp2_with fail
    go_ret
    exact ⟨by rw [hv.out]; try rfl, rfl⟩

theorem day_x (n : Int) (w : World) : Calls Try.prog 22 #[.int .i64 n] w fun e w' => e = .returned (.bool (dayB n)) ∧ w = w' := by
  by_cases h1 : 0 ≤ n
  · by_cases h2 : n ≤ 100000
    · have hv : Hid (dayB n = true) := decide_eq_true ⟨h1, h2⟩
      go_enter Try.func22, Try.ntmps22
      go_wp2_with fail
      go_ret
      exact ⟨by rw [hv.out]; try rfl, rfl⟩
    · have hv : Hid (dayB n = false) := decide_eq_false (by omega)
      go_enter Try.func22, Try.ntmps22
      go_wp2_with fail
      go_ret
      exact ⟨by rw [hv.out]; try rfl, rfl⟩
  · have hv : Hid (dayB n = false) := decide_eq_false (by omega)
    go_enter Try.func22, Try.ntmps22
    go_wp2_with fail
    go_ret
    exact ⟨by rw [hv.out]; try rfl, rfl⟩

set_option maxHeartbeats 3200000 in
theorem Interest_x (s p f t b : Int) (w : World) : Calls Try.prog 10 #[.int .i64 s, .int .i64 p, .int .i64 f, .int .i64 t, .int .i64 b] w fun e w' => e = .returned (pv (interest s p f t b)) ∧ Below w.heap.size w w' := by
  by_cases hs : sumP s
  case neg =>
    have S : Hid (sumB s = false) := decide_eq_false hs
    have hv : Hid (interest s p f t b = (0, 1)) := if_neg (by omega)
    clear hs
    go_enter Try.func10, Try.ntmps10
    go_wp2_with fail
    refine (sum_x s _).mono ?_
    rintro e w1 ⟨rfl, rfl⟩
    rw [S.out]
    go_wp2_with fail
    go_ret2
    exact ⟨by rw [hv.out]; try rfl, Below.refl _ _⟩
  have S : Hid (sumB s = true) := decide_eq_true hs
  by_cases p0 : p < 0
  · have hv : Hid (interest s p f t b = (0, 1)) := if_neg (by omega)
    clear hs
    go_enter Try.func10, Try.ntmps10
    go_wp2_with fail
    refine (sum_x s _).mono ?_
    rintro e w1 ⟨rfl, rfl⟩
    rw [S.out]
    go_wp2_with fail
    go_ret2
    exact ⟨by rw [hv.out]; try rfl, Below.refl _ _⟩
  by_cases p1 : 1000 < p
  · have hv : Hid (interest s p f t b = (0, 1)) := if_neg (by omega)
    clear hs
    go_enter Try.func10, Try.ntmps10
    go_wp2_with fail
    refine (sum_x s _).mono ?_
    rintro e w1 ⟨rfl, rfl⟩
    rw [S.out]
    go_wp2_with fail
    go_ret2
    exact ⟨by rw [hv.out]; try rfl, Below.refl _ _⟩
  by_cases hf : dayP f
  case neg =>
    have F : Hid (dayB f = false) := decide_eq_false hf
    have hv : Hid (interest s p f t b = (0, 1)) := if_neg (by omega)
    clear hs hf
    go_enter Try.func10, Try.ntmps10
    go_wp2_with fail
    refine (sum_x s _).mono ?_
    rintro e w1 ⟨rfl, rfl⟩
    rw [S.out]
    go_wp2_with fail
    refine (day_x f _).mono ?_
    rintro e w1 ⟨rfl, rfl⟩
    rw [F.out]
    go_wp2_with fail
    go_ret2
    exact ⟨by rw [hv.out]; try rfl, Below.refl _ _⟩
  have F : Hid (dayB f = true) := decide_eq_true hf
  by_cases ht : dayP t
  case neg =>
    have T : Hid (dayB t = false) := decide_eq_false ht
    have hv : Hid (interest s p f t b = (0, 1)) := if_neg (by omega)
    clear hs hf ht
    go_enter Try.func10, Try.ntmps10
    go_wp2_with fail
    refine (sum_x s _).mono ?_
    rintro e w1 ⟨rfl, rfl⟩
    rw [S.out]
    go_wp2_with fail
    refine (day_x f _).mono ?_
    rintro e w1 ⟨rfl, rfl⟩
    rw [F.out]
    go_wp2_with fail
    refine (day_x t _).mono ?_
    rintro e w1 ⟨rfl, rfl⟩
    rw [T.out]
    go_wp2_with fail
    go_ret2
    exact ⟨by rw [hv.out]; try rfl, Below.refl _ _⟩
  have T : Hid (dayB t = true) := decide_eq_true ht
  by_cases ft : t < f
  · have hv : Hid (interest s p f t b = (0, 1)) := if_neg (by omega)
    clear hs hf ht
    go_enter Try.func10, Try.ntmps10
    go_wp2_with fail
    refine (sum_x s _).mono ?_
    rintro e w1 ⟨rfl, rfl⟩
    rw [S.out]
    go_wp2_with fail
    refine (day_x f _).mono ?_
    rintro e w1 ⟨rfl, rfl⟩
    rw [F.out]
    go_wp2_with fail
    refine (day_x t _).mono ?_
    rintro e w1 ⟨rfl, rfl⟩
    rw [T.out]
    go_wp2_with fail
    go_ret2
    exact ⟨by rw [hv.out]; try rfl, Below.refl _ _⟩
  by_cases hb : b = 360 ∨ b = 365
  case neg =>
    have hv : Hid (interest s p f t b = (0, 1)) := if_neg (by omega)
    clear hs hf ht
    have c1 : (b != 360) = true := by simp; omega
    have c2 : (b != 365) = true := by simp; omega
    clear hb
    go_enter Try.func10, Try.ntmps10
    go_wp2_with fail
    refine (sum_x s _).mono ?_
    rintro e w1 ⟨rfl, rfl⟩
    rw [S.out]
    go_wp2_with fail
    refine (day_x f _).mono ?_
    rintro e w1 ⟨rfl, rfl⟩
    rw [F.out]
    go_wp2_with fail
    refine (day_x t _).mono ?_
    rintro e w1 ⟨rfl, rfl⟩
    rw [T.out]
    go_wp2_with fail
    go_ret2
    exact ⟨by rw [hv.out]; try rfl, Below.refl _ _⟩
  obtain ⟨k, hk⟩ : ∃ k, p * (t - f) = k := ⟨_, rfl⟩
  have k0 : 0 ≤ k := by rw [← hk]; exact Int.mul_nonneg (by omega) (by omega)
  have k1 : k ≤ 100000000 := by
    rw [← hk]
    have := Int.mul_le_mul (show p ≤ 1000 by omega) (show t - f ≤ 100000 by omega) (by omega) (by omega)
    omega
  obtain ⟨s0, s1⟩ := hs
  obtain ⟨f0, f1⟩ := hf
  obtain ⟨t0, t1⟩ := ht
  rcases hb with rfl | rfl
  · obtain ⟨q, hq⟩ : ∃ q, s / 360000 = q := ⟨_, rfl⟩
    obtain ⟨g, hg⟩ : ∃ g, s % 360000 = g := ⟨_, rfl⟩
    have q0 : 0 ≤ q := by omega
    have q1 : q ≤ 3100000 := by omega
    have g0 : 0 ≤ g := by omega
    have g1 : g < 360000 := by omega
    obtain ⟨x, hx⟩ : ∃ x, q * k = x := ⟨_, rfl⟩
    obtain ⟨y, hy⟩ : ∃ y, g * k = y := ⟨_, rfl⟩
    have x0 : 0 ≤ x := by rw [← hx]; exact Int.mul_nonneg q0 k0
    have x1 : x ≤ 310000000000000 := by
      rw [← hx]
      have := Int.mul_le_mul q1 k1 k0 (by omega)
      omega
    have y0 : 0 ≤ y := by rw [← hy]; exact Int.mul_nonneg g0 k0
    have y1 : y ≤ 36500000000000 := by
      rw [← hy]
      have := Int.mul_le_mul (show g ≤ 365000 by omega) k1 k0 (by omega)
      omega
    have u1 : s.tdiv 360000 = q := by rw [Int.tdiv_eq_ediv_of_nonneg s0]; exact hq
    have u2 : s.tmod 360000 = g := by rw [Int.tmod_eq_emod_of_nonneg s0]; exact hg
    have u3 : IntKind.i64.wrap q = q := IntWalk.i64_in _ (by omega)
    have u4 : IntKind.i64.wrap g = g := IntWalk.i64_in _ (by omega)
    have u5 : IntKind.i64.wrap x = x := IntWalk.i64_in _ (by omega)
    have u6 : IntKind.i64.wrap y = y := IntWalk.i64_in _ (by omega)
    obtain ⟨z, hz⟩ : ∃ z, y / 360000 = z := ⟨_, rfl⟩
    have z0 : 0 ≤ z := by omega
    have z1 : z ≤ 36500000000000 := by omega
    have u7 : y.tdiv 360000 = z := by rw [Int.tdiv_eq_ediv_of_nonneg y0]; exact hz
    have u8 : IntKind.i64.wrap z = z := IntWalk.i64_in _ (by omega)
    obtain ⟨n, hn⟩ : ∃ n, x + z = n := ⟨_, rfl⟩
    have u9 : IntKind.i64.wrap n = n := IntWalk.i64_in _ (by omega)
    have hv : interest s p f t 360 = cap n := by
      have e := parts s k 360000
      rw [hq, hg, hx, hy, hz, hn] at e
      unfold interest
      rw [if_pos ⟨⟨s0, s1⟩, by omega, by omega, ⟨f0, f1⟩, ⟨t0, t1⟩, by omega, by omega⟩, hk, e]
      rfl
    have Hq := Lib.hid hq
    have Hg := Lib.hid hg
    have Hz := Lib.hid hz
    clear hq hg hz
    by_cases c : 1099511627776 < n
    · have HV : Hid (interest s p f t 360 = (0, 3)) := by show _ = _; rw [hv]; exact if_pos c
      clear hv
      go_enter Try.func10, Try.ntmps10
      go_wp2_with fail
      refine (sum_x s _).mono ?_
      rintro e w1 ⟨rfl, rfl⟩
      rw [S.out]
      go_wp2_with fail
      refine (day_x f _).mono ?_
      rintro e w1 ⟨rfl, rfl⟩
      rw [F.out]
      go_wp2_with fail
      refine (day_x t _).mono ?_
      rintro e w1 ⟨rfl, rfl⟩
      rw [T.out]
      go_wp2_with fail
      go_quiet (fail)
      go_wp2_with fail
      go_ret2
      exact ⟨by rw [HV.out]; try rfl, below_drewN (Below.refl _ _) _⟩
    · have HV : Hid (interest s p f t 360 = (n, 0)) := by show _ = _; rw [hv]; exact if_neg c
      clear hv
      go_enter Try.func10, Try.ntmps10
      go_wp2_with fail
      refine (sum_x s _).mono ?_
      rintro e w1 ⟨rfl, rfl⟩
      rw [S.out]
      go_wp2_with fail
      refine (day_x f _).mono ?_
      rintro e w1 ⟨rfl, rfl⟩
      rw [F.out]
      go_wp2_with fail
      refine (day_x t _).mono ?_
      rintro e w1 ⟨rfl, rfl⟩
      rw [T.out]
      go_wp2_with fail
      go_quiet (fail)
      go_wp2_with fail
      go_ret2
      exact ⟨by rw [HV.out]; try rfl, below_drewN (Below.refl _ _) _⟩
  · obtain ⟨q, hq⟩ : ∃ q, s / 365000 = q := ⟨_, rfl⟩
    obtain ⟨g, hg⟩ : ∃ g, s % 365000 = g := ⟨_, rfl⟩
    have q0 : 0 ≤ q := by omega
    have q1 : q ≤ 3100000 := by omega
    have g0 : 0 ≤ g := by omega
    have g1 : g < 365000 := by omega
    obtain ⟨x, hx⟩ : ∃ x, q * k = x := ⟨_, rfl⟩
    obtain ⟨y, hy⟩ : ∃ y, g * k = y := ⟨_, rfl⟩
    have x0 : 0 ≤ x := by rw [← hx]; exact Int.mul_nonneg q0 k0
    have x1 : x ≤ 310000000000000 := by
      rw [← hx]
      have := Int.mul_le_mul q1 k1 k0 (by omega)
      omega
    have y0 : 0 ≤ y := by rw [← hy]; exact Int.mul_nonneg g0 k0
    have y1 : y ≤ 36500000000000 := by
      rw [← hy]
      have := Int.mul_le_mul (show g ≤ 365000 by omega) k1 k0 (by omega)
      omega
    have u1 : s.tdiv 365000 = q := by rw [Int.tdiv_eq_ediv_of_nonneg s0]; exact hq
    have u2 : s.tmod 365000 = g := by rw [Int.tmod_eq_emod_of_nonneg s0]; exact hg
    have u3 : IntKind.i64.wrap q = q := IntWalk.i64_in _ (by omega)
    have u4 : IntKind.i64.wrap g = g := IntWalk.i64_in _ (by omega)
    have u5 : IntKind.i64.wrap x = x := IntWalk.i64_in _ (by omega)
    have u6 : IntKind.i64.wrap y = y := IntWalk.i64_in _ (by omega)
    obtain ⟨z, hz⟩ : ∃ z, y / 365000 = z := ⟨_, rfl⟩
    have z0 : 0 ≤ z := by omega
    have z1 : z ≤ 36500000000000 := by omega
    have u7 : y.tdiv 365000 = z := by rw [Int.tdiv_eq_ediv_of_nonneg y0]; exact hz
    have u8 : IntKind.i64.wrap z = z := IntWalk.i64_in _ (by omega)
    obtain ⟨n, hn⟩ : ∃ n, x + z = n := ⟨_, rfl⟩
    have u9 : IntKind.i64.wrap n = n := IntWalk.i64_in _ (by omega)
    have hv : interest s p f t 365 = cap n := by
      have e := parts s k 365000
      rw [hq, hg, hx, hy, hz, hn] at e
      unfold interest
      rw [if_pos ⟨⟨s0, s1⟩, by omega, by omega, ⟨f0, f1⟩, ⟨t0, t1⟩, by omega, by omega⟩, hk, e]
      rfl
    have Hq := Lib.hid hq
    have Hg := Lib.hid hg
    have Hz := Lib.hid hz
    clear hq hg hz
    by_cases c : 1099511627776 < n
    · have HV : Hid (interest s p f t 365 = (0, 3)) := by show _ = _; rw [hv]; exact if_pos c
      clear hv
      go_enter Try.func10, Try.ntmps10
      go_wp2_with fail
      refine (sum_x s _).mono ?_
      rintro e w1 ⟨rfl, rfl⟩
      rw [S.out]
      go_wp2_with fail
      refine (day_x f _).mono ?_
      rintro e w1 ⟨rfl, rfl⟩
      rw [F.out]
      go_wp2_with fail
      refine (day_x t _).mono ?_
      rintro e w1 ⟨rfl, rfl⟩
      rw [T.out]
      go_wp2_with fail
      go_quiet (fail)
      go_wp2_with fail
      go_ret2
      exact ⟨by rw [HV.out]; try rfl, below_drewN (Below.refl _ _) _⟩
    · have HV : Hid (interest s p f t 365 = (n, 0)) := by show _ = _; rw [hv]; exact if_neg c
      clear hv
      go_enter Try.func10, Try.ntmps10
      go_wp2_with fail
      refine (sum_x s _).mono ?_
      rintro e w1 ⟨rfl, rfl⟩
      rw [S.out]
      go_wp2_with fail
      refine (day_x f _).mono ?_
      rintro e w1 ⟨rfl, rfl⟩
      rw [F.out]
      go_wp2_with fail
      refine (day_x t _).mono ?_
      rintro e w1 ⟨rfl, rfl⟩
      rw [T.out]
      go_wp2_with fail
      go_quiet (fail)
      go_wp2_with fail
      go_ret2
      exact ⟨by rw [HV.out]; try rfl, below_drewN (Below.refl _ _) _⟩

end Go.Proofs.Ytdijhpcnlbjdaaa
