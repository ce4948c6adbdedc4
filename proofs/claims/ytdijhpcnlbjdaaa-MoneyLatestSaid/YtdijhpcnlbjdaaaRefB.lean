/-
  The reference's Discount and value.
-/
import Derived.Test.YtdijhpcnlbjdaaaRefA
namespace Go.Proofs.Ytdijhpcnlbjdaaa
open Go.RowKit Mon

set_option maxHeartbeats 3200000 in
theorem Discount_x (s p n : Int) (w : World) : Calls Try.prog 12 #[.int .i64 s, .int .i64 p, .int .i64 n] w fun e w' => e = .returned (pv (discount s p n)) ∧ Below w.heap.size w w' := by
  by_cases hs : sumP s
  case neg =>
    have S : Hid (sumB s = false) := decide_eq_false hs
    have hv : Hid (discount s p n = (0, 1)) := if_neg (by omega)
    clear hs
    go_enter Try.func12, Try.ntmps12
    go_wp2_with fail
    refine (sum_x s _).mono ?_
    rintro e w1 ⟨rfl, rfl⟩
    rw [S.out]
    go_wp2_with fail
    go_ret2
    exact ⟨by rw [hv.out]; try rfl, Below.refl _ _⟩
  have S : Hid (sumB s = true) := decide_eq_true hs
  by_cases p0 : p < 0
  · have hv : Hid (discount s p n = (0, 1)) := if_neg (by omega)
    clear hs
    go_enter Try.func12, Try.ntmps12
    go_wp2_with fail
    refine (sum_x s _).mono ?_
    rintro e w1 ⟨rfl, rfl⟩
    rw [S.out]
    go_wp2_with fail
    go_ret2
    exact ⟨by rw [hv.out]; try rfl, Below.refl _ _⟩
  by_cases p1 : 1000 < p
  · have hv : Hid (discount s p n = (0, 1)) := if_neg (by omega)
    clear hs
    go_enter Try.func12, Try.ntmps12
    go_wp2_with fail
    refine (sum_x s _).mono ?_
    rintro e w1 ⟨rfl, rfl⟩
    rw [S.out]
    go_wp2_with fail
    go_ret2
    exact ⟨by rw [hv.out]; try rfl, Below.refl _ _⟩
  by_cases n0 : n < 0
  · have hv : Hid (discount s p n = (0, 1)) := if_neg (by omega)
    clear hs
    go_enter Try.func12, Try.ntmps12
    go_wp2_with fail
    refine (sum_x s _).mono ?_
    rintro e w1 ⟨rfl, rfl⟩
    rw [S.out]
    go_wp2_with fail
    go_ret2
    exact ⟨by rw [hv.out]; try rfl, Below.refl _ _⟩
  by_cases n1 : 20000 < n
  · have hv : Hid (discount s p n = (0, 1)) := if_neg (by omega)
    clear hs
    go_enter Try.func12, Try.ntmps12
    go_wp2_with fail
    refine (sum_x s _).mono ?_
    rintro e w1 ⟨rfl, rfl⟩
    rw [S.out]
    go_wp2_with fail
    go_ret2
    exact ⟨by rw [hv.out]; try rfl, Below.refl _ _⟩
  obtain ⟨k, hk⟩ : ∃ k, p * n = k := ⟨_, rfl⟩
  have k0 : 0 ≤ k := by rw [← hk]; exact Int.mul_nonneg (by omega) (by omega)
  have k1 : k ≤ 20000000 := by
    rw [← hk]
    have := Int.mul_le_mul (show p ≤ 1000 by omega) (show n ≤ 20000 by omega) (by omega) (by omega)
    omega
  obtain ⟨s0, s1⟩ := hs
  obtain ⟨q, hq⟩ : ∃ q, s / 360000 = q := ⟨_, rfl⟩
  obtain ⟨g, hg⟩ : ∃ g, s % 360000 = g := ⟨_, rfl⟩
  have q0 : 0 ≤ q := by omega
  have q1 : q ≤ 3100000 := by omega
  have g0 : 0 ≤ g := by omega
  have g1 : g < 360000 := by omega
  obtain ⟨x, hx⟩ : ∃ x, q * k = x := ⟨_, rfl⟩
  obtain ⟨y, hy⟩ : ∃ y, g * k = y := ⟨_, rfl⟩
  have x0 : 0 ≤ x := by rw [← hx]; exact Int.mul_nonneg q0 k0
  have x1 : x ≤ 62000000000000 := by
    rw [← hx]
    have := Int.mul_le_mul q1 k1 k0 (by omega)
    omega
  have y0 : 0 ≤ y := by rw [← hy]; exact Int.mul_nonneg g0 k0
  have y1 : y ≤ 7200000000000 := by
    rw [← hy]
    have := Int.mul_le_mul (show g ≤ 360000 by omega) k1 k0 (by omega)
    omega
  obtain ⟨y', hy'⟩ : ∃ y', y + 360000 - 1 = y' := ⟨_, rfl⟩
  have u1 : s.tdiv 360000 = q := by rw [Int.tdiv_eq_ediv_of_nonneg s0]; exact hq
  have u2 : s.tmod 360000 = g := by rw [Int.tmod_eq_emod_of_nonneg s0]; exact hg
  have u3 : IntKind.i64.wrap q = q := IntWalk.i64_in _ (by omega)
  have u4 : IntKind.i64.wrap g = g := IntWalk.i64_in _ (by omega)
  have u5 : IntKind.i64.wrap x = x := IntWalk.i64_in _ (by omega)
  have u6 : IntKind.i64.wrap y = y := IntWalk.i64_in _ (by omega)
  have v1 : IntKind.i64.wrap (y + 360000) = y + 360000 := IntWalk.i64_in _ (by omega)
  have v2 : IntKind.i64.wrap y' = y' := IntWalk.i64_in _ (by omega)
  obtain ⟨z, hz⟩ : ∃ z, y' / 360000 = z := ⟨_, rfl⟩
  have z0 : 0 ≤ z := by omega
  have z1 : z ≤ 36500000000000 := by omega
  have u7 : y'.tdiv 360000 = z := by rw [Int.tdiv_eq_ediv_of_nonneg (by omega)]; exact hz
  have u8 : IntKind.i64.wrap z = z := IntWalk.i64_in _ (by omega)
  obtain ⟨r, hr⟩ : ∃ r, x + z = r := ⟨_, rfl⟩
  have u9 : IntKind.i64.wrap r = r := IntWalk.i64_in _ (by omega)
  have e : ceil (s * k) = r := by
    have h1 : s * k = s % 360000 * k + (s / 360000 * k) * 360000 := by
      have h := Int.emod_add_mul_ediv s 360000
      have : (s % 360000 + 360000 * (s / 360000)) * k = s * k := by rw [h]
      rw [← this, Int.add_mul]
      congr 1
      rw [Int.mul_comm 360000, Int.mul_assoc, Int.mul_comm 360000, ← Int.mul_assoc]
    unfold ceil
    rw [h1, hq, hg, hx, hy]
    omega
  have hv : discount s p n = if s < r then (0, 3) else (r, 0) := by
    unfold discount
    rw [if_pos ⟨⟨s0, s1⟩, by omega, by omega, by omega, by omega⟩, hk, e]
  have Hq := Lib.hid hq
  have Hg := Lib.hid hg
  have Hz := Lib.hid hz
  clear hq hg hz e
  by_cases c : s < r
  · have HV : Hid (discount s p n = (0, 3)) := by show _ = _; rw [hv]; exact if_pos c
    clear hv
    go_enter Try.func12, Try.ntmps12
    go_wp2_with fail
    refine (sum_x s _).mono ?_
    rintro e w1 ⟨rfl, rfl⟩
    rw [S.out]
    go_wp2_with fail
    go_quiet (fail)
    go_wp2_with fail
    go_ret2
    exact ⟨by rw [HV.out]; try rfl, below_drewN (Below.refl _ _) _⟩
  · have HV : Hid (discount s p n = (r, 0)) := by show _ = _; rw [hv]; exact if_neg c
    clear hv
    go_enter Try.func12, Try.ntmps12
    go_wp2_with fail
    refine (sum_x s _).mono ?_
    rintro e w1 ⟨rfl, rfl⟩
    rw [S.out]
    go_wp2_with fail
    go_quiet (fail)
    go_wp2_with fail
    go_ret2
    exact ⟨by rw [HV.out]; try rfl, below_drewN (Below.refl _ _) _⟩

set_option maxHeartbeats 3200000 in
theorem value_x (s a b : Int) (w : World) (hs : sumP s) (ha : partP a) (hb : partP b) : Calls Try.prog 25 #[.int .i64 s, .int .i64 a, .int .i64 b] w fun e w' => e = .returned (pv (val s a b)) ∧ ∃ q, w' = w.drewN q := by
  obtain ⟨s0, s1⟩ := hs
  obtain ⟨a0, a1⟩ := ha
  obtain ⟨b0, b1⟩ := hb
  obtain ⟨q, hq⟩ : ∃ q, s / b = q := ⟨_, rfl⟩
  obtain ⟨g, hg⟩ : ∃ g, s % b = g := ⟨_, rfl⟩
  obtain ⟨m, hm⟩ : ∃ m, 1099511627776 / a = m := ⟨_, rfl⟩
  have q0 : 0 ≤ q := by rw [← hq]; exact Int.ediv_nonneg s0 (by omega)
  have q1 : q ≤ 1099511627776 := by rw [← hq]; exact Int.le_trans (Int.ediv_le_self _ s0) s1
  have g0 : 0 ≤ g := by rw [← hg]; exact Int.emod_nonneg _ (by omega)
  have g1 : g < b := by rw [← hg]; exact Int.emod_lt_of_pos _ (by omega)
  have m0 : 0 ≤ m := by rw [← hm]; exact Int.ediv_nonneg (by omega) (by omega)
  have m1 : m ≤ 1099511627776 := by rw [← hm]; exact Int.ediv_le_self _ (by omega)
  have m2 : m * a ≤ 1099511627776 := by rw [← hm]; exact Int.ediv_mul_le _ (by omega)
  have m3 : 1099511627776 < (m + 1) * a := by
    have h := Int.lt_ediv_add_one_mul_self 1099511627776 (show 0 < a by omega)
    rw [hm] at h
    exact h
  have u1 : s.tdiv b = q := by rw [Int.tdiv_eq_ediv_of_nonneg s0]; exact hq
  have u2 : s.tmod b = g := by rw [Int.tmod_eq_emod_of_nonneg s0]; exact hg
  have u0 : Int.tdiv 1099511627776 a = m := by rw [Int.tdiv_eq_ediv_of_nonneg (by omega)]; exact hm
  have t1 : (a == 0) = false := by simp; omega
  have t2 : (b == 0) = false := by simp; omega
  have u3 : IntKind.i64.wrap q = q := IntWalk.i64_in _ (by omega)
  have u4 : IntKind.i64.wrap g = g := IntWalk.i64_in _ (by omega)
  have v3 : IntKind.i64.wrap m = m := IntWalk.i64_in _ (by omega)
  have e0 := parts s a b
  rw [hq, hg] at e0
  obtain ⟨x, hx⟩ : ∃ x, q * a = x := ⟨_, rfl⟩
  obtain ⟨y, hy⟩ : ∃ y, g * a = y := ⟨_, rfl⟩
  have y0 : 0 ≤ y := by rw [← hy]; exact Int.mul_nonneg g0 (by omega)
  have y1 : y ≤ 1152921504606846976 := by
    rw [← hy]
    have := Int.mul_le_mul (show g ≤ 1073741824 by omega) a1 (by omega) (by omega)
    omega
  obtain ⟨z, hz⟩ : ∃ z, y / b = z := ⟨_, rfl⟩
  have z0 : 0 ≤ z := by rw [← hz]; exact Int.ediv_nonneg y0 (by omega)
  have z1 : z ≤ 1152921504606846976 := by rw [← hz]; exact Int.le_trans (Int.ediv_le_self _ y0) y1
  rw [hx, hy, hz] at e0
  have Hq := Lib.hid hq
  have Hg := Lib.hid hg
  have Hm := Lib.hid hm
  clear hq hg hm
  by_cases c : m < q
  · have x2 : 1099511627776 < x := by
      rw [← hx]
      have := Int.mul_le_mul_of_nonneg_right (show m + 1 ≤ q by omega) (show 0 ≤ a by omega)
      omega
    have HV : Hid (val s a b = (0, 3)) := by
      show _ = _
      unfold val
      rw [← e0]
      exact if_pos (by omega)
    clear e0
    go_enter Try.func25, Try.ntmps25
    go_wp2_with fail
    go_quiet (fail)
    go_wp2_with fail
    go_ret2
    exact ⟨by rw [HV.out]; try rfl, _, rfl⟩
  · have x0 : 0 ≤ x := by rw [← hx]; exact Int.mul_nonneg q0 (by omega)
    have x2 : x ≤ 1099511627776 := by
      rw [← hx]
      have := Int.mul_le_mul_of_nonneg_right (show q ≤ m by omega) (show 0 ≤ a by omega)
      omega
    have u5 : IntKind.i64.wrap x = x := IntWalk.i64_in _ (by omega)
    have u6 : IntKind.i64.wrap y = y := IntWalk.i64_in _ (by omega)
    have u7 : y.tdiv b = z := by rw [Int.tdiv_eq_ediv_of_nonneg y0]; exact hz
    have u8 : IntKind.i64.wrap z = z := IntWalk.i64_in _ (by omega)
    obtain ⟨r, hr⟩ : ∃ r, x + z = r := ⟨_, rfl⟩
    have u9 : IntKind.i64.wrap r = r := IntWalk.i64_in _ (by omega)
    have hv : val s a b = cap r := by unfold val; rw [← e0, hr]
    have Hz := Lib.hid hz
    clear e0 m2 m3 hz
    by_cases d : 1099511627776 < r
    · have HV : Hid (val s a b = (0, 3)) := by show _ = _; rw [hv]; exact if_pos d
      clear hv
      go_enter Try.func25, Try.ntmps25
      go_wp2_with fail
      go_quiet (fail)
      go_wp2_with fail
      go_quiet (fail)
      go_wp2_with fail
      go_ret2
      exact ⟨by rw [HV.out]; try rfl, _, by first | rfl | rw [World.drewN_drewN]⟩
    · have HV : Hid (val s a b = (r, 0)) := by show _ = _; rw [hv]; exact if_neg d
      clear hv
      go_enter Try.func25, Try.ntmps25
      go_wp2_with fail
      go_quiet (fail)
      go_wp2_with fail
      go_quiet (fail)
      go_wp2_with fail
      go_ret2
      exact ⟨by rw [HV.out]; try rfl, _, by first | rfl | rw [World.drewN_drewN]⟩

end Go.Proofs.Ytdijhpcnlbjdaaa
