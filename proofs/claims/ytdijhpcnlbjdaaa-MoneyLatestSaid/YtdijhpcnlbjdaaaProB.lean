/-
  The program's Interest and Discount.
-/
import Derived.Test.YtdijhpcnlbjdaaaProA
namespace Go.Proofs.Ytdijhpcnlbjdaaa
open Go.RowKit Mon

/-- what scale answers, over the integers -/
structure Sc (s a b : Int) (x1 : Int) (wh : Bool) (x2 : Int) : Prop where
  is : cap (s * a / b) = (x1, x2)
  how : (1099511627776 < s * a / b ∧ x1 = 0 ∧ x2 = 3) ∨ (s * a / b ≤ 1099511627776 ∧ x1 = s * a / b ∧ x2 = 0 ∧ wh = decide (s * a % b = 0))
theorem scaleI_x (s a b : Int) (hs : 0 ≤ s ∧ s ≤ 1099511627776) (ha : 0 ≤ a ∧ a ≤ 1099511627776) (hb : 0 < b ∧ b ≤ 1099511627776) : ∃ x1 wh x2, Sc s a b x1 wh x2 ∧
    ∀ w : World, Calls Try.prog 20 #[.int .i64 s, .int .i64 a, .int .i64 b] w fun e w' => e = .returned (.tuple #[.int .i64 x1, .bool wh, .int .i64 x2]) ∧ Below w.heap.size w w' := by
  obtain ⟨S, rfl⟩ := Int.eq_ofNat_of_zero_le hs.1
  obtain ⟨A, rfl⟩ := Int.eq_ofNat_of_zero_le ha.1
  obtain ⟨B, rfl⟩ := Int.eq_ofNat_of_zero_le (Int.le_of_lt hb.1)
  have e1 : (S : Int) * A / B = ((S * A / B : Nat) : Int) := by rw [Int.natCast_ediv, Int.natCast_mul]
  have e2 : (S : Int) * A % B = ((S * A % B : Nat) : Int) := by rw [Int.natCast_emod, Int.natCast_mul]
  have h := fun w => scale_x S A B w (by omega) (by omega) (by omega) (by omega)
  unfold sc at h
  by_cases c : 1099511627776 < S * A / B
  · rw [if_pos c] at h
    have c1 : (1099511627776 : Int) < (S : Int) * A / B := by rw [e1]; omega
    exact ⟨0, false, 3, ⟨by unfold cap; rw [if_pos c1], .inl ⟨c1, rfl, rfl⟩⟩, h⟩
  · rw [if_neg c] at h
    have c1 : ¬ (1099511627776 : Int) < (S : Int) * A / B := by rw [e1]; omega
    refine ⟨_, _, 0, ⟨?_, .inr ⟨by omega, e1.symm, rfl, ?_⟩⟩, h⟩
    · unfold cap; rw [if_neg c1, e1]
    · rw [e2]
      by_cases z : S * A % B = 0
      · rw [decide_eq_true z, decide_eq_true (by omega)]
      · rw [decide_eq_false z, decide_eq_false (by omega)]

set_option maxHeartbeats 3200000 in
theorem pInterest_x (s p f t b : Int) (w : World) : Calls Try.prog 9 #[.int .i64 s, .int .i64 p, .int .i64 f, .int .i64 t, .int .i64 b] w fun e w' => e = .returned (pv (interest s p f t b)) ∧ Below w.heap.size w w' := by
  by_cases hs : sumP s
  case neg =>
    have S : Hid (sumB s = false) := decide_eq_false hs
    have hv : Hid (interest s p f t b = (0, 1)) := if_neg (by omega)
    clear hs
    go_enter Try.func9, Try.ntmps9
    go_wp2_with fail
    refine (isSum_x s _).mono ?_
    rintro e w1 ⟨rfl, rfl⟩
    rw [S.out]
    go_wp2_with fail
    go_ret2
    exact ⟨by rw [hv.out]; try rfl, Below.refl _ _⟩
  have S : Hid (sumB s = true) := decide_eq_true hs
  by_cases hp : 0 ≤ p ∧ p ≤ 1000
  case neg =>
    have P : Hid (permB p = false) := decide_eq_false hp
    have hv : Hid (interest s p f t b = (0, 1)) := if_neg (by omega)
    clear hs hp
    go_enter Try.func9, Try.ntmps9
    go_wp2_with fail
    refine (isSum_x s _).mono ?_
    rintro e w1 ⟨rfl, rfl⟩
    rw [S.out]
    go_wp2_with fail
    refine (isPermille_x p _).mono ?_
    rintro e w1 ⟨rfl, rfl⟩
    rw [P.out]
    go_wp2_with fail
    go_ret2
    exact ⟨by rw [hv.out]; try rfl, Below.refl _ _⟩
  have P : Hid (permB p = true) := decide_eq_true hp
  by_cases hf : dayP f
  case neg =>
    have F : Hid (dayB f = false) := decide_eq_false hf
    have hv : Hid (interest s p f t b = (0, 1)) := if_neg (by omega)
    clear hs hp hf
    go_enter Try.func9, Try.ntmps9
    go_wp2_with fail
    refine (isSum_x s _).mono ?_
    rintro e w1 ⟨rfl, rfl⟩
    rw [S.out]
    go_wp2_with fail
    refine (isPermille_x p _).mono ?_
    rintro e w1 ⟨rfl, rfl⟩
    rw [P.out]
    go_wp2_with fail
    refine (isDay_x f _).mono ?_
    rintro e w1 ⟨rfl, rfl⟩
    rw [F.out]
    go_wp2_with fail
    go_ret2
    exact ⟨by rw [hv.out]; try rfl, Below.refl _ _⟩
  have F : Hid (dayB f = true) := decide_eq_true hf
  by_cases ht : dayP t
  case neg =>
    have T : Hid (dayB t = false) := decide_eq_false ht
    have hv : Hid (interest s p f t b = (0, 1)) := if_neg (by omega)
    clear hs hp hf ht
    go_enter Try.func9, Try.ntmps9
    go_wp2_with fail
    refine (isSum_x s _).mono ?_
    rintro e w1 ⟨rfl, rfl⟩
    rw [S.out]
    go_wp2_with fail
    refine (isPermille_x p _).mono ?_
    rintro e w1 ⟨rfl, rfl⟩
    rw [P.out]
    go_wp2_with fail
    refine (isDay_x f _).mono ?_
    rintro e w1 ⟨rfl, rfl⟩
    rw [F.out]
    go_wp2_with fail
    refine (isDay_x t _).mono ?_
    rintro e w1 ⟨rfl, rfl⟩
    rw [T.out]
    go_wp2_with fail
    go_ret2
    exact ⟨by rw [hv.out]; try rfl, Below.refl _ _⟩
  have T : Hid (dayB t = true) := decide_eq_true ht
  by_cases ft : t < f
  · have hv : Hid (interest s p f t b = (0, 1)) := if_neg (by omega)
    clear hs hp hf ht
    go_enter Try.func9, Try.ntmps9
    go_wp2_with fail
    refine (isSum_x s _).mono ?_
    rintro e w1 ⟨rfl, rfl⟩
    rw [S.out]
    go_wp2_with fail
    refine (isPermille_x p _).mono ?_
    rintro e w1 ⟨rfl, rfl⟩
    rw [P.out]
    go_wp2_with fail
    refine (isDay_x f _).mono ?_
    rintro e w1 ⟨rfl, rfl⟩
    rw [F.out]
    go_wp2_with fail
    refine (isDay_x t _).mono ?_
    rintro e w1 ⟨rfl, rfl⟩
    rw [T.out]
    go_wp2_with fail
    go_ret2
    exact ⟨by rw [hv.out]; try rfl, Below.refl _ _⟩
  by_cases hb : b = 360 ∨ b = 365
  case neg =>
    have hv : Hid (interest s p f t b = (0, 1)) := if_neg (by omega)
    clear hs hp hf ht
    have c1 : (b != 360) = true := by simp; omega
    have c2 : (b != 365) = true := by simp; omega
    clear hb
    go_enter Try.func9, Try.ntmps9
    go_wp2_with fail
    refine (isSum_x s _).mono ?_
    rintro e w1 ⟨rfl, rfl⟩
    rw [S.out]
    go_wp2_with fail
    refine (isPermille_x p _).mono ?_
    rintro e w1 ⟨rfl, rfl⟩
    rw [P.out]
    go_wp2_with fail
    refine (isDay_x f _).mono ?_
    rintro e w1 ⟨rfl, rfl⟩
    rw [F.out]
    go_wp2_with fail
    refine (isDay_x t _).mono ?_
    rintro e w1 ⟨rfl, rfl⟩
    rw [T.out]
    go_wp2_with fail
    go_ret2
    exact ⟨by rw [hv.out]; try rfl, Below.refl _ _⟩
  obtain ⟨k, hk⟩ : ∃ k, p * (t - f) = k := ⟨_, rfl⟩
  have k0 : 0 ≤ k := by rw [← hk]; exact Int.mul_nonneg (by omega) (by omega)
  have k1 : k ≤ 100000000 := by
    rw [← hk]
    have := Int.mul_le_mul (show p ≤ 1000 by omega) (show t - f ≤ 100000 by omega) (by omega) (by omega)
    omega
  obtain ⟨s0, s1⟩ := hs
  obtain ⟨p0, p1⟩ := hp
  obtain ⟨f0, f1⟩ := hf
  obtain ⟨t0, t1⟩ := ht
  rcases hb with rfl | rfl
  · obtain ⟨x1, wh, x2, hx, hc⟩ := scaleI_x s k 360000 ⟨s0, s1⟩ ⟨k0, by omega⟩ ⟨by omega, by omega⟩
    have hv : Hid (interest s p f t 360 = (x1, x2)) := by
      show _ = _
      unfold interest
      rw [if_pos ⟨⟨s0, s1⟩, p0, p1, ⟨f0, f1⟩, ⟨t0, t1⟩, by omega, by omega⟩, hk]
      exact hx.is
    have HC := Lib.hid hc
    clear hx hc
    go_enter Try.func9, Try.ntmps9
    go_wp2_with fail
    refine (isSum_x s _).mono ?_
    rintro e w1 ⟨rfl, rfl⟩
    rw [S.out]
    go_wp2_with fail
    refine (isPermille_x p _).mono ?_
    rintro e w1 ⟨rfl, rfl⟩
    rw [P.out]
    go_wp2_with fail
    refine (isDay_x f _).mono ?_
    rintro e w1 ⟨rfl, rfl⟩
    rw [F.out]
    go_wp2_with fail
    refine (isDay_x t _).mono ?_
    rintro e w1 ⟨rfl, rfl⟩
    rw [T.out]
    go_wp2_with fail
    refine (HC.out _).mono ?_
    rintro e w2 ⟨rfl, b2⟩
    go_wp2_with fail
    go_ret2
    exact ⟨by rw [hv.out]; try rfl, b2⟩
  · obtain ⟨x1, wh, x2, hx, hc⟩ := scaleI_x s k 365000 ⟨s0, s1⟩ ⟨k0, by omega⟩ ⟨by omega, by omega⟩
    have hv : Hid (interest s p f t 365 = (x1, x2)) := by
      show _ = _
      unfold interest
      rw [if_pos ⟨⟨s0, s1⟩, p0, p1, ⟨f0, f1⟩, ⟨t0, t1⟩, by omega, by omega⟩, hk]
      exact hx.is
    have HC := Lib.hid hc
    clear hx hc
    go_enter Try.func9, Try.ntmps9
    go_wp2_with fail
    refine (isSum_x s _).mono ?_
    rintro e w1 ⟨rfl, rfl⟩
    rw [S.out]
    go_wp2_with fail
    refine (isPermille_x p _).mono ?_
    rintro e w1 ⟨rfl, rfl⟩
    rw [P.out]
    go_wp2_with fail
    refine (isDay_x f _).mono ?_
    rintro e w1 ⟨rfl, rfl⟩
    rw [F.out]
    go_wp2_with fail
    refine (isDay_x t _).mono ?_
    rintro e w1 ⟨rfl, rfl⟩
    rw [T.out]
    go_wp2_with fail
    refine (HC.out _).mono ?_
    rintro e w2 ⟨rfl, b2⟩
    go_wp2_with fail
    go_ret2
    exact ⟨by rw [hv.out]; try rfl, b2⟩

set_option maxHeartbeats 3200000 in
theorem pDiscount_x (s p n : Int) (w : World) : Calls Try.prog 11 #[.int .i64 s, .int .i64 p, .int .i64 n] w fun e w' => e = .returned (pv (discount s p n)) ∧ Below w.heap.size w w' := by
  by_cases hs : sumP s
  case neg =>
    have S : Hid (sumB s = false) := decide_eq_false hs
    have hv : Hid (discount s p n = (0, 1)) := if_neg (by omega)
    clear hs
    go_enter Try.func11, Try.ntmps11
    go_wp2_with fail
    refine (isSum_x s _).mono ?_
    rintro e w1 ⟨rfl, rfl⟩
    rw [S.out]
    go_wp2_with fail
    go_ret2
    exact ⟨by rw [hv.out]; try rfl, Below.refl _ _⟩
  have S : Hid (sumB s = true) := decide_eq_true hs
  by_cases hp : 0 ≤ p ∧ p ≤ 1000
  case neg =>
    have P : Hid (permB p = false) := decide_eq_false hp
    have hv : Hid (discount s p n = (0, 1)) := if_neg (by omega)
    clear hs hp
    go_enter Try.func11, Try.ntmps11
    go_wp2_with fail
    refine (isSum_x s _).mono ?_
    rintro e w1 ⟨rfl, rfl⟩
    rw [S.out]
    go_wp2_with fail
    refine (isPermille_x p _).mono ?_
    rintro e w1 ⟨rfl, rfl⟩
    rw [P.out]
    go_wp2_with fail
    go_ret2
    exact ⟨by rw [hv.out]; try rfl, Below.refl _ _⟩
  have P : Hid (permB p = true) := decide_eq_true hp
  by_cases n0 : n < 0
  · have hv : Hid (discount s p n = (0, 1)) := if_neg (by omega)
    clear hs hp
    go_enter Try.func11, Try.ntmps11
    go_wp2_with fail
    refine (isSum_x s _).mono ?_
    rintro e w1 ⟨rfl, rfl⟩
    rw [S.out]
    go_wp2_with fail
    refine (isPermille_x p _).mono ?_
    rintro e w1 ⟨rfl, rfl⟩
    rw [P.out]
    go_wp2_with fail
    go_ret2
    exact ⟨by rw [hv.out]; try rfl, Below.refl _ _⟩
  by_cases n1 : 20000 < n
  · have hv : Hid (discount s p n = (0, 1)) := if_neg (by omega)
    clear hs hp
    go_enter Try.func11, Try.ntmps11
    go_wp2_with fail
    refine (isSum_x s _).mono ?_
    rintro e w1 ⟨rfl, rfl⟩
    rw [S.out]
    go_wp2_with fail
    refine (isPermille_x p _).mono ?_
    rintro e w1 ⟨rfl, rfl⟩
    rw [P.out]
    go_wp2_with fail
    go_ret2
    exact ⟨by rw [hv.out]; try rfl, Below.refl _ _⟩
  obtain ⟨k, hk⟩ : ∃ k, p * n = k := ⟨_, rfl⟩
  have k0 : 0 ≤ k := by rw [← hk]; exact Int.mul_nonneg (by omega) (by omega)
  have k1 : k ≤ 20000000 := by
    rw [← hk]
    have := Int.mul_le_mul (show p ≤ 1000 by omega) (show n ≤ 20000 by omega) (by omega) (by omega)
    omega
  obtain ⟨s0, s1⟩ := hs
  obtain ⟨p0, p1⟩ := hp
  obtain ⟨x1, wh, x2, hx, hc⟩ := scaleI_x s k 360000 ⟨s0, s1⟩ ⟨k0, by omega⟩ ⟨by omega, by omega⟩
  have hd : discount s p n = if s < ceil (s * k) then (0, 3) else (ceil (s * k), 0) := by
    unfold discount
    rw [if_pos ⟨⟨s0, s1⟩, by omega, by omega, by omega, by omega⟩, hk]
  have X0 : 0 ≤ s * k := Int.mul_nonneg s0 k0
  have hX := hx.how
  clear hx
  generalize s * k = X at hd hX X0
  rcases hX with ⟨hX, rfl, rfl⟩ | ⟨hX, hx1, rfl, hw⟩
  · have HC := Lib.hid hc
    clear hc
    have hv : Hid (discount s p n = (0, 3)) := by
      show _ = _
      rw [hd]
      exact if_pos (by unfold ceil; omega)
    clear hd hX
    go_enter Try.func11, Try.ntmps11
    go_wp2_with fail
    refine (isSum_x s _).mono ?_
    rintro e w1 ⟨rfl, rfl⟩
    rw [S.out]
    go_wp2_with fail
    refine (isPermille_x p _).mono ?_
    rintro e w1 ⟨rfl, rfl⟩
    rw [P.out]
    go_wp2_with fail
    refine (HC.out _).mono ?_
    rintro e w2 ⟨rfl, b2⟩
    go_wp2_with fail
    go_ret2
    exact ⟨by rw [hv.out]; try rfl, b2⟩
  have x0 : 0 ≤ x1 := by omega
  have x9 : x1 ≤ 1099511627776 := by omega
  have u1 : IntKind.i64.wrap (x1 + 1) = x1 + 1 := IntWalk.i64_in _ (by omega)
  by_cases z : X % 360000 = 0
  · have hw2 : wh = true := by rw [hw]; exact decide_eq_true z
    subst hw2
    have HC := Lib.hid hc
    have hX := Lib.hid hX
    have hcl : ceil X = x1 := by unfold ceil; omega
    clear hc hw z hx1
    rw [hcl] at hd
    clear hcl
    by_cases g : s < x1
    · have hv : Hid (discount s p n = (0, 3)) := by
        show _ = _
        rw [hd]
        exact if_pos g
      clear hd hX
      go_enter Try.func11, Try.ntmps11
      go_wp2_with fail
      refine (isSum_x s _).mono ?_
      rintro e w1 ⟨rfl, rfl⟩
      rw [S.out]
      go_wp2_with fail
      refine (isPermille_x p _).mono ?_
      rintro e w1 ⟨rfl, rfl⟩
      rw [P.out]
      go_wp2_with fail
      refine (HC.out _).mono ?_
      rintro e w2 ⟨rfl, b2⟩
      go_wp2_with fail
      go_ret2
      exact ⟨by rw [hv.out]; try rfl, b2⟩
    · have hv : Hid (discount s p n = (x1, 0)) := by
        show _ = _
        rw [hd]
        exact if_neg g
      clear hd hX
      go_enter Try.func11, Try.ntmps11
      go_wp2_with fail
      refine (isSum_x s _).mono ?_
      rintro e w1 ⟨rfl, rfl⟩
      rw [S.out]
      go_wp2_with fail
      refine (isPermille_x p _).mono ?_
      rintro e w1 ⟨rfl, rfl⟩
      rw [P.out]
      go_wp2_with fail
      refine (HC.out _).mono ?_
      rintro e w2 ⟨rfl, b2⟩
      go_wp2_with fail
      go_ret2
      exact ⟨by rw [hv.out]; try rfl, b2⟩
  · have hw2 : wh = false := by rw [hw]; exact decide_eq_false z
    subst hw2
    have HC := Lib.hid hc
    have hX := Lib.hid hX
    have hcl : ceil X = x1 + 1 := by unfold ceil; omega
    clear hc hw z hx1
    rw [hcl] at hd
    clear hcl
    by_cases g : s < x1 + 1
    · have hv : Hid (discount s p n = (0, 3)) := by
        show _ = _
        rw [hd]
        exact if_pos g
      clear hd hX
      go_enter Try.func11, Try.ntmps11
      go_wp2_with fail
      refine (isSum_x s _).mono ?_
      rintro e w1 ⟨rfl, rfl⟩
      rw [S.out]
      go_wp2_with fail
      refine (isPermille_x p _).mono ?_
      rintro e w1 ⟨rfl, rfl⟩
      rw [P.out]
      go_wp2_with fail
      refine (HC.out _).mono ?_
      rintro e w2 ⟨rfl, b2⟩
      go_wp2_with fail
      go_ret2
      exact ⟨by rw [hv.out]; try rfl, b2⟩
    · have hv : Hid (discount s p n = (x1 + 1, 0)) := by
        show _ = _
        rw [hd]
        exact if_neg g
      clear hd hX
      go_enter Try.func11, Try.ntmps11
      go_wp2_with fail
      refine (isSum_x s _).mono ?_
      rintro e w1 ⟨rfl, rfl⟩
      rw [S.out]
      go_wp2_with fail
      refine (isPermille_x p _).mono ?_
      rintro e w1 ⟨rfl, rfl⟩
      rw [P.out]
      go_wp2_with fail
      refine (HC.out _).mono ?_
      rintro e w2 ⟨rfl, b2⟩
      go_wp2_with fail
      go_ret2
      exact ⟨by rw [hv.out]; try rfl, b2⟩

end Go.Proofs.Ytdijhpcnlbjdaaa
