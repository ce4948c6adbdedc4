/-
  math/bits.Div64.
-/
import Derived.Test.YtdijhpcnlbjdaaaBits
import Derived.RegionTactic
import Derived.Deep.QuietTactic
import Derived.BigQuiet
import Derived.Laws.Shifts
import Derived.Laws.Bits64b
import Derived.Deep.LoopGhost
import Derived.Deep.CutBlock
import Derived.Outline
namespace Go.Proofs.Ytdijhpcnlbjdaaa
open Go.RowKit

theorem bitAux : ∀ (f x : Nat), x < 2 ^ f → x < 2 ^ Lib.bitLenAux f x ∧ (0 < x → 2 ^ Lib.bitLenAux f x ≤ 2 * x)
  | 0, x, h => by
    have : x = 0 := by simpa using h
    subst this
    exact ⟨by decide, fun h => absurd h (by decide)⟩
  | f + 1, x, h => by
    obtain ⟨h1, h2⟩ := bitAux f (x / 2) (by rw [Nat.pow_succ] at h; omega)
    unfold Lib.bitLenAux
    by_cases hx : x = 0
    · rw [if_pos hx]
      exact ⟨by omega, fun h => absurd h (by omega)⟩
    · rw [if_neg hx, Nat.add_comm 1, Nat.pow_succ]
      refine ⟨by omega, fun _ => ?_⟩
      by_cases h3 : x / 2 = 0
      · rw [h3]
        have : Lib.bitLenAux f 0 = 0 := by cases f <;> simp [Lib.bitLenAux]
        rw [this]
        omega
      · have := h2 (by omega)
        omega
/-- how far y is shifted -/
theorem bit_shift (y : Nat) (h0 : 0 < y) (hy : y < 18446744073709551616) : ∃ s : Nat, 64 - (Lib.bitLen y : Int) = (s : Int) ∧ s ≤ 63 ∧ 9223372036854775808 ≤ y * 2 ^ s ∧ y * 2 ^ s < 18446744073709551616 := by
  obtain ⟨h1, h2⟩ := bitAux 64 y hy
  have h3 := h2 h0
  have hl : Lib.bitLenAux 64 y ≤ 64 := Lib.bitLen_le y 64 (by decide) hy
  have hp : 0 < Lib.bitLenAux 64 y := by
    by_cases h : Lib.bitLenAux 64 y = 0
    · rw [h] at h1; simp at h1; omega
    · omega
  unfold Lib.bitLen
  generalize Lib.bitLenAux 64 y = b at *
  refine ⟨64 - b, by omega, by omega, ?_, ?_⟩
  · have e : 2 ^ b * 2 ^ (64 - b) = 2 ^ 64 := by rw [← Nat.pow_add]; congr 1; omega
    have := Nat.mul_le_mul_right (2 ^ (64 - b)) h3
    rw [e, Nat.mul_assoc] at this
    omega
  · have e : 2 ^ b * 2 ^ (64 - b) = 2 ^ 64 := by rw [← Nat.pow_add]; congr 1; omega
    have := Nat.mul_lt_mul_of_pos_right h1 (Nat.two_pow_pos (64 - b))
    rw [e] at this
    omega

open Wd in
/-- the numbers that the division works with -/
structure Dv (hi lo y s Y y1 y0 n L m1 m0 : Nat) : Prop where
  eY : IntKind.u64.wrap ((y : Int) * 2 ^ s) = (Y : Int)
  e1 : (Y : Int) / 4294967296 = (y1 : Int)
  e0 : bits .and .u64 (Y : Int) 4294967295 = (y0 : Int)
  en : bits .or .u64 (IntKind.u64.wrap ((hi : Int) * 2 ^ s)) ((lo : Int) / 2 ^ (64 - s)) = (n : Int)
  eL : IntKind.u64.wrap ((lo : Int) * 2 ^ s) = (L : Int)
  f1 : (L : Int) / 4294967296 = (m1 : Int)
  f0 : bits .and .u64 (L : Int) 4294967295 = (m0 : Int)
  hY : Y = y1 * 4294967296 + y0
  l0 : y0 < 4294967296
  k1 : m1 < 4294967296
  k0 : m0 < 4294967296
  big : 2147483648 ≤ y1
  l1 : y1 < 4294967296
  hn : n < Y
  all : (hi * 18446744073709551616 + lo) * 2 ^ s = (n * 4294967296 + m1) * 4294967296 + m0
  ys : Y = y * 2 ^ s

theorem wrapU (a : Nat) (ha : a < 18446744073709551616) : IntKind.u64.wrap (a : Int) = (a : Int) := by rw [IntKind.wrap_u64]; omega
theorem wrapU' (a : Nat) : IntKind.u64.wrap (a : Int) = ((a % 18446744073709551616 : Nat) : Int) := by rw [IntKind.wrap_u64]; omega

theorem dv (hi lo y s : Nat) (h1 : hi < y) (h2 : lo < 18446744073709551616) (s1 : s ≤ 63) (s2 : 9223372036854775808 ≤ y * 2 ^ s) (s3 : y * 2 ^ s < 18446744073709551616) : ∃ Y y1 y0 n L m1 m0, Dv hi lo y s Y y1 y0 n L m1 m0 := by
  have hp := Nat.two_pow_pos s
  have hhi : hi * 2 ^ s < y * 2 ^ s := Nat.mul_lt_mul_of_pos_right h1 hp
  have e64 : 2 ^ s * 2 ^ (64 - s) = 18446744073709551616 := by rw [← Nat.pow_add, show s + (64 - s) = 64 from by omega]
  have hq : lo * 2 ^ s / 18446744073709551616 = lo / 2 ^ (64 - s) := by rw [← e64, Nat.mul_comm (2 ^ s), Nat.mul_div_mul_right _ _ hp]
  have hlt : lo / 2 ^ (64 - s) < 2 ^ s := by
    rw [Nat.div_lt_iff_lt_mul (Nat.two_pow_pos _), e64]; exact h2
  have hor : hi * 2 ^ s ||| lo / 2 ^ (64 - s) = hi * 2 ^ s + lo / 2 ^ (64 - s) := by
    rw [Nat.mul_comm, ← Nat.two_pow_add_eq_or_of_lt hlt]
  have hsum : hi * 2 ^ s + lo / 2 ^ (64 - s) < y * 2 ^ s := by
    have : (hi + 1) * 2 ^ s ≤ y * 2 ^ s := Nat.mul_le_mul_right _ h1
    rw [Nat.add_mul] at this
    omega
  have hall : (hi * 18446744073709551616 + lo) * 2 ^ s = (hi * 2 ^ s + lo / 2 ^ (64 - s)) * 18446744073709551616 + lo * 2 ^ s % 18446744073709551616 := by
    have e3 : lo * 2 ^ s = lo / 2 ^ (64 - s) * 18446744073709551616 + lo * 2 ^ s % 18446744073709551616 := by
      rw [← hq]; exact (Nat.div_add_mod' _ _).symm
    calc (hi * 18446744073709551616 + lo) * 2 ^ s = hi * 2 ^ s * 18446744073709551616 + lo * 2 ^ s := by rw [Nat.add_mul, Nat.mul_right_comm]
      _ = hi * 2 ^ s * 18446744073709551616 + (lo / 2 ^ (64 - s) * 18446744073709551616 + lo * 2 ^ s % 18446744073709551616) := congrArg (hi * 2 ^ s * 18446744073709551616 + ·) e3
      _ = _ := by rw [← Nat.add_assoc, ← Nat.add_mul]
  have cast : ∀ a : Nat, (a : Int) * 2 ^ s = ((a * 2 ^ s : Nat) : Int) := fun a => by rw [Int.natCast_mul, Int.natCast_pow]; rfl
  refine ⟨y * 2 ^ s, y * 2 ^ s / 4294967296, y * 2 ^ s % 4294967296, hi * 2 ^ s + lo / 2 ^ (64 - s), lo * 2 ^ s % 18446744073709551616, lo * 2 ^ s % 18446744073709551616 / 4294967296, lo * 2 ^ s % 18446744073709551616 % 4294967296, ?_⟩
  refine ⟨?_, by omega, Mul64.maskN _ s3, ?_, ?_, by omega, Mul64.maskN _ (Nat.mod_lt _ (by decide)), by omega, by omega, by omega, by omega, by omega, by omega, hsum, ?_, rfl⟩
  · rw [cast]; exact wrapU _ s3
  · rw [cast, wrapU _ (by omega), show (lo : Int) / 2 ^ (64 - s) = ((lo / 2 ^ (64 - s) : Nat) : Int) from by rw [Int.natCast_ediv, Int.natCast_pow]; rfl, bits_or_u64_nat _ _ (by omega) (by omega), hor]
  · rw [cast]; exact wrapU' _
  · rw [hall]; omega

/-- one digit's loop: what it starts with -/
theorem kn_start' {n m1 y1 y0 : Nat} (hy : 2147483648 ≤ y1) (hn : n < 18446744073709551616) (hm : m1 < 4294967296) (h32 : y1 < 4294967296) : ∃ q r : Nat, IntKind.u64.wrap ((n : Int) / (y1 : Int)) = (q : Int) ∧ IntKind.u64.wrap ((n : Int) - IntKind.u64.wrap ((q : Int) * (y1 : Int))) = (r : Int) ∧ Wd.Kn n m1 y1 y0 q r ∧ r < 4294967296 := by
  have hk := Wd.kn_start n m1 y1 y0 (by omega) hm
  have hm := Nat.mod_lt n (show 0 < y1 by omega)
  have hq : n / y1 ≤ n := Nat.div_le_self _ _
  have h1 := hk.1
  refine ⟨n / y1, n % y1, ?_, ?_, hk, by omega⟩
  · rw [← Int.natCast_ediv]; exact wrapU _ (by omega)
  · rw [← Int.natCast_mul, wrapU _ (by omega), show (n : Int) - ((n / y1 * y1 : Nat) : Int) = ((n % y1 : Nat) : Int) from by omega]; exact wrapU _ (by omega)

/-- what is left behind a digit, as the program reckons it -/
theorem left_rest {n m Q Y R : Nat} (h : n * 4294967296 + m = Q * Y + R) (hR : R < 18446744073709551616) :
    IntKind.u64.wrap (IntKind.u64.wrap (IntKind.u64.wrap ((n : Int) * 4294967296) + (m : Int)) - IntKind.u64.wrap ((Q : Int) * (Y : Int))) = (R : Int) := by
  rw [← Int.natCast_mul]
  obtain ⟨X, hX⟩ : ∃ X, X = Q * Y := ⟨_, rfl⟩
  rw [← hX] at h ⊢
  simp only [IntKind.wrap_u64]
  omega

set_option maxHeartbeats 3200000 in
set_option maxRecDepth 100000 in
theorem div64_x (hi lo y : Nat) (w : World) (h1 : hi < y) (h2 : lo < 18446744073709551616) (h3 : y < 18446744073709551616) :
    Calls Try.prog 27 #[.int .u64 hi, .int .u64 lo, .int .u64 y] w fun e w' => e = .returned (.tuple #[.int .u64 ((hi * 18446744073709551616 + lo) / y : Nat), .int .u64 ((hi * 18446744073709551616 + lo) % y : Nat)]) ∧ Below w.heap.size w w' := by
  have k0 : ((y : Int) == 0) = false := by simp; omega
  have k1 : decide (y ≤ hi) = false := decide_eq_false (by omega)
  by_cases h4 : hi = 0
  · subst h4
    have e0 : (0 * 18446744073709551616 + lo) / y = lo / y := by rw [Nat.zero_mul, Nat.zero_add]
    have e1 : (0 * 18446744073709551616 + lo) % y = lo % y := by rw [Nat.zero_mul, Nat.zero_add]
    rw [e0, e1]
    have f0 : IntKind.u64.wrap ((lo : Int) / (y : Int)) = ((lo / y : Nat) : Int) := by
      rw [← Int.natCast_ediv]; exact wrapU _ (Nat.lt_of_le_of_lt (Nat.div_le_self _ _) h2)
    have f1 : IntKind.u64.wrap ((lo : Int) % (y : Int)) = ((lo % y : Nat) : Int) := by
      rw [← Int.natCast_emod]; exact wrapU _ (Nat.lt_of_le_of_lt (Nat.mod_le _ _) h2)
    go_enter Try.func27, Try.ntmps27
    go_wp2_with fail
    go_quiet (fail)
    go_wp2_with fail
    go_ret2
    exact ⟨by rw [Int.natCast_ediv, Int.natCast_emod]; rfl, below_drewN (Below.refl _ _) _⟩
  · have k2 : ((hi : Int) == 0) = false := by simp; omega
    obtain ⟨s, es, s1, s2, s3⟩ := bit_shift y (by omega) h3
    obtain ⟨Y, y1, y0, n, L, m1, m0, D⟩ := dv hi lo y s h1 h2 s1 s2 s3
    go_enter Try.func27, Try.ntmps27
    go_wp2_with fail
    refine (lz64_x y h3 _).mono ?_
    rintro e w2 ⟨rfl, rfl⟩
    rw [es]
    have hD := Lib.hid D
    obtain ⟨eY, e1, e0, en, eL, f1, f0, hY, l0, j1, j0, big, l1, hn, hall, ys⟩ := D
    obtain ⟨q, r, eq, er, hk, hr⟩ := kn_start' (m1 := m1) (y0 := y0) big (show n < 18446744073709551616 by omega) j1 l1
    have Hk := Lib.hid hk
    have y1z : ((y1 : Int) == 0) = false := by simp; omega
    have HY := Lib.hid hY
    have hn64 : n < 18446744073709551616 := by omega
    have hn2 : Hid (n < y1 * 4294967296 + y0) := show _ < _ from hY ▸ hn
    have l0' : y0 ≤ 4294967295 := by omega
    have j1' : m1 ≤ 4294967295 := by omega
    have j0' : m0 ≤ 4294967295 := by omega
    have l1' : y1 ≤ 4294967295 := by omega
    have hr' : r ≤ 4294967295 := by omega
    have hn65 : n ≤ 18446744073709551615 := by omega
    clear hk hall ys s2 s3 es h1 h2 h3 hY hn hn64 l0 j1 j0 l1 hr
    go_upto_block 0 with fail
    go_cut [15] (fun a wx => a = .int .u64 (((n * 4294967296 + m1) / Y : Nat) : Int) ∧ wx = w2)
    case first =>
      go_wp2_with fail
      go_loopg [15, 16] q (fun g a b wr => ∃ q r : Nat, q ≤ g ∧ a = .int .u64 (q : Int) ∧ b = .int .u64 (r : Int) ∧ Hid (Wd.Kn n m1 y1 y0 q r) ∧ r ≤ 4294967295 ∧ wr = w2)
      case atStart => exact ⟨q, r, Nat.le_refl _, rfl, rfl, Hk, hr', rfl⟩
      case round =>
        clear Hk hr' eq er
        obtain ⟨q, r, hg, rfl, rfl, Hk, hr, rfl⟩ := hrel
        have hq : q ≤ 18446744073709551615 := Nat.le_of_lt_succ (Wd.kn_bound Hk.out big (by omega))
        have less := Lib.hid (fun c => Wd.kn_less Hk.out hn2.out (Nat.lt_succ_of_le j1') c)
        by_cases c1 : 4294967296 ≤ q
        · obtain ⟨q0, hk2⟩ := less.out (.inl c1)
          have c1b : decide ((4294967296 : Int) ≤ (q : Int)) = true := decide_eq_true (by omega)
          have hk3 := Lib.hid hk2
          clear less hk2
          by_cases c3 : r + y1 ≤ 4294967295
          · have c3b : decide ((4294967296 : Int) ≤ (r : Int) + (y1 : Int)) = false := decide_eq_false (by omega)
            go_wp2_with fail
            go_roundg (q - 1)
            case measure => omega
            case rel => exact ⟨q - 1, r + y1, Nat.le_refl _, congrArg (Value.int .u64) (by omega), congrArg (Value.int .u64) (by omega), hk3, c3, rfl⟩
          · have c3b : decide ((4294967296 : Int) ≤ (r : Int) + (y1 : Int)) = true := decide_eq_true (by omega)
            have hex : Hid ((n * 4294967296 + m1) / Y = q - 1) := by
              show _ = _
              rw [HY.out]
              exact Wd.kn_exit hk3.out (by omega) (Wd.kn_break hk3.out hn2.out (by omega) (by omega))
            go_wp2_with fail
            go_meet
            exact ⟨congrArg (Value.int .u64) (by rw [hex.out]; omega), rfl⟩
        · have c1b : decide ((4294967296 : Int) ≤ (q : Int)) = false := decide_eq_false (by omega)
          have c1' : q ≤ 4294967295 := by omega
          obtain ⟨P, hP⟩ : ∃ P : Nat, P = q * y0 := ⟨_, rfl⟩
          have p1 : IntKind.u64.wrap ((q : Int) * (y0 : Int)) = (P : Int) := by rw [← Int.natCast_mul, hP]; exact wrapU _ (Wd.mul_small (by omega) (by omega))
          have p2 : P ≤ 18446744073709551615 := by rw [hP]; exact Nat.le_of_lt_succ (Wd.mul_small (show q < 4294967296 by omega) (by omega))
          clear c1
          by_cases c2 : 4294967296 * r + m1 < P
          · obtain ⟨q0, hk2⟩ := less.out (.inr (hP ▸ c2))
            have c2b : decide (4294967296 * (r : Int) + (m1 : Int) < (P : Int)) = true := decide_eq_true (by omega)
            clear hP c2
            have hk3 := Lib.hid hk2
            clear less hk2
            by_cases c3 : r + y1 ≤ 4294967295
            · have c3b : decide ((4294967296 : Int) ≤ (r : Int) + (y1 : Int)) = false := decide_eq_false (by omega)
              go_wp2_with fail
              go_roundg (q - 1)
              case measure => omega
              case rel => exact ⟨q - 1, r + y1, Nat.le_refl _, congrArg (Value.int .u64) (by omega), congrArg (Value.int .u64) (by omega), hk3, c3, rfl⟩
            · have c3b : decide ((4294967296 : Int) ≤ (r : Int) + (y1 : Int)) = true := decide_eq_true (by omega)
              have hex : Hid ((n * 4294967296 + m1) / Y = q - 1) := by
                show _ = _
                rw [HY.out]
                exact Wd.kn_exit hk3.out (by omega) (Wd.kn_break hk3.out hn2.out (by omega) (by omega))
              go_wp2_with fail
              go_meet
              exact ⟨congrArg (Value.int .u64) (by rw [hex.out]; omega), rfl⟩
          · have hex : Hid ((n * 4294967296 + m1) / Y = q) := by
              show _ = _
              rw [HY.out]
              exact Wd.kn_exit Hk.out (by omega) (by rw [← hP]; omega)
            have c2b : decide (4294967296 * (r : Int) + (m1 : Int) < (P : Int)) = false := decide_eq_false (by omega)
            clear less hP c2
            go_wp2_with fail
            go_meet
            exact ⟨congrArg (Value.int .u64) (by rw [hex.out]), rfl⟩
    case rest =>
      obtain ⟨rfl, rfl⟩ := hcut
      clear Hk eq er hr'
      obtain ⟨Q, hQ⟩ : ∃ Q, Q = (n * 4294967296 + m1) / Y := ⟨_, rfl⟩
      obtain ⟨R, hR⟩ : ∃ R, R = (n * 4294967296 + m1) % Y := ⟨_, rfl⟩
      have ydiv : Hid (0 < Y ∧ Y < 18446744073709551616) := show _ ∧ _ from by have := HY.out; omega
      have hQR : Hid (n * 4294967296 + m1 = Q * Y + R ∧ R < Y) := by show _ ∧ _; rw [hQ, hR]; exact Wd.kn_rest ydiv.out.1 rfl
      have hQ2 : Q ≤ 4294967295 := by
        rw [hQ, HY.out]; exact Nat.le_of_lt_succ (Wd.kn_digit hn2.out (Nat.lt_succ_of_le j1'))
      have eR : IntKind.u64.wrap (IntKind.u64.wrap (IntKind.u64.wrap ((n : Int) * 4294967296) + (m1 : Int)) - IntKind.u64.wrap ((Q : Int) * (Y : Int))) = (R : Int) := left_rest hQR.out.1 (Nat.lt_trans hQR.out.2 ydiv.out.2)
      rw [← hQ]
      have hR64 : R ≤ 18446744073709551615 := Nat.le_of_lt_succ (Nat.lt_trans hQR.out.2 ydiv.out.2)
      have hR2 : Hid (R < y1 * 4294967296 + y0) := show _ < _ from HY.out ▸ hQR.out.2
      clear hQ hR hn2
      obtain ⟨q', r', eq, er, hk, hr⟩ := kn_start' (n := R) (m1 := m0) (y0 := y0) big (show R < 18446744073709551616 by omega) (Nat.lt_succ_of_le j0') (Nat.lt_succ_of_le l1')
      have Hk := Lib.hid hk
      have hr' : r' ≤ 4294967295 := by omega
      clear hk hr
      go_upto_block 2 with fail
      go_cut [18] (fun a wx => a = .int .u64 (((R * 4294967296 + m0) / Y : Nat) : Int) ∧ wx = wc)
      case first =>
        go_wp2_with fail
        go_loopg [18, 16] q' (fun g a b wr => ∃ q r : Nat, q ≤ g ∧ a = .int .u64 (q : Int) ∧ b = .int .u64 (r : Int) ∧ Hid (Wd.Kn R m0 y1 y0 q r) ∧ r ≤ 4294967295 ∧ wr = wc)
        case atStart => exact ⟨q', r', Nat.le_refl _, rfl, rfl, Hk, hr', rfl⟩
        case round =>
          clear Hk hr' eq er
          obtain ⟨q, r, hg, rfl, rfl, Hk, hr, rfl⟩ := hrel
          have hq : q ≤ 18446744073709551615 := Nat.le_of_lt_succ (Wd.kn_bound Hk.out big (by omega))
          have less := Lib.hid (fun c => Wd.kn_less Hk.out hR2.out (Nat.lt_succ_of_le j0') c)
          by_cases c1 : 4294967296 ≤ q
          · obtain ⟨q0, hk2⟩ := less.out (.inl c1)
            have c1b : decide ((4294967296 : Int) ≤ (q : Int)) = true := decide_eq_true (by omega)
            have hk3 := Lib.hid hk2
            clear less hk2
            by_cases c3 : r + y1 ≤ 4294967295
            · have c3b : decide ((4294967296 : Int) ≤ (r : Int) + (y1 : Int)) = false := decide_eq_false (by omega)
              go_wp2_with fail
              go_roundg (q - 1)
              case measure => omega
              case rel => exact ⟨q - 1, r + y1, Nat.le_refl _, congrArg (Value.int .u64) (by omega), congrArg (Value.int .u64) (by omega), hk3, c3, rfl⟩
            · have c3b : decide ((4294967296 : Int) ≤ (r : Int) + (y1 : Int)) = true := decide_eq_true (by omega)
              have hex : Hid ((R * 4294967296 + m0) / Y = q - 1) := by
                show _ = _
                rw [HY.out]
                exact Wd.kn_exit hk3.out (by omega) (Wd.kn_break hk3.out hR2.out (by omega) (by omega))
              go_wp2_with fail
              go_meet
              exact ⟨congrArg (Value.int .u64) (by rw [hex.out]; omega), rfl⟩
          · have c1b : decide ((4294967296 : Int) ≤ (q : Int)) = false := decide_eq_false (by omega)
            have c1' : q ≤ 4294967295 := by omega
            obtain ⟨P, hP⟩ : ∃ P : Nat, P = q * y0 := ⟨_, rfl⟩
            have p1 : IntKind.u64.wrap ((q : Int) * (y0 : Int)) = (P : Int) := by rw [← Int.natCast_mul, hP]; exact wrapU _ (Wd.mul_small (by omega) (by omega))
            have p2 : P ≤ 18446744073709551615 := by rw [hP]; exact Nat.le_of_lt_succ (Wd.mul_small (show q < 4294967296 by omega) (by omega))
            clear c1
            by_cases c2 : 4294967296 * r + m0 < P
            · obtain ⟨q0, hk2⟩ := less.out (.inr (hP ▸ c2))
              have c2b : decide (4294967296 * (r : Int) + (m0 : Int) < (P : Int)) = true := decide_eq_true (by omega)
              clear hP c2
              have hk3 := Lib.hid hk2
              clear less hk2
              by_cases c3 : r + y1 ≤ 4294967295
              · have c3b : decide ((4294967296 : Int) ≤ (r : Int) + (y1 : Int)) = false := decide_eq_false (by omega)
                go_wp2_with fail
                go_roundg (q - 1)
                case measure => omega
                case rel => exact ⟨q - 1, r + y1, Nat.le_refl _, congrArg (Value.int .u64) (by omega), congrArg (Value.int .u64) (by omega), hk3, c3, rfl⟩
              · have c3b : decide ((4294967296 : Int) ≤ (r : Int) + (y1 : Int)) = true := decide_eq_true (by omega)
                have hex : Hid ((R * 4294967296 + m0) / Y = q - 1) := by
                  show _ = _
                  rw [HY.out]
                  exact Wd.kn_exit hk3.out (by omega) (Wd.kn_break hk3.out hR2.out (by omega) (by omega))
                go_wp2_with fail
                go_meet
                exact ⟨congrArg (Value.int .u64) (by rw [hex.out]; omega), rfl⟩
            · have hex : Hid ((R * 4294967296 + m0) / Y = q) := by
                show _ = _
                rw [HY.out]
                exact Wd.kn_exit Hk.out (by omega) (by rw [← hP]; omega)
              have c2b : decide (4294967296 * (r : Int) + (m0 : Int) < (P : Int)) = false := decide_eq_false (by omega)
              clear less hP c2
              go_wp2_with fail
              go_meet
              exact ⟨congrArg (Value.int .u64) (by rw [hex.out]), rfl⟩
      case rest =>
        obtain ⟨rfl, rfl⟩ := hcut
        clear Hk eq er hr'
        obtain ⟨Q0, hQ⟩ : ∃ Q, Q = (R * 4294967296 + m0) / Y := ⟨_, rfl⟩
        obtain ⟨R0, hR⟩ : ∃ R0, R0 = (R * 4294967296 + m0) % Y := ⟨_, rfl⟩
        have hQR0 : Hid (R * 4294967296 + m0 = Q0 * Y + R0 ∧ R0 < Y) := by show _ ∧ _; rw [hQ, hR]; exact Wd.kn_rest ydiv.out.1 rfl
        have hQ3 : Q0 ≤ 4294967295 := by
          rw [hQ, HY.out]; exact Nat.le_of_lt_succ (Wd.kn_digit hR2.out (Nat.lt_succ_of_le j0'))
        have eR0 : IntKind.u64.wrap (IntKind.u64.wrap (IntKind.u64.wrap ((R : Int) * 4294967296) + (m0 : Int)) - IntKind.u64.wrap ((Q0 : Int) * (Y : Int))) = (R0 : Int) := left_rest hQR0.out.1 (Nat.lt_trans hQR0.out.2 ydiv.out.2)
        rw [← hQ]
        clear hQ hR
        have two := Lib.hid (Wd.kn_two hD.out.all hQR.out.1 hQR0.out.1 hQR0.out.2)
        go_wp2_with fail
        go_ret2
        refine ⟨congrArg (fun v => Ending.returned (Value.tuple v)) ?_, Below.refl _ _⟩
        have t := two.out
        have ys := hD.out.ys
        have hp := Nat.two_pow_pos s
        have t1 : (hi * 18446744073709551616 + lo) / y = Q * 4294967296 + Q0 := by rw [← t.1, ys, Wd.shifted_div hp]
        have t2 : (hi * 18446744073709551616 + lo) % y = R0 / 2 ^ s := by rw [← t.2, ys, Wd.shifted_mod hp]
        rw [t1, t2, Int.natCast_add, Int.natCast_mul, Int.natCast_ediv, Int.natCast_pow]
        rfl

end Go.Proofs.Ytdijhpcnlbjdaaa
