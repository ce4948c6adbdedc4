/-
  The program's product, rest, fits, opposite, inverse, split.
-/
import Derived.Test.YtnddfngdlmdmhaaProB
namespace Go.Proofs.Ytnddfngdlmdmhaa
open Go.RowKit

/-- a number with a sign in 128 bits -/
def ws (V : Int) : Nat := (V % 340282366920938463463374607431768211456).toNat
theorem ws_lt (V : Int) : ws V < 340282366920938463463374607431768211456 := by unfold ws; omega
theorem ws_pos {V : Int} (h : 0 ≤ V) (h2 : V < 340282366920938463463374607431768211456) : ws V = V.natAbs := by unfold ws; omega
theorem ws_neg {V : Int} (h : V < 0) (h2 : -340282366920938463463374607431768211456 < V) : ws V = (340282366920938463463374607431768211456 - V.natAbs) % 340282366920938463463374607431768211456 := by unfold ws; omega
theorem ws_plus (V U : Int) : (ws V + ws U) % 340282366920938463463374607431768211456 = ws (V + U) := by unfold ws; omega
theorem ws_sign {V : Int} (h1 : -170141183460469231731687303715884105728 < V) (h2 : V < 170141183460469231731687303715884105728) : decide (170141183460469231731687303715884105728 ≤ ws V) = decide (V < 0) := by
  unfold ws
  by_cases h : V < 0
  · rw [decide_eq_true h, decide_eq_true (by omega)]
  · rw [decide_eq_false h, decide_eq_false (by omega)]
theorem ws_size {V : Int} (h1 : -170141183460469231731687303715884105728 < V) (h2 : V < 170141183460469231731687303715884105728) : sz (ws V) = V.natAbs := by
  unfold sz ws
  split <;> omega
theorem ws_zero {V : Int} (h1 : -170141183460469231731687303715884105728 < V) (h2 : V < 170141183460469231731687303715884105728) : ws V = 0 ↔ V = 0 := by
  unfold ws; omega
theorem mag_mul {n : Int} {f : Nat} (hn : I64 n) (hf : f < 18446744073709551616) : n.natAbs * f < 340282366920938463463374607431768211456 := by
  unfold I64 at hn
  have := Nat.mul_le_mul (show n.natAbs ≤ 18446744073709551615 by omega) (Nat.le_of_lt_succ hf)
  omega

theorem product_x (n : Int) (f : Nat) (w : World) (hn : I64 n) (hf : f < 18446744073709551616) : Calls Try.prog 40 #[.int .i64 n, .int .u64 f] w fun e w' => e = .returned (wv (ws (n * f))) ∧ Below w.heap.size w w' := by
  have HI : Hid (I64 n) := hn
  have HF : Hid (f < 18446744073709551616) := hf
  have hm := mag_mul hn hf
  have hab : (n * (f : Int)).natAbs = n.natAbs * f := by rw [Int.natAbs_mul, Int.natAbs_natCast]
  have hna : n.natAbs < 18446744073709551616 := by unfold I64 at hn; omega
  have HA : Hid (n.natAbs < 18446744073709551616) := hna
  have HM : Hid (n.natAbs * f < 340282366920938463463374607431768211456) := hm
  have F0 := Lib.hid (Fr.new (Below.refl w.heap.size w) (Nat.le_refl _) 44 _ rfl)
  by_cases h : n < 0
  · have hv : Hid (wv ((340282366920938463463374607431768211456 - n.natAbs * f) % 340282366920938463463374607431768211456) = wv (ws (n * f))) := by
      show _ = _
      congr 4
      all_goals
        by_cases h0 : f = 0
        · subst h0; simp [ws]
        · have : n * (f : Int) < 0 := Int.mul_neg_of_neg_of_pos h (by omega)
          rw [ws_neg this (by omega), hab]
    clear hn hf hm hab hna
    go_enter Try.func40, Try.ntmps40
    go_wp2_with fail
    refine (magnitude_x n _ HI.out).mono ?_
    rintro e w1 ⟨rfl, b1⟩
    have F1 := Lib.hid (F0.out.next b1)
    clear F0 b1
    go_wp2_with fail
    refine (wtimes_x n.natAbs f _ HA.out HF.out).mono ?_
    rintro e w2 ⟨rfl, b2⟩
    have F2 := Lib.hid (F1.out.next b2)
    clear F1 b2
    have F3 := Lib.hid (F2.out.next ((Below.refl _ w2).alloc (Nat.le_refl _) (.cells #[.int .u64 ((n.natAbs * f / 18446744073709551616 : Nat) : Int), .int .u64 ((n.natAbs * f % 18446744073709551616 : Nat) : Int)] 44)))
    obtain ⟨P, hP⟩ : ∃ P, P = n.natAbs * f := ⟨_, rfl⟩
    rw [← hP] at HM hv F3 ⊢
    clear hP
    go_wp2_with fail
    refine (oppw_x P _ HM.out).mono ?_
    rintro e w3 ⟨rfl, b3⟩
    have F4 := Lib.hid (F3.out.next b3)
    clear F3 b3
    have x3 := F4.out.size
    have x4 := F4.out.c0
    have x5 := F4.out.c1
    have x6 := F4.out.f 0
    have x7 := F4.out.f 1
    have x8 := F4.out.below
    obtain ⟨V, hV⟩ : ∃ V, V = (340282366920938463463374607431768211456 - P) % 340282366920938463463374607431768211456 := ⟨_, rfl⟩
    rw [← hV] at hv ⊢
    clear hV h
    go_wp2_with fail
    exact bodyPost_ret (v := wv V) (by simp [results, Try.results40, go_sem, x4, x5]) rfl ⟨by rw [hv.out], (by repeat (first | exact Below.refl _ _ | assumption | refine below_drewN ?_ _ | refine Below.drew ?_ | refine Below.setCell ?_ (by simp) _ | refine Below.alloc ?_ (by simp; try omega) _))⟩
  · have hv : Hid (wv (n.natAbs * f) = wv (ws (n * f))) := by
      show _ = _
      congr 4
      all_goals
        have : 0 ≤ n * (f : Int) := Int.mul_nonneg (by omega) (by omega)
        rw [ws_pos this (by omega), hab]
    clear hn hf hm hab hna
    go_enter Try.func40, Try.ntmps40
    go_wp2_with fail
    refine (magnitude_x n _ HI.out).mono ?_
    rintro e w1 ⟨rfl, b1⟩
    have F1 := Lib.hid (F0.out.next b1)
    clear F0 b1
    go_wp2_with fail
    refine (wtimes_x n.natAbs f _ HA.out HF.out).mono ?_
    rintro e w2 ⟨rfl, b2⟩
    have F2 := Lib.hid (F1.out.next b2)
    clear F1 b2
    have F3 := Lib.hid (F2.out.next ((Below.refl _ w2).alloc (Nat.le_refl _) (.cells #[.int .u64 ((n.natAbs * f / 18446744073709551616 : Nat) : Int), .int .u64 ((n.natAbs * f % 18446744073709551616 : Nat) : Int)] 44)))
    obtain ⟨P, hP⟩ : ∃ P, P = n.natAbs * f := ⟨_, rfl⟩
    rw [← hP] at hv F3 ⊢
    clear hP HM
    clear F3
    have y3 := F2.out.size
    have y4 := F2.out.c0
    have y5 := F2.out.c1
    have y6 := F2.out.f 0
    have y7 := F2.out.f 1
    have y8 := F2.out.below
    have y9 := y8.size
    go_wp2_with fail
    exact bodyPost_ret (v := wv P) (by simp [results, Try.results40, go_sem, World.cell?_alloc_past, y3, y4, y5]) rfl ⟨by rw [hv.out], (by repeat (first | exact Below.refl _ _ | assumption | refine below_drewN ?_ _ | refine Below.drew ?_ | refine Below.setCell ?_ (by simp) _ | refine Below.alloc ?_ (by simp; try omega) _))⟩

theorem rest_x (N d : Nat) (w : World) (hN : N < 340282366920938463463374607431768211456) (h0 : 0 < d) (hd : d < 18446744073709551616) : Calls Try.prog 43 #[wv N, .int .u64 d] w fun e w' => e = .returned (.int .u64 (N % d : Nat)) ∧ Below w.heap.size w w' := by
  have eN : N / 18446744073709551616 * 18446744073709551616 + N % 18446744073709551616 = N := Nat.div_add_mod' N _
  have Hr : Hid (∀ w : World, Calls Try.prog 57 #[.int .u64 (N / 18446744073709551616 : Nat), .int .u64 (N % 18446744073709551616 : Nat), .int .u64 d] w fun e w' => e = .returned (.int .u64 (N % d : Nat)) ∧ Below w.heap.size w w') := fun w => by
    have := rem64_x (N / 18446744073709551616) (N % 18446744073709551616) d w h0 (by omega) (Nat.mod_lt _ (by decide)) hd
    rw [eN] at this
    exact this
  show Calls Try.prog 43 #[.agg #[.int .u64 ((N / 18446744073709551616 : Nat) : Int), .int .u64 ((N % 18446744073709551616 : Nat) : Int)], .int .u64 d] w fun e w' => e = .returned (.int .u64 (N % d : Nat)) ∧ Below w.heap.size w w'
  clear eN hN h0 hd
  generalize N / 18446744073709551616 = h at *
  generalize N % 18446744073709551616 = l at *
  generalize N % d = r at *
  go_enter Try.func43, Try.ntmps43
  go_wp2_with fail
  refine (Hr.out _).mono ?_
  rintro e w2 ⟨rfl, b2⟩
  have c2 := chain ((Below.refl w.heap.size w).alloc (Nat.le_refl _) _) b2
  go_wp2_with fail
  go_ret
  exact ⟨rfl, c2⟩

theorem fits_x (N : Nat) (w : World) : Calls Try.prog 53 #[wv N] w fun e w' => e = .returned (.bool (decide (N ≤ 1152921504606846976))) ∧ Below w.heap.size w w' := by
  have e : decide (N ≤ 1152921504606846976) = (decide (N / 18446744073709551616 = 0) && decide (N % 18446744073709551616 ≤ 1152921504606846976)) := by
    rw [← Bool.decide_and]
    by_cases h : N ≤ 1152921504606846976
    · rw [decide_eq_true h, decide_eq_true (by omega)]
    · rw [decide_eq_false h, decide_eq_false (by omega)]
  rw [e]
  show Calls Try.prog 53 #[.agg #[.int .u64 ((N / 18446744073709551616 : Nat) : Int), .int .u64 ((N % 18446744073709551616 : Nat) : Int)]] w fun e w' => e = .returned (.bool (decide (N / 18446744073709551616 = 0) && decide (N % 18446744073709551616 ≤ 1152921504606846976))) ∧ Below w.heap.size w w'
  clear e
  generalize N / 18446744073709551616 = h at *
  generalize N % 18446744073709551616 = l at *
  by_cases h0 : h = 0
  · subst h0
    obtain ⟨b, hb⟩ : ∃ b, decide (l ≤ 1152921504606846976) = b := ⟨_, rfl⟩
    have k : decide ((l : Int) ≤ 1152921504606846976) = b := by
      rw [← hb]
      by_cases h1 : l ≤ 1152921504606846976
      · rw [decide_eq_true h1, decide_eq_true (by omega)]
      · rw [decide_eq_false h1, decide_eq_false (by omega)]
    rw [hb]
    clear hb
    have k0 : (((0 : Nat) : Int) == 0) = true := rfl
    go_enter Try.func53, Try.ntmps53
    go_wp2_with fail
    go_ret
    exact ⟨by first | rfl | simp, (by repeat (first | exact Below.refl _ _ | assumption | refine below_drewN ?_ _ | refine Below.drew ?_ | refine Below.setCell ?_ (by simp) _ | refine Below.alloc ?_ (by simp; try omega) _))⟩
  · have k0 : ((h : Int) == 0) = false := by simp [h0]
    have k1 : decide (h = 0) = false := decide_eq_false h0
    rw [k1, Bool.false_and]
    go_enter Try.func53, Try.ntmps53
    go_wp2_with fail
    go_ret
    exact ⟨rfl, (by repeat (first | exact Below.refl _ _ | assumption | refine below_drewN ?_ _ | refine Below.drew ?_ | refine Below.setCell ?_ (by simp) _ | refine Below.alloc ?_ (by simp; try omega) _))⟩

/-- the opposite of a ratio, as the program has it -/
def negR (a : Rt.R) : Rt.R := ⟨IntKind.i64.wrap (-a.n), a.d⟩
theorem oppr_x (a : Rt.R) (w : World) : Calls Try.prog 50 #[rv a] w fun e w' => e = .returned (rv (negR a)) ∧ Below w.heap.size w w' := by
  show Calls Try.prog 50 #[.agg #[.int .i64 a.n, .int .i64 a.d]] w fun e w' => e = .returned (.agg #[.int .i64 (IntKind.i64.wrap (-a.n)), .int .i64 a.d]) ∧ Below w.heap.size w w'
  obtain ⟨n, d⟩ := a
  simp only
  obtain ⟨m, hm⟩ : ∃ m, IntKind.i64.wrap (-n) = m := ⟨_, rfl⟩
  rw [hm]
  go_enter Try.func50, Try.ntmps50
  go_wp2_with fail
  exact bodyPost_ret (v := .agg #[.int .i64 m, .int .i64 d]) (by simp [results, Try.results50, go_sem]) rfl ⟨rfl, (by repeat (first | exact Below.refl _ _ | assumption | refine below_drewN ?_ _ | refine Below.drew ?_ | refine Below.setCell ?_ (by simp) _ | refine Below.alloc ?_ (by simp; try omega) _))⟩

def invR (a : Rt.R) : Rt.R := if a.n < 0 then ⟨IntKind.i64.wrap (-a.d), IntKind.i64.wrap (-a.n)⟩ else ⟨a.d, a.n⟩
theorem inverse_x (a : Rt.R) (w : World) : Calls Try.prog 51 #[rv a] w fun e w' => e = .returned (rv (invR a)) ∧ Below w.heap.size w w' := by
  by_cases h : a.n < 0
  · have e : invR a = ⟨IntKind.i64.wrap (-a.d), IntKind.i64.wrap (-a.n)⟩ := by unfold invR; rw [if_pos h]
    rw [e]
    show Calls Try.prog 51 #[.agg #[.int .i64 a.n, .int .i64 a.d]] w fun e w' => e = .returned (.agg #[.int .i64 (IntKind.i64.wrap (-a.d)), .int .i64 (IntKind.i64.wrap (-a.n))]) ∧ Below w.heap.size w w'
    clear e
    obtain ⟨n, d⟩ := a
    simp only at h ⊢
    obtain ⟨m, hm⟩ : ∃ m, IntKind.i64.wrap (-n) = m := ⟨_, rfl⟩
    obtain ⟨k, hk⟩ : ∃ k, IntKind.i64.wrap (-d) = k := ⟨_, rfl⟩
    rw [hm, hk]
    go_enter Try.func51, Try.ntmps51
    go_wp2_with fail
    exact bodyPost_ret (v := .agg #[.int .i64 k, .int .i64 m]) (by simp [results, Try.results51, go_sem]) rfl ⟨rfl, (by repeat (first | exact Below.refl _ _ | assumption | refine below_drewN ?_ _ | refine Below.drew ?_ | refine Below.setCell ?_ (by simp) _ | refine Below.alloc ?_ (by simp; try omega) _))⟩
  · have e : invR a = ⟨a.d, a.n⟩ := by unfold invR; rw [if_neg h]
    rw [e]
    show Calls Try.prog 51 #[.agg #[.int .i64 a.n, .int .i64 a.d]] w fun e w' => e = .returned (.agg #[.int .i64 a.d, .int .i64 a.n]) ∧ Below w.heap.size w w'
    clear e
    obtain ⟨n, d⟩ := a
    simp only at h ⊢
    go_enter Try.func51, Try.ntmps51
    go_wp2_with fail
    exact bodyPost_ret (v := .agg #[.int .i64 d, .int .i64 n]) (by simp [results, Try.results51, go_sem]) rfl ⟨rfl, (by repeat (first | exact Below.refl _ _ | assumption | refine below_drewN ?_ _ | refine Below.drew ?_ | refine Below.setCell ?_ (by simp) _ | refine Below.alloc ?_ (by simp; try omega) _))⟩

/-- the floor and what is left, out of Go's quotient and remainder -/
theorem split_math {n d : Int} (hd : 1 ≤ d) : (n.tmod d < 0 → n / d = n.tdiv d - 1 ∧ n % d = n.tmod d + d) ∧ (0 ≤ n.tmod d → n / d = n.tdiv d ∧ n % d = n.tmod d) := by
  have e := Int.mul_tdiv_add_tmod n d
  have l1 : n.tmod d < d := Int.tmod_lt_of_pos n (by omega)
  have l2 : -d < n.tmod d := by
    have h := Int.natAbs_tmod n d
    have h2 := Nat.mod_lt n.natAbs (show 0 < d.natAbs by omega)
    rw [← h] at h2
    omega
  generalize n.tmod d = r at *
  generalize n.tdiv d = q at *
  constructor
  · intro hr
    have e2 : n = d * (q - 1) + (r + d) := by rw [Int.mul_sub]; omega
    have := (Int.ediv_emod_unique (a := n) (b := d) (q := q - 1) (r := r + d) (by omega)).2 ⟨by omega, by omega, by omega⟩
    exact this
  · intro hr
    have := (Int.ediv_emod_unique (a := n) (b := d) (q := q) (r := r) (by omega)).2 ⟨by omega, by omega, by omega⟩
    exact this

theorem split_x (a : Rt.R) (w : World) (ha : In a) (hd : 1 ≤ a.d) (hbig : -1152921504606846976 ≤ a.n) : Calls Try.prog 52 #[rv a] w fun e w' => e = .returned (.tuple #[.int .i64 (a.n / a.d), .int .i64 (a.n % a.d)]) ∧ Below w.heap.size w w' := by
  obtain ⟨n, d⟩ := a
  obtain ⟨⟨n1, n2⟩, d1, d2⟩ := ha
  simp only at n1 n2 d1 d2 hd hbig ⊢
  show Calls Try.prog 52 #[.agg #[.int .i64 n, .int .i64 d]] w fun e w' => e = .returned (.tuple #[.int .i64 (n / d), .int .i64 (n % d)]) ∧ Below w.heap.size w w'
  obtain ⟨m1, m2⟩ := split_math (n := n) hd
  have hq : (n.tdiv d).natAbs ≤ n.natAbs := by rw [Int.natAbs_tdiv]; exact Nat.div_le_self _ _
  have hq0 : -1152921504606846976 ≤ n.tdiv d := by
    have : n.tdiv d * 1 ≥ -1152921504606846976 * 1 := by
      by_cases h : 0 ≤ n
      · have := Int.tdiv_nonneg h (show 0 ≤ d by omega); omega
      · omega
    omega
  have hr1 : n.tmod d < d := Int.tmod_lt_of_pos n (by omega)
  have hr2 : -d < n.tmod d := by
    have h := Int.natAbs_tmod n d
    have h2 := Nat.mod_lt n.natAbs (show 0 < d.natAbs by omega)
    rw [← h] at h2
    omega
  have f1 : IntKind.i64.wrap (n.tdiv d) = n.tdiv d := IntWalk.i64_in _ (by omega)
  have f2 : IntKind.i64.wrap (n.tmod d) = n.tmod d := IntWalk.i64_in _ (by omega)
  have f0 : (d == 0) = false := by simp; omega
  have M1 := Lib.hid m1
  have M2 := Lib.hid m2
  have g1 : IntKind.i64.wrap (n.tdiv d - 1) = n.tdiv d - 1 := IntWalk.i64_in _ (by omega)
  clear m1 m2 hq
  by_cases h : n.tmod d < 0
  · have g2 : IntKind.i64.wrap (n.tmod d + d) = n.tmod d + d := IntWalk.i64_in _ (by omega)
    obtain ⟨e1, e2⟩ := M1.out h
    rw [e1, e2]
    clear e1 e2 M1 M2
    go_enter Try.func52, Try.ntmps52
    go_wp2_with fail
    go_quiet (fail)
    go_wp2_with fail
    go_quiet (fail)
    go_wp2_with fail
    go_ret2
    exact ⟨rfl, (by repeat (first | exact Below.refl _ _ | assumption | refine below_drewN ?_ _ | refine Below.drew ?_ | refine Below.setCell ?_ (by simp) _ | refine Below.alloc ?_ (by simp; try omega) _))⟩
  · obtain ⟨e1, e2⟩ := M2.out (by omega)
    rw [e1, e2]
    clear e1 e2 M1 M2
    go_enter Try.func52, Try.ntmps52
    go_wp2_with fail
    go_quiet (fail)
    go_wp2_with fail
    go_ret2
    exact ⟨rfl, (by repeat (first | exact Below.refl _ _ | assumption | refine below_drewN ?_ _ | refine Below.drew ?_ | refine Below.setCell ?_ (by simp) _ | refine Below.alloc ?_ (by simp; try omega) _))⟩

end Go.Proofs.Ytnddfngdlmdmhaa
