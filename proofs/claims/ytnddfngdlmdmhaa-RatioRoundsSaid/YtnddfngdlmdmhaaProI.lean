/-
  The program's Add.
-/
import Derived.Test.YtnddfngdlmdmhaaProH
namespace Go.Proofs.Ytnddfngdlmdmhaa
open Go.RowKit

theorem Three.alloc {w : World} {a b : Rt.R} {W : World} (h : Three w a b W) (o : Obj) : Three w a b (W.alloc o) := h.next ((Below.refl _ _).alloc (Nat.le_refl _) _)
theorem Three.set {w : World} {a b : Rt.R} {W : World} (h : Three w a b W) (n o : Nat) (v : Value) (hn : w.heap.size + 1 + 1 < n) : Three w a b (W.setCell ⟨n, o, none⟩ v) := by
  have ne : ∀ m k : Nat, m ≤ w.heap.size + 1 + 1 → (⟨n, o, none⟩ : Addr) ≠ ⟨m, k, none⟩ := fun m k hm e => by injection e with e _ _; omega
  refine ⟨h.below.setCell (by show w.heap.size ≤ n; omega) _, by simp; exact h.size, ?_, ?_, ?_, ?_, ?_, ?_, fun o => by simp; exact h.f o⟩
  · rw [World.cell?_setCell_other _ _ _ _ (ne _ _ (by omega))]; exact h.a0
  · rw [World.cell?_setCell_other _ _ _ _ (ne _ _ (by omega))]; exact h.a1
  · rw [World.cell?_setCell_other _ _ _ _ (ne _ _ (by omega))]; exact h.b0
  · rw [World.cell?_setCell_other _ _ _ _ (ne _ _ (by omega))]; exact h.b1
  · rw [World.cell?_setCell_other _ _ _ _ (ne _ _ (by omega))]; exact h.r0
  · rw [World.cell?_setCell_other _ _ _ _ (ne _ _ (by omega))]; exact h.r1
theorem th_all {w : World} {a b : Rt.R} {w' : World} (t : Three w a b w') : w.heap.size + 1 + 1 < w'.heap.size ∧ w'.cell? ⟨w.heap.size, 0, none⟩ = some (.int .i64 a.n) ∧ w'.cell? ⟨w.heap.size, 1, none⟩ = some (.int .i64 a.d) ∧ w'.cell? ⟨w.heap.size + 1, 0, none⟩ = some (.int .i64 b.n) ∧ w'.cell? ⟨w.heap.size + 1, 1, none⟩ = some (.int .i64 b.d) :=
  ⟨t.size, t.a0, t.a1, t.b0, t.b1⟩

/-- the operands, the result, the sum and its size -/
structure Ad (w : World) (a b : Rt.R) (n hS lS m hT lT : Nat) (W : World) : Prop where
  t : Three w a b W
  s : AtU W n hS lS
  z : AtU W m hT lT
  hn : w.heap.size + 1 + 1 < n
  hm : w.heap.size + 1 + 1 < m
theorem Ad.next {w : World} {a b : Rt.R} {n hS lS m hT lT : Nat} {W W' : World} (h : Ad w a b n hS lS m hT lT W) (hb : Below W.heap.size W W') : Ad w a b n hS lS m hT lT W' := ⟨h.t.next hb, h.s.below hb, h.z.below hb, h.hn, h.hm⟩
theorem Ad.drew {w : World} {a b : Rt.R} {n hS lS m hT lT : Nat} {W : World} (h : Ad w a b n hS lS m hT lT W) : Ad w a b n hS lS m hT lT W.drew := h.next (Below.drew (Below.refl _ _))
/-- what a store into the result leaves -/
structure Ae (w : World) (b : Rt.R) (n hS lS m hT lT : Nat) (W : World) : Prop where
  size : w.heap.size + 1 + 1 < W.heap.size
  b1 : W.cell? ⟨w.heap.size + 1, 1, none⟩ = some (.int .i64 b.d)
  s : AtU W n hS lS
  z : AtU W m hT lT
  hn : w.heap.size + 1 + 1 < n
  hm : w.heap.size + 1 + 1 < m
theorem Ad.ae {w : World} {a b : Rt.R} {n hS lS m hT lT : Nat} {W : World} (h : Ad w a b n hS lS m hT lT W) : Ae w b n hS lS m hT lT W := ⟨h.t.size, h.t.b1, h.s, h.z, h.hn, h.hm⟩
theorem Ae.set {w : World} {b : Rt.R} {n hS lS m hT lT : Nat} {W : World} (h : Ae w b n hS lS m hT lT W) (o : Nat) (v : Value) : Ae w b n hS lS m hT lT (W.setCell ⟨w.heap.size + 1 + 1, o, none⟩ v) := by
  have ne : ∀ p k : Nat, p ≠ w.heap.size + 1 + 1 → (⟨w.heap.size + 1 + 1, o, none⟩ : Addr) ≠ ⟨p, k, none⟩ := fun p k hp e => by injection e with e _ _; exact hp e.symm
  have h1 := h.hn
  have h2 := h.hm
  refine ⟨by simp; exact h.size, ?_, ⟨by simp; exact h.s.1, ?_, ?_⟩, ⟨by simp; exact h.z.1, ?_, ?_⟩, h1, h2⟩
  · rw [World.cell?_setCell_other _ _ _ _ (ne _ _ (by omega))]; exact h.b1
  · rw [World.cell?_setCell_other _ _ _ _ (ne _ _ (by omega))]; exact h.s.2.1
  · rw [World.cell?_setCell_other _ _ _ _ (ne _ _ (by omega))]; exact h.s.2.2
  · rw [World.cell?_setCell_other _ _ _ _ (ne _ _ (by omega))]; exact h.z.2.1
  · rw [World.cell?_setCell_other _ _ _ _ (ne _ _ (by omega))]; exact h.z.2.2
theorem ae_all {w : World} {b : Rt.R} {n hS lS m hT lT : Nat} {w' : World} (t : Ae w b n hS lS m hT lT w') : w.heap.size + 1 + 1 < w'.heap.size ∧ w'.cell? ⟨w.heap.size + 1, 1, none⟩ = some (.int .i64 b.d) ∧ w'.cell? ⟨n, 0, none⟩ = some (.int .u64 (hS : Int)) ∧ w'.cell? ⟨n, 1, none⟩ = some (.int .u64 (lS : Int)) ∧ w'.cell? ⟨m, 0, none⟩ = some (.int .u64 (hT : Int)) ∧ w'.cell? ⟨m, 1, none⟩ = some (.int .u64 (lT : Int)) := ⟨t.size, t.b1, t.s.2.1, t.s.2.2, t.z.2.1, t.z.2.2⟩

/-- the sizes of a sum over the least common denominator -/
theorem sum_small {x y : Int} {X Y : Nat} (h1 : x.natAbs ≤ 1152921504606846976) (h2 : y.natAbs ≤ 1152921504606846976) (h3 : X ≤ 1152921504606846976) (h4 : Y ≤ 1152921504606846976) {S : Int} (hS : S = x * (Y : Int) + y * (X : Int)) : S.natAbs < 170141183460469231731687303715884105728 := by
  have a1 := Nat.mul_le_mul h1 h4
  have a2 := Nat.mul_le_mul h2 h3
  have b1 : (x * (Y : Int)).natAbs = x.natAbs * Y := by rw [Int.natAbs_mul, Int.natAbs_natCast]
  have b2 : (y * (X : Int)).natAbs = y.natAbs * X := by rw [Int.natAbs_mul, Int.natAbs_natCast]
  omega

set_option maxHeartbeats 6400000 in
set_option maxRecDepth 100000 in
theorem Add_x (a b : Rt.R) (w : World) (ha : In a) (hb : In b) : Calls Try.prog 13 #[rv a, rv b] w fun e w' => e = .returned (rok (Rt.add a b)) ∧ Below w.heap.size w w' := by
  have hA := Lib.hid ha
  have hB := Lib.hid hb
  cases ra : Rt.right a with
  | false =>
    have hv : Hid (Rt.add a b = (⟨0, 0⟩, 1)) := Rt.two_not (by rw [ra]; simp) _ _
    have Ra := Lib.hid ra
    clear ra ha hb
    go_enter Try.func13, Try.ntmps13
    go_wp2_with fail
    refine (Right_x a _ hA.out).mono ?_
    rintro e w1 ⟨rfl, b1⟩
    have t1 := (Three.start w a b 23).next b1
    clear b1
    rw [Ra.out]
    have y1 := t1.size
    have y2 := t1.a0
    have y3 := t1.a1
    have y4 := t1.b0
    have y5 := t1.b1
    have y6 := t1.r0
    have y7 := t1.r1
    have y8 := t1.f 0
    have y9 := t1.f 1
    go_wp2_with fail
    exact bodyPost_ret (v := .tuple #[.agg #[.int .i64 0, .int .i64 0], .int .i64 1]) (by simp [results, Try.results13, go_sem, y6, y7]) rfl ⟨by rw [hv.out]; try rfl, by repeat (first | exact t1.below | refine below_drewN ?_ _ | refine Below.drew ?_ | refine Below.setCell ?_ (by simp; omega) _)⟩
  | true =>
    have Ra := Lib.hid ra
    cases rb : Rt.right b with
    | false =>
      have hv : Hid (Rt.add a b = (⟨0, 0⟩, 1)) := Rt.two_not (by rw [rb]; simp) _ _
      have Rb := Lib.hid rb
      clear ra rb ha hb
      go_enter Try.func13, Try.ntmps13
      go_wp2_with fail
      refine (Right_x a _ hA.out).mono ?_
      rintro e w1 ⟨rfl, b1⟩
      have t1 := (Three.start w a b 23).next b1
      clear b1
      rw [Ra.out]
      have y1 := t1.size
      have y2 := t1.a0
      have y3 := t1.a1
      have y4 := t1.b0
      have y5 := t1.b1
      have y6 := t1.r0
      have y7 := t1.r1
      have y8 := t1.f 0
      have y9 := t1.f 1
      go_wp2_with fail
      refine (Right_x b _ hB.out).mono ?_
      rintro e w2 ⟨rfl, b2⟩
      have t2 := t1.next b2
      clear b2 t1
      clear y1 y2 y3 y4 y5 y6 y7 y8 y9
      rw [Rb.out]
      have y1 := t2.size
      have y2 := t2.a0
      have y3 := t2.a1
      have y4 := t2.b0
      have y5 := t2.b1
      have y6 := t2.r0
      have y7 := t2.r1
      have y8 := t2.f 0
      have y9 := t2.f 1
      go_wp2_with fail
      exact bodyPost_ret (v := .tuple #[.agg #[.int .i64 0, .int .i64 0], .int .i64 1]) (by simp [results, Try.results13, go_sem, y6, y7]) rfl ⟨by rw [hv.out]; try rfl, by repeat (first | exact t2.below | refine below_drewN ?_ _ | refine Below.drew ?_ | refine Below.setCell ?_ (by simp; omega) _)⟩
    | true =>
      have Rb := Lib.hid rb
      obtain ⟨a1, a2, a3⟩ := right_small ra
      obtain ⟨b1, b2, b3⟩ := right_small rb
      have da : (a.d.natAbs : Int) = a.d := by omega
      have db : (b.d.natAbs : Int) = b.d := by omega
      obtain ⟨c, hc⟩ : ∃ c, c = Nat.gcd a.d.natAbs b.d.natAbs := ⟨_, rfl⟩
      obtain ⟨S, hS⟩ : ∃ S : Int, S = a.n * ((b.d.natAbs / c : Nat) : Int) + b.n * ((a.d.natAbs / c : Nat) : Int) := ⟨_, rfl⟩
      obtain ⟨d, hd⟩ : ∃ d, d = Nat.gcd (S.natAbs % c) c := ⟨_, rfl⟩
      obtain ⟨hadd, c0, d0, hdv⟩ := add_gp ra rb hc hS hd
      have c1 : c ≤ 1152921504606846976 := by rw [hc]; exact Nat.le_trans (Nat.gcd_le_right _ (by omega)) b2
      have d1 : d ≤ c := by rw [hd]; exact Nat.gcd_le_right _ c0
      have x1 : a.d.natAbs / c ≤ 1152921504606846976 := Nat.le_trans (Nat.div_le_self _ _) a2
      have y1' : b.d.natAbs / c ≤ 1152921504606846976 := Nat.le_trans (Nat.div_le_self _ _) b2
      have z1' : b.d.natAbs / d ≤ 1152921504606846976 := Nat.le_trans (Nat.div_le_self _ _) b2
      have hS2 := sum_small a1 b1 x1 y1' hS
      have E1 : Hid (∀ w : World, Calls Try.prog 37 #[.int .u64 a.d, .int .u64 b.d] w fun e w' => e = .returned (.int .u64 (c : Nat)) ∧ Below w.heap.size w w') := fun w => by
        have h := divisor_x a.d.natAbs b.d.natAbs w (by omega) (by omega)
        rw [da, db, ← hc] at h
        exact h
      have P1 : Hid (∀ w : World, Calls Try.prog 40 #[.int .i64 a.n, .int .u64 (b.d.natAbs / c : Nat)] w fun e w' => e = .returned (wv (ws (a.n * ((b.d.natAbs / c : Nat) : Int)))) ∧ Below w.heap.size w w') := fun w => product_x a.n (b.d.natAbs / c) w ha.1 (by omega)
      have P2 : Hid (∀ w : World, Calls Try.prog 40 #[.int .i64 b.n, .int .u64 (a.d.natAbs / c : Nat)] w fun e w' => e = .returned (wv (ws (b.n * ((a.d.natAbs / c : Nat) : Int)))) ∧ Below w.heap.size w w') := fun w => product_x b.n (a.d.natAbs / c) w hb.1 (by omega)
      have P3 : Hid (∀ w : World, Calls Try.prog 41 #[wv (ws (a.n * ((b.d.natAbs / c : Nat) : Int))), wv (ws (b.n * ((a.d.natAbs / c : Nat) : Int)))] w fun e w' => e = .returned (wv (ws S)) ∧ Below w.heap.size w w') := fun w => by
        have h := wplus_x (ws (a.n * ((b.d.natAbs / c : Nat) : Int))) (ws (b.n * ((a.d.natAbs / c : Nat) : Int))) w
        rw [ws_plus, ← hS] at h
        exact h
      have SZ : Hid (∀ w : World, Calls Try.prog 42 #[wv (ws S)] w fun e w' => e = .returned (wv S.natAbs) ∧ Below w.heap.size w w') := fun w => by
        have h := size_x (ws S) w (ws_lt S)
        rw [ws_size (by omega) (by omega)] at h
        exact h
      have NG : Hid (∀ w : World, Calls Try.prog 44 #[wv (ws S)] w fun e w' => e = .returned (.bool (decide (S < 0))) ∧ Below w.heap.size w w') := fun w => by
        have h := negative_x (ws S) w (ws_lt S)
        rw [ws_sign (by omega) (by omega)] at h
        exact h
      have RS : Hid (∀ w : World, Calls Try.prog 43 #[wv S.natAbs, .int .u64 (c : Nat)] w fun e w' => e = .returned (.int .u64 (S.natAbs % c : Nat)) ∧ Below w.heap.size w w') := fun w => rest_x S.natAbs c w (by omega) c0 (by omega)
      have E2 : Hid (∀ w : World, Calls Try.prog 37 #[.int .u64 (S.natAbs % c : Nat), .int .u64 (c : Nat)] w fun e w' => e = .returned (.int .u64 (d : Nat)) ∧ Below w.heap.size w w') := fun w => by
        have h := divisor_x (S.natAbs % c) c w (by have := Nat.mod_lt S.natAbs c0; omega) (by omega)
        rw [← hd] at h
        exact h
      have OV : Hid (∀ w : World, Calls Try.prog 45 #[wv S.natAbs, .int .u64 (d : Nat)] w fun e w' => e = .returned (wv (S.natAbs / d)) ∧ Below w.heap.size w w') := fun w => over_x S.natAbs d w (by omega) d0 (by omega)
      have TM : Hid (∀ w : World, Calls Try.prog 46 #[.int .u64 (a.d.natAbs / c : Nat), .int .u64 (b.d.natAbs / d : Nat)] w fun e w' => e = .returned (wv (a.d.natAbs / c * (b.d.natAbs / d))) ∧ Below w.heap.size w w') := fun w => wtimes_x _ _ w (by omega) (by omega)
      obtain ⟨g, hg⟩ : ∃ g, decide (S < 0) = g := ⟨_, rfl⟩
      rw [hg] at NG hadd
      have GV : Hid (∀ w : World, Calls Try.prog 34 #[.bool g, wv (S.natAbs / d), wv (a.d.natAbs / c * (b.d.natAbs / d))] w fun e w' => e = .returned (rok (Rt.add a b)) ∧ Below w.heap.size w w') := fun w => by
        have h := give_x g (S.natAbs / d) (a.d.natAbs / c * (b.d.natAbs / d)) w
        rw [hadd] at h
        exact h
      have w1' : IntKind.u64.wrap a.d = a.d := by rw [← da]; exact wrapU _ (by omega)
      have w2' : IntKind.u64.wrap b.d = b.d := by rw [← db]; exact wrapU _ (by omega)
      have q1' : IntKind.u64.wrap (a.d / (c : Int)) = ((a.d.natAbs / c : Nat) : Int) := by rw [← da, Int.natAbs_natCast, ← Int.natCast_ediv]; exact wrapU _ (by omega)
      have q2' : IntKind.u64.wrap (b.d / (c : Int)) = ((b.d.natAbs / c : Nat) : Int) := by rw [← db, Int.natAbs_natCast, ← Int.natCast_ediv]; exact wrapU _ (by omega)
      have q3' : IntKind.u64.wrap (b.d / (d : Int)) = ((b.d.natAbs / d : Nat) : Int) := by rw [← db, Int.natAbs_natCast, ← Int.natCast_ediv]; exact wrapU _ (by omega)
      have q4' : IntKind.u64.wrap (b.d.tdiv (d : Int)) = ((b.d.natAbs / d : Nat) : Int) := by rw [Int.tdiv_eq_ediv_of_nonneg (by omega)]; exact q3'
      have q5' : IntKind.u64.wrap (a.d.tdiv (c : Int)) = ((a.d.natAbs / c : Nat) : Int) := by rw [Int.tdiv_eq_ediv_of_nonneg (by omega)]; exact q1'
      have q6' : IntKind.u64.wrap (b.d.tdiv (c : Int)) = ((b.d.natAbs / c : Nat) : Int) := by rw [Int.tdiv_eq_ediv_of_nonneg (by omega)]; exact q2'
      have f1' : ((c : Int) == 0) = false := by simp; omega
      have f2' : ((d : Int) == 0) = false := by simp; omega
      have f3' : ¬ (d : Int) = 0 := by omega
      have f4' : ¬ d = 0 := by omega
      have f5' : ¬ (c : Int) = 0 := by omega
      unfold wv at P1 P2 P3 SZ NG RS OV TM GV
      generalize ws (a.n * ((b.d.natAbs / c : Nat) : Int)) / 18446744073709551616 = h1 at *
      generalize ws (a.n * ((b.d.natAbs / c : Nat) : Int)) % 18446744073709551616 = l1 at *
      generalize ws (b.n * ((a.d.natAbs / c : Nat) : Int)) / 18446744073709551616 = h2 at *
      generalize ws (b.n * ((a.d.natAbs / c : Nat) : Int)) % 18446744073709551616 = l2 at *
      clear hadd hS hd hdv c1 d1 x1 y1' z1' hS2 hg hc
      generalize ws S / 18446744073709551616 = hS at *
      generalize ws S % 18446744073709551616 = lS at *
      generalize S.natAbs % c = r at *
      generalize S.natAbs / d / 18446744073709551616 = hO at *
      generalize S.natAbs / d % 18446744073709551616 = lO at *
      generalize S.natAbs / 18446744073709551616 = hT at *
      generalize S.natAbs % 18446744073709551616 = lT at *
      generalize a.d.natAbs / c * (b.d.natAbs / d) / 18446744073709551616 = hM at *
      generalize a.d.natAbs / c * (b.d.natAbs / d) % 18446744073709551616 = lM at *
      generalize a.d.natAbs / c = x at *
      generalize b.d.natAbs / c = y at *
      generalize b.d.natAbs / d = z at *
      obtain ⟨⟨⟨n0, d0'⟩, e0⟩, HR⟩ : ∃ R, R = Rt.add a b := ⟨_, rfl⟩
      rw [← HR] at GV ⊢
      unfold rok at GV ⊢
      simp only at GV ⊢
      have A3 : (1 : Int) ≤ a.d := a3
      have B3 : (1 : Int) ≤ b.d := b3
      clear HR ra rb ha hb a1 a2 a3 b1 b2 b3 da db c0 d0
      go_enter Try.func13, Try.ntmps13
      go_wp2_with fail
      refine (Right_x a _ hA.out).mono ?_
      rintro e w1 ⟨rfl, b1⟩
      have t1 := (Three.start w a b 23).next b1
      clear b1
      rw [Ra.out]
      have y1 := t1.size
      have y2 := t1.a0
      have y3 := t1.a1
      have y4 := t1.b0
      have y5 := t1.b1
      have y6 := t1.r0
      have y7 := t1.r1
      have y8 := t1.f 0
      have y9 := t1.f 1
      go_wp2_with fail
      refine (Right_x b _ hB.out).mono ?_
      rintro e w2 ⟨rfl, b2⟩
      have t2 := t1.next b2
      clear b2 t1
      clear y1 y2 y3 y4 y5 y6 y7 y8 y9
      rw [Rb.out]
      have y1 := t2.size
      have y2 := t2.a0
      have y3 := t2.a1
      have y4 := t2.b0
      have y5 := t2.b1
      have y6 := t2.r0
      have y7 := t2.r1
      have y8 := t2.f 0
      have y9 := t2.f 1
      go_wp2_with fail
      refine (E1.out _).mono ?_
      rintro e w3 ⟨rfl, b3⟩
      have t3 := t2.next b3
      clear b3 t2
      clear y1 y2 y3 y4 y5 y6 y7 y8 y9
      have y1 := t3.size
      have y2 := t3.a0
      have y3 := t3.a1
      have y4 := t3.b0
      have y5 := t3.b1
      have y6 := t3.r0
      have y7 := t3.r1
      have y8 := t3.f 0
      have y9 := t3.f 1
      go_upto_region 4 with fail
      go_cut [7, 8] (fun p q wx => p = .int .u64 (x : Int) ∧ q = .int .u64 (y : Int) ∧ Three w a b wx)
      case first =>
        go_quiet (fail)
        go_wp2_with fail
        go_meet
        exact ⟨rfl, rfl, t3.next (below_drewN (Below.refl _ _) _)⟩
      case rest =>
        obtain ⟨rfl, rfl, t4⟩ := hcut
        clear t3
        clear y1 y2 y3 y4 y5 y6 y7 y8 y9
        have y1 := t4.size
        have y2 := t4.a0
        have y3 := t4.a1
        have y4 := t4.b0
        have y5 := t4.b1
        have y6 := t4.r0
        have y7 := t4.r1
        have y8 := t4.f 0
        have y9 := t4.f 1
        go_upto_region 5 with fail
        go_cut [9] (fun p wx => ∃ n, p = .pointer (some ⟨n, 0, none⟩) ∧ w.heap.size + 1 + 1 < n ∧ Three w a b wx ∧ AtU wx n hS lS)
        case first =>
          have hT1 : Three w a b _ := t4
          have hT1' : Three w a b _ := t4.drew
          go_region_held3 (fun w' => w.heap.size + 1 + 1 < w'.heap.size ∧ w'.cell? ⟨w.heap.size, 0, none⟩ = some (.int .i64 a.n) ∧ w'.cell? ⟨w.heap.size, 1, none⟩ = some (.int .i64 a.d) ∧ w'.cell? ⟨w.heap.size + 1, 0, none⟩ = some (.int .i64 b.n) ∧ w'.cell? ⟨w.heap.size + 1, 1, none⟩ = some (.int .i64 b.d))
            (first
            | exact th_all hT1
            | exact th_all hT1'
            | exact th_all (by assumption)
            | exact th_all (Three.alloc (by assumption) _)
            | exact th_all (Three.set (Three.set (by assumption) _ _ _ (by omega)) _ _ _ (by omega))
            | exact th_all (Three.set (Three.set (Three.alloc (by assumption) _) _ _ _ (by omega)) _ _ _ (by omega)))
            (first
            | (go_at_call 40; with_reducible refine (P1.out _).mono ?_; rintro e w' ⟨rfl, hb⟩; have hk : Three w a b w' := (by first | exact Three.next (by assumption) hb | exact Three.next (Three.alloc (by assumption) _) hb | exact Three.next (Three.drew (Three.alloc (by assumption) _)) hb); have hks := hk.size; first | (have hz := Zb.next (by assumption) hb; have q0 := hz.c0; have q1 := hz.c1; have q2 := hz.f 0; have q3 := hz.f 1; have q4 := hz.size) | (have hz := Zb.next (Zb.new _ _) hb; have q0 := hz.c0; have q1 := hz.c1; have q2 := hz.f 0; have q3 := hz.f 1; have q4 := hz.size) | (have hz := Zb.next (Zb.next (Zb.new _ _) (Below.drew (Below.refl _ _))) hb; have q0 := hz.c0; have q1 := hz.c1; have q2 := hz.f 0; have q3 := hz.f 1; have q4 := hz.size) | skip)
            | (go_at_call 40; with_reducible refine (P2.out _).mono ?_; rintro e w' ⟨rfl, hb⟩; have hk : Three w a b w' := (by first | exact Three.next (by assumption) hb | exact Three.next (Three.alloc (by assumption) _) hb | exact Three.next (Three.drew (Three.alloc (by assumption) _)) hb); have hks := hk.size; first | (have hz := Zb.next (by assumption) hb; have q0 := hz.c0; have q1 := hz.c1; have q2 := hz.f 0; have q3 := hz.f 1; have q4 := hz.size) | (have hz := Zb.next (Zb.new _ _) hb; have q0 := hz.c0; have q1 := hz.c1; have q2 := hz.f 0; have q3 := hz.f 1; have q4 := hz.size) | (have hz := Zb.next (Zb.next (Zb.new _ _) (Below.drew (Below.refl _ _))) hb; have q0 := hz.c0; have q1 := hz.c1; have q2 := hz.f 0; have q3 := hz.f 1; have q4 := hz.size) | skip)
            | (go_at_call 41; with_reducible refine (P3.out _).mono ?_; rintro e w' ⟨rfl, hb⟩; have hk : Three w a b w' := (by first | exact Three.next (by assumption) hb | exact Three.next (Three.alloc (by assumption) _) hb | exact Three.next (Three.drew (Three.alloc (by assumption) _)) hb); have hks := hk.size; first | (have hz := Zb.next (by assumption) hb; have q0 := hz.c0; have q1 := hz.c1; have q2 := hz.f 0; have q3 := hz.f 1; have q4 := hz.size) | (have hz := Zb.next (Zb.new _ _) hb; have q0 := hz.c0; have q1 := hz.c1; have q2 := hz.f 0; have q3 := hz.f 1; have q4 := hz.size) | (have hz := Zb.next (Zb.next (Zb.new _ _) (Below.drew (Below.refl _ _))) hb; have q0 := hz.c0; have q1 := hz.c1; have q2 := hz.f 0; have q3 := hz.f 1; have q4 := hz.size) | skip))
          all_goals
            go_wp2_with fail
            go_meet
            first
              | exact ⟨_, rfl, by omega, Three.alloc (by assumption) _, AtU.new _ _ _ _ _ rfl⟩
              | exact ⟨_, rfl, by omega, Three.set (Three.set (by assumption) _ _ _ (by omega)) _ _ _ (by omega), Zb.set (by assumption) _ _⟩
        case rest =>
          obtain ⟨n, rfl, hn, t5, u5⟩ := hcut
          clear t4
          clear y1 y2 y3 y4 y5 y6 y7 y8 y9
          obtain ⟨v0, v1, v2⟩ := id u5
          go_wp2_with fail
          refine (SZ.out _).mono ?_
          rintro e w6 ⟨rfl, b6⟩
          have t6 := (t5.next b6).alloc (.cells #[.int .u64 (hT : Int), .int .u64 (lT : Int)] 44)
          have u6 := (u5.below b6).alloc (.cells #[.int .u64 (hT : Int), .int .u64 (lT : Int)] 44)
          have z6 := AtU.new w6 hT lT 44 _ rfl
          have s6 := (t5.next b6).size
          clear b6 t5 u5 v0 v1 v2
          go_wp2_with fail
          refine (RS.out _).mono ?_
          rintro e w7 ⟨rfl, b7⟩
          have t7 : Ad w a b n hS lS w6.heap.size hT lT w7 := ⟨t6.next b7, u6.below b7, z6.below b7, hn, s6⟩
          obtain ⟨m, hm⟩ : ∃ m, m = w6.heap.size := ⟨_, rfl⟩
          rw [← hm] at t7 ⊢
          clear b7 t6 u6 z6 s6 hm
          go_wp2_with fail
          refine (E2.out _).mono ?_
          rintro e w8 ⟨rfl, b8⟩
          have t8 := t7.next b8
          clear b8 t7
          obtain ⟨v0, v1, v2⟩ := id t8.s
          obtain ⟨x0, x1, x2⟩ := id t8.z
          have y1 := t8.t.size
          have y2 := t8.t.a0
          have y3 := t8.t.a1
          have y4 := t8.t.b0
          have y5 := t8.t.b1
          have y6 := t8.t.r0
          have y7 := t8.t.r1
          have y8 := t8.t.f 0
          have y9 := t8.t.f 1
          go_upto_region 8 with fail
          have hAd : Ad w a b n hS lS m hT lT _ := t8
          have hAd' : Ad w a b n hS lS m hT lT _ := t8.drew
          refine wp_region_held_drew (S := fun w' => w.heap.size + 1 + 1 < w'.heap.size ∧ w'.cell? ⟨w.heap.size + 1, 1, none⟩ = some (.int .i64 b.d) ∧ w'.cell? ⟨n, 0, none⟩ = some (.int .u64 (hS : Int)) ∧ w'.cell? ⟨n, 1, none⟩ = some (.int .u64 (lS : Int)) ∧ w'.cell? ⟨m, 0, none⟩ = some (.int .u64 (hT : Int)) ∧ w'.cell? ⟨m, 1, none⟩ = some (.int .u64 (lT : Int))) (by kernel_rfl) ?_ (fun hHeld => ?_)
          · (first
              | exact ae_all hAd.ae
              | exact ae_all hAd'.ae
              | exact ae_all (Ad.ae (by assumption))
              | exact ae_all (Ae.set (Ae.set (Ad.ae (by assumption)) _ _) _ _))
          refine takeN0 (v := ?_) (by kernel_rfl) (by kernel_rfl) (by kernel_rfl) (fun _ _ _ h => h) (by rfl) ?_ (by assumption) ?_
          rotate_left
          · intro w hSw
            try dsimp only at hSw
            go_simp
            try with_reducible rfl
          try simp only [Act.put, List.setIfInBounds_toArray, List.set_cons_zero, List.set_cons_succ]
          refine takeN2 (v := ?_) (by kernel_rfl) (by kernel_rfl) (by kernel_rfl) (fun _ _ _ h => h) (by rfl) ?_ (by assumption) ?_
          rotate_left
          · intro w hSw
            try dsimp only at hSw
            go_simp
            try with_reducible rfl
          try simp only [Act.put, List.setIfInBounds_toArray, List.set_cons_zero, List.set_cons_succ]
          refine takeN3 (v := ?_) (by kernel_rfl) (by kernel_rfl) (by kernel_rfl) (fun _ _ _ h => h) (by rfl) ?_ (by assumption) ?_
          rotate_left
          · intro w hSw
            try dsimp only at hSw
            go_simp
            try with_reducible rfl
          try simp only [Act.put, List.setIfInBounds_toArray, List.set_cons_zero, List.set_cons_succ]
          refine takeN5 (v := ?_) (by kernel_rfl) (by kernel_rfl) (by kernel_rfl) (fun _ _ _ h => h) (by rfl) ?_ (by assumption) ?_
          rotate_left
          · intro w hSw
            try dsimp only at hSw
            go_simp
            try with_reducible rfl
          try simp only [Act.put, List.setIfInBounds_toArray, List.set_cons_zero, List.set_cons_succ]
          refine takeN6 (v := ?_) (by kernel_rfl) (by kernel_rfl) (by kernel_rfl) (fun _ _ _ h => h) (by rfl) ?_ (by assumption) ?_
          rotate_left
          · intro w hSw
            try dsimp only at hSw
            go_simp
            try with_reducible rfl
          try simp only [Act.put, List.setIfInBounds_toArray, List.set_cons_zero, List.set_cons_succ]
          refine takeN7 (v := ?_) (by kernel_rfl) (by kernel_rfl) (by kernel_rfl) (fun _ _ _ h => h) (by rfl) ?_ (by assumption) ?_
          rotate_left
          · intro w hSw
            try dsimp only at hSw
            go_simp
            try with_reducible rfl
          try simp only [Act.put, List.setIfInBounds_toArray, List.set_cons_zero, List.set_cons_succ]
          refine takeN8 (v := ?_) (by kernel_rfl) (by kernel_rfl) (by kernel_rfl) (fun _ _ _ h => h) (by rfl) ?_ (by assumption) ?_
          rotate_left
          · intro w hSw
            try dsimp only at hSw
            go_simp
            try with_reducible rfl
          try simp only [Act.put, List.setIfInBounds_toArray, List.set_cons_zero, List.set_cons_succ]
          refine takeN9 (v := ?_) (by kernel_rfl) (by kernel_rfl) (by kernel_rfl) (fun _ _ _ h => h) (by rfl) ?_ (by assumption) ?_
          rotate_left
          · intro w hSw
            try dsimp only at hSw
            go_simp
            try with_reducible rfl
          try simp only [Act.put, List.setIfInBounds_toArray, List.set_cons_zero, List.set_cons_succ]
          refine takeN10 (v := ?_) (by kernel_rfl) (by kernel_rfl) (by kernel_rfl) (fun _ _ _ h => h) (by rfl) ?_ (by assumption) ?_
          rotate_left
          · intro w hSw
            try dsimp only at hSw
            go_simp
            try with_reducible rfl
          try simp only [Act.put, List.setIfInBounds_toArray, List.set_cons_zero, List.set_cons_succ]
          refine comeN1 (by kernel_rfl) (by rfl) (fun K hK => ?_)
          go_simp
          (go_at_call 44; refine (NG.out _).mono ?_; rintro e w' ⟨rfl, hb⟩; have hk : Ad w a b n hS lS m hT lT w' := Ad.next (by assumption) hb)
          try go_wp2_with fail
          refine hK.out _ _ ?_ (fun hHeld => ?_)
          · (first
              | exact ae_all hAd.ae
              | exact ae_all hAd'.ae
              | exact ae_all (Ad.ae (by assumption))
              | exact ae_all (Ae.set (Ae.set (Ad.ae (by assumption)) _ _) _ _))
          clear hK K
          try simp only [Act.put, List.setIfInBounds_toArray, List.set_cons_zero, List.set_cons_succ]
          refine comeN4 (by kernel_rfl) (by rfl) (fun K hK => ?_)
          go_simp
          (go_at_call 45; refine (OV.out _).mono ?_; rintro e w' ⟨rfl, hb⟩; have hk : Ad w a b n hS lS m hT lT w' := Ad.next (by assumption) hb)
          try go_wp2_with fail
          refine hK.out _ _ ?_ (fun hHeld => ?_)
          · (first
              | exact ae_all hAd.ae
              | exact ae_all hAd'.ae
              | exact ae_all (Ad.ae (by assumption))
              | exact ae_all (Ae.set (Ae.set (Ad.ae (by assumption)) _ _) _ _))
          clear hK K
          try simp only [Act.put, List.setIfInBounds_toArray, List.set_cons_zero, List.set_cons_succ]
          refine comeN11 (by kernel_rfl) (by rfl) (fun K hK => ?_)
          go_simp
          (go_at_call 46; refine (TM.out _).mono ?_; rintro e w' ⟨rfl, hb⟩; have hk : Ad w a b n hS lS m hT lT w' := Ad.next (by assumption) hb)
          try go_wp2_with fail
          refine hK.out _ _ ?_ (fun hHeld => ?_)
          · (first
              | exact ae_all hAd.ae
              | exact ae_all hAd'.ae
              | exact ae_all (Ad.ae (by assumption))
              | exact ae_all (Ae.set (Ae.set (Ad.ae (by assumption)) _ _) _ _))
          clear hK K
          try simp only [Act.put, List.setIfInBounds_toArray, List.set_cons_zero, List.set_cons_succ]
          refine comeN12 (by kernel_rfl) (by rfl) (fun K hK => ?_)
          go_simp
          (go_at_call 34; refine (GV.out _).mono ?_; rintro e w' ⟨rfl, hb⟩; have hk : Ad w a b n hS lS m hT lT w' := Ad.next (by assumption) hb; have z0 := hk.t.r0; have z1 := hk.t.r1; have z2 := hk.t.f 0; have z3 := hk.t.f 1; have z4 := hk.t.size)
          try go_wp2_with fail
          refine hK.out _ _ ?_ (fun hHeld => ?_)
          · (first
              | exact ae_all hAd.ae
              | exact ae_all hAd'.ae
              | exact ae_all (Ad.ae (by assumption))
              | exact ae_all (Ae.set (Ae.set (Ad.ae (by assumption)) _ _) _ _))
          clear hK K
          try simp only [Act.put, List.setIfInBounds_toArray, List.set_cons_zero, List.set_cons_succ]
          refine takeN13 (v := ?_) (by kernel_rfl) (by kernel_rfl) (by kernel_rfl) (fun _ _ _ h => h) (by rfl) ?_ (by assumption) ?_
          rotate_left
          · intro w hSw
            try dsimp only at hSw
            go_simp
            try with_reducible rfl
          try simp only [Act.put, List.setIfInBounds_toArray, List.set_cons_zero, List.set_cons_succ]
          refine takeN14 (v := ?_) (by kernel_rfl) (by kernel_rfl) (by kernel_rfl) (fun _ _ _ h => h) (by rfl) ?_ (by assumption) ?_
          rotate_left
          · intro w hSw
            try dsimp only at hSw
            go_simp
            try with_reducible rfl
          try simp only [Act.put, List.setIfInBounds_toArray, List.set_cons_zero, List.set_cons_succ]
          refine comeN15 (by kernel_rfl) (by rfl) (fun K hK => ?_)
          go_simp
          refine hK.out _ _ ?_ (fun hHeld => ?_)
          · (first
              | exact ae_all hAd.ae
              | exact ae_all hAd'.ae
              | exact ae_all (Ad.ae (by assumption))
              | exact ae_all (Ae.set (Ae.set (Ad.ae (by assumption)) _ _) _ _))
          clear hK K
          try simp only [Act.put, List.setIfInBounds_toArray, List.set_cons_zero, List.set_cons_succ]
          refine takeN16 (v := ?_) (by kernel_rfl) (by kernel_rfl) (by kernel_rfl) (fun _ _ _ h => h) (by rfl) ?_ (by assumption) ?_
          rotate_left
          · intro w hSw
            try dsimp only at hSw
            go_simp
            try with_reducible rfl
          try simp only [Act.put, List.setIfInBounds_toArray, List.set_cons_zero, List.set_cons_succ]
          refine wpAnyH_done (by kernel_rfl) ?_ _
          clear v0 v1 v2 x0 x1 x2
          clear y1 y2 y3 y4 y5 y6 y7 y8 y9
          have t9 : Three w a b w' := hk.t
          have y6 := t9.r0
          have y7 := t9.r1
          go_wp2_with fail
          exact bodyPost_ret (v := .tuple #[.agg #[.int .i64 n0, .int .i64 d0'], .int .i64 e0]) (by simp [results, Try.results13, go_sem, y6, y7]) rfl ⟨rfl, by repeat (first | exact t9.below | refine below_drewN ?_ _ | refine Below.drew ?_ | refine Below.setCell ?_ (by simp; omega) _)⟩

end Go.Proofs.Ytnddfngdlmdmhaa
