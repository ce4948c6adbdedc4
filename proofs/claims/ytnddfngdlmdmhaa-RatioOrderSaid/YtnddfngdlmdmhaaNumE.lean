/-
  The reference's Gcd, Give.
-/
import Derived.Test.YtnddfngdlmdmhaaNumD
import Derived.Test.YtnddfngdlmdmhaaSane
import Derived.Deep.LoopGhost
import Derived.BigRegion
namespace Go.Proofs.Ytnddfngdlmdmhaa
open Go.RowKit

theorem lt_pw {A : Nat} (h : A < 2 ^ 140) : A < Dg.pw 5 := by
  have e5 : Dg.pw 5 = 2 ^ 150 := Dg.pw_two 5
  have h10 : (2 : Nat) ^ 150 = 1024 * 2 ^ 140 := by decide
  rw [e5, h10]; omega

set_option maxHeartbeats 3200000 in
theorem Gcd_x (va vc : Value) (A C : Nat) (w : World) (ha : Num w va A) (hc : Num w vc C) (hA : A < 2 ^ 140) (hC : C < 2 ^ 140) :
    Calls Try.prog 39 #[va, vc] w fun e w' => ∃ v, e = .returned v ∧ Num w' v (Nat.gcd A C) ∧ Below w.heap.size w w' := by
  have Ha := Lib.hid ha
  have Hc := Lib.hid hc
  have HA := Lib.hid hA
  have HC := Lib.hid hC
  clear ha hc hA hC
  go_enter Try.func39, Try.ntmps39
  go_wp2_with fail
  go_loopg [0, 1] C (fun g sa sc wr => ∃ A' C' : Nat, C' ≤ g ∧ Hid (Num wr sa A') ∧ Hid (Num wr sc C') ∧ Hid (Nat.gcd A' C' = Nat.gcd A C) ∧ Hid (A' < 2 ^ 140 ∧ C' < 2 ^ 140) ∧ Below w.heap.size w wr)
  case atStart => exact ⟨A, C, Nat.le_refl _, Ha, Hc, rfl, ⟨HA.out, HC.out⟩, Below.refl _ _⟩
  case round =>
    obtain ⟨A', C', hg, na, nc, he, hl, hb⟩ := hrel
    clear Ha Hc HA HC
    go_wp2_with fail
    refine (Zero_x _ C' _ nc.out (lt_pw hl.out.2)).mono ?_
    rintro e w2 ⟨rfl, b2⟩
    have c2 := chain hb b2
    have na2 := Lib.hid (na.out.below b2)
    have nc2 := Lib.hid (nc.out.below b2)
    clear b2 hb na nc
    by_cases h0 : C' = 0
    · have hz : decide (C' = 0) = true := decide_eq_true h0
      rw [hz]
      have hv : Hid (Nat.gcd A C = A') := by show _ = _; rw [← he.out, h0, Nat.gcd_zero_right]
      clear hz h0
      go_wp2_with fail
      go_ret
      exact ⟨_, rfl, by rw [hv.out]; exact na2.out, c2⟩
    · have hz : decide (C' = 0) = false := decide_eq_false h0
      rw [hz]
      have hpos : 0 < C' := Nat.pos_of_ne_zero h0
      have hm : A' % C' < C' := Nat.mod_lt _ hpos
      have he2 : Hid (Nat.gcd C' (A' % C') = Nat.gcd A C) := by show _ = _; rw [← he.out, Nat.gcd_comm A' C', Nat.gcd_rec C' A', Nat.gcd_comm]
      have hl2 : Hid (C' < 2 ^ 140 ∧ A' % C' < 2 ^ 140) := ⟨hl.out.2, Nat.lt_trans hm hl.out.2⟩
      clear hz h0
      go_wp2_with fail
      refine (Over_x _ _ A' C' _ na2.out nc2.out (lt_pw hl.out.1) hpos hl.out.2).mono ?_
      rintro e w3 ⟨v, u, rfl, nv, nu, b3⟩
      have c3 := chain c2 b3
      have nc3 := Lib.hid (nc2.out.below b3)
      have nu3 := Lib.hid nu
      clear b3 c2 na2 nc2 nv nu
      go_wp2_with fail
      go_roundg (A' % C')
      case measure => omega
      case rel => exact ⟨C', A' % C', Nat.le_refl _, nc3, nu3, he2, hl2, c3⟩

/-- a fraction with a sign, given -/
def gv (neg : Bool) (N D : Nat) : Rt.R × Int :=
  if N / Nat.gcd N D ≤ 1152921504606846976 ∧ D / Nat.gcd N D ≤ 1152921504606846976 then (⟨if neg then -((N / Nat.gcd N D : Nat) : Int) else ((N / Nat.gcd N D : Nat) : Int), ((D / Nat.gcd N D : Nat) : Int)⟩, 0) else (⟨0, 0⟩, 3)

theorem small_digits {p : Nat} (h : p ≤ 1152921504606846976) : (Dg.dig p 0 : Int) + 1073741824 * (Dg.dig p 1 : Int) + 1152921504606846976 * (Dg.dig p 2 : Int) = (p : Int) ∧ Dg.dig p 2 ≤ 1 := by
  unfold Dg.dig
  simp only [Dg.sh]
  omega
theorem M_num : (1152921504606846976 : Int).natAbs = 1152921504606846976 := rfl

set_option maxHeartbeats 6400000 in
set_option maxRecDepth 100000 in
theorem Give_x (neg : Bool) (vn vd : Value) (N D : Nat) (w : World) (hn : Num w vn N) (hd : Num w vd D) (hD : 0 < D) (hN2 : N < 2 ^ 140) (hD2 : D < 2 ^ 140) :
    Calls Try.prog 35 #[.bool neg, vn, vd] w fun e w' => e = .returned (rok (gv neg N D)) ∧ Below w.heap.size w w' := by
  have hg : 0 < Nat.gcd N D := Nat.gcd_pos_of_pos_right _ hD
  have hg2 : Hid (Nat.gcd N D < 2 ^ 140) := Nat.lt_of_le_of_lt (Nat.gcd_le_right _ hD) hD2
  have HN2 := Lib.hid hN2
  have HD2 := Lib.hid hD2
  have hp2 : Hid (N / Nat.gcd N D < Dg.pw 5) := lt_pw (Nat.lt_of_le_of_lt (Nat.div_le_self _ _) hN2)
  have hq2 : Hid (D / Nat.gcd N D < Dg.pw 5) := lt_pw (Nat.lt_of_le_of_lt (Nat.div_le_self _ _) hD2)
  have hi1 : Hid (I64 1152921504606846976) := small_i (by decide) (by decide)
  have n1 := Lib.hid (hn.alloc (.cells #[.int .i64 0, .int .i64 0] 23))
  have d1 := Lib.hid (hd.alloc (.cells #[.int .i64 0, .int .i64 0] 23))
  clear hn hd hN2 hD2
  go_enter Try.func35, Try.ntmps35
  go_wp2_with fail
  refine (Gcd_x _ _ N D _ n1.out d1.out HN2.out HD2.out).mono ?_
  rintro e w2 ⟨vg, rfl, ng, b2⟩
  have c2 := chain ((Below.refl w.heap.size w).alloc (Nat.le_refl _) _) b2
  have Z2 := (At.new w ⟨0, 0⟩ _ _ rfl).below b2
  have F2 : Hid (∀ o, w2.frozen? ⟨w.heap.size, o, none⟩ = false) := fun o => (b2.frozen (p := ⟨w.heap.size, o, none⟩) (by simp)).trans (by simp)
  have n2 := Lib.hid (n1.out.below b2)
  have d2 := Lib.hid (d1.out.below b2)
  have g2 := Lib.hid ng
  clear b2 n1 d1 ng
  generalize hG : Nat.gcd N D = G at *
  go_wp2_with fail
  refine (Over_x _ _ N G _ n2.out g2.out (lt_pw HN2.out) hg hg2.out).mono ?_
  rintro e w3 ⟨vp, up, rfl, np, -, b3⟩
  have c3 := chain c2 b3
  have Z3 := Z2.below b3
  have F3 : Hid (∀ o, w3.frozen? ⟨w.heap.size, o, none⟩ = false) := fun o => (b3.frozen (p := ⟨w.heap.size, o, none⟩) Z2.1).trans (F2.out o)
  have d3 := Lib.hid (d2.out.below b3)
  have g3 := Lib.hid (g2.out.below b3)
  have p3 := Lib.hid np
  clear b3 n2 d2 g2 np c2 Z2 F2
  go_wp2_with fail
  refine (Over_x _ _ D G _ d3.out g3.out (lt_pw HD2.out) hg hg2.out).mono ?_
  rintro e w4 ⟨vq, uq, rfl, nq, -, b4⟩
  have c4 := chain c3 b4
  have Z4 := Z3.below b4
  have F4 : Hid (∀ o, w4.frozen? ⟨w.heap.size, o, none⟩ = false) := fun o => (b4.frozen (p := ⟨w.heap.size, o, none⟩) Z3.1).trans (F3.out o)
  have p4 := Lib.hid (p3.out.below b4)
  have q4 := Lib.hid nq
  clear b4 d3 g3 p3 nq c3 Z3 F3
  have hgv : Hid (gv neg N D = if N / G ≤ 1152921504606846976 ∧ D / G ≤ 1152921504606846976 then (⟨if neg then -((N / G : Nat) : Int) else ((N / G : Nat) : Int), ((D / G : Nat) : Int)⟩, 0) else (⟨0, 0⟩, 3)) := by
    show _ = _
    unfold gv; rw [hG]
  clear hG HN2 HD2 hg2 hg hD
  generalize N / G = P at *
  generalize D / G = Q at *
  go_wp2_with fail
  refine (Of_x _ _ hi1.out).mono ?_
  rintro e w5 ⟨vm, rfl, nm, lm, b5⟩
  rw [M_num] at nm lm
  have c5 := chain c4 b5
  have Z5 := Z4.below b5
  have F5 : Hid (∀ o, w5.frozen? ⟨w.heap.size, o, none⟩ = false) := fun o => (b5.frozen (p := ⟨w.heap.size, o, none⟩) Z4.1).trans (F4.out o)
  have p5 := Lib.hid (p4.out.below b5)
  have q5 := Lib.hid (q4.out.below b5)
  have m5 := Lib.hid nm
  have Lm := Lib.hid lm
  clear b5 p4 q4 nm lm c4 Z4 F4
  go_wp2_with fail
  refine (Cmp_x _ _ P 1152921504606846976 _ p5.out m5.out hp2.out Lm.out).mono ?_
  rintro e w6 ⟨rfl, b6⟩
  have c6 := chain c5 b6
  have Z6 := Z5.below b6
  have F6 : Hid (∀ o, w6.frozen? ⟨w.heap.size, o, none⟩ = false) := fun o => (b6.frozen (p := ⟨w.heap.size, o, none⟩) Z5.1).trans (F5.out o)
  have p6 := Lib.hid (p5.out.below b6)
  have q6 := Lib.hid (q5.out.below b6)
  clear b6 p5 q5 m5 Lm c5 Z5 F5
  by_cases hP : P ≤ 1152921504606846976
  · have hcm : Hid (decide (0 < CmpB P 1152921504606846976) = false) := by
      apply decide_eq_false
      unfold CmpB
      split
      · decide
      · rw [if_neg (by omega)]; decide
    generalize CmpB P 1152921504606846976 = cc at hcm ⊢
    have hcm' := hcm.out
    go_wp2_with fail
    refine (Of_x _ _ hi1.out).mono ?_
    rintro e w7 ⟨vm, rfl, nm, lm, b7⟩
    rw [M_num] at nm lm
    have c7 := chain c6 b7
    have Z7 := Z6.below b7
    have F7 : Hid (∀ o, w7.frozen? ⟨w.heap.size, o, none⟩ = false) := fun o => (b7.frozen (p := ⟨w.heap.size, o, none⟩) Z6.1).trans (F6.out o)
    have p7 := Lib.hid (p6.out.below b7)
    have q7 := Lib.hid (q6.out.below b7)
    have m7 := Lib.hid nm
    have Lm := Lib.hid lm
    clear b7 p6 q6 nm lm c6 Z6 F6
    go_wp2_with fail
    refine (Cmp_x _ _ Q 1152921504606846976 _ q7.out m7.out hq2.out Lm.out).mono ?_
    rintro e w8 ⟨rfl, b8⟩
    have c8 := chain c7 b8
    have Z8 := Z7.below b8
    have F8 : Hid (∀ o, w8.frozen? ⟨w.heap.size, o, none⟩ = false) := fun o => (b8.frozen (p := ⟨w.heap.size, o, none⟩) Z7.1).trans (F7.out o)
    have p8 := Lib.hid (p7.out.below b8)
    have q8 := Lib.hid (q7.out.below b8)
    clear b8 p7 q7 m7 Lm c7 Z7 F7
    obtain ⟨sz, pz, qz⟩ := id Z8
    have hf := F8.out
    by_cases hQ : Q ≤ 1152921504606846976
    · have hcm : Hid (decide (0 < CmpB Q 1152921504606846976) = false) := by
        apply decide_eq_false
        unfold CmpB
        split
        · decide
        · rw [if_neg (by omega)]; decide
      generalize CmpB Q 1152921504606846976 = cd at hcm ⊢
      have hcm2 := hcm.out
      obtain ⟨bp, rfl, lp, cp⟩ := p8.out
      obtain ⟨bq, rfl, lq, cq⟩ := q8.out
      have x0 := cp 0 (by omega)
      have x1 := cp 1 (by omega)
      have x2 := cp 2 (by omega)
      have y0 := cq 0 (by omega)
      have y1 := cq 1 (by omega)
      have y2 := cq 2 (by omega)
      obtain ⟨s1, s2⟩ := small_digits hP
      obtain ⟨t1, t2⟩ := small_digits hQ
      have u0 := Dg.dig_lt P 0
      have u1 := Dg.dig_lt P 1
      have v0 := Dg.dig_lt Q 0
      have v1 := Dg.dig_lt Q 1
      clear cp cq p8 q8
      generalize Dg.dig P 0 = d0 at *
      generalize Dg.dig P 1 = d1 at *
      generalize Dg.dig P 2 = d2 at *
      generalize Dg.dig Q 0 = e0 at *
      generalize Dg.dig Q 1 = e1 at *
      generalize Dg.dig Q 2 = e2 at *
      have hv : Hid (gv neg N D = (⟨if neg then -(P : Int) else (P : Int), (Q : Int)⟩, 0)) := by show _ = _; rw [hgv.out, if_pos ⟨hP, hQ⟩]
      have S1 := Lib.hid s1
      have T1 := Lib.hid t1
      have f1 : IntKind.i64.wrap (1073741824 * (d1 : Int)) = 1073741824 * (d1 : Int) := IntWalk.i64_in _ (by omega)
      have f2 : IntKind.i64.wrap ((d0 : Int) + 1073741824 * (d1 : Int)) = (d0 : Int) + 1073741824 * (d1 : Int) := IntWalk.i64_in _ (by omega)
      have f3 : IntKind.i64.wrap (1152921504606846976 * (d2 : Int)) = 1152921504606846976 * (d2 : Int) := IntWalk.i64_in _ (by omega)
      have f4 : IntKind.i64.wrap ((d0 : Int) + 1073741824 * (d1 : Int) + 1152921504606846976 * (d2 : Int)) = (d0 : Int) + 1073741824 * (d1 : Int) + 1152921504606846976 * (d2 : Int) := IntWalk.i64_in _ (by omega)
      have g1 : IntKind.i64.wrap (1073741824 * (e1 : Int)) = 1073741824 * (e1 : Int) := IntWalk.i64_in _ (by omega)
      have g2 : IntKind.i64.wrap ((e0 : Int) + 1073741824 * (e1 : Int)) = (e0 : Int) + 1073741824 * (e1 : Int) := IntWalk.i64_in _ (by omega)
      have g3 : IntKind.i64.wrap (1152921504606846976 * (e2 : Int)) = 1152921504606846976 * (e2 : Int) := IntWalk.i64_in _ (by omega)
      have g4 : IntKind.i64.wrap ((e0 : Int) + 1073741824 * (e1 : Int) + 1152921504606846976 * (e2 : Int)) = (e0 : Int) + 1073741824 * (e1 : Int) + 1152921504606846976 * (e2 : Int) := IntWalk.i64_in _ (by omega)
      clear s1 t1
      obtain ⟨V, hV⟩ : ∃ V : Int, V = (d0 : Int) + 1073741824 * (d1 : Int) + 1152921504606846976 * (d2 : Int) := ⟨_, rfl⟩
      have HV := Lib.hid hV
      cases neg with
      | true =>
        clear hV
        go_wp2_with fail
        go_quiet (fail)
        clear f1 f2 f3 f4
        rw [← HV.out]
        have hV2 : V = (P : Int) := HV.out.trans S1.out
        have hV3 : 0 ≤ V := by omega
        have hV4 : V ≤ 1152921504606846976 := by omega
        have HV2 := Lib.hid hV2
        clear hV2
        go_wp2_with fail
        go_region
        go_wp2_with fail
        exact bodyPost_ret (v := .tuple #[.agg #[.int .i64 (-V), .int .i64 ((e0 : Int) + 1073741824 * (e1 : Int) + 1152921504606846976 * (e2 : Int))], .int .i64 0]) (by simp [results, Try.results35, go_sem, pz, qz]) rfl ⟨by rw [hv.out, HV2.out, T1.out]; rfl, by repeat (first | exact c8 | refine below_drewN ?_ _ | refine Below.drew ?_ | refine Below.setCell ?_ (by simp) _)⟩
      | false =>
        clear hV
        go_wp2_with fail
        go_quiet (fail)
        clear f1 f2 f3 f4
        rw [← HV.out]
        have hV2 : V = (P : Int) := HV.out.trans S1.out
        have HV2 := Lib.hid hV2
        clear hV2
        go_wp2_with fail
        go_region
        go_wp2_with fail
        exact bodyPost_ret (v := .tuple #[.agg #[.int .i64 V, .int .i64 ((e0 : Int) + 1073741824 * (e1 : Int) + 1152921504606846976 * (e2 : Int))], .int .i64 0]) (by simp [results, Try.results35, go_sem, pz, qz]) rfl ⟨by rw [hv.out, HV2.out, T1.out]; rfl, by repeat (first | exact c8 | refine below_drewN ?_ _ | refine Below.drew ?_ | refine Below.setCell ?_ (by simp) _)⟩
    · have hcm : Hid (decide (0 < CmpB Q 1152921504606846976) = true) := by rw [cmpB_gt (by omega)]; rfl
      generalize CmpB Q 1152921504606846976 = cd at hcm ⊢
      have hcm2 := hcm.out
      have hv : Hid (gv neg N D = (⟨0, 0⟩, 3)) := by show _ = _; rw [hgv.out, if_neg (by omega)]
      go_wp2_with fail
      exact bodyPost_ret (v := .tuple #[.agg #[.int .i64 0, .int .i64 0], .int .i64 3]) (by simp [results, Try.results35, go_sem, pz, qz]) rfl ⟨by rw [hv.out], by repeat (first | exact c8 | refine Below.setCell ?_ (by simp) _)⟩
  · have hcm : Hid (decide (0 < CmpB P 1152921504606846976) = true) := by rw [cmpB_gt (by omega)]; rfl
    generalize CmpB P 1152921504606846976 = cc at hcm ⊢
    have hcm' := hcm.out
    have hv : Hid (gv neg N D = (⟨0, 0⟩, 3)) := by show _ = _; rw [hgv.out, if_neg (by omega)]
    obtain ⟨sz, pz, qz⟩ := id Z6
    have hf := F6.out
    go_wp2_with fail
    exact bodyPost_ret (v := .tuple #[.agg #[.int .i64 0, .int .i64 0], .int .i64 3]) (by simp [results, Try.results35, go_sem, pz, qz]) rfl ⟨by rw [hv.out], by repeat (first | exact c6 | refine Below.setCell ?_ (by simp) _)⟩

end Go.Proofs.Ytnddfngdlmdmhaa
