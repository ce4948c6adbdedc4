/-
  The reference: Check, Few, SameInts.
-/
import Derived.Test.YtcjakgpmompaiaaGreatDoorRefF
import Derived.Test.YtcjakgpmompaiaaGreatDoorRefG
import Derived.Test.YtcjakgpmompaiaaGreatDoorRefH
namespace Go.Proofs.YtcjakgpmompaiaaGreatDoor
open Go.RowKit Rl

theorem check_eq (R : Rlm) : checkP R = orE (orE (curE R) (cityE R)) (orE (orE (groupE R) (firmE R)) (orE (orderE R) (orE (usanceE R) (orE (ratesE R) (haltE R))))) := by
  show orE (orE (orE (orE (orE (orE (orE (orE 0 (curE R)) (cityE R)) (groupE R)) (firmE R)) (orderE R)) (usanceE R)) (ratesE R)) (haltE R) = _
  rw [orE_zero rfl]
  simp only [orE_assoc]

set_option maxHeartbeats 6400000 in
set_option maxRecDepth 100000 in
theorem rCheck_x {a0 a1 a2 a3 a4 a5 a6 a7 : Option Addr} {c0 c1 c2 c3 c4 c5 c6 c7 : Nat} {R : Rlm} (w : World) (hr : RS w a0 a1 a2 a3 a4 a5 a6 a7 c0 c1 c2 c3 c4 c5 c6 c7 R) (hF : Fit R) :
    Calls Tryz.prog 40 #[.agg #[.slice a0 R.cur.length c0, .slice a1 R.cities.length c1, .slice a2 R.groups.length c2, .slice a3 R.firms.length c3, .slice a4 R.orders.length c4, .slice a5 R.usances.length c5, .slice a6 R.rates.length c6, .slice a7 R.halts.length c7]] w fun r w' => r = .returned (.int .i64 (checkP R)) ∧ Below w.heap.size w w' := by
  have HR := Lib.hid hr
  have RB0 := Lib.hid (RB.new w (a0 := a0) (a1 := a1) (a2 := a2) (a3 := a3) (a4 := a4) (a5 := a5) (a6 := a6) (a7 := a7) (c0 := c0) (c1 := c1) (c2 := c2) (c3 := c3) (c4 := c4) (c5 := c5) (c6 := c6) (c7 := c7) (R := R))
  have B0 := Lib.hid (Below.new1 (w := w) (.cells #[.slice a0 R.cur.length c0, .slice a1 R.cities.length c1, .slice a2 R.groups.length c2, .slice a3 R.firms.length c3, .slice a4 R.orders.length c4, .slice a5 R.usances.length c5, .slice a6 R.rates.length c6, .slice a7 R.halts.length c7] 31))
  have hs0 := hF.cur
  have hs1 := hF.cities
  have hs2 := hF.groups
  have hs3 := hF.firms
  have hs4 := hF.orders
  have hs5 := hF.usances
  have hs6 := hF.rates
  have hs7 := hF.halts
  clear hr
  go_enter Tryz.func40, Tryz.ntmps40
  have y0_0 := RB0.out.b0
  have y1_0 := RB0.out.b1
  have y2_0 := RB0.out.b2
  have y3_0 := RB0.out.b3
  have y4_0 := RB0.out.b4
  have y5_0 := RB0.out.b5
  have y6_0 := RB0.out.b6
  have y7_0 := RB0.out.b7
  go_wp2_with fail
  refine (rcities_x _ (HR.out.next B0.out) hF).mono ?_
  rintro r w1 ⟨rfl, b1⟩
  have B1 := Lib.hid (chain B0.out b1)
  have RB1 := Lib.hid (RB0.out.next b1)
  clear b1 y0_0 y1_0 y2_0 y3_0 y4_0 y5_0 y6_0 y7_0
  by_cases e : orE (curE R) (cityE R) = 0
  · have f0 : (orE (curE R) (cityE R) == 0) = true := bt e
    have E0 := Lib.hid e
    clear e
    have y0_1 := RB1.out.b0
    have y1_1 := RB1.out.b1
    have y2_1 := RB1.out.b2
    have y3_1 := RB1.out.b3
    have y4_1 := RB1.out.b4
    have y5_1 := RB1.out.b5
    have y6_1 := RB1.out.b6
    have y7_1 := RB1.out.b7
    go_wp2_with fail
    refine (rfirms_x _ (HR.out.next B1.out) hF).mono ?_
    rintro r w2 ⟨rfl, b2⟩
    have B2 := Lib.hid (chain B1.out b2)
    have RB2 := Lib.hid (RB1.out.next b2)
    clear b2 y0_1 y1_1 y2_1 y3_1 y4_1 y5_1 y6_1 y7_1
    by_cases e : orE (groupE R) (firmE R) = 0
    · have f1 : (orE (groupE R) (firmE R) == 0) = true := bt e
      have E1 := Lib.hid e
      clear e
      have y0_2 := RB2.out.b0
      have y1_2 := RB2.out.b1
      have y2_2 := RB2.out.b2
      have y3_2 := RB2.out.b3
      have y4_2 := RB2.out.b4
      have y5_2 := RB2.out.b5
      have y6_2 := RB2.out.b6
      have y7_2 := RB2.out.b7
      go_wp2_with fail
      refine (rorders_x _ (HR.out.next B2.out) hF).mono ?_
      rintro r w3 ⟨rfl, b3⟩
      have B3 := Lib.hid (chain B2.out b3)
      have RB3 := Lib.hid (RB2.out.next b3)
      clear b3 y0_2 y1_2 y2_2 y3_2 y4_2 y5_2 y6_2 y7_2
      by_cases e : orderE R = 0
      · have f2 : (orderE R == 0) = true := bt e
        have E2 := Lib.hid e
        clear e
        have y0_3 := RB3.out.b0
        have y1_3 := RB3.out.b1
        have y2_3 := RB3.out.b2
        have y3_3 := RB3.out.b3
        have y4_3 := RB3.out.b4
        have y5_3 := RB3.out.b5
        have y6_3 := RB3.out.b6
        have y7_3 := RB3.out.b7
        go_wp2_with fail
        refine (rusances_x _ (HR.out.next B3.out) hF).mono ?_
        rintro r w4 ⟨rfl, b4⟩
        have B4 := Lib.hid (chain B3.out b4)
        have RB4 := Lib.hid (RB3.out.next b4)
        clear b4 y0_3 y1_3 y2_3 y3_3 y4_3 y5_3 y6_3 y7_3
        by_cases e : usanceE R = 0
        · have f3 : (usanceE R == 0) = true := bt e
          have E3 := Lib.hid e
          clear e
          have y0_4 := RB4.out.b0
          have y1_4 := RB4.out.b1
          have y2_4 := RB4.out.b2
          have y3_4 := RB4.out.b3
          have y4_4 := RB4.out.b4
          have y5_4 := RB4.out.b5
          have y6_4 := RB4.out.b6
          have y7_4 := RB4.out.b7
          go_wp2_with fail
          refine (rothers_x _ (HR.out.next B4.out) hF).mono ?_
          rintro r w5 ⟨rfl, b5⟩
          have B5 := Lib.hid (chain B4.out b5)
          have RB5 := Lib.hid (RB4.out.next b5)
          clear b5 y0_4 y1_4 y2_4 y3_4 y4_4 y5_4 y6_4 y7_4
          have hv : Hid (checkP R = orE (ratesE R) (haltE R)) := by show _ = _; rw [check_eq, orE_zero (E0.out), orE_zero (E1.out), orE_zero (E2.out), orE_zero (E3.out)]
          go_wp2_with fail
          go_ret
          exact ⟨by rw [hv.out]; try rfl, B5.out⟩
        · have f3 : (usanceE R == 0) = false := bf e
          have hv : Hid (checkP R = usanceE R) := by show _ = _; rw [check_eq, orE_zero (E0.out), orE_zero (E1.out), orE_zero (E2.out), orE_ne e]
          clear e
          go_wp2_with fail
          go_ret
          exact ⟨by rw [hv.out]; try rfl, B4.out⟩
      · have f2 : (orderE R == 0) = false := bf e
        have hv : Hid (checkP R = orderE R) := by show _ = _; rw [check_eq, orE_zero (E0.out), orE_zero (E1.out), orE_ne e]
        clear e
        go_wp2_with fail
        go_ret
        exact ⟨by rw [hv.out]; try rfl, B3.out⟩
    · have f1 : (orE (groupE R) (firmE R) == 0) = false := bf e
      have hv : Hid (checkP R = orE (groupE R) (firmE R)) := by show _ = _; rw [check_eq, orE_zero (E0.out), orE_ne e]
      clear e
      go_wp2_with fail
      go_ret
      exact ⟨by rw [hv.out]; try rfl, B2.out⟩
  · have f0 : (orE (curE R) (cityE R) == 0) = false := bf e
    have hv : Hid (checkP R = orE (curE R) (cityE R)) := by show _ = _; rw [check_eq, orE_ne e]
    clear e
    go_wp2_with fail
    go_ret
    exact ⟨by rw [hv.out]; try rfl, B1.out⟩

def FewP (R : Rlm) (r : Ending) : Prop := ∃ b : Bool, r = .returned (.bool b) ∧ (b = true → Fit R)
def CitR (R : Rlm) (W : World) (i : Value) (wr : World) : Prop := ∃ k : Nat, k ≤ R.cities.length ∧ i = .int .i64 (k : Int) ∧ W = wr
def OrdR (R : Rlm) (W : World) (i : Value) (wr : World) : Prop := ∃ k : Nat, k ≤ R.orders.length ∧ i = .int .i64 (k : Int) ∧ (∀ (j : Nat) (o : Odr), j < k → R.orders[j]? = some o → o.ch.length ≤ 40 ∧ o.ru.length ≤ 40) ∧ W = wr
set_option maxHeartbeats 6400000 in
set_option maxRecDepth 100000 in
theorem Few_x {a0 a1 a2 a3 a4 a5 a6 a7 : Option Addr} {c0 c1 c2 c3 c4 c5 c6 c7 : Nat} {R : Rlm} (w : World) (hr : RS w a0 a1 a2 a3 a4 a5 a6 a7 c0 c1 c2 c3 c4 c5 c6 c7 R) (hF : FitW R) :
    Calls Tryz.prog 20 #[.agg #[.slice a0 R.cur.length c0, .slice a1 R.cities.length c1, .slice a2 R.groups.length c2, .slice a3 R.firms.length c3, .slice a4 R.orders.length c4, .slice a5 R.usances.length c5, .slice a6 R.rates.length c6, .slice a7 R.halts.length c7]] w fun r w' => FewP R r ∧ Below w.heap.size w w' := by
  have HR := Lib.hid hr
  have RB0 := Lib.hid (RB.new w (a0 := a0) (a1 := a1) (a2 := a2) (a3 := a3) (a4 := a4) (a5 := a5) (a6 := a6) (a7 := a7) (c0 := c0) (c1 := c1) (c2 := c2) (c3 := c3) (c4 := c4) (c5 := c5) (c6 := c6) (c7 := c7) (R := R))
  have B0 := Lib.hid (Below.new1 (w := w) (.cells #[.slice a0 R.cur.length c0, .slice a1 R.cities.length c1, .slice a2 R.groups.length c2, .slice a3 R.firms.length c3, .slice a4 R.orders.length c4, .slice a5 R.usances.length c5, .slice a6 R.rates.length c6, .slice a7 R.halts.length c7] 31))
  have hs0 := hF.cur
  have hs1 := hF.cities
  have hs2 := hF.groups
  have hs3 := hF.firms
  have hs4 := hF.orders
  have hs5 := hF.usances
  have hs6 := hF.rates
  have hs7 := hF.halts
  clear hr
  have y0 := RB0.out.b0
  have y1 := RB0.out.b1
  have y2 := RB0.out.b2
  have y3 := RB0.out.b3
  have y4 := RB0.out.b4
  have y5 := RB0.out.b5
  have y6 := RB0.out.b6
  have y7 := RB0.out.b7
  go_enter Tryz.func20, Tryz.ntmps20
  go_wp2_with fail
  go_loopw [3] (fun i wr => CitR R (w.alloc (.cells #[.slice a0 R.cur.length c0, .slice a1 R.cities.length c1, .slice a2 R.groups.length c2, .slice a3 R.firms.length c3, .slice a4 R.orders.length c4, .slice a5 R.usances.length c5, .slice a6 R.rates.length c6, .slice a7 R.halts.length c7] 31)) i wr) (fun i _ => R.cities.length - (intOf i).toNat)
  case atStart => exact ⟨0, Nat.zero_le _, rfl, rfl⟩
  case round =>
    obtain ⟨k, hk, rfl, rfl⟩ := hrel
    have k0 : (0 : Int) ≤ (k : Int) := by omega
    by_cases cl : k < R.cities.length
    case neg =>
      have kc : ¬ (k : Int) < (R.cities.length : Int) := by omega
      go_wp2_with fail
      go_loopw [4] (fun i wr => OrdR R (w.alloc (.cells #[.slice a0 R.cur.length c0, .slice a1 R.cities.length c1, .slice a2 R.groups.length c2, .slice a3 R.firms.length c3, .slice a4 R.orders.length c4, .slice a5 R.usances.length c5, .slice a6 R.rates.length c6, .slice a7 R.halts.length c7] 31)) i wr) (fun i _ => R.orders.length - (intOf i).toNat)
      case atStart => exact ⟨0, Nat.zero_le _, rfl, fun j o hj => by omega, rfl⟩
      case round =>
        obtain ⟨k, hk, rfl, hall, rfl⟩ := hrel
        have Ha := Lib.hid hall
        have k0 : (0 : Int) ≤ (k : Int) := by omega
        clear hall
        by_cases cl : k < R.orders.length
        case neg =>
          have kc : ¬ (k : Int) < (R.orders.length : Int) := by omega
          by_cases p0 : R.cur.length < 50
          · have q0 : (R.cur.length : Int) < 50 := by omega
            by_cases p1 : R.cities.length < 50
            · have q1 : (R.cities.length : Int) < 50 := by omega
              by_cases p2 : R.groups.length < 50
              · have q2 : (R.groups.length : Int) < 50 := by omega
                by_cases p3 : R.firms.length < 210
                · have q3 : (R.firms.length : Int) < 210 := by omega
                  by_cases p4 : R.orders.length < 50
                  · have q4 : (R.orders.length : Int) < 50 := by omega
                    by_cases p5 : R.usances.length < 110
                    · have q5 : (R.usances.length : Int) < 110 := by omega
                      by_cases p6 : R.rates.length < 110
                      · have q6 : (R.rates.length : Int) < 110 := by omega
                        by_cases p7 : R.halts.length < 50
                        · have q7 : (R.halts.length : Int) < 50 := by omega
                          have HFIT : Hid (Fit R) := ⟨hF, p0, p1, p2, p3, p4, p5, p6, p7, fun o ho => by
                            obtain ⟨j, hj⟩ := List.getElem?_of_mem ho
                            exact Ha.out j o (by have := (List.getElem?_eq_some_iff.1 hj).1; omega) hj⟩
                          go_wp2_with fail
                          go_ret
                          exact ⟨⟨true, rfl, fun _ => HFIT.out⟩, B0.out⟩
                        · have q7 : ¬ (R.halts.length : Int) < 50 := by omega
                          go_wp2_with fail
                          go_ret
                          exact ⟨⟨false, rfl, fun h => by cases h⟩, B0.out⟩
                      · have q6 : ¬ (R.rates.length : Int) < 110 := by omega
                        go_wp2_with fail
                        go_ret
                        exact ⟨⟨false, rfl, fun h => by cases h⟩, B0.out⟩
                    · have q5 : ¬ (R.usances.length : Int) < 110 := by omega
                      go_wp2_with fail
                      go_ret
                      exact ⟨⟨false, rfl, fun h => by cases h⟩, B0.out⟩
                  · have q4 : ¬ (R.orders.length : Int) < 50 := by omega
                    go_wp2_with fail
                    go_ret
                    exact ⟨⟨false, rfl, fun h => by cases h⟩, B0.out⟩
                · have q3 : ¬ (R.firms.length : Int) < 210 := by omega
                  go_wp2_with fail
                  go_ret
                  exact ⟨⟨false, rfl, fun h => by cases h⟩, B0.out⟩
              · have q2 : ¬ (R.groups.length : Int) < 50 := by omega
                go_wp2_with fail
                go_ret
                exact ⟨⟨false, rfl, fun h => by cases h⟩, B0.out⟩
            · have q1 : ¬ (R.cities.length : Int) < 50 := by omega
              go_wp2_with fail
              go_ret
              exact ⟨⟨false, rfl, fun h => by cases h⟩, B0.out⟩
          · have q0 : ¬ (R.cur.length : Int) < 50 := by omega
            go_wp2_with fail
            go_ret
            exact ⟨⟨false, rfl, fun h => by cases h⟩, B0.out⟩
        case pos =>
          have kc : (k : Int) < (R.orders.length : Int) := by omega
          by_cases c50 : k < 50
          · have kd : (k : Int) < 50 := by omega
            obtain ⟨x, hx⟩ : ∃ x, R.orders[k]? = some x := ⟨_, List.getElem?_eq_getElem cl⟩
            obtain ⟨b, off, ea, hb, hc⟩ := (HR.out.next B0.out).orders.at hx
            have t0 : (w.alloc (.cells #[.slice a0 R.cur.length c0, .slice a1 R.cities.length c1, .slice a2 R.groups.length c2, .slice a3 R.firms.length c3, .slice a4 R.orders.length c4, .slice a5 R.usances.length c5, .slice a6 R.rates.length c6, .slice a7 R.halts.length c7] 31)).cell? ⟨b, off + k * 4, none⟩ = some (.string x.nm) := hc 0 _ rfl
            have t1 : (w.alloc (.cells #[.slice a0 R.cur.length c0, .slice a1 R.cities.length c1, .slice a2 R.groups.length c2, .slice a3 R.firms.length c3, .slice a4 R.orders.length c4, .slice a5 R.usances.length c5, .slice a6 R.rates.length c6, .slice a7 R.halts.length c7] 31)).cell? ⟨b, off + k * 4 + 1, none⟩ = some (.bool x.acc) := hc 1 _ rfl
            have t2 : (w.alloc (.cells #[.slice a0 R.cur.length c0, .slice a1 R.cities.length c1, .slice a2 R.groups.length c2, .slice a3 R.firms.length c3, .slice a4 R.orders.length c4, .slice a5 R.usances.length c5, .slice a6 R.rates.length c6, .slice a7 R.halts.length c7] 31)).cell? ⟨b, off + k * 4 + 2, none⟩ = some (.slice x.a2 x.ch.length x.k2) := hc 2 _ rfl
            have t3 : (w.alloc (.cells #[.slice a0 R.cur.length c0, .slice a1 R.cities.length c1, .slice a2 R.groups.length c2, .slice a3 R.firms.length c3, .slice a4 R.orders.length c4, .slice a5 R.usances.length c5, .slice a6 R.rates.length c6, .slice a7 R.halts.length c7] 31)).cell? ⟨b, off + k * 4 + 3, none⟩ = some (.slice x.a3 x.ru.length x.k3) := hc 3 _ rfl
            have HX := Lib.hid hx
            clear hx hc
            subst ea
            by_cases u1 : x.ch.length ≤ 40
            · have v1 : ¬ 40 < (x.ch.length : Int) := by omega
              by_cases u2 : x.ru.length ≤ 40
              · have v2 : ¬ 40 < (x.ru.length : Int) := by omega
                have HN : Hid (∀ (j : Nat) (o : Odr), j < k + 1 → R.orders[j]? = some o → o.ch.length ≤ 40 ∧ o.ru.length ≤ 40) := by
                  intro j o hj ho
                  by_cases cj : j = k
                  · subst cj
                    have := HX.out
                    rw [ho] at this
                    simp only [Option.some.injEq] at this
                    subst this
                    exact ⟨u1, u2⟩
                  · exact Ha.out j o (by omega) ho
                go_wp2_with fail
                go_roundw
                case rel => exact ⟨k + 1, by omega, by congr 1, HN.out, rfl⟩
                case measure => simp [intOf]; omega
              · have v2 : 40 < (x.ru.length : Int) := by omega
                go_wp2_with fail
                go_ret
                exact ⟨⟨false, rfl, fun h => by cases h⟩, B0.out⟩
            · have v1 : 40 < (x.ch.length : Int) := by omega
              go_wp2_with fail
              go_ret
              exact ⟨⟨false, rfl, fun h => by cases h⟩, B0.out⟩
          · have kd : ¬ (k : Int) < 50 := by omega
            have no4 : ¬ R.orders.length < 50 := by omega
            by_cases p0 : R.cur.length < 50
            · have q0 : (R.cur.length : Int) < 50 := by omega
              by_cases p1 : R.cities.length < 50
              · have q1 : (R.cities.length : Int) < 50 := by omega
                by_cases p2 : R.groups.length < 50
                · have q2 : (R.groups.length : Int) < 50 := by omega
                  by_cases p3 : R.firms.length < 210
                  · have q3 : (R.firms.length : Int) < 210 := by omega
                    by_cases p4 : R.orders.length < 50
                    · have q4 : (R.orders.length : Int) < 50 := by omega
                      exact absurd p4 no4
                    · have q4 : ¬ (R.orders.length : Int) < 50 := by omega
                      go_wp2_with fail
                      go_ret
                      exact ⟨⟨false, rfl, fun h => by cases h⟩, B0.out⟩
                  · have q3 : ¬ (R.firms.length : Int) < 210 := by omega
                    go_wp2_with fail
                    go_ret
                    exact ⟨⟨false, rfl, fun h => by cases h⟩, B0.out⟩
                · have q2 : ¬ (R.groups.length : Int) < 50 := by omega
                  go_wp2_with fail
                  go_ret
                  exact ⟨⟨false, rfl, fun h => by cases h⟩, B0.out⟩
              · have q1 : ¬ (R.cities.length : Int) < 50 := by omega
                go_wp2_with fail
                go_ret
                exact ⟨⟨false, rfl, fun h => by cases h⟩, B0.out⟩
            · have q0 : ¬ (R.cur.length : Int) < 50 := by omega
              go_wp2_with fail
              go_ret
              exact ⟨⟨false, rfl, fun h => by cases h⟩, B0.out⟩
    case pos =>
      have kc : (k : Int) < (R.cities.length : Int) := by omega
      by_cases c50 : k < 50
      · have kd : (k : Int) < 50 := by omega
        obtain ⟨x, hx⟩ : ∃ x, R.cities[k]? = some x := ⟨_, List.getElem?_eq_getElem cl⟩
        obtain ⟨b, off, ea, hb, hc⟩ := (HR.out.next B0.out).cities.at hx
        have t0 : (w.alloc (.cells #[.slice a0 R.cur.length c0, .slice a1 R.cities.length c1, .slice a2 R.groups.length c2, .slice a3 R.firms.length c3, .slice a4 R.orders.length c4, .slice a5 R.usances.length c5, .slice a6 R.rates.length c6, .slice a7 R.halts.length c7] 31)).cell? ⟨b, off + k * 6, none⟩ = some (.string x.nm) := hc 0 _ rfl
        have t1 : (w.alloc (.cells #[.slice a0 R.cur.length c0, .slice a1 R.cities.length c1, .slice a2 R.groups.length c2, .slice a3 R.firms.length c3, .slice a4 R.orders.length c4, .slice a5 R.usances.length c5, .slice a6 R.rates.length c6, .slice a7 R.halts.length c7] 31)).cell? ⟨b, off + k * 6 + 1, none⟩ = some (.int .i64 x.o) := hc 1 _ rfl
        have t2 : (w.alloc (.cells #[.slice a0 R.cur.length c0, .slice a1 R.cities.length c1, .slice a2 R.groups.length c2, .slice a3 R.firms.length c3, .slice a4 R.orders.length c4, .slice a5 R.usances.length c5, .slice a6 R.rates.length c6, .slice a7 R.halts.length c7] 31)).cell? ⟨b, off + k * 6 + 2, none⟩ = some (.int .i64 x.c) := hc 2 _ rfl
        have t3 : (w.alloc (.cells #[.slice a0 R.cur.length c0, .slice a1 R.cities.length c1, .slice a2 R.groups.length c2, .slice a3 R.firms.length c3, .slice a4 R.orders.length c4, .slice a5 R.usances.length c5, .slice a6 R.rates.length c6, .slice a7 R.halts.length c7] 31)).cell? ⟨b, off + k * 6 + 3, none⟩ = some (.slice x.a3 x.rest.length x.k3) := hc 3 _ rfl
        have t4 : (w.alloc (.cells #[.slice a0 R.cur.length c0, .slice a1 R.cities.length c1, .slice a2 R.groups.length c2, .slice a3 R.firms.length c3, .slice a4 R.orders.length c4, .slice a5 R.usances.length c5, .slice a6 R.rates.length c6, .slice a7 R.halts.length c7] 31)).cell? ⟨b, off + k * 6 + 4, none⟩ = some (.slice x.a4 x.feasts.length x.k4) := hc 4 _ rfl
        have t5 : (w.alloc (.cells #[.slice a0 R.cur.length c0, .slice a1 R.cities.length c1, .slice a2 R.groups.length c2, .slice a3 R.firms.length c3, .slice a4 R.orders.length c4, .slice a5 R.usances.length c5, .slice a6 R.rates.length c6, .slice a7 R.halts.length c7] 31)).cell? ⟨b, off + k * 6 + 5, none⟩ = some (.slice x.a5 x.shut.length x.k5) := hc 5 _ rfl
        clear hx hc
        subst ea
        by_cases v1 : 70 < (x.feasts.length : Int)
        · skip
          go_wp2_with fail
          go_ret
          exact ⟨⟨false, rfl, fun h => by cases h⟩, B0.out⟩
        by_cases v2 : 210 < (x.shut.length : Int)
        · skip
          go_wp2_with fail
          go_ret
          exact ⟨⟨false, rfl, fun h => by cases h⟩, B0.out⟩
        by_cases v3 : 8 < (x.rest.length : Int)
        · skip
          go_wp2_with fail
          go_ret
          exact ⟨⟨false, rfl, fun h => by cases h⟩, B0.out⟩
        go_wp2_with fail
        go_roundw
        case rel => exact ⟨k + 1, by omega, by congr 1, rfl⟩
        case measure => simp [intOf]; omega
      · have kd : ¬ (k : Int) < 50 := by omega
        have no1 : ¬ R.cities.length < 50 := by omega
        go_wp2_with fail
        go_loopw [4] (fun i wr => OrdR R (w.alloc (.cells #[.slice a0 R.cur.length c0, .slice a1 R.cities.length c1, .slice a2 R.groups.length c2, .slice a3 R.firms.length c3, .slice a4 R.orders.length c4, .slice a5 R.usances.length c5, .slice a6 R.rates.length c6, .slice a7 R.halts.length c7] 31)) i wr) (fun i _ => R.orders.length - (intOf i).toNat)
        case atStart => exact ⟨0, Nat.zero_le _, rfl, fun j o hj => by omega, rfl⟩
        case round =>
          obtain ⟨k, hk, rfl, hall, rfl⟩ := hrel
          have Ha := Lib.hid hall
          have k0 : (0 : Int) ≤ (k : Int) := by omega
          clear hall
          by_cases cl : k < R.orders.length
          case neg =>
            have kc : ¬ (k : Int) < (R.orders.length : Int) := by omega
            by_cases p0 : R.cur.length < 50
            · have q0 : (R.cur.length : Int) < 50 := by omega
              by_cases p1 : R.cities.length < 50
              · have q1 : (R.cities.length : Int) < 50 := by omega
                exact absurd p1 no1
              · have q1 : ¬ (R.cities.length : Int) < 50 := by omega
                go_wp2_with fail
                go_ret
                exact ⟨⟨false, rfl, fun h => by cases h⟩, B0.out⟩
            · have q0 : ¬ (R.cur.length : Int) < 50 := by omega
              go_wp2_with fail
              go_ret
              exact ⟨⟨false, rfl, fun h => by cases h⟩, B0.out⟩
          case pos =>
            have kc : (k : Int) < (R.orders.length : Int) := by omega
            by_cases c50 : k < 50
            · have kd : (k : Int) < 50 := by omega
              obtain ⟨x, hx⟩ : ∃ x, R.orders[k]? = some x := ⟨_, List.getElem?_eq_getElem cl⟩
              obtain ⟨b, off, ea, hb, hc⟩ := (HR.out.next B0.out).orders.at hx
              have t0 : (w.alloc (.cells #[.slice a0 R.cur.length c0, .slice a1 R.cities.length c1, .slice a2 R.groups.length c2, .slice a3 R.firms.length c3, .slice a4 R.orders.length c4, .slice a5 R.usances.length c5, .slice a6 R.rates.length c6, .slice a7 R.halts.length c7] 31)).cell? ⟨b, off + k * 4, none⟩ = some (.string x.nm) := hc 0 _ rfl
              have t1 : (w.alloc (.cells #[.slice a0 R.cur.length c0, .slice a1 R.cities.length c1, .slice a2 R.groups.length c2, .slice a3 R.firms.length c3, .slice a4 R.orders.length c4, .slice a5 R.usances.length c5, .slice a6 R.rates.length c6, .slice a7 R.halts.length c7] 31)).cell? ⟨b, off + k * 4 + 1, none⟩ = some (.bool x.acc) := hc 1 _ rfl
              have t2 : (w.alloc (.cells #[.slice a0 R.cur.length c0, .slice a1 R.cities.length c1, .slice a2 R.groups.length c2, .slice a3 R.firms.length c3, .slice a4 R.orders.length c4, .slice a5 R.usances.length c5, .slice a6 R.rates.length c6, .slice a7 R.halts.length c7] 31)).cell? ⟨b, off + k * 4 + 2, none⟩ = some (.slice x.a2 x.ch.length x.k2) := hc 2 _ rfl
              have t3 : (w.alloc (.cells #[.slice a0 R.cur.length c0, .slice a1 R.cities.length c1, .slice a2 R.groups.length c2, .slice a3 R.firms.length c3, .slice a4 R.orders.length c4, .slice a5 R.usances.length c5, .slice a6 R.rates.length c6, .slice a7 R.halts.length c7] 31)).cell? ⟨b, off + k * 4 + 3, none⟩ = some (.slice x.a3 x.ru.length x.k3) := hc 3 _ rfl
              have HX := Lib.hid hx
              clear hx hc
              subst ea
              by_cases u1 : x.ch.length ≤ 40
              · have v1 : ¬ 40 < (x.ch.length : Int) := by omega
                by_cases u2 : x.ru.length ≤ 40
                · have v2 : ¬ 40 < (x.ru.length : Int) := by omega
                  have HN : Hid (∀ (j : Nat) (o : Odr), j < k + 1 → R.orders[j]? = some o → o.ch.length ≤ 40 ∧ o.ru.length ≤ 40) := by
                    intro j o hj ho
                    by_cases cj : j = k
                    · subst cj
                      have := HX.out
                      rw [ho] at this
                      simp only [Option.some.injEq] at this
                      subst this
                      exact ⟨u1, u2⟩
                    · exact Ha.out j o (by omega) ho
                  go_wp2_with fail
                  go_roundw
                  case rel => exact ⟨k + 1, by omega, by congr 1, HN.out, rfl⟩
                  case measure => simp [intOf]; omega
                · have v2 : 40 < (x.ru.length : Int) := by omega
                  go_wp2_with fail
                  go_ret
                  exact ⟨⟨false, rfl, fun h => by cases h⟩, B0.out⟩
              · have v1 : 40 < (x.ch.length : Int) := by omega
                go_wp2_with fail
                go_ret
                exact ⟨⟨false, rfl, fun h => by cases h⟩, B0.out⟩
            · have kd : ¬ (k : Int) < 50 := by omega
              have no4 : ¬ R.orders.length < 50 := by omega
              by_cases p0 : R.cur.length < 50
              · have q0 : (R.cur.length : Int) < 50 := by omega
                by_cases p1 : R.cities.length < 50
                · have q1 : (R.cities.length : Int) < 50 := by omega
                  exact absurd p1 no1
                · have q1 : ¬ (R.cities.length : Int) < 50 := by omega
                  go_wp2_with fail
                  go_ret
                  exact ⟨⟨false, rfl, fun h => by cases h⟩, B0.out⟩
              · have q0 : ¬ (R.cur.length : Int) < 50 := by omega
                go_wp2_with fail
                go_ret
                exact ⟨⟨false, rfl, fun h => by cases h⟩, B0.out⟩

def smRel (a b : List Int) (w : World) (i : Value) (wr : World) : Prop := ∃ k : Nat, k ≤ a.length ∧ i = .int .i64 (k : Int) ∧ (∀ j, j < k → a.getD j 0 = b.getD j 0) ∧ Below w.heap.size w wr
end Go.Proofs.YtcjakgpmompaiaaGreatDoor
