/-
  The program checks a bill.
-/
import Derived.Test.YtcjakgpmompaiaaGreatDoorChA
namespace Go.Proofs.YtcjakgpmompaiaaGreatDoor
open Go.RowKit Rl Wd


theorem ret_i {a b : Int} (h : a = b) : Ending.returned (.int .i64 a) = Ending.returned (.int .i64 b) := by rw [h]
set_option maxHeartbeats 6400000 in
set_option maxRecDepth 100000 in
theorem WCheck_x {a0 a1 a2 a3 a4 a5 a6 a7 : Option Addr} {c0 c1 c2 c3 c4 c5 c6 c7 : Nat} {R : Rlm} (b : Bl) (w : World) (hr : RS w a0 a1 a2 a3 a4 a5 a6 a7 c0 c1 c2 c3 c4 c5 c6 c7 R) (hF : Fit R) :
    Calls Tryz.prog 12 #[.agg #[.slice a0 R.cur.length c0, .slice a1 R.cities.length c1, .slice a2 R.groups.length c2, .slice a3 R.firms.length c3, .slice a4 R.orders.length c4, .slice a5 R.usances.length c5, .slice a6 R.rates.length c6, .slice a7 R.halts.length c7], vB b] w fun r w' => r = .returned (.int .i64 (checkW R b)) ∧ Below w.heap.size w w' := by
  have HR := Lib.hid hr
  have X0 := Lib.hid (BB.new (w.alloc (.cells #[.slice a0 R.cur.length c0, .slice a1 R.cities.length c1, .slice a2 R.groups.length c2, .slice a3 R.firms.length c3, .slice a4 R.orders.length c4, .slice a5 R.usances.length c5, .slice a6 R.rates.length c6, .slice a7 R.halts.length c7] 31)) b (w.heap.size + 1) (by simp))
  have RB0 := Lib.hid ((RB.new w a0 a1 a2 a3 a4 a5 a6 a7 c0 c1 c2 c3 c4 c5 c6 c7 R).next (Below.new1 (.cells #[.int .i64 b.drawer, .int .i64 b.drawee, .int .i64 b.payee, .int .i64 b.sum, .int .i64 b.cur, .int .i64 b.tk, .int .i64 b.tn, .int .i64 b.tu, .int .i64 b.day, .int .i64 b.city, .int .i64 b.pay, .int .i64 b.need, .int .i64 b.rate, .int .i64 b.flags, .int .i64 b.parts] 35)))
  have B0 : Hid (Below w.heap.size w ((w.alloc (.cells #[.slice a0 R.cur.length c0, .slice a1 R.cities.length c1, .slice a2 R.groups.length c2, .slice a3 R.firms.length c3, .slice a4 R.orders.length c4, .slice a5 R.usances.length c5, .slice a6 R.rates.length c6, .slice a7 R.halts.length c7] 31)).alloc (.cells #[.int .i64 b.drawer, .int .i64 b.drawee, .int .i64 b.payee, .int .i64 b.sum, .int .i64 b.cur, .int .i64 b.tk, .int .i64 b.tn, .int .i64 b.tu, .int .i64 b.day, .int .i64 b.city, .int .i64 b.pay, .int .i64 b.need, .int .i64 b.rate, .int .i64 b.flags, .int .i64 b.parts] 35))) := chain (Below.new1 _) (Below.new1 _)
  clear hr
  have k0 := RB0.out.b0
  have k1 := RB0.out.b1
  have k2 := RB0.out.b2
  have k3 := RB0.out.b3
  have k4 := RB0.out.b4
  have k5 := RB0.out.b5
  have k6 := RB0.out.b6
  have k7 := RB0.out.b7
  go_enter Tryz.func12, Tryz.ntmps12
  go_wp2_with fail
  clear k0 k1 k2 k3 k4 k5 k6 k7
  refine (Check_x _ (HR.out.next B0.out) hF).mono ?_
  rintro r w1 ⟨rfl, c1⟩
  have B1 := Lib.hid (chain B0.out c1)
  have X1 := Lib.hid (X0.out.below c1 X0.out.lt)
  have RB1 := Lib.hid (RB0.out.next c1)
  clear c1
  by_cases z : checkP R = 0
  · rw [z]
    have Z := Lib.hid z
    clear z
    have x0 := X1.out.at (i := 0) rfl
    have x1 := X1.out.at (i := 1) rfl
    have x2 := X1.out.at (i := 2) rfl
    have x3 := X1.out.at (i := 3) rfl
    have x4 := X1.out.at (i := 4) rfl
    have x5 := X1.out.at (i := 5) rfl
    have x6 := X1.out.at (i := 6) rfl
    have x7 := X1.out.at (i := 7) rfl
    have x8 := X1.out.at (i := 8) rfl
    have x9 := X1.out.at (i := 9) rfl
    have x10 := X1.out.at (i := 10) rfl
    have x11 := X1.out.at (i := 11) rfl
    have x12 := X1.out.at (i := 12) rfl
    have x13 := X1.out.at (i := 13) rfl
    have x14 := X1.out.at (i := 14) rfl
    have k0 := RB1.out.b0
    have k1 := RB1.out.b1
    have k2 := RB1.out.b2
    have k3 := RB1.out.b3
    have k4 := RB1.out.b4
    have k5 := RB1.out.b5
    have k6 := RB1.out.b6
    have k7 := RB1.out.b7
    go_wp2_with fail
    clear x0 x1 x2 x3 x4 x5 x6 x7 x8 x9 x10 x11 x12 x13 x14 k0 k1 k2 k3 k4 k5 k6 k7
    refine (placed_x b _ (HR.out.next B1.out) hF).mono ?_
    rintro r w2 ⟨rfl, c2⟩
    have B2 := Lib.hid (chain B1.out c2)
    have X2 := Lib.hid (X1.out.below c2 X1.out.lt)
    have RB2 := Lib.hid (RB1.out.next c2)
    clear c2
    cases e1 : placedB R b with
    | false =>
      go_wp2
      go_ret
      exact ⟨ret_i (by simp [checkW, orE, Z.out, e1]), B2.out⟩
    | true =>
      have x0 := X2.out.at (i := 0) rfl
      have x1 := X2.out.at (i := 1) rfl
      have x2 := X2.out.at (i := 2) rfl
      have x3 := X2.out.at (i := 3) rfl
      have x4 := X2.out.at (i := 4) rfl
      have x5 := X2.out.at (i := 5) rfl
      have x6 := X2.out.at (i := 6) rfl
      have x7 := X2.out.at (i := 7) rfl
      have x8 := X2.out.at (i := 8) rfl
      have x9 := X2.out.at (i := 9) rfl
      have x10 := X2.out.at (i := 10) rfl
      have x11 := X2.out.at (i := 11) rfl
      have x12 := X2.out.at (i := 12) rfl
      have x13 := X2.out.at (i := 13) rfl
      have x14 := X2.out.at (i := 14) rfl
      go_wp2_with fail
      clear x0 x1 x2 x3 x4 x5 x6 x7 x8 x9 x10 x11 x12 x13 x14
      refine (ranged_x b _).mono ?_
      rintro r w3 ⟨rfl, c3⟩
      have B3 := Lib.hid (chain B2.out c3)
      have X3 := Lib.hid (X2.out.below c3 X2.out.lt)
      have RB3 := Lib.hid (RB2.out.next c3)
      clear c3
      cases e2 : rangedB b with
      | false =>
        go_wp2
        go_ret
        exact ⟨ret_i (by simp [checkW, orE, Z.out, e1, e2]), B3.out⟩
      | true =>
        have x14 := X3.out.at (i := 14) rfl
        go_wp2_with fail
        clear x14
        refine (bwithin_x b.parts 1 4 _).mono ?_
        rintro r w4 ⟨rfl, rfl⟩
        cases e3 : wi b.parts 1 4 with
        | false =>
          go_wp2
          go_ret
          exact ⟨ret_i (by simp [checkW, orE, Z.out, e1, e2, e3]), B3.out⟩
        | true =>
          have x0 := X3.out.at (i := 0) rfl
          have x1 := X3.out.at (i := 1) rfl
          have x2 := X3.out.at (i := 2) rfl
          have x3 := X3.out.at (i := 3) rfl
          have x4 := X3.out.at (i := 4) rfl
          have x5 := X3.out.at (i := 5) rfl
          have x6 := X3.out.at (i := 6) rfl
          have x7 := X3.out.at (i := 7) rfl
          have x8 := X3.out.at (i := 8) rfl
          have x9 := X3.out.at (i := 9) rfl
          have x10 := X3.out.at (i := 10) rfl
          have x11 := X3.out.at (i := 11) rfl
          have x12 := X3.out.at (i := 12) rfl
          have x13 := X3.out.at (i := 13) rfl
          have x14 := X3.out.at (i := 14) rfl
          go_wp2_with fail
          clear x0 x1 x2 x3 x4 x5 x6 x7 x8 x9 x10 x11 x12 x13 x14
          refine (flagged_x b _).mono ?_
          rintro r w4 ⟨rfl, c4⟩
          have B4 := Lib.hid (chain B3.out c4)
          have X4 := Lib.hid (X3.out.below c4 X3.out.lt)
          have RB4 := Lib.hid (RB3.out.next c4)
          clear c4
          cases e4 : flaggedB b with
          | false =>
            go_wp2
            go_ret
            exact ⟨ret_i (by simp [checkW, orE, Z.out, e1, e2, e3, e4]), B4.out⟩
          | true =>
            have x0 := X4.out.at (i := 0) rfl
            have x1 := X4.out.at (i := 1) rfl
            have x2 := X4.out.at (i := 2) rfl
            have x3 := X4.out.at (i := 3) rfl
            have x4 := X4.out.at (i := 4) rfl
            have x5 := X4.out.at (i := 5) rfl
            have x6 := X4.out.at (i := 6) rfl
            have x7 := X4.out.at (i := 7) rfl
            have x8 := X4.out.at (i := 8) rfl
            have x9 := X4.out.at (i := 9) rfl
            have x10 := X4.out.at (i := 10) rfl
            have x11 := X4.out.at (i := 11) rfl
            have x12 := X4.out.at (i := 12) rfl
            have x13 := X4.out.at (i := 13) rfl
            have x14 := X4.out.at (i := 14) rfl
            go_wp2_with fail
            clear x0 x1 x2 x3 x4 x5 x6 x7 x8 x9 x10 x11 x12 x13 x14
            refine (termed_x b _).mono ?_
            rintro r w5 ⟨rfl, c5⟩
            have B5 := Lib.hid (chain B4.out c5)
            have X5 := Lib.hid (X4.out.below c5 X4.out.lt)
            have RB5 := Lib.hid (RB4.out.next c5)
            clear c5
            cases e5 : termedB b with
            | false =>
              go_wp2
              go_ret
              exact ⟨ret_i (by simp [checkW, orE, Z.out, e1, e2, e3, e4, e5]), B5.out⟩
            | true =>
              by_cases e6 : b.tk = 4
              · have g : (b.tk == 4) = true := bq e6
                have E6 := Lib.hid e6
                clear e6
                have x0 := X5.out.at (i := 0) rfl
                have x1 := X5.out.at (i := 1) rfl
                have x2 := X5.out.at (i := 2) rfl
                have x3 := X5.out.at (i := 3) rfl
                have x4 := X5.out.at (i := 4) rfl
                have x5 := X5.out.at (i := 5) rfl
                have x6 := X5.out.at (i := 6) rfl
                have x7 := X5.out.at (i := 7) rfl
                have x8 := X5.out.at (i := 8) rfl
                have x9 := X5.out.at (i := 9) rfl
                have x10 := X5.out.at (i := 10) rfl
                have x11 := X5.out.at (i := 11) rfl
                have x12 := X5.out.at (i := 12) rfl
                have x13 := X5.out.at (i := 13) rfl
                have x14 := X5.out.at (i := 14) rfl
                have k0 := RB5.out.b0
                have k1 := RB5.out.b1
                have k2 := RB5.out.b2
                have k3 := RB5.out.b3
                have k4 := RB5.out.b4
                have k5 := RB5.out.b5
                have k6 := RB5.out.b6
                have k7 := RB5.out.b7
                go_wp2_with fail
                clear x0 x1 x2 x3 x4 x5 x6 x7 x8 x9 x10 x11 x12 x13 x14 k0 k1 k2 k3 k4 k5 k6 k7
                refine (usual_x b _ (HR.out.next B5.out) hF).mono ?_
                rintro r w6 ⟨rfl, c6⟩
                have B6 := Lib.hid (chain B5.out c6)
                have X6 := Lib.hid (X5.out.below c6 X5.out.lt)
                have RB6 := Lib.hid (RB5.out.next c6)
                clear c6
                rcases us_ok R b.city b.pay with u | u
                · rw [show ((usAt R b.city b.pay).2 == 0) = true from bq u]
                  have U := Lib.hid u
                  clear u
                  go_wp2
                  go_ret
                  exact ⟨ret_i (by simp [checkW, orE, Z.out, e1, e2, e3, e4, e5, E6.out, U.out]), B6.out⟩
                · rw [show ((usAt R b.city b.pay).2 == 0) = false by rw [u]; rfl]
                  have U := Lib.hid u
                  clear u
                  go_wp2
                  go_ret
                  exact ⟨ret_i (by simp [checkW, orE, Z.out, e1, e2, e3, e4, e5, E6.out, U.out]), B6.out⟩
              · have g : (b.tk == 4) = false := bn e6
                have E6 := Lib.hid e6
                clear e6
                have x0 := X5.out.at (i := 0) rfl
                have x1 := X5.out.at (i := 1) rfl
                have x2 := X5.out.at (i := 2) rfl
                have x3 := X5.out.at (i := 3) rfl
                have x4 := X5.out.at (i := 4) rfl
                have x5 := X5.out.at (i := 5) rfl
                have x6 := X5.out.at (i := 6) rfl
                have x7 := X5.out.at (i := 7) rfl
                have x8 := X5.out.at (i := 8) rfl
                have x9 := X5.out.at (i := 9) rfl
                have x10 := X5.out.at (i := 10) rfl
                have x11 := X5.out.at (i := 11) rfl
                have x12 := X5.out.at (i := 12) rfl
                have x13 := X5.out.at (i := 13) rfl
                have x14 := X5.out.at (i := 14) rfl
                go_wp2
                go_ret
                exact ⟨ret_i (by simp [checkW, orE, Z.out, e1, e2, e3, e4, e5, E6.out]), B5.out⟩
  · have g : (checkP R != 0) = true := bne_iff_ne.2 z
    have Z := Lib.hid z
    clear z
    go_wp2
    go_ret
    exact ⟨ret_i (by simp [checkW, orE, Z.out]), B1.out⟩
end Go.Proofs.YtcjakgpmompaiaaGreatDoor
