/-
  The program checks a bill.
-/
import Derived.Test.YtcjakgpmompaiaaGreatDoorWrA
namespace Go.Proofs.YtcjakgpmompaiaaGreatDoor
open Go.RowKit Rl Wd

theorem bwithin_x (n lo hi : Int) (w : World) :
    Calls Tryz.prog 36 #[.int .i64 n, .int .i64 lo, .int .i64 hi] w fun r w' => r = .returned (.bool (wi n lo hi)) ∧ w = w' := by
  go_enter Tryz.func36, Tryz.ntmps36
  go_wp2
  all_goals go_ret
  all_goals exact ⟨ret_b (by rw [Bool.eq_iff_iff, wi_iff]; simp; try omega), rfl⟩
theorem bix_x (n : Int) (len : Nat) (w : World) :
    Calls Tryz.prog 36 #[.int .i64 n, .int .i64 0, .int .i64 ((len : Int) - 1)] w fun r w' => r = .returned (.bool (ix n len)) ∧ w = w' := bwithin_x n 0 ((len : Int) - 1) w
theorem RB.low {w w' : World} {g n : Nat} {a0 a1 a2 a3 a4 a5 a6 a7 : Option Addr} {c0 c1 c2 c3 c4 c5 c6 c7 : Nat} {R : Rlm} (h : RB w g a0 a1 a2 a3 a4 a5 a6 a7 c0 c1 c2 c3 c4 c5 c6 c7 R) (hb : Below n w w') (hg : g < n) : RB w' g a0 a1 a2 a3 a4 a5 a6 a7 c0 c1 c2 c3 c4 c5 c6 c7 R := by
  have e : ∀ i, w'.cell? ⟨g, i, none⟩ = w.cell? ⟨g, i, none⟩ := fun i => hb.cell (p := ⟨g, i, none⟩) hg
  exact ⟨by rw [e]; exact h.b0, by rw [e]; exact h.b1, by rw [e]; exact h.b2, by rw [e]; exact h.b3, by rw [e]; exact h.b4, by rw [e]; exact h.b5, by rw [e]; exact h.b6, by rw [e]; exact h.b7⟩
theorem low_up {n : Nat} {w w1 w2 : World} (h : Below n w w1) (h2 : Below w1.heap.size w1 w2) (hn : n ≤ w.heap.size) : Below n w w2 := h.trans (h2.mono (Nat.le_trans hn h.size))
theorem bq {a b : Int} (h : a = b) : (a == b) = true := beq_iff_eq.2 h
theorem bn {a b : Int} (h : a ≠ b) : (a == b) = false := beq_eq_false_iff_ne.2 h

set_option maxHeartbeats 3200000 in
set_option maxRecDepth 100000 in
theorem ranged_x (b : Bl) (w : World) :
    Calls Tryz.prog 35 #[vB b] w fun r w' => r = .returned (.bool (rangedB b)) ∧ Below w.heap.size w w' := by
  have X0 := Lib.hid (BB.new w b _ rfl)
  have B0 := Lib.hid (Below.new1 (w := w) (.cells #[.int .i64 b.drawer, .int .i64 b.drawee, .int .i64 b.payee, .int .i64 b.sum, .int .i64 b.cur, .int .i64 b.tk, .int .i64 b.tn, .int .i64 b.tu, .int .i64 b.day, .int .i64 b.city, .int .i64 b.pay, .int .i64 b.need, .int .i64 b.rate, .int .i64 b.flags, .int .i64 b.parts] 35))
  have x3 := X0.out.at (i := 3) rfl
  have x8 := X0.out.at (i := 8) rfl
  have x12 := X0.out.at (i := 12) rfl
  go_enter Tryz.func35, Tryz.ntmps35
  go_wp2_with fail
  refine (bwithin_x _ _ _ _).mono ?_
  rintro r w1 ⟨rfl, rfl⟩
  cases e0 : wi b.sum 1 1099511627776 with
  | false =>
    go_wp2
    go_ret
    exact ⟨ret_b (by simp [rangedB, e0]), B0.out⟩
  | true =>
    go_wp2_with fail
    refine (bwithin_x _ _ _ _).mono ?_
    rintro r w1 ⟨rfl, rfl⟩
    cases e1 : wi b.day 0 100000 with
    | false =>
      go_wp2
      go_ret
      exact ⟨ret_b (by simp [rangedB, e0, e1]), B0.out⟩
    | true =>
      go_wp2_with fail
      refine (bwithin_x _ _ _ _).mono ?_
      rintro r w1 ⟨rfl, rfl⟩
      cases e2 : wi b.rate 0 1000 with
      | false =>
        go_wp2
        go_ret
        exact ⟨ret_b (by simp [rangedB, e0, e1, e2]), B0.out⟩
      | true =>
        go_wp2
        go_ret
        exact ⟨ret_b (by simp [rangedB, e0, e1, e2]), B0.out⟩

theorem flag_no {b : Bl} (h1 : b.payee = -1) (h2 : (bits BinOp.and IntKind.i64 b.flags 4 != 0) = true) : flaggedB b = false := by
  unfold flaggedB
  by_cases c : 0 ≤ b.flags ∧ b.flags ≤ 7
  · rw [(bit_and c.1 c.2).2.2] at h2
    simp [h1, h2]
  · have : wi b.flags 0 7 = false := by rw [← Bool.not_eq_true, wi_iff]; exact c
    rw [this]
    rfl
theorem flag_yes {b : Bl} (h : b.payee ≠ -1 ∨ (bits BinOp.and IntKind.i64 b.flags 4 != 0) = false) : flaggedB b = wi b.flags 0 7 := by
  unfold flaggedB
  by_cases c : 0 ≤ b.flags ∧ b.flags ≤ 7
  · rw [(bit_and c.1 c.2).2.2] at h
    rcases h with h | h <;> simp [h]
  · have : wi b.flags 0 7 = false := by rw [← Bool.not_eq_true, wi_iff]; exact c
    rw [this]
    rfl

set_option maxHeartbeats 3200000 in
set_option maxRecDepth 100000 in
theorem flagged_x (b : Bl) (w : World) :
    Calls Tryz.prog 37 #[vB b] w fun r w' => r = .returned (.bool (flaggedB b)) ∧ Below w.heap.size w w' := by
  have X0 := Lib.hid (BB.new w b _ rfl)
  have B0 := Lib.hid (Below.new1 (w := w) (.cells #[.int .i64 b.drawer, .int .i64 b.drawee, .int .i64 b.payee, .int .i64 b.sum, .int .i64 b.cur, .int .i64 b.tk, .int .i64 b.tn, .int .i64 b.tu, .int .i64 b.day, .int .i64 b.city, .int .i64 b.pay, .int .i64 b.need, .int .i64 b.rate, .int .i64 b.flags, .int .i64 b.parts] 35))
  have x2 := X0.out.at (i := 2) rfl
  have x13 := X0.out.at (i := 13) rfl
  by_cases e : b.payee = -1
  · have g : (b.payee == -1) = true := bq e
    have E := Lib.hid e
    clear e
    cases q : (bits BinOp.and IntKind.i64 b.flags 4 != 0) with
    | true =>
      go_enter Tryz.func37, Tryz.ntmps37
      go_wp2
      go_ret
      exact ⟨ret_b (flag_no E.out q).symm, B0.out⟩
    | false =>
      go_enter Tryz.func37, Tryz.ntmps37
      go_wp2_with fail
      refine (bwithin_x _ _ _ _).mono ?_
      rintro r w1 ⟨rfl, rfl⟩
      go_wp2
      go_ret
      exact ⟨ret_b (flag_yes (.inr q)).symm, B0.out⟩
  · have g : (b.payee == -1) = false := bn e
    have E := Lib.hid e
    clear e
    go_enter Tryz.func37, Tryz.ntmps37
    go_wp2_with fail
    refine (bwithin_x _ _ _ _).mono ?_
    rintro r w1 ⟨rfl, rfl⟩
    go_wp2
    go_ret
    exact ⟨ret_b (flag_yes (.inl E.out)).symm, B0.out⟩

set_option maxHeartbeats 3200000 in
set_option maxRecDepth 100000 in
theorem termed_x (b : Bl) (w : World) :
    Calls Tryz.prog 38 #[vB b] w fun r w' => r = .returned (.bool (termedB b)) ∧ Below w.heap.size w w' := by
  have X0 := Lib.hid (BB.new w b _ rfl)
  have X1 := Lib.hid ((BB.new w b _ rfl).below (Below.new1 (.cells #[.int .i64 b.tk, .int .i64 b.tn, .int .i64 b.tu] 33)) (BB.new w b _ rfl).lt)
  have C1 := Lib.hid (CBx.new (w.alloc (.cells #[.int .i64 b.drawer, .int .i64 b.drawee, .int .i64 b.payee, .int .i64 b.sum, .int .i64 b.cur, .int .i64 b.tk, .int .i64 b.tn, .int .i64 b.tu, .int .i64 b.day, .int .i64 b.city, .int .i64 b.pay, .int .i64 b.need, .int .i64 b.rate, .int .i64 b.flags, .int .i64 b.parts] 35)) [.int .i64 b.tk, .int .i64 b.tn, .int .i64 b.tu])
  have B1 : Hid (Below w.heap.size w ((w.alloc (.cells #[.int .i64 b.drawer, .int .i64 b.drawee, .int .i64 b.payee, .int .i64 b.sum, .int .i64 b.cur, .int .i64 b.tk, .int .i64 b.tn, .int .i64 b.tu, .int .i64 b.day, .int .i64 b.city, .int .i64 b.pay, .int .i64 b.need, .int .i64 b.rate, .int .i64 b.flags, .int .i64 b.parts] 35)).alloc (.cells #[.int .i64 b.tk, .int .i64 b.tn, .int .i64 b.tu] 33))) := chain (Below.new1 _) (Below.new1 _)
  have x5 := X0.out.at (i := 5) rfl
  have x6 := X0.out.at (i := 6) rfl
  have x7 := X0.out.at (i := 7) rfl
  have z8 := X1.out.at (i := 8) rfl
  have c0 := C1.out.at (i := 0) rfl
  have c1 := C1.out.at (i := 1) rfl
  have c2 := C1.out.at (i := 2) rfl
  have zs : (w.alloc (.cells #[.int .i64 b.drawer, .int .i64 b.drawee, .int .i64 b.payee, .int .i64 b.sum, .int .i64 b.cur, .int .i64 b.tk, .int .i64 b.tn, .int .i64 b.tu, .int .i64 b.day, .int .i64 b.city, .int .i64 b.pay, .int .i64 b.need, .int .i64 b.rate, .int .i64 b.flags, .int .i64 b.parts] 35)).heap.size = w.heap.size + 1 := by simp
  rw [zs] at c0 c1 c2
  clear zs
  by_cases h0 : b.tk = 0
  · have g0 : (b.tk == 0) = true := bq h0
    have h := Lib.hid h0
    clear h0
    by_cases c1 : b.tn = 0
    · have y1 : (b.tn == 0) = true := bq c1
      have D1 := Lib.hid c1
      clear c1
      by_cases c2 : b.tu = 0
      · have y2 : (b.tu == 0) = true := bq c2
        have D2 := Lib.hid c2
        clear c2
        go_enter Tryz.func38, Tryz.ntmps38
        go_wp2
        go_ret
        exact ⟨ret_b (by simp [termedB, h.out, D1.out, D2.out]), B1.out⟩
      · have y2 : (b.tu == 0) = false := bn c2
        have D2 := Lib.hid c2
        clear c2
        go_enter Tryz.func38, Tryz.ntmps38
        go_wp2
        go_ret
        exact ⟨ret_b (by simp [termedB, h.out, D1.out, D2.out]), B1.out⟩
    · have y1 : (b.tn == 0) = false := bn c1
      have D1 := Lib.hid c1
      clear c1
      go_enter Tryz.func38, Tryz.ntmps38
      go_wp2
      go_ret
      exact ⟨ret_b (by simp [termedB, h.out, D1.out]), B1.out⟩
  by_cases h4 : b.tk = 4
  · have g0 : (b.tk == 0) = false := bn h0
    have g4 : (b.tk == 4) = true := bq h4
    have h := Lib.hid h4
    clear h4
    by_cases c1 : b.tn = 0
    · have y1 : (b.tn == 0) = true := bq c1
      have D1 := Lib.hid c1
      clear c1
      by_cases c2 : b.tu = 0
      · have y2 : (b.tu == 0) = true := bq c2
        have D2 := Lib.hid c2
        clear c2
        go_enter Tryz.func38, Tryz.ntmps38
        go_wp2
        go_ret
        exact ⟨ret_b (by simp [termedB, h.out, D1.out, D2.out]), B1.out⟩
      · have y2 : (b.tu == 0) = false := bn c2
        have D2 := Lib.hid c2
        clear c2
        go_enter Tryz.func38, Tryz.ntmps38
        go_wp2
        go_ret
        exact ⟨ret_b (by simp [termedB, h.out, D1.out, D2.out]), B1.out⟩
    · have y1 : (b.tn == 0) = false := bn c1
      have D1 := Lib.hid c1
      clear c1
      go_enter Tryz.func38, Tryz.ntmps38
      go_wp2
      go_ret
      exact ⟨ret_b (by simp [termedB, h.out, D1.out]), B1.out⟩
  by_cases h1 : b.tk = 1
  · have g0 : (b.tk == 0) = false := bn h0
    have g4 : (b.tk == 4) = false := bn h4
    have g1 : (b.tk == 1) = true := bq h1
    have h := Lib.hid h1
    clear h1
    go_enter Tryz.func38, Tryz.ntmps38
    go_wp2_with fail
    refine (bwithin_x _ _ _ _).mono ?_
    rintro r w1 ⟨rfl, rfl⟩
    cases e1 : wi b.tn 1 400 with
    | false =>
      go_wp2
      go_ret
      exact ⟨ret_b (by simp [termedB, h.out, e1]), B1.out⟩
    | true =>
      go_wp2_with fail
      refine (bwithin_x _ _ _ _).mono ?_
      rintro r w1 ⟨rfl, rfl⟩
      go_wp2
      go_ret
      exact ⟨ret_b (by simp [termedB, h.out, e1]), B1.out⟩
  by_cases h2 : b.tk = 2
  · have g0 : (b.tk == 0) = false := bn h0
    have g4 : (b.tk == 4) = false := bn h4
    have g1 : (b.tk == 1) = false := bn h1
    have g2 : (b.tk == 2) = true := bq h2
    have h := Lib.hid h2
    clear h2
    go_enter Tryz.func38, Tryz.ntmps38
    go_wp2_with fail
    refine (bwithin_x _ _ _ _).mono ?_
    rintro r w1 ⟨rfl, rfl⟩
    cases e1 : wi b.tn 1 400 with
    | false =>
      go_wp2
      go_ret
      exact ⟨ret_b (by simp [termedB, h.out, e1]), B1.out⟩
    | true =>
      go_wp2_with fail
      refine (bwithin_x _ _ _ _).mono ?_
      rintro r w1 ⟨rfl, rfl⟩
      go_wp2
      go_ret
      exact ⟨ret_b (by simp [termedB, h.out, e1]), B1.out⟩
  by_cases h3 : b.tk = 3
  · have g0 : (b.tk == 0) = false := bn h0
    have g4 : (b.tk == 4) = false := bn h4
    have g1 : (b.tk == 1) = false := bn h1
    have g2 : (b.tk == 2) = false := bn h2
    have g3 : (b.tk == 3) = true := bq h3
    have h := Lib.hid h3
    clear h3
    by_cases c2 : b.tu = 0
    · have y2 : (b.tu == 0) = true := bq c2
      have D2 := Lib.hid c2
      clear c2
      go_enter Tryz.func38, Tryz.ntmps38
      go_wp2_with fail
      refine (bwithin_x _ _ _ _).mono ?_
      rintro r w1 ⟨rfl, rfl⟩
      cases e1 : wi b.tn b.day 100000 with
      | false =>
        go_wp2
        go_ret
        exact ⟨ret_b (by simp [termedB, h.out, e1]), B1.out⟩
      | true =>
        go_wp2
        go_ret
        exact ⟨ret_b (by simp [termedB, h.out, e1, D2.out]), B1.out⟩
    · have y2 : (b.tu == 0) = false := bn c2
      have D2 := Lib.hid c2
      clear c2
      go_enter Tryz.func38, Tryz.ntmps38
      go_wp2_with fail
      refine (bwithin_x _ _ _ _).mono ?_
      rintro r w1 ⟨rfl, rfl⟩
      cases e1 : wi b.tn b.day 100000 with
      | false =>
        go_wp2
        go_ret
        exact ⟨ret_b (by simp [termedB, h.out, e1]), B1.out⟩
      | true =>
        go_wp2
        go_ret
        exact ⟨ret_b (by simp [termedB, h.out, e1, D2.out]), B1.out⟩
  · have g0 : (b.tk == 0) = false := bn h0
    have g4 : (b.tk == 4) = false := bn h4
    have g1 : (b.tk == 1) = false := bn h1
    have g2 : (b.tk == 2) = false := bn h2
    have g3 : (b.tk == 3) = false := bn h3
    go_enter Tryz.func38, Tryz.ntmps38
    go_wp2
    go_ret
    exact ⟨ret_b (by simp [termedB, h0, h1, h2, h3, h4]), B1.out⟩

theorem us_ok (R : Rlm) (a b : Int) : (usAt R a b).2 = 0 ∨ (usAt R a b).2 = 4 := by
  unfold usAt
  split
  · exact .inl rfl
  · exact .inr rfl
set_option maxHeartbeats 3200000 in
set_option maxRecDepth 100000 in
theorem usual_x {a0 a1 a2 a3 a4 a5 a6 a7 : Option Addr} {c0 c1 c2 c3 c4 c5 c6 c7 : Nat} {R : Rlm} (b : Bl) (w : World) (hr : RS w a0 a1 a2 a3 a4 a5 a6 a7 c0 c1 c2 c3 c4 c5 c6 c7 R) (hF : Fit R) :
    Calls Tryz.prog 39 #[.agg #[.slice a0 R.cur.length c0, .slice a1 R.cities.length c1, .slice a2 R.groups.length c2, .slice a3 R.firms.length c3, .slice a4 R.orders.length c4, .slice a5 R.usances.length c5, .slice a6 R.rates.length c6, .slice a7 R.halts.length c7], vB b] w fun r w' => r = .returned (.bool ((usAt R b.city b.pay).2 == 0)) ∧ Below w.heap.size w w' := by
  have HR := Lib.hid hr
  have X0 := Lib.hid (BB.new (w.alloc (.cells #[.slice a0 R.cur.length c0, .slice a1 R.cities.length c1, .slice a2 R.groups.length c2, .slice a3 R.firms.length c3, .slice a4 R.orders.length c4, .slice a5 R.usances.length c5, .slice a6 R.rates.length c6, .slice a7 R.halts.length c7] 31)) b (w.heap.size + 1) (by simp))
  have RB0 := Lib.hid ((RB.new w a0 a1 a2 a3 a4 a5 a6 a7 c0 c1 c2 c3 c4 c5 c6 c7 R).next (Below.new1 (.cells #[.int .i64 b.drawer, .int .i64 b.drawee, .int .i64 b.payee, .int .i64 b.sum, .int .i64 b.cur, .int .i64 b.tk, .int .i64 b.tn, .int .i64 b.tu, .int .i64 b.day, .int .i64 b.city, .int .i64 b.pay, .int .i64 b.need, .int .i64 b.rate, .int .i64 b.flags, .int .i64 b.parts] 35)))
  have B0 : Hid (Below w.heap.size w ((w.alloc (.cells #[.slice a0 R.cur.length c0, .slice a1 R.cities.length c1, .slice a2 R.groups.length c2, .slice a3 R.firms.length c3, .slice a4 R.orders.length c4, .slice a5 R.usances.length c5, .slice a6 R.rates.length c6, .slice a7 R.halts.length c7] 31)).alloc (.cells #[.int .i64 b.drawer, .int .i64 b.drawee, .int .i64 b.payee, .int .i64 b.sum, .int .i64 b.cur, .int .i64 b.tk, .int .i64 b.tn, .int .i64 b.tu, .int .i64 b.day, .int .i64 b.city, .int .i64 b.pay, .int .i64 b.need, .int .i64 b.rate, .int .i64 b.flags, .int .i64 b.parts] 35))) := chain (Below.new1 _) (Below.new1 _)
  clear hr
  have x9 := X0.out.at (i := 9) rfl
  have x10 := X0.out.at (i := 10) rfl
  obtain ⟨k0, k1, k2, k3, k4, k5, k6, k7⟩ := RB0.out
  go_enter Tryz.func39, Tryz.ntmps39
  go_wp2_with fail
  refine (Usance_x b.city b.pay _ (HR.out.next B0.out) hF).mono ?_
  rintro r w1 ⟨rfl, b1⟩
  have B1 := Lib.hid (chain B0.out b1)
  clear b1
  go_wp2
  go_ret
  exact ⟨rfl, B1.out⟩

set_option maxHeartbeats 6400000 in
set_option maxRecDepth 100000 in
theorem placed_x {a0 a1 a2 a3 a4 a5 a6 a7 : Option Addr} {c0 c1 c2 c3 c4 c5 c6 c7 : Nat} {R : Rlm} (b : Bl) (w : World) (hr : RS w a0 a1 a2 a3 a4 a5 a6 a7 c0 c1 c2 c3 c4 c5 c6 c7 R) (hF : Fit R) :
    Calls Tryz.prog 34 #[.agg #[.slice a0 R.cur.length c0, .slice a1 R.cities.length c1, .slice a2 R.groups.length c2, .slice a3 R.firms.length c3, .slice a4 R.orders.length c4, .slice a5 R.usances.length c5, .slice a6 R.rates.length c6, .slice a7 R.halts.length c7], vB b] w fun r w' => r = .returned (.bool (placedB R b)) ∧ Below w.heap.size w w' := by
  have HR := Lib.hid hr
  have X0 := Lib.hid (BB.new (w.alloc (.cells #[.slice a0 R.cur.length c0, .slice a1 R.cities.length c1, .slice a2 R.groups.length c2, .slice a3 R.firms.length c3, .slice a4 R.orders.length c4, .slice a5 R.usances.length c5, .slice a6 R.rates.length c6, .slice a7 R.halts.length c7] 31)) b (w.heap.size + 1) (by simp))
  have RB0 := Lib.hid ((RB.new w a0 a1 a2 a3 a4 a5 a6 a7 c0 c1 c2 c3 c4 c5 c6 c7 R).next (Below.new1 (.cells #[.int .i64 b.drawer, .int .i64 b.drawee, .int .i64 b.payee, .int .i64 b.sum, .int .i64 b.cur, .int .i64 b.tk, .int .i64 b.tn, .int .i64 b.tu, .int .i64 b.day, .int .i64 b.city, .int .i64 b.pay, .int .i64 b.need, .int .i64 b.rate, .int .i64 b.flags, .int .i64 b.parts] 35)))
  have B0 : Hid (Below w.heap.size w ((w.alloc (.cells #[.slice a0 R.cur.length c0, .slice a1 R.cities.length c1, .slice a2 R.groups.length c2, .slice a3 R.firms.length c3, .slice a4 R.orders.length c4, .slice a5 R.usances.length c5, .slice a6 R.rates.length c6, .slice a7 R.halts.length c7] 31)).alloc (.cells #[.int .i64 b.drawer, .int .i64 b.drawee, .int .i64 b.payee, .int .i64 b.sum, .int .i64 b.cur, .int .i64 b.tk, .int .i64 b.tn, .int .i64 b.tu, .int .i64 b.day, .int .i64 b.city, .int .i64 b.pay, .int .i64 b.need, .int .i64 b.rate, .int .i64 b.flags, .int .i64 b.parts] 35))) := chain (Below.new1 _) (Below.new1 _)
  clear hr
  have q3 : IntKind.i64.wrap ((R.firms.length : Int) - 1) = (R.firms.length : Int) - 1 := IntWalk.i64_in _ (by have := hF.firms; unfold Sz at this; omega)
  have q1 : IntKind.i64.wrap ((R.cities.length : Int) - 1) = (R.cities.length : Int) - 1 := IntWalk.i64_in _ (by have := hF.cities; unfold Sz at this; omega)
  have q0 : IntKind.i64.wrap ((R.cur.length : Int) - 1) = (R.cur.length : Int) - 1 := IntWalk.i64_in _ (by have := hF.cur; unfold Sz at this; omega)
  go_enter Tryz.func34, Tryz.ntmps34
  go_wp2_with fail
  have k3 := RB0.out.b3
  have k1 := RB0.out.b1
  go_quiet (fail)
  have XN := Lib.hid (X0.out.below (below_drewN (Below.refl _ _) nq) X0.out.lt)
  have KN := Lib.hid (RB0.out.next (below_drewN (Below.refl _ _) nq))
  have B0n := Lib.hid (below_drewN B0.out nq)
  clear k3 k1
  generalize (((w.alloc (.cells #[.slice a0 R.cur.length c0, .slice a1 R.cities.length c1, .slice a2 R.groups.length c2, .slice a3 R.firms.length c3, .slice a4 R.orders.length c4, .slice a5 R.usances.length c5, .slice a6 R.rates.length c6, .slice a7 R.halts.length c7] 31)).alloc (.cells #[.int .i64 b.drawer, .int .i64 b.drawee, .int .i64 b.payee, .int .i64 b.sum, .int .i64 b.cur, .int .i64 b.tk, .int .i64 b.tn, .int .i64 b.tu, .int .i64 b.day, .int .i64 b.city, .int .i64 b.pay, .int .i64 b.need, .int .i64 b.rate, .int .i64 b.flags, .int .i64 b.parts] 35))).drewN nq = wn at XN KN B0n ⊢
  have k0 := KN.out.b0
  have x0 := XN.out.at (i := 0) rfl
  have x1 := XN.out.at (i := 1) rfl
  have x2 := XN.out.at (i := 2) rfl
  have x11 := XN.out.at (i := 11) rfl
  have x4 := XN.out.at (i := 4) rfl
  have x9 := XN.out.at (i := 9) rfl
  have x10 := XN.out.at (i := 10) rfl
  go_wp2_with fail
  refine (bix_x b.drawer R.firms.length _).mono ?_
  rintro r w1 ⟨rfl, rfl⟩
  cases e0 : ix b.drawer R.firms.length with
  | false =>
    go_wp2
    go_ret
    exact ⟨ret_b (by simp [placedB, noneB, e0]), B0n.out⟩
  | true =>
    go_wp2_with fail
    refine (bix_x b.drawee R.firms.length _).mono ?_
    rintro r w1 ⟨rfl, rfl⟩
    cases e1 : ix b.drawee R.firms.length with
    | false =>
      go_wp2
      go_ret
      exact ⟨ret_b (by simp [placedB, noneB, e0, e1]), B0n.out⟩
    | true =>
      by_cases n2 : b.payee = -1
      · have g2 : (b.payee == -1) = true := bq n2
        by_cases n3 : b.need = -1
        · have g3 : (b.need == -1) = true := bq n3
          go_wp2_with fail
          refine (bix_x b.cur R.cur.length _).mono ?_
          rintro r w1 ⟨rfl, rfl⟩
          cases e4 : ix b.cur R.cur.length with
          | false =>
            go_wp2
            go_ret
            exact ⟨ret_b (by simp [placedB, noneB, e0, e1, n2, n3, e4]), B0n.out⟩
          | true =>
            go_wp2_with fail
            refine (bix_x b.city R.cities.length _).mono ?_
            rintro r w1 ⟨rfl, rfl⟩
            cases e5 : ix b.city R.cities.length with
            | false =>
              go_wp2
              go_ret
              exact ⟨ret_b (by simp [placedB, noneB, e0, e1, n2, n3, e4, e5]), B0n.out⟩
            | true =>
              go_wp2_with fail
              refine (bix_x b.pay R.cities.length _).mono ?_
              rintro r w1 ⟨rfl, rfl⟩
              cases e6 : ix b.pay R.cities.length with
              | false =>
                go_wp2
                go_ret
                exact ⟨ret_b (by simp [placedB, noneB, e0, e1, n2, n3, e4, e5, e6]), B0n.out⟩
              | true =>
                go_wp2
                go_ret
                exact ⟨ret_b (by simp [placedB, noneB, e0, e1, n2, n3, e4, e5, e6]), B0n.out⟩
        · have g3 : (b.need == -1) = false := bn n3
          go_wp2_with fail
          refine (bix_x b.need R.firms.length _).mono ?_
          rintro r w1 ⟨rfl, rfl⟩
          cases e3 : ix b.need R.firms.length with
          | false =>
            go_wp2
            go_ret
            exact ⟨ret_b (by simp [placedB, noneB, e0, e1, n2, n3, e3]), B0n.out⟩
          | true =>
            go_wp2_with fail
            refine (bix_x b.cur R.cur.length _).mono ?_
            rintro r w1 ⟨rfl, rfl⟩
            cases e4 : ix b.cur R.cur.length with
            | false =>
              go_wp2
              go_ret
              exact ⟨ret_b (by simp [placedB, noneB, e0, e1, n2, n3, e3, e4]), B0n.out⟩
            | true =>
              go_wp2_with fail
              refine (bix_x b.city R.cities.length _).mono ?_
              rintro r w1 ⟨rfl, rfl⟩
              cases e5 : ix b.city R.cities.length with
              | false =>
                go_wp2
                go_ret
                exact ⟨ret_b (by simp [placedB, noneB, e0, e1, n2, n3, e3, e4, e5]), B0n.out⟩
              | true =>
                go_wp2_with fail
                refine (bix_x b.pay R.cities.length _).mono ?_
                rintro r w1 ⟨rfl, rfl⟩
                cases e6 : ix b.pay R.cities.length with
                | false =>
                  go_wp2
                  go_ret
                  exact ⟨ret_b (by simp [placedB, noneB, e0, e1, n2, n3, e3, e4, e5, e6]), B0n.out⟩
                | true =>
                  go_wp2
                  go_ret
                  exact ⟨ret_b (by simp [placedB, noneB, e0, e1, n2, n3, e3, e4, e5, e6]), B0n.out⟩
      · have g2 : (b.payee == -1) = false := bn n2
        go_wp2_with fail
        refine (bix_x b.payee R.firms.length _).mono ?_
        rintro r w1 ⟨rfl, rfl⟩
        cases e2 : ix b.payee R.firms.length with
        | false =>
          go_wp2
          go_ret
          exact ⟨ret_b (by simp [placedB, noneB, e0, e1, n2, e2]), B0n.out⟩
        | true =>
          by_cases n3 : b.need = -1
          · have g3 : (b.need == -1) = true := bq n3
            go_wp2_with fail
            refine (bix_x b.cur R.cur.length _).mono ?_
            rintro r w1 ⟨rfl, rfl⟩
            cases e4 : ix b.cur R.cur.length with
            | false =>
              go_wp2
              go_ret
              exact ⟨ret_b (by simp [placedB, noneB, e0, e1, n2, e2, n3, e4]), B0n.out⟩
            | true =>
              go_wp2_with fail
              refine (bix_x b.city R.cities.length _).mono ?_
              rintro r w1 ⟨rfl, rfl⟩
              cases e5 : ix b.city R.cities.length with
              | false =>
                go_wp2
                go_ret
                exact ⟨ret_b (by simp [placedB, noneB, e0, e1, n2, e2, n3, e4, e5]), B0n.out⟩
              | true =>
                go_wp2_with fail
                refine (bix_x b.pay R.cities.length _).mono ?_
                rintro r w1 ⟨rfl, rfl⟩
                cases e6 : ix b.pay R.cities.length with
                | false =>
                  go_wp2
                  go_ret
                  exact ⟨ret_b (by simp [placedB, noneB, e0, e1, n2, e2, n3, e4, e5, e6]), B0n.out⟩
                | true =>
                  go_wp2
                  go_ret
                  exact ⟨ret_b (by simp [placedB, noneB, e0, e1, n2, e2, n3, e4, e5, e6]), B0n.out⟩
          · have g3 : (b.need == -1) = false := bn n3
            go_wp2_with fail
            refine (bix_x b.need R.firms.length _).mono ?_
            rintro r w1 ⟨rfl, rfl⟩
            cases e3 : ix b.need R.firms.length with
            | false =>
              go_wp2
              go_ret
              exact ⟨ret_b (by simp [placedB, noneB, e0, e1, n2, e2, n3, e3]), B0n.out⟩
            | true =>
              go_wp2_with fail
              refine (bix_x b.cur R.cur.length _).mono ?_
              rintro r w1 ⟨rfl, rfl⟩
              cases e4 : ix b.cur R.cur.length with
              | false =>
                go_wp2
                go_ret
                exact ⟨ret_b (by simp [placedB, noneB, e0, e1, n2, e2, n3, e3, e4]), B0n.out⟩
              | true =>
                go_wp2_with fail
                refine (bix_x b.city R.cities.length _).mono ?_
                rintro r w1 ⟨rfl, rfl⟩
                cases e5 : ix b.city R.cities.length with
                | false =>
                  go_wp2
                  go_ret
                  exact ⟨ret_b (by simp [placedB, noneB, e0, e1, n2, e2, n3, e3, e4, e5]), B0n.out⟩
                | true =>
                  go_wp2_with fail
                  refine (bix_x b.pay R.cities.length _).mono ?_
                  rintro r w1 ⟨rfl, rfl⟩
                  cases e6 : ix b.pay R.cities.length with
                  | false =>
                    go_wp2
                    go_ret
                    exact ⟨ret_b (by simp [placedB, noneB, e0, e1, n2, e2, n3, e3, e4, e5, e6]), B0n.out⟩
                  | true =>
                    go_wp2
                    go_ret
                    exact ⟨ret_b (by simp [placedB, noneB, e0, e1, n2, e2, n3, e3, e4, e5, e6]), B0n.out⟩
end Go.Proofs.YtcjakgpmompaiaaGreatDoor

/-
  The program checks a bill.
-/
namespace Go.Proofs.YtcjakgpmompaiaaGreatDoor
open Go.RowKit Rl Wd


theorem ret_i {a b : Int} (h : a = b) : Ending.returned (.int .i64 a) = Ending.returned (.int .i64 b) := by rw [h]
set_option maxHeartbeats 6400000 in
set_option maxRecDepth 100000 in
theorem WCheck_x {a0 a1 a2 a3 a4 a5 a6 a7 : Option Addr} {c0 c1 c2 c3 c4 c5 c6 c7 : Nat} {R : Rlm} (b : Bl) (w : World) (hr : RS w a0 a1 a2 a3 a4 a5 a6 a7 c0 c1 c2 c3 c4 c5 c6 c7 R) (hF : Fit R) :
    Calls Tryz.prog 12 #[.agg #[.slice a0 R.cur.length c0, .slice a1 R.cities.length c1, .slice a2 R.groups.length c2, .slice a3 R.firms.length c3, .slice a4 R.orders.length c4, .slice a5 R.usances.length c5, .slice a6 R.rates.length c6, .slice a7 R.halts.length c7], vB b] w fun r w' => r = .returned (.int .i64 (checkW R b)) ∧ Below w.heap.size w w' := by
  have HR := Lib.hid hr
  have X0 := Lib.hid (BB.new (w.alloc (.cells #[.slice a0 R.cur.length c0, .slice a1 R.cities.length c1, .slice a2 R.groups.length c2, .slice a3 R.firms.length c3, .slice a4 R.orders.length c4, .slice a5 R.usances.length c5, .slice a6 R.rates.length c6, .slice a7 R.halts.length c7] 31)) b (w.heap.size + 1) (by simp))
  have RB0 := Lib.hid ((RB.new w a0 a1 a2 a3 a4 a5 a6 a7 c0 c1 c2 c3 c4 c5 c6 c7 R).next (Below.new1 (.cells #[.int .i64 b.drawer, .int .i64 b.drawee, .int .i64 b.payee, .int .i64 b.sum, .int .i64 b.cur, .int .i64 b.tk, .int .i64 b.tn, .int .i64 b.tu, .int .i64 b.day, .int .i64 b.city, .int .i64 b.pay, .int .i64 b.need, .int .i64 b.rate, .int .i64 b.flags, .int .i64 b.parts] 35)))
  have B0 : Hid (Below w.heap.size w ((w.alloc (.cells #[.slice a0 R.cur.length c0, .slice a1 R.cities.length c1, .slice a2 R.groups.length c2, .slice a3 R.firms.length c3, .slice a4 R.orders.length c4, .slice a5 R.usances.length c5, .slice a6 R.rates.length c6, .slice a7 R.halts.length c7] 31)).alloc (.cells #[.int .i64 b.drawer, .int .i64 b.drawee, .int .i64 b.payee, .int .i64 b.sum, .int .i64 b.cur, .int .i64 b.tk, .int .i64 b.tn, .int .i64 b.tu, .int .i64 b.day, .int .i64 b.city, .int .i64 b.pay, .int .i64 b.need, .int .i64 b.rate, .int .i64 b.flags, .int .i64 b.parts] 35))) := chain (Below.new1 _) (Below.new1 _)
  clear hr
  obtain ⟨k0, k1, k2, k3, k4, k5, k6, k7⟩ := RB0.out
  go_enter Tryz.func12, Tryz.ntmps12
  go_wp2_with fail
  clear k0 k1 k2 k3 k4 k5 k6 k7
  refine (Check_x _ (HR.out.next B0.out) hF).mono ?_
  rintro r w1 ⟨rfl, c1⟩
  have B1 := Lib.hid (chain B0.out c1)
  have X1 := Lib.hid (X0.out.below c1 X0.out.lt)
  have RB1 := Lib.hid (RB0.out.next c1)
  clear c1
  by_cases z : checkP R = 0
  · rw [z]
    have Z := Lib.hid z
    clear z
    obtain ⟨x0, x1, x2, x3, x4, x5, x6, x7, x8, x9, x10, x11, x12, x13, x14⟩ := X1.out.all
    obtain ⟨k0, k1, k2, k3, k4, k5, k6, k7⟩ := RB1.out
    go_wp2_with fail
    clear x0 x1 x2 x3 x4 x5 x6 x7 x8 x9 x10 x11 x12 x13 x14 k0 k1 k2 k3 k4 k5 k6 k7
    refine (placed_x b _ (HR.out.next B1.out) hF).mono ?_
    rintro r w2 ⟨rfl, c2⟩
    have B2 := Lib.hid (chain B1.out c2)
    have X2 := Lib.hid (X1.out.below c2 X1.out.lt)
    have RB2 := Lib.hid (RB1.out.next c2)
    clear c2
    cases e1 : placedB R b with
    | false =>
      go_wp2
      go_ret
      exact ⟨ret_i (by simp [checkW, orE, Z.out, e1]), B2.out⟩
    | true =>
      obtain ⟨x0, x1, x2, x3, x4, x5, x6, x7, x8, x9, x10, x11, x12, x13, x14⟩ := X2.out.all
      go_wp2_with fail
      clear x0 x1 x2 x3 x4 x5 x6 x7 x8 x9 x10 x11 x12 x13 x14
      refine (ranged_x b _).mono ?_
      rintro r w3 ⟨rfl, c3⟩
      have B3 := Lib.hid (chain B2.out c3)
      have X3 := Lib.hid (X2.out.below c3 X2.out.lt)
      have RB3 := Lib.hid (RB2.out.next c3)
      clear c3
      cases e2 : rangedB b with
      | false =>
        go_wp2
        go_ret
        exact ⟨ret_i (by simp [checkW, orE, Z.out, e1, e2]), B3.out⟩
      | true =>
        have x14 := X3.out.at (i := 14) rfl
        go_wp2_with fail
        clear x14
        refine (bwithin_x b.parts 1 4 _).mono ?_
        rintro r w4 ⟨rfl, rfl⟩
        cases e3 : wi b.parts 1 4 with
        | false =>
          go_wp2
          go_ret
          exact ⟨ret_i (by simp [checkW, orE, Z.out, e1, e2, e3]), B3.out⟩
        | true =>
          obtain ⟨x0, x1, x2, x3, x4, x5, x6, x7, x8, x9, x10, x11, x12, x13, x14⟩ := X3.out.all
          go_wp2_with fail
          clear x0 x1 x2 x3 x4 x5 x6 x7 x8 x9 x10 x11 x12 x13 x14
          refine (flagged_x b _).mono ?_
          rintro r w4 ⟨rfl, c4⟩
          have B4 := Lib.hid (chain B3.out c4)
          have X4 := Lib.hid (X3.out.below c4 X3.out.lt)
          have RB4 := Lib.hid (RB3.out.next c4)
          clear c4
          cases e4 : flaggedB b with
          | false =>
            go_wp2
            go_ret
            exact ⟨ret_i (by simp [checkW, orE, Z.out, e1, e2, e3, e4]), B4.out⟩
          | true =>
            obtain ⟨x0, x1, x2, x3, x4, x5, x6, x7, x8, x9, x10, x11, x12, x13, x14⟩ := X4.out.all
            go_wp2_with fail
            clear x0 x1 x2 x3 x4 x5 x6 x7 x8 x9 x10 x11 x12 x13 x14
            refine (termed_x b _).mono ?_
            rintro r w5 ⟨rfl, c5⟩
            have B5 := Lib.hid (chain B4.out c5)
            have X5 := Lib.hid (X4.out.below c5 X4.out.lt)
            have RB5 := Lib.hid (RB4.out.next c5)
            clear c5
            cases e5 : termedB b with
            | false =>
              go_wp2
              go_ret
              exact ⟨ret_i (by simp [checkW, orE, Z.out, e1, e2, e3, e4, e5]), B5.out⟩
            | true =>
              by_cases e6 : b.tk = 4
              · have g : (b.tk == 4) = true := bq e6
                have E6 := Lib.hid e6
                clear e6
                obtain ⟨x0, x1, x2, x3, x4, x5, x6, x7, x8, x9, x10, x11, x12, x13, x14⟩ := X5.out.all
                obtain ⟨k0, k1, k2, k3, k4, k5, k6, k7⟩ := RB5.out
                go_wp2_with fail
                clear x0 x1 x2 x3 x4 x5 x6 x7 x8 x9 x10 x11 x12 x13 x14 k0 k1 k2 k3 k4 k5 k6 k7
                refine (usual_x b _ (HR.out.next B5.out) hF).mono ?_
                rintro r w6 ⟨rfl, c6⟩
                have B6 := Lib.hid (chain B5.out c6)
                have X6 := Lib.hid (X5.out.below c6 X5.out.lt)
                have RB6 := Lib.hid (RB5.out.next c6)
                clear c6
                rcases us_ok R b.city b.pay with u | u
                · rw [show ((usAt R b.city b.pay).2 == 0) = true from bq u]
                  have U := Lib.hid u
                  clear u
                  go_wp2
                  go_ret
                  exact ⟨ret_i (by simp [checkW, orE, Z.out, e1, e2, e3, e4, e5, E6.out, U.out]), B6.out⟩
                · rw [show ((usAt R b.city b.pay).2 == 0) = false by rw [u]; rfl]
                  have U := Lib.hid u
                  clear u
                  go_wp2
                  go_ret
                  exact ⟨ret_i (by simp [checkW, orE, Z.out, e1, e2, e3, e4, e5, E6.out, U.out]), B6.out⟩
              · have g : (b.tk == 4) = false := bn e6
                have E6 := Lib.hid e6
                clear e6
                obtain ⟨x0, x1, x2, x3, x4, x5, x6, x7, x8, x9, x10, x11, x12, x13, x14⟩ := X5.out.all
                go_wp2
                go_ret
                exact ⟨ret_i (by simp [checkW, orE, Z.out, e1, e2, e3, e4, e5, E6.out]), B5.out⟩
  · have g : (checkP R != 0) = true := bne_iff_ne.2 z
    have Z := Lib.hid z
    clear z
    go_wp2
    go_ret
    exact ⟨ret_i (by simp [checkW, orE, Z.out]), B1.out⟩
end Go.Proofs.YtcjakgpmompaiaaGreatDoor

