/-
  The law CalendarBack's walk.
-/
import Derived.Test.YtmlelmknbddkjaaDoorLawB
namespace Go.Proofs.YtmlelmknbddkjaaDoor
open Go.RowKit

theorem int_eq {x y : Int} (h : x = y) : (x == y) = true := by rw [h]; exact beq_self_eq_true y
theorem int_ne {x y : Int} (h : x ≠ y) : (x == y) = false := beq_eq_false_iff_ne.2 h
theorem date_valid {t : Int} (h : valid t = true) : ∃ (j i d : Nat), i < 12 ∧ 1 ≤ d ∧ d ≤ Cal.mlen (2000 + j) (i + 1) ∧ j ≤ 274 ∧ Cal.mon t.toNat = 12 * j + i ∧ d = Cal.dom t.toNat ∧
    date t = (2000 + (j : Int), (i : Int) + 1, (d : Int), 0) ∧ ((Cal.S (12 * j + i) : Int) + d - 1 = t) := by
  have hb := valid_iff.1 h
  have h1 := Cal.dom_spec t.toNat
  have h2 := Cal.mon_small (t := t.toNat) (by omega)
  have e : 12 * (Cal.mon t.toNat / 12) + Cal.mon t.toNat % 12 = Cal.mon t.toNat := by omega
  have hl : Cal.len (Cal.mon t.toNat) = Cal.mlen (2000 + Cal.mon t.toNat / 12) (Cal.mon t.toNat % 12 + 1) := rfl
  refine ⟨Cal.mon t.toNat / 12, Cal.mon t.toNat % 12, Cal.dom t.toNat, by omega, h1.1, by rw [← hl]; exact h1.2.1, by omega, e.symm, rfl, ?_, ?_⟩
  · unfold date
    rw [if_pos h]
    simp
  · rw [e]; omega
/-- the day of the date of a day is the day -/
theorem back_one {t : Int} (h : valid t = true) : ∃ y m d : Int, date t = (y, m, d, 0) ∧ dayOf y m d = (t, 0) ∧ 1 ≤ m ∧ m ≤ 12 ∧ 1 ≤ d ∧ d ≤ 31 ∧ 2000 ≤ y ∧ y ≤ 2300 := by
  obtain ⟨j, i, d, hi, h1, h2, hj, -, -, hD, hS⟩ := date_valid h
  have hb := valid_iff.1 h
  have hL := (Cal.mlen_bounds (2000 + j) (i + 1)).2
  refine ⟨_, _, _, hD, ?_, by omega, by omega, by omega, by omega, by omega, by omega⟩
  rw [dayOf_at hi (by omega) (by omega), hS, if_pos hb.2]
/-- the date of the day of a date is the date -/
theorem back_two (y m d : Int) : (∃ n, dayOf y m d = (n, 0) ∧ date n = (y, m, d, 0) ∧ 0 ≤ n ∧ n ≤ 100000) ∨ dayOf y m d = (0, 3) := by
  by_cases h : dateOk y m d = true ∧ dayNo y m d ≤ 100000
  · left
    obtain ⟨h1, h2⟩ := h
    obtain ⟨k1, k2, k3, k4, k5⟩ := of_decide_eq_true h1
    obtain ⟨j, rfl⟩ : ∃ j : Nat, y = 2000 + (j : Int) := ⟨(y - 2000).toNat, by omega⟩
    obtain ⟨i, rfl⟩ : ∃ i : Nat, m = (i : Int) + 1 := ⟨(m - 1).toNat, by omega⟩
    rw [show (2000 + (j : Int)).toNat = 2000 + j by omega, show ((i : Int) + 1).toNat = i + 1 by omega] at k5
    have e := dayOf_at (j := j) (i := i) (d := d) (by omega) k4 k5
    have e2 : dayNo (2000 + (j : Int)) ((i : Int) + 1) d = (Cal.S (12 * j + i) : Int) + d - 1 := by
      unfold dayNo
      rw [show (2000 + (j : Int)).toNat - 2000 = j by omega, show ((i : Int) + 1).toNat - 1 = i by omega]
    rw [e2] at h2
    rw [if_pos h2] at e
    obtain ⟨R, hR⟩ : ∃ R : Nat, d = (R : Int) + 1 := ⟨(d - 1).toNat, by omega⟩
    have e3 := date_at (T := Cal.S (12 * j + i) + R) (j := j) (i := i) (R := R) (by omega) (by omega) rfl (by omega)
    refine ⟨_, e, ?_, by omega, by omega⟩
    rw [show (Cal.S (12 * j + i) : Int) + d - 1 = ((Cal.S (12 * j + i) + R : Nat) : Int) by omega, e3, hR]
    simp
  · exact .inr (by unfold dayOf; rw [if_neg h])
/-- the date of the next day -/
theorem next_date {t : Int} (h : valid t = true) (h2 : t ≠ 100000) : ∃ y m d yy mm dd : Int, date t = (y, m, d, 0) ∧ dayOf y m d = (t, 0) ∧ 1 ≤ m ∧ m ≤ 12 ∧ 1 ≤ d ∧ d ≤ 31 ∧ 2000 ≤ y ∧ y ≤ 2300 ∧ date (t + 1) = (yy, mm, dd, 0) ∧
    ((yy = y ∧ mm = m ∧ dd = d + 1) ∨ (yy = y ∧ m < mm ∧ dd = 1) ∨ (y < yy ∧ dd = 1)) := by
  have hb := valid_iff.1 h
  have h' : valid (t + 1) = true := valid_yes (by omega) (by omega)
  obtain ⟨y, m, d, b1, b2, b3, b4, b5, b6, b7, b8⟩ := back_one h
  obtain ⟨j, i, d1, hi, -, -, hj, hm, hd, hD, -⟩ := date_valid h
  obtain ⟨j', i', d', hi', -, -, hj', hm', hd', hD', -⟩ := date_valid h'
  rw [show (t + 1).toNat = t.toNat + 1 by omega] at hm' hd'
  rw [hD] at b1
  injection b1 with e1 b1
  injection b1 with e2 b1
  injection b1 with e3 _
  refine ⟨y, m, d, _, _, _, by rw [hD, e1, e2, e3], b2, b3, b4, b5, b6, b7, b8, hD', ?_⟩
  rcases Cal.dom_next t.toNat with ⟨k1, k2⟩ | ⟨k1, k2⟩
  · left; omega
  · right; omega

set_option maxHeartbeats 12800000 in
set_option maxRecDepth 100000 in
theorem CalendarBack_x (h : CalOk) (t y m d : Int) (w : World) (ht : I64 t) (hy : I64 y) (hm : I64 m) (hd : I64 d) (hbf : Bf w) :
    Calls Tryd.prog 4 #[.int .i64 t, .int .i64 y, .int .i64 m, .int .i64 d] w fun e w' => e = .returned (.bool true) ∧ Below w.heap.size w w' := by
  have HW := Lib.hid hbf
  clear hbf
  have HT := Lib.hid ht
  have HY := Lib.hid hy
  have HM := Lib.hid hm
  have HD := Lib.hid hd
  clear hy hm hd
  rcases back_two y m d with ⟨n, r1, r2, n0, n1⟩ | r1
  · have R1 := Lib.hid r1
    have R2 := Lib.hid r2
    have HN : Hid (I64 n) := small_I64 (by omega) (by omega)
    clear r1 r2 n0 n1
    cases V : valid t with
    | false =>
      have D : Hid (date t = (0, 0, 0, 3)) := by show _ = _; unfold date; rw [V]; rfl
      have W : Hid (weekday t = (0, 3)) := by show _ = _; unfold weekday; rw [V]; rfl
      have Vh := Lib.hid V
      clear V ht
      go_enter Tryd.func4, Tryd.ntmps4
      go_wp2_with fail
      refine (small_x h _ HW.out).mono ?_
      rintro e w1 ⟨rfl, b1⟩
      have c1 := b1
      clear b1
      go_wp2_with fail
      refine (h.day y m d _ HY.out HM.out HD.out (bf_of HW.out c1)).mono ?_
      rintro e w2 ⟨rfl, b1⟩
      rw [R1.out]
      simp only [pv]
      have c2 := chain c1 b1
      clear b1 c1
      go_wp2_with fail
      refine (h.date n _ HN.out (bf_of HW.out c2)).mono ?_
      rintro e w3 ⟨rfl, b1⟩
      rw [R2.out]
      simp only [dv]
      have c3 := chain c2 b1
      clear b1 c2
      go_wp2_with fail
      refine (h.date t _ HT.out (bf_of HW.out c3)).mono ?_
      rintro e w4 ⟨rfl, b1⟩
      rw [D.out]
      simp only [dv]
      have c4 := chain c3 b1
      clear b1 c3
      go_wp2_with fail
      refine (h.weekday t _ HT.out (bf_of HW.out c4)).mono ?_
      rintro e w5 ⟨rfl, b1⟩
      rw [W.out]
      simp only [pv]
      have c5 := chain c4 b1
      clear b1 c4
      go_wp2_with fail
      refine (Valid_x t _).mono ?_
      rintro e _ ⟨rfl, rfl⟩
      rw [Vh.out]
      go_wp2_with fail
      go_ret
      exact ⟨by try rfl, c5⟩
    | true =>
      have hb := valid_iff.1 V
      have W : Hid (weekday t = ((t + 5) % 7, 0)) := by show _ = _; unfold weekday; rw [V]; rfl
      obtain ⟨u, hu⟩ : ∃ u, (t + 5) % 7 = u := ⟨_, rfl⟩
      rw [hu] at W
      have u0 : 0 ≤ u := by omega
      have u1 : u ≤ 6 := by omega
      have t0 : 0 ≤ t := hb.1
      have t1 : t ≤ 100000 := hb.2
      have Vh := Lib.hid V
      by_cases last : t = 100000
      · obtain ⟨yy, mm, dd, d1, d2, m0, m1, d3, d4, y3, y4⟩ := back_one V
        have D := Lib.hid d1
        have E := Lib.hid d2
        have i1 : Hid (I64 yy) := small_I64 (by omega) (by omega)
        have i2 : Hid (I64 mm) := small_I64 (by omega) (by omega)
        have i3 : Hid (I64 dd) := small_I64 (by omega) (by omega)
        have l1 : (t == 100000) = true := int_eq last
        clear d1 d2 V ht hb last hu y3 y4 d4
        go_enter Tryd.func4, Tryd.ntmps4
        go_wp2_with fail
        refine (small_x h _ HW.out).mono ?_
        rintro e w1 ⟨rfl, b1⟩
        have c1 := b1
        clear b1
        go_wp2_with fail
        refine (h.day y m d _ HY.out HM.out HD.out (bf_of HW.out c1)).mono ?_
        rintro e w2 ⟨rfl, b1⟩
        rw [R1.out]
        simp only [pv]
        have c2 := chain c1 b1
        clear b1 c1
        go_wp2_with fail
        refine (h.date n _ HN.out (bf_of HW.out c2)).mono ?_
        rintro e w3 ⟨rfl, b1⟩
        rw [R2.out]
        simp only [dv]
        have c3 := chain c2 b1
        clear b1 c2
        go_wp2_with fail
        refine (h.date t _ HT.out (bf_of HW.out c3)).mono ?_
        rintro e w4 ⟨rfl, b1⟩
        rw [D.out]
        simp only [dv]
        have c4 := chain c3 b1
        clear b1 c3
        go_wp2_with fail
        refine (h.weekday t _ HT.out (bf_of HW.out c4)).mono ?_
        rintro e w5 ⟨rfl, b1⟩
        rw [W.out]
        simp only [pv]
        have c5 := chain c4 b1
        clear b1 c4
        go_wp2_with fail
        refine (Valid_x t _).mono ?_
        rintro e _ ⟨rfl, rfl⟩
        rw [Vh.out]
        go_wp2_with fail
        refine (h.day _ _ _ _ i1.out i2.out i3.out (bf_of HW.out c5)).mono ?_
        rintro e w6 ⟨rfl, b1⟩
        rw [E.out]
        simp only [pv]
        have c6 := chain c5 b1
        clear b1 c5
        go_wp2_with fail
        go_ret
        exact ⟨by try rfl, c6⟩
      · obtain ⟨yy, mm, dd, y2, m2, d5, d1, d2, m0, m1, d3, d4, y3, y4, d6, hn⟩ := next_date V last
        have D := Lib.hid d1
        have E := Lib.hid d2
        have D2 := Lib.hid d6
        have i1 : Hid (I64 yy) := small_I64 (by omega) (by omega)
        have i2 : Hid (I64 mm) := small_I64 (by omega) (by omega)
        have i3 : Hid (I64 dd) := small_I64 (by omega) (by omega)
        have i4 : Hid (I64 (t + 1)) := small_I64 (by omega) (by omega)
        have l1 : (t == 100000) = false := int_ne last
        have W2 : Hid (weekday (t + 1) = ((u + 1) % 7, 0)) := by
          show _ = _
          unfold weekday
          rw [if_pos (valid_yes (by omega) (by omega)), show (t + 1 + 5) % 7 = (u + 1) % 7 by omega]
        clear d1 d2 d6 V ht hb hu
        rcases hn with ⟨rfl, rfl, rfl⟩ | ⟨rfl, hlt, rfl⟩ | ⟨hlt, rfl⟩
        · clear last y3
          go_enter Tryd.func4, Tryd.ntmps4
          go_wp2_with fail
          refine (small_x h _ HW.out).mono ?_
          rintro e w1 ⟨rfl, b1⟩
          have c1 := b1
          clear b1
          go_wp2_with fail
          refine (h.day y m d _ HY.out HM.out HD.out (bf_of HW.out c1)).mono ?_
          rintro e w2 ⟨rfl, b1⟩
          rw [R1.out]
          simp only [pv]
          have c2 := chain c1 b1
          clear b1 c1
          go_wp2_with fail
          refine (h.date n _ HN.out (bf_of HW.out c2)).mono ?_
          rintro e w3 ⟨rfl, b1⟩
          rw [R2.out]
          simp only [dv]
          have c3 := chain c2 b1
          clear b1 c2
          go_wp2_with fail
          refine (h.date t _ HT.out (bf_of HW.out c3)).mono ?_
          rintro e w4 ⟨rfl, b1⟩
          rw [D.out]
          simp only [dv]
          have c4 := chain c3 b1
          clear b1 c3
          go_wp2_with fail
          refine (h.weekday t _ HT.out (bf_of HW.out c4)).mono ?_
          rintro e w5 ⟨rfl, b1⟩
          rw [W.out]
          simp only [pv]
          have c5 := chain c4 b1
          clear b1 c4
          go_wp2_with fail
          refine (Valid_x t _).mono ?_
          rintro e _ ⟨rfl, rfl⟩
          rw [Vh.out]
          go_wp2_with fail
          refine (h.day _ _ _ _ i1.out i2.out i3.out (bf_of HW.out c5)).mono ?_
          rintro e w6 ⟨rfl, b1⟩
          rw [E.out]
          simp only [pv]
          have c6 := chain c5 b1
          clear b1 c5
          go_wp2_with fail
          refine (h.date (t + 1) _ i4.out (bf_of HW.out c6)).mono ?_
          rintro e w7 ⟨rfl, b1⟩
          rw [D2.out]
          simp only [dv]
          have c7 := chain c6 b1
          clear b1 c6
          go_wp2_with fail
          refine (h.weekday (t + 1) _ i4.out (bf_of HW.out c7)).mono ?_
          rintro e w8 ⟨rfl, b1⟩
          rw [W2.out]
          simp only [pv]
          have c8 := chain c7 b1
          clear b1 c7
          go_wp2_with fail
          go_ret
          exact ⟨by try rfl, c8⟩
        · clear last y3
          go_enter Tryd.func4, Tryd.ntmps4
          go_wp2_with fail
          refine (small_x h _ HW.out).mono ?_
          rintro e w1 ⟨rfl, b1⟩
          have c1 := b1
          clear b1
          go_wp2_with fail
          refine (h.day y m d _ HY.out HM.out HD.out (bf_of HW.out c1)).mono ?_
          rintro e w2 ⟨rfl, b1⟩
          rw [R1.out]
          simp only [pv]
          have c2 := chain c1 b1
          clear b1 c1
          go_wp2_with fail
          refine (h.date n _ HN.out (bf_of HW.out c2)).mono ?_
          rintro e w3 ⟨rfl, b1⟩
          rw [R2.out]
          simp only [dv]
          have c3 := chain c2 b1
          clear b1 c2
          go_wp2_with fail
          refine (h.date t _ HT.out (bf_of HW.out c3)).mono ?_
          rintro e w4 ⟨rfl, b1⟩
          rw [D.out]
          simp only [dv]
          have c4 := chain c3 b1
          clear b1 c3
          go_wp2_with fail
          refine (h.weekday t _ HT.out (bf_of HW.out c4)).mono ?_
          rintro e w5 ⟨rfl, b1⟩
          rw [W.out]
          simp only [pv]
          have c5 := chain c4 b1
          clear b1 c4
          go_wp2_with fail
          refine (Valid_x t _).mono ?_
          rintro e _ ⟨rfl, rfl⟩
          rw [Vh.out]
          go_wp2_with fail
          refine (h.day _ _ _ _ i1.out i2.out i3.out (bf_of HW.out c5)).mono ?_
          rintro e w6 ⟨rfl, b1⟩
          rw [E.out]
          simp only [pv]
          have c6 := chain c5 b1
          clear b1 c5
          go_wp2_with fail
          refine (h.date (t + 1) _ i4.out (bf_of HW.out c6)).mono ?_
          rintro e w7 ⟨rfl, b1⟩
          rw [D2.out]
          simp only [dv]
          have c7 := chain c6 b1
          clear b1 c6
          go_wp2_with fail
          refine (h.weekday (t + 1) _ i4.out (bf_of HW.out c7)).mono ?_
          rintro e w8 ⟨rfl, b1⟩
          rw [W2.out]
          simp only [pv]
          have c8 := chain c7 b1
          clear b1 c7
          go_wp2_with fail
          go_ret
          exact ⟨by try rfl, c8⟩
        · clear last y3
          go_enter Tryd.func4, Tryd.ntmps4
          go_wp2_with fail
          refine (small_x h _ HW.out).mono ?_
          rintro e w1 ⟨rfl, b1⟩
          have c1 := b1
          clear b1
          go_wp2_with fail
          refine (h.day y m d _ HY.out HM.out HD.out (bf_of HW.out c1)).mono ?_
          rintro e w2 ⟨rfl, b1⟩
          rw [R1.out]
          simp only [pv]
          have c2 := chain c1 b1
          clear b1 c1
          go_wp2_with fail
          refine (h.date n _ HN.out (bf_of HW.out c2)).mono ?_
          rintro e w3 ⟨rfl, b1⟩
          rw [R2.out]
          simp only [dv]
          have c3 := chain c2 b1
          clear b1 c2
          go_wp2_with fail
          refine (h.date t _ HT.out (bf_of HW.out c3)).mono ?_
          rintro e w4 ⟨rfl, b1⟩
          rw [D.out]
          simp only [dv]
          have c4 := chain c3 b1
          clear b1 c3
          go_wp2_with fail
          refine (h.weekday t _ HT.out (bf_of HW.out c4)).mono ?_
          rintro e w5 ⟨rfl, b1⟩
          rw [W.out]
          simp only [pv]
          have c5 := chain c4 b1
          clear b1 c4
          go_wp2_with fail
          refine (Valid_x t _).mono ?_
          rintro e _ ⟨rfl, rfl⟩
          rw [Vh.out]
          go_wp2_with fail
          refine (h.day _ _ _ _ i1.out i2.out i3.out (bf_of HW.out c5)).mono ?_
          rintro e w6 ⟨rfl, b1⟩
          rw [E.out]
          simp only [pv]
          have c6 := chain c5 b1
          clear b1 c5
          go_wp2_with fail
          refine (h.date (t + 1) _ i4.out (bf_of HW.out c6)).mono ?_
          rintro e w7 ⟨rfl, b1⟩
          rw [D2.out]
          simp only [dv]
          have c7 := chain c6 b1
          clear b1 c6
          go_wp2_with fail
          refine (h.weekday (t + 1) _ i4.out (bf_of HW.out c7)).mono ?_
          rintro e w8 ⟨rfl, b1⟩
          rw [W2.out]
          simp only [pv]
          have c8 := chain c7 b1
          clear b1 c7
          go_wp2_with fail
          go_ret
          exact ⟨by try rfl, c8⟩
  · have R1 := Lib.hid r1
    clear r1
    cases V : valid t with
    | false =>
      have D : Hid (date t = (0, 0, 0, 3)) := by show _ = _; unfold date; rw [V]; rfl
      have W : Hid (weekday t = (0, 3)) := by show _ = _; unfold weekday; rw [V]; rfl
      have Vh := Lib.hid V
      clear V ht
      go_enter Tryd.func4, Tryd.ntmps4
      go_wp2_with fail
      refine (small_x h _ HW.out).mono ?_
      rintro e w1 ⟨rfl, b1⟩
      have c1 := b1
      clear b1
      go_wp2_with fail
      refine (h.day y m d _ HY.out HM.out HD.out (bf_of HW.out c1)).mono ?_
      rintro e w2 ⟨rfl, b1⟩
      rw [R1.out]
      simp only [pv]
      have c2 := chain c1 b1
      clear b1 c1
      go_wp2_with fail
      refine (h.date t _ HT.out (bf_of HW.out c2)).mono ?_
      rintro e w3 ⟨rfl, b1⟩
      rw [D.out]
      simp only [dv]
      have c3 := chain c2 b1
      clear b1 c2
      go_wp2_with fail
      refine (h.weekday t _ HT.out (bf_of HW.out c3)).mono ?_
      rintro e w4 ⟨rfl, b1⟩
      rw [W.out]
      simp only [pv]
      have c4 := chain c3 b1
      clear b1 c3
      go_wp2_with fail
      refine (Valid_x t _).mono ?_
      rintro e _ ⟨rfl, rfl⟩
      rw [Vh.out]
      go_wp2_with fail
      go_ret
      exact ⟨by try rfl, c4⟩
    | true =>
      have hb := valid_iff.1 V
      have W : Hid (weekday t = ((t + 5) % 7, 0)) := by show _ = _; unfold weekday; rw [V]; rfl
      obtain ⟨u, hu⟩ : ∃ u, (t + 5) % 7 = u := ⟨_, rfl⟩
      rw [hu] at W
      have u0 : 0 ≤ u := by omega
      have u1 : u ≤ 6 := by omega
      have t0 : 0 ≤ t := hb.1
      have t1 : t ≤ 100000 := hb.2
      have Vh := Lib.hid V
      by_cases last : t = 100000
      · obtain ⟨yy, mm, dd, d1, d2, m0, m1, d3, d4, y3, y4⟩ := back_one V
        have D := Lib.hid d1
        have E := Lib.hid d2
        have i1 : Hid (I64 yy) := small_I64 (by omega) (by omega)
        have i2 : Hid (I64 mm) := small_I64 (by omega) (by omega)
        have i3 : Hid (I64 dd) := small_I64 (by omega) (by omega)
        have l1 : (t == 100000) = true := int_eq last
        clear d1 d2 V ht hb last hu y3 y4 d4
        go_enter Tryd.func4, Tryd.ntmps4
        go_wp2_with fail
        refine (small_x h _ HW.out).mono ?_
        rintro e w1 ⟨rfl, b1⟩
        have c1 := b1
        clear b1
        go_wp2_with fail
        refine (h.day y m d _ HY.out HM.out HD.out (bf_of HW.out c1)).mono ?_
        rintro e w2 ⟨rfl, b1⟩
        rw [R1.out]
        simp only [pv]
        have c2 := chain c1 b1
        clear b1 c1
        go_wp2_with fail
        refine (h.date t _ HT.out (bf_of HW.out c2)).mono ?_
        rintro e w3 ⟨rfl, b1⟩
        rw [D.out]
        simp only [dv]
        have c3 := chain c2 b1
        clear b1 c2
        go_wp2_with fail
        refine (h.weekday t _ HT.out (bf_of HW.out c3)).mono ?_
        rintro e w4 ⟨rfl, b1⟩
        rw [W.out]
        simp only [pv]
        have c4 := chain c3 b1
        clear b1 c3
        go_wp2_with fail
        refine (Valid_x t _).mono ?_
        rintro e _ ⟨rfl, rfl⟩
        rw [Vh.out]
        go_wp2_with fail
        refine (h.day _ _ _ _ i1.out i2.out i3.out (bf_of HW.out c4)).mono ?_
        rintro e w5 ⟨rfl, b1⟩
        rw [E.out]
        simp only [pv]
        have c5 := chain c4 b1
        clear b1 c4
        go_wp2_with fail
        go_ret
        exact ⟨by try rfl, c5⟩
      · obtain ⟨yy, mm, dd, y2, m2, d5, d1, d2, m0, m1, d3, d4, y3, y4, d6, hn⟩ := next_date V last
        have D := Lib.hid d1
        have E := Lib.hid d2
        have D2 := Lib.hid d6
        have i1 : Hid (I64 yy) := small_I64 (by omega) (by omega)
        have i2 : Hid (I64 mm) := small_I64 (by omega) (by omega)
        have i3 : Hid (I64 dd) := small_I64 (by omega) (by omega)
        have i4 : Hid (I64 (t + 1)) := small_I64 (by omega) (by omega)
        have l1 : (t == 100000) = false := int_ne last
        have W2 : Hid (weekday (t + 1) = ((u + 1) % 7, 0)) := by
          show _ = _
          unfold weekday
          rw [if_pos (valid_yes (by omega) (by omega)), show (t + 1 + 5) % 7 = (u + 1) % 7 by omega]
        clear d1 d2 d6 V ht hb hu
        rcases hn with ⟨rfl, rfl, rfl⟩ | ⟨rfl, hlt, rfl⟩ | ⟨hlt, rfl⟩
        · clear last y3
          go_enter Tryd.func4, Tryd.ntmps4
          go_wp2_with fail
          refine (small_x h _ HW.out).mono ?_
          rintro e w1 ⟨rfl, b1⟩
          have c1 := b1
          clear b1
          go_wp2_with fail
          refine (h.day y m d _ HY.out HM.out HD.out (bf_of HW.out c1)).mono ?_
          rintro e w2 ⟨rfl, b1⟩
          rw [R1.out]
          simp only [pv]
          have c2 := chain c1 b1
          clear b1 c1
          go_wp2_with fail
          refine (h.date t _ HT.out (bf_of HW.out c2)).mono ?_
          rintro e w3 ⟨rfl, b1⟩
          rw [D.out]
          simp only [dv]
          have c3 := chain c2 b1
          clear b1 c2
          go_wp2_with fail
          refine (h.weekday t _ HT.out (bf_of HW.out c3)).mono ?_
          rintro e w4 ⟨rfl, b1⟩
          rw [W.out]
          simp only [pv]
          have c4 := chain c3 b1
          clear b1 c3
          go_wp2_with fail
          refine (Valid_x t _).mono ?_
          rintro e _ ⟨rfl, rfl⟩
          rw [Vh.out]
          go_wp2_with fail
          refine (h.day _ _ _ _ i1.out i2.out i3.out (bf_of HW.out c4)).mono ?_
          rintro e w5 ⟨rfl, b1⟩
          rw [E.out]
          simp only [pv]
          have c5 := chain c4 b1
          clear b1 c4
          go_wp2_with fail
          refine (h.date (t + 1) _ i4.out (bf_of HW.out c5)).mono ?_
          rintro e w6 ⟨rfl, b1⟩
          rw [D2.out]
          simp only [dv]
          have c6 := chain c5 b1
          clear b1 c5
          go_wp2_with fail
          refine (h.weekday (t + 1) _ i4.out (bf_of HW.out c6)).mono ?_
          rintro e w7 ⟨rfl, b1⟩
          rw [W2.out]
          simp only [pv]
          have c7 := chain c6 b1
          clear b1 c6
          go_wp2_with fail
          go_ret
          exact ⟨by try rfl, c7⟩
        · clear last y3
          go_enter Tryd.func4, Tryd.ntmps4
          go_wp2_with fail
          refine (small_x h _ HW.out).mono ?_
          rintro e w1 ⟨rfl, b1⟩
          have c1 := b1
          clear b1
          go_wp2_with fail
          refine (h.day y m d _ HY.out HM.out HD.out (bf_of HW.out c1)).mono ?_
          rintro e w2 ⟨rfl, b1⟩
          rw [R1.out]
          simp only [pv]
          have c2 := chain c1 b1
          clear b1 c1
          go_wp2_with fail
          refine (h.date t _ HT.out (bf_of HW.out c2)).mono ?_
          rintro e w3 ⟨rfl, b1⟩
          rw [D.out]
          simp only [dv]
          have c3 := chain c2 b1
          clear b1 c2
          go_wp2_with fail
          refine (h.weekday t _ HT.out (bf_of HW.out c3)).mono ?_
          rintro e w4 ⟨rfl, b1⟩
          rw [W.out]
          simp only [pv]
          have c4 := chain c3 b1
          clear b1 c3
          go_wp2_with fail
          refine (Valid_x t _).mono ?_
          rintro e _ ⟨rfl, rfl⟩
          rw [Vh.out]
          go_wp2_with fail
          refine (h.day _ _ _ _ i1.out i2.out i3.out (bf_of HW.out c4)).mono ?_
          rintro e w5 ⟨rfl, b1⟩
          rw [E.out]
          simp only [pv]
          have c5 := chain c4 b1
          clear b1 c4
          go_wp2_with fail
          refine (h.date (t + 1) _ i4.out (bf_of HW.out c5)).mono ?_
          rintro e w6 ⟨rfl, b1⟩
          rw [D2.out]
          simp only [dv]
          have c6 := chain c5 b1
          clear b1 c5
          go_wp2_with fail
          refine (h.weekday (t + 1) _ i4.out (bf_of HW.out c6)).mono ?_
          rintro e w7 ⟨rfl, b1⟩
          rw [W2.out]
          simp only [pv]
          have c7 := chain c6 b1
          clear b1 c6
          go_wp2_with fail
          go_ret
          exact ⟨by try rfl, c7⟩
        · clear last y3
          go_enter Tryd.func4, Tryd.ntmps4
          go_wp2_with fail
          refine (small_x h _ HW.out).mono ?_
          rintro e w1 ⟨rfl, b1⟩
          have c1 := b1
          clear b1
          go_wp2_with fail
          refine (h.day y m d _ HY.out HM.out HD.out (bf_of HW.out c1)).mono ?_
          rintro e w2 ⟨rfl, b1⟩
          rw [R1.out]
          simp only [pv]
          have c2 := chain c1 b1
          clear b1 c1
          go_wp2_with fail
          refine (h.date t _ HT.out (bf_of HW.out c2)).mono ?_
          rintro e w3 ⟨rfl, b1⟩
          rw [D.out]
          simp only [dv]
          have c3 := chain c2 b1
          clear b1 c2
          go_wp2_with fail
          refine (h.weekday t _ HT.out (bf_of HW.out c3)).mono ?_
          rintro e w4 ⟨rfl, b1⟩
          rw [W.out]
          simp only [pv]
          have c4 := chain c3 b1
          clear b1 c3
          go_wp2_with fail
          refine (Valid_x t _).mono ?_
          rintro e _ ⟨rfl, rfl⟩
          rw [Vh.out]
          go_wp2_with fail
          refine (h.day _ _ _ _ i1.out i2.out i3.out (bf_of HW.out c4)).mono ?_
          rintro e w5 ⟨rfl, b1⟩
          rw [E.out]
          simp only [pv]
          have c5 := chain c4 b1
          clear b1 c4
          go_wp2_with fail
          refine (h.date (t + 1) _ i4.out (bf_of HW.out c5)).mono ?_
          rintro e w6 ⟨rfl, b1⟩
          rw [D2.out]
          simp only [dv]
          have c6 := chain c5 b1
          clear b1 c5
          go_wp2_with fail
          refine (h.weekday (t + 1) _ i4.out (bf_of HW.out c6)).mono ?_
          rintro e w7 ⟨rfl, b1⟩
          rw [W2.out]
          simp only [pv]
          have c7 := chain c6 b1
          clear b1 c6
          go_wp2_with fail
          go_ret
          exact ⟨by try rfl, c7⟩

end Go.Proofs.YtmlelmknbddkjaaDoor
