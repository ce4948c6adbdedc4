/-
  WordingBack: the walk.
-/
import Derived.Test.YtcjakgpmompaiaaGreatDoorLwA
namespace Go.Proofs.YtcjakgpmompaiaaGreatDoor
open Go.RowKit Rl Wd

set_option maxHeartbeats 12800000 in
set_option maxRecDepth 100000 in
theorem WordingBack_x {a0 a1 a2 a3 a4 a5 a6 a7 : Option Addr} {c0 c1 c2 c3 c4 c5 c6 c7 : Nat} {R : Rlm} (hsm : SmallOk) (b : Bl) (part : Int) (w : World) (hr : RS w a0 a1 a2 a3 a4 a5 a6 a7 c0 c1 c2 c3 c4 c5 c6 c7 R) (hF : FitW R) (hE : Ev w) :
    Calls Tryz.prog 4 #[.agg #[.slice a0 R.cur.length c0, .slice a1 R.cities.length c1, .slice a2 R.groups.length c2, .slice a3 R.firms.length c3, .slice a4 R.orders.length c4, .slice a5 R.usances.length c5, .slice a6 R.rates.length c6, .slice a7 R.halts.length c7], vB b, .int .i64 part] w fun r w' => r = .returned (.bool true) ∧ Below w.heap.size w w' := by
  have HRS := Lib.hid hr
  have HFW := Lib.hid hF
  have HE := Lib.hid hE
  clear hr hF hE
  have B0 : Hid (Below w.heap.size w ((w.alloc (.cells #[.slice a0 R.cur.length c0, .slice a1 R.cities.length c1, .slice a2 R.groups.length c2, .slice a3 R.firms.length c3, .slice a4 R.orders.length c4, .slice a5 R.usances.length c5, .slice a6 R.rates.length c6, .slice a7 R.halts.length c7] 31)).alloc (.cells #[.int .i64 b.drawer, .int .i64 b.drawee, .int .i64 b.payee, .int .i64 b.sum, .int .i64 b.cur, .int .i64 b.tk, .int .i64 b.tn, .int .i64 b.tu, .int .i64 b.day, .int .i64 b.city, .int .i64 b.pay, .int .i64 b.need, .int .i64 b.rate, .int .i64 b.flags, .int .i64 b.parts] 35))) := (chain (Below.new1 (w := w) (.cells #[.slice a0 R.cur.length c0, .slice a1 R.cities.length c1, .slice a2 R.groups.length c2, .slice a3 R.firms.length c3, .slice a4 R.orders.length c4, .slice a5 R.usances.length c5, .slice a6 R.rates.length c6, .slice a7 R.halts.length c7] 31)) (Below.new1 (.cells #[.int .i64 b.drawer, .int .i64 b.drawee, .int .i64 b.payee, .int .i64 b.sum, .int .i64 b.cur, .int .i64 b.tk, .int .i64 b.tn, .int .i64 b.tu, .int .i64 b.day, .int .i64 b.city, .int .i64 b.pay, .int .i64 b.need, .int .i64 b.rate, .int .i64 b.flags, .int .i64 b.parts] 35)))
  have RB0 : Hid (RB ((w.alloc (.cells #[.slice a0 R.cur.length c0, .slice a1 R.cities.length c1, .slice a2 R.groups.length c2, .slice a3 R.firms.length c3, .slice a4 R.orders.length c4, .slice a5 R.usances.length c5, .slice a6 R.rates.length c6, .slice a7 R.halts.length c7] 31)).alloc (.cells #[.int .i64 b.drawer, .int .i64 b.drawee, .int .i64 b.payee, .int .i64 b.sum, .int .i64 b.cur, .int .i64 b.tk, .int .i64 b.tn, .int .i64 b.tu, .int .i64 b.day, .int .i64 b.city, .int .i64 b.pay, .int .i64 b.need, .int .i64 b.rate, .int .i64 b.flags, .int .i64 b.parts] 35)) w.heap.size a0 a1 a2 a3 a4 a5 a6 a7 c0 c1 c2 c3 c4 c5 c6 c7 R) := ((RB.new w a0 a1 a2 a3 a4 a5 a6 a7 c0 c1 c2 c3 c4 c5 c6 c7 R).next (Below.new1 (.cells #[.int .i64 b.drawer, .int .i64 b.drawee, .int .i64 b.payee, .int .i64 b.sum, .int .i64 b.cur, .int .i64 b.tk, .int .i64 b.tn, .int .i64 b.tu, .int .i64 b.day, .int .i64 b.city, .int .i64 b.pay, .int .i64 b.need, .int .i64 b.rate, .int .i64 b.flags, .int .i64 b.parts] 35)))
  have X0 : Hid (BB ((w.alloc (.cells #[.slice a0 R.cur.length c0, .slice a1 R.cities.length c1, .slice a2 R.groups.length c2, .slice a3 R.firms.length c3, .slice a4 R.orders.length c4, .slice a5 R.usances.length c5, .slice a6 R.rates.length c6, .slice a7 R.halts.length c7] 31)).alloc (.cells #[.int .i64 b.drawer, .int .i64 b.drawee, .int .i64 b.payee, .int .i64 b.sum, .int .i64 b.cur, .int .i64 b.tk, .int .i64 b.tn, .int .i64 b.tu, .int .i64 b.day, .int .i64 b.city, .int .i64 b.pay, .int .i64 b.need, .int .i64 b.rate, .int .i64 b.flags, .int .i64 b.parts] 35)) (w.heap.size + 1) b) := (BB.new (w.alloc (.cells #[.slice a0 R.cur.length c0, .slice a1 R.cities.length c1, .slice a2 R.groups.length c2, .slice a3 R.firms.length c3, .slice a4 R.orders.length c4, .slice a5 R.usances.length c5, .slice a6 R.rates.length c6, .slice a7 R.halts.length c7] 31)) b (w.heap.size + 1) (by simp))
  go_enter Tryz.func4, Tryz.ntmps4
  go_wp2_with fail
  refine (hsm _ (HE.out.next B0.out)).mono ?_
  rintro r w1 ⟨rfl, cc⟩
  have B1 := Lib.hid (chain B0.out cc)
  have RB1 := Lib.hid (RB0.out.next cc)
  have X1 := Lib.hid (X0.out.next cc)
  clear cc
  have k0 := RB1.out.b0
  have k1 := RB1.out.b1
  have k2 := RB1.out.b2
  have k3 := RB1.out.b3
  have k4 := RB1.out.b4
  have k5 := RB1.out.b5
  have k6 := RB1.out.b6
  have k7 := RB1.out.b7
  go_wp2_with fail
  clear k0 k1 k2 k3 k4 k5 k6 k7
  refine (few_x ⟨#[]⟩ _ (HRS.out.next B1.out) HFW.out).mono ?_
  rintro r w2 ⟨⟨fw, rfl, hfw⟩, cc⟩
  have B2 := Lib.hid (chain B1.out cc)
  have RB2 := Lib.hid (RB1.out.next cc)
  have X2 := Lib.hid (X1.out.next cc)
  clear cc
  cases fw
  case true =>
    have HFT := Lib.hid (hfw rfl).1
    clear hfw
    have k0 := RB2.out.b0
    have k1 := RB2.out.b1
    have k2 := RB2.out.b2
    have k3 := RB2.out.b3
    have k4 := RB2.out.b4
    have k5 := RB2.out.b5
    have k6 := RB2.out.b6
    have k7 := RB2.out.b7
    have x0 := X2.out.at (i := 0) rfl
    have x1 := X2.out.at (i := 1) rfl
    have x2 := X2.out.at (i := 2) rfl
    have x3 := X2.out.at (i := 3) rfl
    have x4 := X2.out.at (i := 4) rfl
    have x5 := X2.out.at (i := 5) rfl
    have x6 := X2.out.at (i := 6) rfl
    have x7 := X2.out.at (i := 7) rfl
    have x8 := X2.out.at (i := 8) rfl
    have x9 := X2.out.at (i := 9) rfl
    have x10 := X2.out.at (i := 10) rfl
    have x11 := X2.out.at (i := 11) rfl
    have x12 := X2.out.at (i := 12) rfl
    have x13 := X2.out.at (i := 13) rfl
    have x14 := X2.out.at (i := 14) rfl
    go_wp2_with fail
    clear k0 k1 k2 k3 k4 k5 k6 k7 x0 x1 x2 x3 x4 x5 x6 x7 x8 x9 x10 x11 x12 x13 x14
    refine (WText_x b part _ (HRS.out.next B2.out) HFT.out (HE.out.next B2.out)).mono ?_
    rintro r w3 ⟨rfl, cc⟩
    have B3 := Lib.hid (chain B2.out cc)
    have RB3 := Lib.hid (RB2.out.next cc)
    have X3 := Lib.hid (X2.out.next cc)
    clear cc
    obtain ⟨tx, htx⟩ : ∃ s : B, s = textP R b part := ⟨_, rfl⟩
    rw [← htx]
    have ztx : tx.size ≤ 4000 := by rw [htx]; exact textP_size _ _ _
    replace htx := Lib.hid htx
    have k0 := RB3.out.b0
    have k1 := RB3.out.b1
    have k2 := RB3.out.b2
    have k3 := RB3.out.b3
    have k4 := RB3.out.b4
    have k5 := RB3.out.b5
    have k6 := RB3.out.b6
    have k7 := RB3.out.b7
    have x0 := X3.out.at (i := 0) rfl
    have x1 := X3.out.at (i := 1) rfl
    have x2 := X3.out.at (i := 2) rfl
    have x3 := X3.out.at (i := 3) rfl
    have x4 := X3.out.at (i := 4) rfl
    have x5 := X3.out.at (i := 5) rfl
    have x6 := X3.out.at (i := 6) rfl
    have x7 := X3.out.at (i := 7) rfl
    have x8 := X3.out.at (i := 8) rfl
    have x9 := X3.out.at (i := 9) rfl
    have x10 := X3.out.at (i := 10) rfl
    have x11 := X3.out.at (i := 11) rfl
    have x12 := X3.out.at (i := 12) rfl
    have x13 := X3.out.at (i := 13) rfl
    have x14 := X3.out.at (i := 14) rfl
    go_wp2_with fail
    clear k0 k1 k2 k3 k4 k5 k6 k7 x0 x1 x2 x3 x4 x5 x6 x7 x8 x9 x10 x11 x12 x13 x14
    refine (WCheck_x b _ (HRS.out.next B3.out) HFT.out).mono ?_
    rintro r w4 ⟨rfl, cc⟩
    have B4 := Lib.hid (chain B3.out cc)
    have RB4 := Lib.hid (RB3.out.next cc)
    have X4 := Lib.hid (X3.out.next cc)
    clear cc
    obtain ⟨ec, hec⟩ : ∃ e : Int, e = checkW R b := ⟨_, rfl⟩
    rw [← hec]
    replace hec := Lib.hid hec
    by_cases hh : Has R b part
    · have he0 : ec = 0 := by rw [hec.out]; exact hh.ok
      subst he0
      have g1 : ¬ part < 0 := by have := hh.lo; omega
      have g2 : part < b.parts := hh.hi
      have HH := Lib.hid hh
      clear hh
      have x0 := X4.out.at (i := 0) rfl
      have x1 := X4.out.at (i := 1) rfl
      have x2 := X4.out.at (i := 2) rfl
      have x3 := X4.out.at (i := 3) rfl
      have x4 := X4.out.at (i := 4) rfl
      have x5 := X4.out.at (i := 5) rfl
      have x6 := X4.out.at (i := 6) rfl
      have x7 := X4.out.at (i := 7) rfl
      have x8 := X4.out.at (i := 8) rfl
      have x9 := X4.out.at (i := 9) rfl
      have x10 := X4.out.at (i := 10) rfl
      have x11 := X4.out.at (i := 11) rfl
      have x12 := X4.out.at (i := 12) rfl
      have x13 := X4.out.at (i := 13) rfl
      have x14 := X4.out.at (i := 14) rfl
      have k0 := RB4.out.b0
      have k1 := RB4.out.b1
      have k2 := RB4.out.b2
      have k3 := RB4.out.b3
      have k4 := RB4.out.b4
      have k5 := RB4.out.b5
      have k6 := RB4.out.b6
      have k7 := RB4.out.b7
      go_wp2_with fail
      clear x0 x1 x2 x3 x4 x5 x6 x7 x8 x9 x10 x11 x12 x13 x14 k0 k1 k2 k3 k4 k5 k6 k7
      refine (Parse_x tx _ (HRS.out.next B4.out) HFT.out (HE.out.next B4.out) (by omega)).mono ?_
      rintro r w5 ⟨rfl, hu, cc⟩
      have B5 := Lib.hid (chain B4.out cc)
      have RB5 := Lib.hid (RB4.out.next cc)
      have X5 := Lib.hid (X4.out.next cc)
      clear cc
      replace hu := Lib.hid hu
      have hp2 : parseP R tx = some (b, part) := parse_yes hu.out ⟨HH.out, by rw [htx.out]; exact textP_yes HH.out⟩
      rw [hp2, show pvB (some (b, part)) = .tuple #[vB b, .int .i64 part, .int .i64 0] from rfl]
      clear hp2
      have hne : ¬ tx.toList = [] := ne_list (by rw [htx.out, textP_yes HH.out]; exact fun e => word_ne R b part (mkB_inj (b := []) e))
      have hie := ne_emp hne
      have B6 := Lib.hid (chain B5.out (Below.new1 (.cells #[.int .i64 b.drawer, .int .i64 b.drawee, .int .i64 b.payee, .int .i64 b.sum, .int .i64 b.cur, .int .i64 b.tk, .int .i64 b.tn, .int .i64 b.tu, .int .i64 b.day, .int .i64 b.city, .int .i64 b.pay, .int .i64 b.need, .int .i64 b.rate, .int .i64 b.flags, .int .i64 b.parts] 35)))
      have RB6 := Lib.hid (RB5.out.next (Below.new1 (.cells #[.int .i64 b.drawer, .int .i64 b.drawee, .int .i64 b.payee, .int .i64 b.sum, .int .i64 b.cur, .int .i64 b.tk, .int .i64 b.tn, .int .i64 b.tu, .int .i64 b.day, .int .i64 b.city, .int .i64 b.pay, .int .i64 b.need, .int .i64 b.rate, .int .i64 b.flags, .int .i64 b.parts] 35)))
      have X6 := Lib.hid (X5.out.next (Below.new1 (.cells #[.int .i64 b.drawer, .int .i64 b.drawee, .int .i64 b.payee, .int .i64 b.sum, .int .i64 b.cur, .int .i64 b.tk, .int .i64 b.tn, .int .i64 b.tu, .int .i64 b.day, .int .i64 b.city, .int .i64 b.pay, .int .i64 b.need, .int .i64 b.rate, .int .i64 b.flags, .int .i64 b.parts] 35)))
      have Y6 : Hid (BB (w5.alloc (.cells #[.int .i64 b.drawer, .int .i64 b.drawee, .int .i64 b.payee, .int .i64 b.sum, .int .i64 b.cur, .int .i64 b.tk, .int .i64 b.tn, .int .i64 b.tu, .int .i64 b.day, .int .i64 b.city, .int .i64 b.pay, .int .i64 b.need, .int .i64 b.rate, .int .i64 b.flags, .int .i64 b.parts] 35)) w5.heap.size b) := heap_alloc_new _ _
      have x0 := X6.out.at (i := 0) rfl
      have x1 := X6.out.at (i := 1) rfl
      have x2 := X6.out.at (i := 2) rfl
      have x3 := X6.out.at (i := 3) rfl
      have x4 := X6.out.at (i := 4) rfl
      have x5 := X6.out.at (i := 5) rfl
      have x6 := X6.out.at (i := 6) rfl
      have x7 := X6.out.at (i := 7) rfl
      have x8 := X6.out.at (i := 8) rfl
      have x9 := X6.out.at (i := 9) rfl
      have x10 := X6.out.at (i := 10) rfl
      have x11 := X6.out.at (i := 11) rfl
      have x12 := X6.out.at (i := 12) rfl
      have x13 := X6.out.at (i := 13) rfl
      have x14 := X6.out.at (i := 14) rfl
      have y0 := Y6.out.at (i := 0) rfl
      have y1 := Y6.out.at (i := 1) rfl
      have y2 := Y6.out.at (i := 2) rfl
      have y3 := Y6.out.at (i := 3) rfl
      have y4 := Y6.out.at (i := 4) rfl
      have y5 := Y6.out.at (i := 5) rfl
      have y6 := Y6.out.at (i := 6) rfl
      have y7 := Y6.out.at (i := 7) rfl
      have y8 := Y6.out.at (i := 8) rfl
      have y9 := Y6.out.at (i := 9) rfl
      have y10 := Y6.out.at (i := 10) rfl
      have y11 := Y6.out.at (i := 11) rfl
      have y12 := Y6.out.at (i := 12) rfl
      have y13 := Y6.out.at (i := 13) rfl
      have y14 := Y6.out.at (i := 14) rfl
      go_wp2_with fail
      go_ret
      exact ⟨rfl, B6.out⟩
    · have hs0 : tx = ByteArray.empty := by rw [htx.out]; exact textP_no hh
      subst hs0
      have hem := emp_list
      by_cases g0 : ec = 0
      · subst g0
        have hpp : part < 0 ∨ b.parts ≤ part := by
          have h0 := hec.out
          rcases Int.lt_or_le part 0 with h | h
          · exact .inl h
          · rcases Int.lt_or_le part b.parts with h2 | h2
            · exact absurd ⟨h0.symm, h, h2⟩ hh
            · exact .inr h2
        clear hh
        rcases Int.lt_or_le part 0 with g1 | g1
        · clear hpp
          have x0 := X4.out.at (i := 0) rfl
          have x1 := X4.out.at (i := 1) rfl
          have x2 := X4.out.at (i := 2) rfl
          have x3 := X4.out.at (i := 3) rfl
          have x4 := X4.out.at (i := 4) rfl
          have x5 := X4.out.at (i := 5) rfl
          have x6 := X4.out.at (i := 6) rfl
          have x7 := X4.out.at (i := 7) rfl
          have x8 := X4.out.at (i := 8) rfl
          have x9 := X4.out.at (i := 9) rfl
          have x10 := X4.out.at (i := 10) rfl
          have x11 := X4.out.at (i := 11) rfl
          have x12 := X4.out.at (i := 12) rfl
          have x13 := X4.out.at (i := 13) rfl
          have x14 := X4.out.at (i := 14) rfl
          go_wp2_with fail
          go_ret
          exact ⟨rfl, B4.out⟩
        · have g2 : b.parts ≤ part := hpp.resolve_left (by omega)
          clear hpp
          have x0 := X4.out.at (i := 0) rfl
          have x1 := X4.out.at (i := 1) rfl
          have x2 := X4.out.at (i := 2) rfl
          have x3 := X4.out.at (i := 3) rfl
          have x4 := X4.out.at (i := 4) rfl
          have x5 := X4.out.at (i := 5) rfl
          have x6 := X4.out.at (i := 6) rfl
          have x7 := X4.out.at (i := 7) rfl
          have x8 := X4.out.at (i := 8) rfl
          have x9 := X4.out.at (i := 9) rfl
          have x10 := X4.out.at (i := 10) rfl
          have x11 := X4.out.at (i := 11) rfl
          have x12 := X4.out.at (i := 12) rfl
          have x13 := X4.out.at (i := 13) rfl
          have x14 := X4.out.at (i := 14) rfl
          go_wp2_with fail
          go_ret
          exact ⟨rfl, B4.out⟩
      · have g1 : (ec == 0) = false := beq_eq_false_iff_ne.2 g0
        clear hh
        have x0 := X4.out.at (i := 0) rfl
        have x1 := X4.out.at (i := 1) rfl
        have x2 := X4.out.at (i := 2) rfl
        have x3 := X4.out.at (i := 3) rfl
        have x4 := X4.out.at (i := 4) rfl
        have x5 := X4.out.at (i := 5) rfl
        have x6 := X4.out.at (i := 6) rfl
        have x7 := X4.out.at (i := 7) rfl
        have x8 := X4.out.at (i := 8) rfl
        have x9 := X4.out.at (i := 9) rfl
        have x10 := X4.out.at (i := 10) rfl
        have x11 := X4.out.at (i := 11) rfl
        have x12 := X4.out.at (i := 12) rfl
        have x13 := X4.out.at (i := 13) rfl
        have x14 := X4.out.at (i := 14) rfl
        go_wp2_with fail
        go_ret
        exact ⟨rfl, B4.out⟩
  case false =>
    clear hfw
    go_wp2_with fail
    go_ret
    exact ⟨rfl, B2.out⟩
end Go.Proofs.YtcjakgpmompaiaaGreatDoor
