/-
  WordingRefuses: the walk.
-/
import Derived.Test.YtcjakgpmompaiaaGreatDoorLwR
namespace Go.Proofs.YtcjakgpmompaiaaGreatDoor
open Go.RowKit Rl Wd

set_option maxHeartbeats 12800000 in
set_option maxRecDepth 100000 in
theorem WordingRefuses_x {a0 a1 a2 a3 a4 a5 a6 a7 : Option Addr} {c0 c1 c2 c3 c4 c5 c6 c7 : Nat} {R : Rlm} (hsm : SmallOk) (b : Bl) (wh n : Int) (low : Bool) (hw0 : 0 ≤ wh) (hw1 : wh ≤ 255) (hn0 : -9223372036854775808 ≤ n) (hn1 : n ≤ 9223372036854775807) (w : World) (hr : RS w a0 a1 a2 a3 a4 a5 a6 a7 c0 c1 c2 c3 c4 c5 c6 c7 R) (hF : FitW R) (hE : Ev w) :
    Calls Tryz.prog 7 #[.agg #[.slice a0 R.cur.length c0, .slice a1 R.cities.length c1, .slice a2 R.groups.length c2, .slice a3 R.firms.length c3, .slice a4 R.orders.length c4, .slice a5 R.usances.length c5, .slice a6 R.rates.length c6, .slice a7 R.halts.length c7], vB b, .int .u8 wh, .int .i64 n, .bool low] w fun r w' => r = .returned (.bool true) ∧ Below w.heap.size w w' := by
  have HRS := Lib.hid hr
  have HFW := Lib.hid hF
  have HE := Lib.hid hE
  clear hr hF hE
  have B0 : Hid (Below w.heap.size w ((w.alloc (.cells #[.slice a0 R.cur.length c0, .slice a1 R.cities.length c1, .slice a2 R.groups.length c2, .slice a3 R.firms.length c3, .slice a4 R.orders.length c4, .slice a5 R.usances.length c5, .slice a6 R.rates.length c6, .slice a7 R.halts.length c7] 31)).alloc (.cells #[.int .i64 b.drawer, .int .i64 b.drawee, .int .i64 b.payee, .int .i64 b.sum, .int .i64 b.cur, .int .i64 b.tk, .int .i64 b.tn, .int .i64 b.tu, .int .i64 b.day, .int .i64 b.city, .int .i64 b.pay, .int .i64 b.need, .int .i64 b.rate, .int .i64 b.flags, .int .i64 b.parts] 35))) := (chain (Below.new1 (w := w) (.cells #[.slice a0 R.cur.length c0, .slice a1 R.cities.length c1, .slice a2 R.groups.length c2, .slice a3 R.firms.length c3, .slice a4 R.orders.length c4, .slice a5 R.usances.length c5, .slice a6 R.rates.length c6, .slice a7 R.halts.length c7] 31)) (Below.new1 (.cells #[.int .i64 b.drawer, .int .i64 b.drawee, .int .i64 b.payee, .int .i64 b.sum, .int .i64 b.cur, .int .i64 b.tk, .int .i64 b.tn, .int .i64 b.tu, .int .i64 b.day, .int .i64 b.city, .int .i64 b.pay, .int .i64 b.need, .int .i64 b.rate, .int .i64 b.flags, .int .i64 b.parts] 35)))
  have RB0 : Hid (RB ((w.alloc (.cells #[.slice a0 R.cur.length c0, .slice a1 R.cities.length c1, .slice a2 R.groups.length c2, .slice a3 R.firms.length c3, .slice a4 R.orders.length c4, .slice a5 R.usances.length c5, .slice a6 R.rates.length c6, .slice a7 R.halts.length c7] 31)).alloc (.cells #[.int .i64 b.drawer, .int .i64 b.drawee, .int .i64 b.payee, .int .i64 b.sum, .int .i64 b.cur, .int .i64 b.tk, .int .i64 b.tn, .int .i64 b.tu, .int .i64 b.day, .int .i64 b.city, .int .i64 b.pay, .int .i64 b.need, .int .i64 b.rate, .int .i64 b.flags, .int .i64 b.parts] 35)) w.heap.size a0 a1 a2 a3 a4 a5 a6 a7 c0 c1 c2 c3 c4 c5 c6 c7 R) := ((RB.new w a0 a1 a2 a3 a4 a5 a6 a7 c0 c1 c2 c3 c4 c5 c6 c7 R).next (Below.new1 (.cells #[.int .i64 b.drawer, .int .i64 b.drawee, .int .i64 b.payee, .int .i64 b.sum, .int .i64 b.cur, .int .i64 b.tk, .int .i64 b.tn, .int .i64 b.tu, .int .i64 b.day, .int .i64 b.city, .int .i64 b.pay, .int .i64 b.need, .int .i64 b.rate, .int .i64 b.flags, .int .i64 b.parts] 35)))
  have X0 : Hid (BB ((w.alloc (.cells #[.slice a0 R.cur.length c0, .slice a1 R.cities.length c1, .slice a2 R.groups.length c2, .slice a3 R.firms.length c3, .slice a4 R.orders.length c4, .slice a5 R.usances.length c5, .slice a6 R.rates.length c6, .slice a7 R.halts.length c7] 31)).alloc (.cells #[.int .i64 b.drawer, .int .i64 b.drawee, .int .i64 b.payee, .int .i64 b.sum, .int .i64 b.cur, .int .i64 b.tk, .int .i64 b.tn, .int .i64 b.tu, .int .i64 b.day, .int .i64 b.city, .int .i64 b.pay, .int .i64 b.need, .int .i64 b.rate, .int .i64 b.flags, .int .i64 b.parts] 35)) (w.heap.size + 1) b) := (BB.new (w.alloc (.cells #[.slice a0 R.cur.length c0, .slice a1 R.cities.length c1, .slice a2 R.groups.length c2, .slice a3 R.firms.length c3, .slice a4 R.orders.length c4, .slice a5 R.usances.length c5, .slice a6 R.rates.length c6, .slice a7 R.halts.length c7] 31)) b (w.heap.size + 1) (by simp))
  go_enter Tryz.func7, Tryz.ntmps7
  go_wp2_with fail
  refine (hsm _ (HE.out.next B0.out)).mono ?_
  rintro r w1 ⟨rfl, cc⟩
  have B1 := Lib.hid (chain B0.out cc)
  have RB1 := Lib.hid (RB0.out.next cc)
  have X1 := Lib.hid (X0.out.next cc)
  clear cc
  have k0 := RB1.out.b0
  have k1 := RB1.out.b1
  have k2 := RB1.out.b2
  have k3 := RB1.out.b3
  have k4 := RB1.out.b4
  have k5 := RB1.out.b5
  have k6 := RB1.out.b6
  have k7 := RB1.out.b7
  go_wp2_with fail
  clear k0 k1 k2 k3 k4 k5 k6 k7
  refine (few_x ⟨#[]⟩ _ (HRS.out.next B1.out) HFW.out).mono ?_
  rintro r w2 ⟨⟨fw, rfl, hfw⟩, cc⟩
  have B2 := Lib.hid (chain B1.out cc)
  have RB2 := Lib.hid (RB1.out.next cc)
  have X2 := Lib.hid (X1.out.next cc)
  clear cc
  cases fw
  case true =>
    have hsf : (R.firms.length : Int) ≤ 100000 := by have := (hfw rfl).1.s4; omega
    have hsc : (R.cities.length : Int) ≤ 100000 := by have := (hfw rfl).1.s2; omega
    have HFT := Lib.hid (hfw rfl).1
    clear hfw
    have k0 := RB2.out.b0
    have k1 := RB2.out.b1
    have k2 := RB2.out.b2
    have k3 := RB2.out.b3
    have k4 := RB2.out.b4
    have k5 := RB2.out.b5
    have k6 := RB2.out.b6
    have k7 := RB2.out.b7
    have x0 := X2.out.at (i := 0) rfl
    have x1 := X2.out.at (i := 1) rfl
    have x2 := X2.out.at (i := 2) rfl
    have x3 := X2.out.at (i := 3) rfl
    have x4 := X2.out.at (i := 4) rfl
    have x5 := X2.out.at (i := 5) rfl
    have x6 := X2.out.at (i := 6) rfl
    have x7 := X2.out.at (i := 7) rfl
    have x8 := X2.out.at (i := 8) rfl
    have x9 := X2.out.at (i := 9) rfl
    have x10 := X2.out.at (i := 10) rfl
    have x11 := X2.out.at (i := 11) rfl
    have x12 := X2.out.at (i := 12) rfl
    have x13 := X2.out.at (i := 13) rfl
    have x14 := X2.out.at (i := 14) rfl
    go_wp2_with fail
    clear k0 k1 k2 k3 k4 k5 k6 k7 x0 x1 x2 x3 x4 x5 x6 x7 x8 x9 x10 x11 x12 x13 x14
    refine (WCheck_x b _ (HRS.out.next B2.out) HFT.out).mono ?_
    rintro r w3 ⟨rfl, cc⟩
    have B3 := Lib.hid (chain B2.out cc)
    have RB3 := Lib.hid (RB2.out.next cc)
    have X3 := Lib.hid (X2.out.next cc)
    clear cc
    obtain ⟨ec, hec⟩ : ∃ e : Int, e = checkW R b := ⟨_, rfl⟩
    rw [← hec]
    replace hec := Lib.hid hec
    by_cases h0 : ec = 0
    · subst h0
      have hk := Lib.hid hec.out.symm
      clear hec
      have x0 := X3.out.at (i := 0) rfl
      have x1 := X3.out.at (i := 1) rfl
      have x2 := X3.out.at (i := 2) rfl
      have x3 := X3.out.at (i := 3) rfl
      have x4 := X3.out.at (i := 4) rfl
      have x5 := X3.out.at (i := 5) rfl
      have x6 := X3.out.at (i := 6) rfl
      have x7 := X3.out.at (i := 7) rfl
      have x8 := X3.out.at (i := 8) rfl
      have x9 := X3.out.at (i := 9) rfl
      have x10 := X3.out.at (i := 10) rfl
      have x11 := X3.out.at (i := 11) rfl
      have x12 := X3.out.at (i := 12) rfl
      have x13 := X3.out.at (i := 13) rfl
      have x14 := X3.out.at (i := 14) rfl
      go_upto_if 28 with fail
      go_cut [12] (fun v wx => ∃ x : Int, 0 ≤ x ∧ v = .int .i64 x ∧ wx = w3)
      case first =>
        by_cases hn : n < 0
        · go_wp2_with fail
          all_goals go_meet
          all_goals exact ⟨0, by omega, rfl, rfl⟩
        · have hn1 : (0 : Int) ≤ n := by omega
          go_wp2_with fail
          all_goals go_meet
          all_goals exact ⟨n, hn1, rfl, rfl⟩
      case rest =>
        obtain ⟨v, hx0, rfl, rfl⟩ := hcut
        go_upto_region 8 with fail
        obtain ⟨u, hu⟩ : ∃ u : Int, u = v % 1000000 := ⟨_, rfl⟩
        rw [← hu]
        have hu0 : 0 ≤ u := by omega
        have hu1 : u ≤ 999999 := by omega
        clear hu
        have hwh : wh % 8 = 0 ∨ wh % 8 = 1 ∨ wh % 8 = 2 ∨ wh % 8 = 3 ∨ wh % 8 = 4 ∨ wh % 8 = 5 ∨ wh % 8 = 6 ∨ wh % 8 = 7 := by omega
        rcases hwh with hm | hwh
        · cases low
          · as_aux_lemma =>
              have m0 := (RB3.out.next (Below.new1 (.cells #[.int .i64 b.drawer, .int .i64 b.drawee, .int .i64 b.payee, .int .i64 b.sum, .int .i64 b.cur, .int .i64 b.tk, .int .i64 b.tn, .int .i64 b.tu, .int .i64 b.day, .int .i64 b.city, .int .i64 b.pay, .int .i64 b.need, .int .i64 b.rate, .int .i64 b.flags, .int .i64 b.parts] 35))).b3
              have hbad := Lib.hid (bad_drawer hk.out (v := (R.firms.length : Int) + u) (by omega))
              have B4 := Lib.hid (chain B3.out (Below.new1 (.cells #[.int .i64 ((R.firms.length : Int) + u), .int .i64 b.drawee, .int .i64 b.payee, .int .i64 b.sum, .int .i64 b.cur, .int .i64 b.tk, .int .i64 b.tn, .int .i64 b.tu, .int .i64 b.day, .int .i64 b.city, .int .i64 b.pay, .int .i64 b.need, .int .i64 b.rate, .int .i64 b.flags, .int .i64 b.parts] 35)))
              have RB4 := Lib.hid (RB3.out.next (Below.new1 (.cells #[.int .i64 ((R.firms.length : Int) + u), .int .i64 b.drawee, .int .i64 b.payee, .int .i64 b.sum, .int .i64 b.cur, .int .i64 b.tk, .int .i64 b.tn, .int .i64 b.tu, .int .i64 b.day, .int .i64 b.city, .int .i64 b.pay, .int .i64 b.need, .int .i64 b.rate, .int .i64 b.flags, .int .i64 b.parts] 35)))
              have X4 := Lib.hid (X3.out.next (Below.new1 (.cells #[.int .i64 ((R.firms.length : Int) + u), .int .i64 b.drawee, .int .i64 b.payee, .int .i64 b.sum, .int .i64 b.cur, .int .i64 b.tk, .int .i64 b.tn, .int .i64 b.tu, .int .i64 b.day, .int .i64 b.city, .int .i64 b.pay, .int .i64 b.need, .int .i64 b.rate, .int .i64 b.flags, .int .i64 b.parts] 35)))
              have N4 : Hid (BB (wc.alloc (.cells #[.int .i64 ((R.firms.length : Int) + u), .int .i64 b.drawee, .int .i64 b.payee, .int .i64 b.sum, .int .i64 b.cur, .int .i64 b.tk, .int .i64 b.tn, .int .i64 b.tu, .int .i64 b.day, .int .i64 b.city, .int .i64 b.pay, .int .i64 b.need, .int .i64 b.rate, .int .i64 b.flags, .int .i64 b.parts] 35)) wc.heap.size { b with drawer := (R.firms.length : Int) + u }) := heap_alloc_new _ _
              have k0 := RB4.out.b0
              have k1 := RB4.out.b1
              have k2 := RB4.out.b2
              have k3 := RB4.out.b3
              have k4 := RB4.out.b4
              have k5 := RB4.out.b5
              have k6 := RB4.out.b6
              have k7 := RB4.out.b7
              have n0 := N4.out.at (i := 0) rfl
              have n1 := N4.out.at (i := 1) rfl
              have n2 := N4.out.at (i := 2) rfl
              have n3 := N4.out.at (i := 3) rfl
              have n4 := N4.out.at (i := 4) rfl
              have n5 := N4.out.at (i := 5) rfl
              have n6 := N4.out.at (i := 6) rfl
              have n7 := N4.out.at (i := 7) rfl
              have n8 := N4.out.at (i := 8) rfl
              have n9 := N4.out.at (i := 9) rfl
              have n10 := N4.out.at (i := 10) rfl
              have n11 := N4.out.at (i := 11) rfl
              have n12 := N4.out.at (i := 12) rfl
              have n13 := N4.out.at (i := 13) rfl
              have n14 := N4.out.at (i := 14) rfl
              go_wp2_with fail
              clear x0 x1 x2 x3 x4 x5 x6 x7 x8 x9 x10 x11 x12 x13 x14 k0 k1 k2 k3 k4 k5 k6 k7 n0 n1 n2 n3 n4 n5 n6 n7 n8 n9 n10 n11 n12 n13 n14
              clear m0
              refine (WCheck_x { b with drawer := (R.firms.length : Int) + u } _ (HRS.out.next B4.out) HFT.out).mono ?_
              rintro r w5 ⟨rfl, cc⟩
              have B5 := Lib.hid (chain B4.out cc)
              have RB5 := Lib.hid (RB4.out.next cc)
              have X5 := Lib.hid (X4.out.next cc)
              have N5 := Lib.hid (N4.out.next cc)
              clear cc
              rw [hbad.out]
              have k0 := RB5.out.b0
              have k1 := RB5.out.b1
              have k2 := RB5.out.b2
              have k3 := RB5.out.b3
              have k4 := RB5.out.b4
              have k5 := RB5.out.b5
              have k6 := RB5.out.b6
              have k7 := RB5.out.b7
              have n0 := N5.out.at (i := 0) rfl
              have n1 := N5.out.at (i := 1) rfl
              have n2 := N5.out.at (i := 2) rfl
              have n3 := N5.out.at (i := 3) rfl
              have n4 := N5.out.at (i := 4) rfl
              have n5 := N5.out.at (i := 5) rfl
              have n6 := N5.out.at (i := 6) rfl
              have n7 := N5.out.at (i := 7) rfl
              have n8 := N5.out.at (i := 8) rfl
              have n9 := N5.out.at (i := 9) rfl
              have n10 := N5.out.at (i := 10) rfl
              have n11 := N5.out.at (i := 11) rfl
              have n12 := N5.out.at (i := 12) rfl
              have n13 := N5.out.at (i := 13) rfl
              have n14 := N5.out.at (i := 14) rfl
              go_wp2_with fail
              clear k0 k1 k2 k3 k4 k5 k6 k7 n0 n1 n2 n3 n4 n5 n6 n7 n8 n9 n10 n11 n12 n13 n14
              refine (WText_x { b with drawer := (R.firms.length : Int) + u } 0 _ (HRS.out.next B5.out) HFT.out (HE.out.next B5.out)).mono ?_
              rintro r w6 ⟨rfl, cc⟩
              have B6 := Lib.hid (chain B5.out cc)
              have RB6 := Lib.hid (RB5.out.next cc)
              have X6 := Lib.hid (X5.out.next cc)
              have N6 := Lib.hid (N5.out.next cc)
              clear cc
              rw [no_word hbad.out (by decide) 0]
              have hem := emp_list
              go_wp2_with fail
              go_ret
              exact ⟨rfl, B6.out⟩
          · as_aux_lemma =>
              have m0 := (RB3.out.next (Below.new1 (.cells #[.int .i64 b.drawer, .int .i64 b.drawee, .int .i64 b.payee, .int .i64 b.sum, .int .i64 b.cur, .int .i64 b.tk, .int .i64 b.tn, .int .i64 b.tu, .int .i64 b.day, .int .i64 b.city, .int .i64 b.pay, .int .i64 b.need, .int .i64 b.rate, .int .i64 b.flags, .int .i64 b.parts] 35))).b3
              have hbad := Lib.hid (bad_drawer hk.out (v := -1 - u) (by omega))
              have B4 := Lib.hid (chain B3.out (Below.new1 (.cells #[.int .i64 (-1 - u), .int .i64 b.drawee, .int .i64 b.payee, .int .i64 b.sum, .int .i64 b.cur, .int .i64 b.tk, .int .i64 b.tn, .int .i64 b.tu, .int .i64 b.day, .int .i64 b.city, .int .i64 b.pay, .int .i64 b.need, .int .i64 b.rate, .int .i64 b.flags, .int .i64 b.parts] 35)))
              have RB4 := Lib.hid (RB3.out.next (Below.new1 (.cells #[.int .i64 (-1 - u), .int .i64 b.drawee, .int .i64 b.payee, .int .i64 b.sum, .int .i64 b.cur, .int .i64 b.tk, .int .i64 b.tn, .int .i64 b.tu, .int .i64 b.day, .int .i64 b.city, .int .i64 b.pay, .int .i64 b.need, .int .i64 b.rate, .int .i64 b.flags, .int .i64 b.parts] 35)))
              have X4 := Lib.hid (X3.out.next (Below.new1 (.cells #[.int .i64 (-1 - u), .int .i64 b.drawee, .int .i64 b.payee, .int .i64 b.sum, .int .i64 b.cur, .int .i64 b.tk, .int .i64 b.tn, .int .i64 b.tu, .int .i64 b.day, .int .i64 b.city, .int .i64 b.pay, .int .i64 b.need, .int .i64 b.rate, .int .i64 b.flags, .int .i64 b.parts] 35)))
              have N4 : Hid (BB (wc.alloc (.cells #[.int .i64 (-1 - u), .int .i64 b.drawee, .int .i64 b.payee, .int .i64 b.sum, .int .i64 b.cur, .int .i64 b.tk, .int .i64 b.tn, .int .i64 b.tu, .int .i64 b.day, .int .i64 b.city, .int .i64 b.pay, .int .i64 b.need, .int .i64 b.rate, .int .i64 b.flags, .int .i64 b.parts] 35)) wc.heap.size { b with drawer := -1 - u }) := heap_alloc_new _ _
              have k0 := RB4.out.b0
              have k1 := RB4.out.b1
              have k2 := RB4.out.b2
              have k3 := RB4.out.b3
              have k4 := RB4.out.b4
              have k5 := RB4.out.b5
              have k6 := RB4.out.b6
              have k7 := RB4.out.b7
              have n0 := N4.out.at (i := 0) rfl
              have n1 := N4.out.at (i := 1) rfl
              have n2 := N4.out.at (i := 2) rfl
              have n3 := N4.out.at (i := 3) rfl
              have n4 := N4.out.at (i := 4) rfl
              have n5 := N4.out.at (i := 5) rfl
              have n6 := N4.out.at (i := 6) rfl
              have n7 := N4.out.at (i := 7) rfl
              have n8 := N4.out.at (i := 8) rfl
              have n9 := N4.out.at (i := 9) rfl
              have n10 := N4.out.at (i := 10) rfl
              have n11 := N4.out.at (i := 11) rfl
              have n12 := N4.out.at (i := 12) rfl
              have n13 := N4.out.at (i := 13) rfl
              have n14 := N4.out.at (i := 14) rfl
              go_wp2_with fail
              clear x0 x1 x2 x3 x4 x5 x6 x7 x8 x9 x10 x11 x12 x13 x14 k0 k1 k2 k3 k4 k5 k6 k7 n0 n1 n2 n3 n4 n5 n6 n7 n8 n9 n10 n11 n12 n13 n14
              clear m0
              refine (WCheck_x { b with drawer := -1 - u } _ (HRS.out.next B4.out) HFT.out).mono ?_
              rintro r w5 ⟨rfl, cc⟩
              have B5 := Lib.hid (chain B4.out cc)
              have RB5 := Lib.hid (RB4.out.next cc)
              have X5 := Lib.hid (X4.out.next cc)
              have N5 := Lib.hid (N4.out.next cc)
              clear cc
              rw [hbad.out]
              have k0 := RB5.out.b0
              have k1 := RB5.out.b1
              have k2 := RB5.out.b2
              have k3 := RB5.out.b3
              have k4 := RB5.out.b4
              have k5 := RB5.out.b5
              have k6 := RB5.out.b6
              have k7 := RB5.out.b7
              have n0 := N5.out.at (i := 0) rfl
              have n1 := N5.out.at (i := 1) rfl
              have n2 := N5.out.at (i := 2) rfl
              have n3 := N5.out.at (i := 3) rfl
              have n4 := N5.out.at (i := 4) rfl
              have n5 := N5.out.at (i := 5) rfl
              have n6 := N5.out.at (i := 6) rfl
              have n7 := N5.out.at (i := 7) rfl
              have n8 := N5.out.at (i := 8) rfl
              have n9 := N5.out.at (i := 9) rfl
              have n10 := N5.out.at (i := 10) rfl
              have n11 := N5.out.at (i := 11) rfl
              have n12 := N5.out.at (i := 12) rfl
              have n13 := N5.out.at (i := 13) rfl
              have n14 := N5.out.at (i := 14) rfl
              go_wp2_with fail
              clear k0 k1 k2 k3 k4 k5 k6 k7 n0 n1 n2 n3 n4 n5 n6 n7 n8 n9 n10 n11 n12 n13 n14
              refine (WText_x { b with drawer := -1 - u } 0 _ (HRS.out.next B5.out) HFT.out (HE.out.next B5.out)).mono ?_
              rintro r w6 ⟨rfl, cc⟩
              have B6 := Lib.hid (chain B5.out cc)
              have RB6 := Lib.hid (RB5.out.next cc)
              have X6 := Lib.hid (X5.out.next cc)
              have N6 := Lib.hid (N5.out.next cc)
              clear cc
              rw [no_word hbad.out (by decide) 0]
              have hem := emp_list
              go_wp2_with fail
              go_ret
              exact ⟨rfl, B6.out⟩
        rcases hwh with hm | hwh
        · cases low
          · as_aux_lemma =>
              have m0 := (RB3.out.next (Below.new1 (.cells #[.int .i64 b.drawer, .int .i64 b.drawee, .int .i64 b.payee, .int .i64 b.sum, .int .i64 b.cur, .int .i64 b.tk, .int .i64 b.tn, .int .i64 b.tu, .int .i64 b.day, .int .i64 b.city, .int .i64 b.pay, .int .i64 b.need, .int .i64 b.rate, .int .i64 b.flags, .int .i64 b.parts] 35))).b1
              have hbad := Lib.hid (bad_pay hk.out (v := (R.cities.length : Int) + u) (by omega))
              have B4 := Lib.hid (chain B3.out (Below.new1 (.cells #[.int .i64 b.drawer, .int .i64 b.drawee, .int .i64 b.payee, .int .i64 b.sum, .int .i64 b.cur, .int .i64 b.tk, .int .i64 b.tn, .int .i64 b.tu, .int .i64 b.day, .int .i64 b.city, .int .i64 ((R.cities.length : Int) + u), .int .i64 b.need, .int .i64 b.rate, .int .i64 b.flags, .int .i64 b.parts] 35)))
              have RB4 := Lib.hid (RB3.out.next (Below.new1 (.cells #[.int .i64 b.drawer, .int .i64 b.drawee, .int .i64 b.payee, .int .i64 b.sum, .int .i64 b.cur, .int .i64 b.tk, .int .i64 b.tn, .int .i64 b.tu, .int .i64 b.day, .int .i64 b.city, .int .i64 ((R.cities.length : Int) + u), .int .i64 b.need, .int .i64 b.rate, .int .i64 b.flags, .int .i64 b.parts] 35)))
              have X4 := Lib.hid (X3.out.next (Below.new1 (.cells #[.int .i64 b.drawer, .int .i64 b.drawee, .int .i64 b.payee, .int .i64 b.sum, .int .i64 b.cur, .int .i64 b.tk, .int .i64 b.tn, .int .i64 b.tu, .int .i64 b.day, .int .i64 b.city, .int .i64 ((R.cities.length : Int) + u), .int .i64 b.need, .int .i64 b.rate, .int .i64 b.flags, .int .i64 b.parts] 35)))
              have N4 : Hid (BB (wc.alloc (.cells #[.int .i64 b.drawer, .int .i64 b.drawee, .int .i64 b.payee, .int .i64 b.sum, .int .i64 b.cur, .int .i64 b.tk, .int .i64 b.tn, .int .i64 b.tu, .int .i64 b.day, .int .i64 b.city, .int .i64 ((R.cities.length : Int) + u), .int .i64 b.need, .int .i64 b.rate, .int .i64 b.flags, .int .i64 b.parts] 35)) wc.heap.size { b with pay := (R.cities.length : Int) + u }) := heap_alloc_new _ _
              have k0 := RB4.out.b0
              have k1 := RB4.out.b1
              have k2 := RB4.out.b2
              have k3 := RB4.out.b3
              have k4 := RB4.out.b4
              have k5 := RB4.out.b5
              have k6 := RB4.out.b6
              have k7 := RB4.out.b7
              have n0 := N4.out.at (i := 0) rfl
              have n1 := N4.out.at (i := 1) rfl
              have n2 := N4.out.at (i := 2) rfl
              have n3 := N4.out.at (i := 3) rfl
              have n4 := N4.out.at (i := 4) rfl
              have n5 := N4.out.at (i := 5) rfl
              have n6 := N4.out.at (i := 6) rfl
              have n7 := N4.out.at (i := 7) rfl
              have n8 := N4.out.at (i := 8) rfl
              have n9 := N4.out.at (i := 9) rfl
              have n10 := N4.out.at (i := 10) rfl
              have n11 := N4.out.at (i := 11) rfl
              have n12 := N4.out.at (i := 12) rfl
              have n13 := N4.out.at (i := 13) rfl
              have n14 := N4.out.at (i := 14) rfl
              go_wp2_with fail
              clear x0 x1 x2 x3 x4 x5 x6 x7 x8 x9 x10 x11 x12 x13 x14 k0 k1 k2 k3 k4 k5 k6 k7 n0 n1 n2 n3 n4 n5 n6 n7 n8 n9 n10 n11 n12 n13 n14
              clear m0
              refine (WCheck_x { b with pay := (R.cities.length : Int) + u } _ (HRS.out.next B4.out) HFT.out).mono ?_
              rintro r w5 ⟨rfl, cc⟩
              have B5 := Lib.hid (chain B4.out cc)
              have RB5 := Lib.hid (RB4.out.next cc)
              have X5 := Lib.hid (X4.out.next cc)
              have N5 := Lib.hid (N4.out.next cc)
              clear cc
              rw [hbad.out]
              have k0 := RB5.out.b0
              have k1 := RB5.out.b1
              have k2 := RB5.out.b2
              have k3 := RB5.out.b3
              have k4 := RB5.out.b4
              have k5 := RB5.out.b5
              have k6 := RB5.out.b6
              have k7 := RB5.out.b7
              have n0 := N5.out.at (i := 0) rfl
              have n1 := N5.out.at (i := 1) rfl
              have n2 := N5.out.at (i := 2) rfl
              have n3 := N5.out.at (i := 3) rfl
              have n4 := N5.out.at (i := 4) rfl
              have n5 := N5.out.at (i := 5) rfl
              have n6 := N5.out.at (i := 6) rfl
              have n7 := N5.out.at (i := 7) rfl
              have n8 := N5.out.at (i := 8) rfl
              have n9 := N5.out.at (i := 9) rfl
              have n10 := N5.out.at (i := 10) rfl
              have n11 := N5.out.at (i := 11) rfl
              have n12 := N5.out.at (i := 12) rfl
              have n13 := N5.out.at (i := 13) rfl
              have n14 := N5.out.at (i := 14) rfl
              go_wp2_with fail
              clear k0 k1 k2 k3 k4 k5 k6 k7 n0 n1 n2 n3 n4 n5 n6 n7 n8 n9 n10 n11 n12 n13 n14
              refine (WText_x { b with pay := (R.cities.length : Int) + u } 0 _ (HRS.out.next B5.out) HFT.out (HE.out.next B5.out)).mono ?_
              rintro r w6 ⟨rfl, cc⟩
              have B6 := Lib.hid (chain B5.out cc)
              have RB6 := Lib.hid (RB5.out.next cc)
              have X6 := Lib.hid (X5.out.next cc)
              have N6 := Lib.hid (N5.out.next cc)
              clear cc
              rw [no_word hbad.out (by decide) 0]
              have hem := emp_list
              go_wp2_with fail
              go_ret
              exact ⟨rfl, B6.out⟩
          · as_aux_lemma =>
              have m0 := (RB3.out.next (Below.new1 (.cells #[.int .i64 b.drawer, .int .i64 b.drawee, .int .i64 b.payee, .int .i64 b.sum, .int .i64 b.cur, .int .i64 b.tk, .int .i64 b.tn, .int .i64 b.tu, .int .i64 b.day, .int .i64 b.city, .int .i64 b.pay, .int .i64 b.need, .int .i64 b.rate, .int .i64 b.flags, .int .i64 b.parts] 35))).b1
              have hbad := Lib.hid (bad_pay hk.out (v := -1 - u) (by omega))
              have B4 := Lib.hid (chain B3.out (Below.new1 (.cells #[.int .i64 b.drawer, .int .i64 b.drawee, .int .i64 b.payee, .int .i64 b.sum, .int .i64 b.cur, .int .i64 b.tk, .int .i64 b.tn, .int .i64 b.tu, .int .i64 b.day, .int .i64 b.city, .int .i64 (-1 - u), .int .i64 b.need, .int .i64 b.rate, .int .i64 b.flags, .int .i64 b.parts] 35)))
              have RB4 := Lib.hid (RB3.out.next (Below.new1 (.cells #[.int .i64 b.drawer, .int .i64 b.drawee, .int .i64 b.payee, .int .i64 b.sum, .int .i64 b.cur, .int .i64 b.tk, .int .i64 b.tn, .int .i64 b.tu, .int .i64 b.day, .int .i64 b.city, .int .i64 (-1 - u), .int .i64 b.need, .int .i64 b.rate, .int .i64 b.flags, .int .i64 b.parts] 35)))
              have X4 := Lib.hid (X3.out.next (Below.new1 (.cells #[.int .i64 b.drawer, .int .i64 b.drawee, .int .i64 b.payee, .int .i64 b.sum, .int .i64 b.cur, .int .i64 b.tk, .int .i64 b.tn, .int .i64 b.tu, .int .i64 b.day, .int .i64 b.city, .int .i64 (-1 - u), .int .i64 b.need, .int .i64 b.rate, .int .i64 b.flags, .int .i64 b.parts] 35)))
              have N4 : Hid (BB (wc.alloc (.cells #[.int .i64 b.drawer, .int .i64 b.drawee, .int .i64 b.payee, .int .i64 b.sum, .int .i64 b.cur, .int .i64 b.tk, .int .i64 b.tn, .int .i64 b.tu, .int .i64 b.day, .int .i64 b.city, .int .i64 (-1 - u), .int .i64 b.need, .int .i64 b.rate, .int .i64 b.flags, .int .i64 b.parts] 35)) wc.heap.size { b with pay := -1 - u }) := heap_alloc_new _ _
              have k0 := RB4.out.b0
              have k1 := RB4.out.b1
              have k2 := RB4.out.b2
              have k3 := RB4.out.b3
              have k4 := RB4.out.b4
              have k5 := RB4.out.b5
              have k6 := RB4.out.b6
              have k7 := RB4.out.b7
              have n0 := N4.out.at (i := 0) rfl
              have n1 := N4.out.at (i := 1) rfl
              have n2 := N4.out.at (i := 2) rfl
              have n3 := N4.out.at (i := 3) rfl
              have n4 := N4.out.at (i := 4) rfl
              have n5 := N4.out.at (i := 5) rfl
              have n6 := N4.out.at (i := 6) rfl
              have n7 := N4.out.at (i := 7) rfl
              have n8 := N4.out.at (i := 8) rfl
              have n9 := N4.out.at (i := 9) rfl
              have n10 := N4.out.at (i := 10) rfl
              have n11 := N4.out.at (i := 11) rfl
              have n12 := N4.out.at (i := 12) rfl
              have n13 := N4.out.at (i := 13) rfl
              have n14 := N4.out.at (i := 14) rfl
              go_wp2_with fail
              clear x0 x1 x2 x3 x4 x5 x6 x7 x8 x9 x10 x11 x12 x13 x14 k0 k1 k2 k3 k4 k5 k6 k7 n0 n1 n2 n3 n4 n5 n6 n7 n8 n9 n10 n11 n12 n13 n14
              clear m0
              refine (WCheck_x { b with pay := -1 - u } _ (HRS.out.next B4.out) HFT.out).mono ?_
              rintro r w5 ⟨rfl, cc⟩
              have B5 := Lib.hid (chain B4.out cc)
              have RB5 := Lib.hid (RB4.out.next cc)
              have X5 := Lib.hid (X4.out.next cc)
              have N5 := Lib.hid (N4.out.next cc)
              clear cc
              rw [hbad.out]
              have k0 := RB5.out.b0
              have k1 := RB5.out.b1
              have k2 := RB5.out.b2
              have k3 := RB5.out.b3
              have k4 := RB5.out.b4
              have k5 := RB5.out.b5
              have k6 := RB5.out.b6
              have k7 := RB5.out.b7
              have n0 := N5.out.at (i := 0) rfl
              have n1 := N5.out.at (i := 1) rfl
              have n2 := N5.out.at (i := 2) rfl
              have n3 := N5.out.at (i := 3) rfl
              have n4 := N5.out.at (i := 4) rfl
              have n5 := N5.out.at (i := 5) rfl
              have n6 := N5.out.at (i := 6) rfl
              have n7 := N5.out.at (i := 7) rfl
              have n8 := N5.out.at (i := 8) rfl
              have n9 := N5.out.at (i := 9) rfl
              have n10 := N5.out.at (i := 10) rfl
              have n11 := N5.out.at (i := 11) rfl
              have n12 := N5.out.at (i := 12) rfl
              have n13 := N5.out.at (i := 13) rfl
              have n14 := N5.out.at (i := 14) rfl
              go_wp2_with fail
              clear k0 k1 k2 k3 k4 k5 k6 k7 n0 n1 n2 n3 n4 n5 n6 n7 n8 n9 n10 n11 n12 n13 n14
              refine (WText_x { b with pay := -1 - u } 0 _ (HRS.out.next B5.out) HFT.out (HE.out.next B5.out)).mono ?_
              rintro r w6 ⟨rfl, cc⟩
              have B6 := Lib.hid (chain B5.out cc)
              have RB6 := Lib.hid (RB5.out.next cc)
              have X6 := Lib.hid (X5.out.next cc)
              have N6 := Lib.hid (N5.out.next cc)
              clear cc
              rw [no_word hbad.out (by decide) 0]
              have hem := emp_list
              go_wp2_with fail
              go_ret
              exact ⟨rfl, B6.out⟩
        rcases hwh with hm | hwh
        · cases low
          · as_aux_lemma =>
              have m0 := (RB3.out.next (Below.new1 (.cells #[.int .i64 b.drawer, .int .i64 b.drawee, .int .i64 b.payee, .int .i64 b.sum, .int .i64 b.cur, .int .i64 b.tk, .int .i64 b.tn, .int .i64 b.tu, .int .i64 b.day, .int .i64 b.city, .int .i64 b.pay, .int .i64 b.need, .int .i64 b.rate, .int .i64 b.flags, .int .i64 b.parts] 35))).b3
              have hbad := Lib.hid (bad_need hk.out (v := (R.firms.length : Int) + u) (by omega))
              have B4 := Lib.hid (chain B3.out (Below.new1 (.cells #[.int .i64 b.drawer, .int .i64 b.drawee, .int .i64 b.payee, .int .i64 b.sum, .int .i64 b.cur, .int .i64 b.tk, .int .i64 b.tn, .int .i64 b.tu, .int .i64 b.day, .int .i64 b.city, .int .i64 b.pay, .int .i64 ((R.firms.length : Int) + u), .int .i64 b.rate, .int .i64 b.flags, .int .i64 b.parts] 35)))
              have RB4 := Lib.hid (RB3.out.next (Below.new1 (.cells #[.int .i64 b.drawer, .int .i64 b.drawee, .int .i64 b.payee, .int .i64 b.sum, .int .i64 b.cur, .int .i64 b.tk, .int .i64 b.tn, .int .i64 b.tu, .int .i64 b.day, .int .i64 b.city, .int .i64 b.pay, .int .i64 ((R.firms.length : Int) + u), .int .i64 b.rate, .int .i64 b.flags, .int .i64 b.parts] 35)))
              have X4 := Lib.hid (X3.out.next (Below.new1 (.cells #[.int .i64 b.drawer, .int .i64 b.drawee, .int .i64 b.payee, .int .i64 b.sum, .int .i64 b.cur, .int .i64 b.tk, .int .i64 b.tn, .int .i64 b.tu, .int .i64 b.day, .int .i64 b.city, .int .i64 b.pay, .int .i64 ((R.firms.length : Int) + u), .int .i64 b.rate, .int .i64 b.flags, .int .i64 b.parts] 35)))
              have N4 : Hid (BB (wc.alloc (.cells #[.int .i64 b.drawer, .int .i64 b.drawee, .int .i64 b.payee, .int .i64 b.sum, .int .i64 b.cur, .int .i64 b.tk, .int .i64 b.tn, .int .i64 b.tu, .int .i64 b.day, .int .i64 b.city, .int .i64 b.pay, .int .i64 ((R.firms.length : Int) + u), .int .i64 b.rate, .int .i64 b.flags, .int .i64 b.parts] 35)) wc.heap.size { b with need := (R.firms.length : Int) + u }) := heap_alloc_new _ _
              have k0 := RB4.out.b0
              have k1 := RB4.out.b1
              have k2 := RB4.out.b2
              have k3 := RB4.out.b3
              have k4 := RB4.out.b4
              have k5 := RB4.out.b5
              have k6 := RB4.out.b6
              have k7 := RB4.out.b7
              have n0 := N4.out.at (i := 0) rfl
              have n1 := N4.out.at (i := 1) rfl
              have n2 := N4.out.at (i := 2) rfl
              have n3 := N4.out.at (i := 3) rfl
              have n4 := N4.out.at (i := 4) rfl
              have n5 := N4.out.at (i := 5) rfl
              have n6 := N4.out.at (i := 6) rfl
              have n7 := N4.out.at (i := 7) rfl
              have n8 := N4.out.at (i := 8) rfl
              have n9 := N4.out.at (i := 9) rfl
              have n10 := N4.out.at (i := 10) rfl
              have n11 := N4.out.at (i := 11) rfl
              have n12 := N4.out.at (i := 12) rfl
              have n13 := N4.out.at (i := 13) rfl
              have n14 := N4.out.at (i := 14) rfl
              go_wp2_with fail
              clear x0 x1 x2 x3 x4 x5 x6 x7 x8 x9 x10 x11 x12 x13 x14 k0 k1 k2 k3 k4 k5 k6 k7 n0 n1 n2 n3 n4 n5 n6 n7 n8 n9 n10 n11 n12 n13 n14
              clear m0
              refine (WCheck_x { b with need := (R.firms.length : Int) + u } _ (HRS.out.next B4.out) HFT.out).mono ?_
              rintro r w5 ⟨rfl, cc⟩
              have B5 := Lib.hid (chain B4.out cc)
              have RB5 := Lib.hid (RB4.out.next cc)
              have X5 := Lib.hid (X4.out.next cc)
              have N5 := Lib.hid (N4.out.next cc)
              clear cc
              rw [hbad.out]
              have k0 := RB5.out.b0
              have k1 := RB5.out.b1
              have k2 := RB5.out.b2
              have k3 := RB5.out.b3
              have k4 := RB5.out.b4
              have k5 := RB5.out.b5
              have k6 := RB5.out.b6
              have k7 := RB5.out.b7
              have n0 := N5.out.at (i := 0) rfl
              have n1 := N5.out.at (i := 1) rfl
              have n2 := N5.out.at (i := 2) rfl
              have n3 := N5.out.at (i := 3) rfl
              have n4 := N5.out.at (i := 4) rfl
              have n5 := N5.out.at (i := 5) rfl
              have n6 := N5.out.at (i := 6) rfl
              have n7 := N5.out.at (i := 7) rfl
              have n8 := N5.out.at (i := 8) rfl
              have n9 := N5.out.at (i := 9) rfl
              have n10 := N5.out.at (i := 10) rfl
              have n11 := N5.out.at (i := 11) rfl
              have n12 := N5.out.at (i := 12) rfl
              have n13 := N5.out.at (i := 13) rfl
              have n14 := N5.out.at (i := 14) rfl
              go_wp2_with fail
              clear k0 k1 k2 k3 k4 k5 k6 k7 n0 n1 n2 n3 n4 n5 n6 n7 n8 n9 n10 n11 n12 n13 n14
              refine (WText_x { b with need := (R.firms.length : Int) + u } 0 _ (HRS.out.next B5.out) HFT.out (HE.out.next B5.out)).mono ?_
              rintro r w6 ⟨rfl, cc⟩
              have B6 := Lib.hid (chain B5.out cc)
              have RB6 := Lib.hid (RB5.out.next cc)
              have X6 := Lib.hid (X5.out.next cc)
              have N6 := Lib.hid (N5.out.next cc)
              clear cc
              rw [no_word hbad.out (by decide) 0]
              have hem := emp_list
              go_wp2_with fail
              go_ret
              exact ⟨rfl, B6.out⟩
          · as_aux_lemma =>
              have m0 := (RB3.out.next (Below.new1 (.cells #[.int .i64 b.drawer, .int .i64 b.drawee, .int .i64 b.payee, .int .i64 b.sum, .int .i64 b.cur, .int .i64 b.tk, .int .i64 b.tn, .int .i64 b.tu, .int .i64 b.day, .int .i64 b.city, .int .i64 b.pay, .int .i64 b.need, .int .i64 b.rate, .int .i64 b.flags, .int .i64 b.parts] 35))).b3
              have hbad := Lib.hid (bad_need hk.out (v := -2 - u) (by omega))
              have B4 := Lib.hid (chain B3.out (Below.new1 (.cells #[.int .i64 b.drawer, .int .i64 b.drawee, .int .i64 b.payee, .int .i64 b.sum, .int .i64 b.cur, .int .i64 b.tk, .int .i64 b.tn, .int .i64 b.tu, .int .i64 b.day, .int .i64 b.city, .int .i64 b.pay, .int .i64 (-2 - u), .int .i64 b.rate, .int .i64 b.flags, .int .i64 b.parts] 35)))
              have RB4 := Lib.hid (RB3.out.next (Below.new1 (.cells #[.int .i64 b.drawer, .int .i64 b.drawee, .int .i64 b.payee, .int .i64 b.sum, .int .i64 b.cur, .int .i64 b.tk, .int .i64 b.tn, .int .i64 b.tu, .int .i64 b.day, .int .i64 b.city, .int .i64 b.pay, .int .i64 (-2 - u), .int .i64 b.rate, .int .i64 b.flags, .int .i64 b.parts] 35)))
              have X4 := Lib.hid (X3.out.next (Below.new1 (.cells #[.int .i64 b.drawer, .int .i64 b.drawee, .int .i64 b.payee, .int .i64 b.sum, .int .i64 b.cur, .int .i64 b.tk, .int .i64 b.tn, .int .i64 b.tu, .int .i64 b.day, .int .i64 b.city, .int .i64 b.pay, .int .i64 (-2 - u), .int .i64 b.rate, .int .i64 b.flags, .int .i64 b.parts] 35)))
              have N4 : Hid (BB (wc.alloc (.cells #[.int .i64 b.drawer, .int .i64 b.drawee, .int .i64 b.payee, .int .i64 b.sum, .int .i64 b.cur, .int .i64 b.tk, .int .i64 b.tn, .int .i64 b.tu, .int .i64 b.day, .int .i64 b.city, .int .i64 b.pay, .int .i64 (-2 - u), .int .i64 b.rate, .int .i64 b.flags, .int .i64 b.parts] 35)) wc.heap.size { b with need := -2 - u }) := heap_alloc_new _ _
              have k0 := RB4.out.b0
              have k1 := RB4.out.b1
              have k2 := RB4.out.b2
              have k3 := RB4.out.b3
              have k4 := RB4.out.b4
              have k5 := RB4.out.b5
              have k6 := RB4.out.b6
              have k7 := RB4.out.b7
              have n0 := N4.out.at (i := 0) rfl
              have n1 := N4.out.at (i := 1) rfl
              have n2 := N4.out.at (i := 2) rfl
              have n3 := N4.out.at (i := 3) rfl
              have n4 := N4.out.at (i := 4) rfl
              have n5 := N4.out.at (i := 5) rfl
              have n6 := N4.out.at (i := 6) rfl
              have n7 := N4.out.at (i := 7) rfl
              have n8 := N4.out.at (i := 8) rfl
              have n9 := N4.out.at (i := 9) rfl
              have n10 := N4.out.at (i := 10) rfl
              have n11 := N4.out.at (i := 11) rfl
              have n12 := N4.out.at (i := 12) rfl
              have n13 := N4.out.at (i := 13) rfl
              have n14 := N4.out.at (i := 14) rfl
              go_wp2_with fail
              clear x0 x1 x2 x3 x4 x5 x6 x7 x8 x9 x10 x11 x12 x13 x14 k0 k1 k2 k3 k4 k5 k6 k7 n0 n1 n2 n3 n4 n5 n6 n7 n8 n9 n10 n11 n12 n13 n14
              clear m0
              refine (WCheck_x { b with need := -2 - u } _ (HRS.out.next B4.out) HFT.out).mono ?_
              rintro r w5 ⟨rfl, cc⟩
              have B5 := Lib.hid (chain B4.out cc)
              have RB5 := Lib.hid (RB4.out.next cc)
              have X5 := Lib.hid (X4.out.next cc)
              have N5 := Lib.hid (N4.out.next cc)
              clear cc
              rw [hbad.out]
              have k0 := RB5.out.b0
              have k1 := RB5.out.b1
              have k2 := RB5.out.b2
              have k3 := RB5.out.b3
              have k4 := RB5.out.b4
              have k5 := RB5.out.b5
              have k6 := RB5.out.b6
              have k7 := RB5.out.b7
              have n0 := N5.out.at (i := 0) rfl
              have n1 := N5.out.at (i := 1) rfl
              have n2 := N5.out.at (i := 2) rfl
              have n3 := N5.out.at (i := 3) rfl
              have n4 := N5.out.at (i := 4) rfl
              have n5 := N5.out.at (i := 5) rfl
              have n6 := N5.out.at (i := 6) rfl
              have n7 := N5.out.at (i := 7) rfl
              have n8 := N5.out.at (i := 8) rfl
              have n9 := N5.out.at (i := 9) rfl
              have n10 := N5.out.at (i := 10) rfl
              have n11 := N5.out.at (i := 11) rfl
              have n12 := N5.out.at (i := 12) rfl
              have n13 := N5.out.at (i := 13) rfl
              have n14 := N5.out.at (i := 14) rfl
              go_wp2_with fail
              clear k0 k1 k2 k3 k4 k5 k6 k7 n0 n1 n2 n3 n4 n5 n6 n7 n8 n9 n10 n11 n12 n13 n14
              refine (WText_x { b with need := -2 - u } 0 _ (HRS.out.next B5.out) HFT.out (HE.out.next B5.out)).mono ?_
              rintro r w6 ⟨rfl, cc⟩
              have B6 := Lib.hid (chain B5.out cc)
              have RB6 := Lib.hid (RB5.out.next cc)
              have X6 := Lib.hid (X5.out.next cc)
              have N6 := Lib.hid (N5.out.next cc)
              clear cc
              rw [no_word hbad.out (by decide) 0]
              have hem := emp_list
              go_wp2_with fail
              go_ret
              exact ⟨rfl, B6.out⟩
        rcases hwh with hm | hwh
        · cases low
          · as_aux_lemma =>
              have hbad := Lib.hid (bad_sum hk.out (v := 1099511627777 + u) (by omega))
              have B4 := Lib.hid (chain B3.out (Below.new1 (.cells #[.int .i64 b.drawer, .int .i64 b.drawee, .int .i64 b.payee, .int .i64 (1099511627777 + u), .int .i64 b.cur, .int .i64 b.tk, .int .i64 b.tn, .int .i64 b.tu, .int .i64 b.day, .int .i64 b.city, .int .i64 b.pay, .int .i64 b.need, .int .i64 b.rate, .int .i64 b.flags, .int .i64 b.parts] 35)))
              have RB4 := Lib.hid (RB3.out.next (Below.new1 (.cells #[.int .i64 b.drawer, .int .i64 b.drawee, .int .i64 b.payee, .int .i64 (1099511627777 + u), .int .i64 b.cur, .int .i64 b.tk, .int .i64 b.tn, .int .i64 b.tu, .int .i64 b.day, .int .i64 b.city, .int .i64 b.pay, .int .i64 b.need, .int .i64 b.rate, .int .i64 b.flags, .int .i64 b.parts] 35)))
              have X4 := Lib.hid (X3.out.next (Below.new1 (.cells #[.int .i64 b.drawer, .int .i64 b.drawee, .int .i64 b.payee, .int .i64 (1099511627777 + u), .int .i64 b.cur, .int .i64 b.tk, .int .i64 b.tn, .int .i64 b.tu, .int .i64 b.day, .int .i64 b.city, .int .i64 b.pay, .int .i64 b.need, .int .i64 b.rate, .int .i64 b.flags, .int .i64 b.parts] 35)))
              have N4 : Hid (BB (wc.alloc (.cells #[.int .i64 b.drawer, .int .i64 b.drawee, .int .i64 b.payee, .int .i64 (1099511627777 + u), .int .i64 b.cur, .int .i64 b.tk, .int .i64 b.tn, .int .i64 b.tu, .int .i64 b.day, .int .i64 b.city, .int .i64 b.pay, .int .i64 b.need, .int .i64 b.rate, .int .i64 b.flags, .int .i64 b.parts] 35)) wc.heap.size { b with sum := 1099511627777 + u }) := heap_alloc_new _ _
              have k0 := RB4.out.b0
              have k1 := RB4.out.b1
              have k2 := RB4.out.b2
              have k3 := RB4.out.b3
              have k4 := RB4.out.b4
              have k5 := RB4.out.b5
              have k6 := RB4.out.b6
              have k7 := RB4.out.b7
              have n0 := N4.out.at (i := 0) rfl
              have n1 := N4.out.at (i := 1) rfl
              have n2 := N4.out.at (i := 2) rfl
              have n3 := N4.out.at (i := 3) rfl
              have n4 := N4.out.at (i := 4) rfl
              have n5 := N4.out.at (i := 5) rfl
              have n6 := N4.out.at (i := 6) rfl
              have n7 := N4.out.at (i := 7) rfl
              have n8 := N4.out.at (i := 8) rfl
              have n9 := N4.out.at (i := 9) rfl
              have n10 := N4.out.at (i := 10) rfl
              have n11 := N4.out.at (i := 11) rfl
              have n12 := N4.out.at (i := 12) rfl
              have n13 := N4.out.at (i := 13) rfl
              have n14 := N4.out.at (i := 14) rfl
              go_wp2_with fail
              clear x0 x1 x2 x3 x4 x5 x6 x7 x8 x9 x10 x11 x12 x13 x14 k0 k1 k2 k3 k4 k5 k6 k7 n0 n1 n2 n3 n4 n5 n6 n7 n8 n9 n10 n11 n12 n13 n14
              refine (WCheck_x { b with sum := 1099511627777 + u } _ (HRS.out.next B4.out) HFT.out).mono ?_
              rintro r w5 ⟨rfl, cc⟩
              have B5 := Lib.hid (chain B4.out cc)
              have RB5 := Lib.hid (RB4.out.next cc)
              have X5 := Lib.hid (X4.out.next cc)
              have N5 := Lib.hid (N4.out.next cc)
              clear cc
              rw [hbad.out]
              have k0 := RB5.out.b0
              have k1 := RB5.out.b1
              have k2 := RB5.out.b2
              have k3 := RB5.out.b3
              have k4 := RB5.out.b4
              have k5 := RB5.out.b5
              have k6 := RB5.out.b6
              have k7 := RB5.out.b7
              have n0 := N5.out.at (i := 0) rfl
              have n1 := N5.out.at (i := 1) rfl
              have n2 := N5.out.at (i := 2) rfl
              have n3 := N5.out.at (i := 3) rfl
              have n4 := N5.out.at (i := 4) rfl
              have n5 := N5.out.at (i := 5) rfl
              have n6 := N5.out.at (i := 6) rfl
              have n7 := N5.out.at (i := 7) rfl
              have n8 := N5.out.at (i := 8) rfl
              have n9 := N5.out.at (i := 9) rfl
              have n10 := N5.out.at (i := 10) rfl
              have n11 := N5.out.at (i := 11) rfl
              have n12 := N5.out.at (i := 12) rfl
              have n13 := N5.out.at (i := 13) rfl
              have n14 := N5.out.at (i := 14) rfl
              go_wp2_with fail
              clear k0 k1 k2 k3 k4 k5 k6 k7 n0 n1 n2 n3 n4 n5 n6 n7 n8 n9 n10 n11 n12 n13 n14
              refine (WText_x { b with sum := 1099511627777 + u } 0 _ (HRS.out.next B5.out) HFT.out (HE.out.next B5.out)).mono ?_
              rintro r w6 ⟨rfl, cc⟩
              have B6 := Lib.hid (chain B5.out cc)
              have RB6 := Lib.hid (RB5.out.next cc)
              have X6 := Lib.hid (X5.out.next cc)
              have N6 := Lib.hid (N5.out.next cc)
              clear cc
              rw [no_word hbad.out (by decide) 0]
              have hem := emp_list
              go_wp2_with fail
              go_ret
              exact ⟨rfl, B6.out⟩
          · as_aux_lemma =>
              have hbad := Lib.hid (bad_sum hk.out (v := -u) (by omega))
              have B4 := Lib.hid (chain B3.out (Below.new1 (.cells #[.int .i64 b.drawer, .int .i64 b.drawee, .int .i64 b.payee, .int .i64 (-u), .int .i64 b.cur, .int .i64 b.tk, .int .i64 b.tn, .int .i64 b.tu, .int .i64 b.day, .int .i64 b.city, .int .i64 b.pay, .int .i64 b.need, .int .i64 b.rate, .int .i64 b.flags, .int .i64 b.parts] 35)))
              have RB4 := Lib.hid (RB3.out.next (Below.new1 (.cells #[.int .i64 b.drawer, .int .i64 b.drawee, .int .i64 b.payee, .int .i64 (-u), .int .i64 b.cur, .int .i64 b.tk, .int .i64 b.tn, .int .i64 b.tu, .int .i64 b.day, .int .i64 b.city, .int .i64 b.pay, .int .i64 b.need, .int .i64 b.rate, .int .i64 b.flags, .int .i64 b.parts] 35)))
              have X4 := Lib.hid (X3.out.next (Below.new1 (.cells #[.int .i64 b.drawer, .int .i64 b.drawee, .int .i64 b.payee, .int .i64 (-u), .int .i64 b.cur, .int .i64 b.tk, .int .i64 b.tn, .int .i64 b.tu, .int .i64 b.day, .int .i64 b.city, .int .i64 b.pay, .int .i64 b.need, .int .i64 b.rate, .int .i64 b.flags, .int .i64 b.parts] 35)))
              have N4 : Hid (BB (wc.alloc (.cells #[.int .i64 b.drawer, .int .i64 b.drawee, .int .i64 b.payee, .int .i64 (-u), .int .i64 b.cur, .int .i64 b.tk, .int .i64 b.tn, .int .i64 b.tu, .int .i64 b.day, .int .i64 b.city, .int .i64 b.pay, .int .i64 b.need, .int .i64 b.rate, .int .i64 b.flags, .int .i64 b.parts] 35)) wc.heap.size { b with sum := -u }) := heap_alloc_new _ _
              have k0 := RB4.out.b0
              have k1 := RB4.out.b1
              have k2 := RB4.out.b2
              have k3 := RB4.out.b3
              have k4 := RB4.out.b4
              have k5 := RB4.out.b5
              have k6 := RB4.out.b6
              have k7 := RB4.out.b7
              have n0 := N4.out.at (i := 0) rfl
              have n1 := N4.out.at (i := 1) rfl
              have n2 := N4.out.at (i := 2) rfl
              have n3 := N4.out.at (i := 3) rfl
              have n4 := N4.out.at (i := 4) rfl
              have n5 := N4.out.at (i := 5) rfl
              have n6 := N4.out.at (i := 6) rfl
              have n7 := N4.out.at (i := 7) rfl
              have n8 := N4.out.at (i := 8) rfl
              have n9 := N4.out.at (i := 9) rfl
              have n10 := N4.out.at (i := 10) rfl
              have n11 := N4.out.at (i := 11) rfl
              have n12 := N4.out.at (i := 12) rfl
              have n13 := N4.out.at (i := 13) rfl
              have n14 := N4.out.at (i := 14) rfl
              go_wp2_with fail
              clear x0 x1 x2 x3 x4 x5 x6 x7 x8 x9 x10 x11 x12 x13 x14 k0 k1 k2 k3 k4 k5 k6 k7 n0 n1 n2 n3 n4 n5 n6 n7 n8 n9 n10 n11 n12 n13 n14
              refine (WCheck_x { b with sum := -u } _ (HRS.out.next B4.out) HFT.out).mono ?_
              rintro r w5 ⟨rfl, cc⟩
              have B5 := Lib.hid (chain B4.out cc)
              have RB5 := Lib.hid (RB4.out.next cc)
              have X5 := Lib.hid (X4.out.next cc)
              have N5 := Lib.hid (N4.out.next cc)
              clear cc
              rw [hbad.out]
              have k0 := RB5.out.b0
              have k1 := RB5.out.b1
              have k2 := RB5.out.b2
              have k3 := RB5.out.b3
              have k4 := RB5.out.b4
              have k5 := RB5.out.b5
              have k6 := RB5.out.b6
              have k7 := RB5.out.b7
              have n0 := N5.out.at (i := 0) rfl
              have n1 := N5.out.at (i := 1) rfl
              have n2 := N5.out.at (i := 2) rfl
              have n3 := N5.out.at (i := 3) rfl
              have n4 := N5.out.at (i := 4) rfl
              have n5 := N5.out.at (i := 5) rfl
              have n6 := N5.out.at (i := 6) rfl
              have n7 := N5.out.at (i := 7) rfl
              have n8 := N5.out.at (i := 8) rfl
              have n9 := N5.out.at (i := 9) rfl
              have n10 := N5.out.at (i := 10) rfl
              have n11 := N5.out.at (i := 11) rfl
              have n12 := N5.out.at (i := 12) rfl
              have n13 := N5.out.at (i := 13) rfl
              have n14 := N5.out.at (i := 14) rfl
              go_wp2_with fail
              clear k0 k1 k2 k3 k4 k5 k6 k7 n0 n1 n2 n3 n4 n5 n6 n7 n8 n9 n10 n11 n12 n13 n14
              refine (WText_x { b with sum := -u } 0 _ (HRS.out.next B5.out) HFT.out (HE.out.next B5.out)).mono ?_
              rintro r w6 ⟨rfl, cc⟩
              have B6 := Lib.hid (chain B5.out cc)
              have RB6 := Lib.hid (RB5.out.next cc)
              have X6 := Lib.hid (X5.out.next cc)
              have N6 := Lib.hid (N5.out.next cc)
              clear cc
              rw [no_word hbad.out (by decide) 0]
              have hem := emp_list
              go_wp2_with fail
              go_ret
              exact ⟨rfl, B6.out⟩
        rcases hwh with hm | hwh
        · cases low
          · as_aux_lemma =>
              have hbad := Lib.hid (bad_rate hk.out (v := 1001 + u) (by omega))
              have B4 := Lib.hid (chain B3.out (Below.new1 (.cells #[.int .i64 b.drawer, .int .i64 b.drawee, .int .i64 b.payee, .int .i64 b.sum, .int .i64 b.cur, .int .i64 b.tk, .int .i64 b.tn, .int .i64 b.tu, .int .i64 b.day, .int .i64 b.city, .int .i64 b.pay, .int .i64 b.need, .int .i64 (1001 + u), .int .i64 b.flags, .int .i64 b.parts] 35)))
              have RB4 := Lib.hid (RB3.out.next (Below.new1 (.cells #[.int .i64 b.drawer, .int .i64 b.drawee, .int .i64 b.payee, .int .i64 b.sum, .int .i64 b.cur, .int .i64 b.tk, .int .i64 b.tn, .int .i64 b.tu, .int .i64 b.day, .int .i64 b.city, .int .i64 b.pay, .int .i64 b.need, .int .i64 (1001 + u), .int .i64 b.flags, .int .i64 b.parts] 35)))
              have X4 := Lib.hid (X3.out.next (Below.new1 (.cells #[.int .i64 b.drawer, .int .i64 b.drawee, .int .i64 b.payee, .int .i64 b.sum, .int .i64 b.cur, .int .i64 b.tk, .int .i64 b.tn, .int .i64 b.tu, .int .i64 b.day, .int .i64 b.city, .int .i64 b.pay, .int .i64 b.need, .int .i64 (1001 + u), .int .i64 b.flags, .int .i64 b.parts] 35)))
              have N4 : Hid (BB (wc.alloc (.cells #[.int .i64 b.drawer, .int .i64 b.drawee, .int .i64 b.payee, .int .i64 b.sum, .int .i64 b.cur, .int .i64 b.tk, .int .i64 b.tn, .int .i64 b.tu, .int .i64 b.day, .int .i64 b.city, .int .i64 b.pay, .int .i64 b.need, .int .i64 (1001 + u), .int .i64 b.flags, .int .i64 b.parts] 35)) wc.heap.size { b with rate := 1001 + u }) := heap_alloc_new _ _
              have k0 := RB4.out.b0
              have k1 := RB4.out.b1
              have k2 := RB4.out.b2
              have k3 := RB4.out.b3
              have k4 := RB4.out.b4
              have k5 := RB4.out.b5
              have k6 := RB4.out.b6
              have k7 := RB4.out.b7
              have n0 := N4.out.at (i := 0) rfl
              have n1 := N4.out.at (i := 1) rfl
              have n2 := N4.out.at (i := 2) rfl
              have n3 := N4.out.at (i := 3) rfl
              have n4 := N4.out.at (i := 4) rfl
              have n5 := N4.out.at (i := 5) rfl
              have n6 := N4.out.at (i := 6) rfl
              have n7 := N4.out.at (i := 7) rfl
              have n8 := N4.out.at (i := 8) rfl
              have n9 := N4.out.at (i := 9) rfl
              have n10 := N4.out.at (i := 10) rfl
              have n11 := N4.out.at (i := 11) rfl
              have n12 := N4.out.at (i := 12) rfl
              have n13 := N4.out.at (i := 13) rfl
              have n14 := N4.out.at (i := 14) rfl
              go_wp2_with fail
              clear x0 x1 x2 x3 x4 x5 x6 x7 x8 x9 x10 x11 x12 x13 x14 k0 k1 k2 k3 k4 k5 k6 k7 n0 n1 n2 n3 n4 n5 n6 n7 n8 n9 n10 n11 n12 n13 n14
              refine (WCheck_x { b with rate := 1001 + u } _ (HRS.out.next B4.out) HFT.out).mono ?_
              rintro r w5 ⟨rfl, cc⟩
              have B5 := Lib.hid (chain B4.out cc)
              have RB5 := Lib.hid (RB4.out.next cc)
              have X5 := Lib.hid (X4.out.next cc)
              have N5 := Lib.hid (N4.out.next cc)
              clear cc
              rw [hbad.out]
              have k0 := RB5.out.b0
              have k1 := RB5.out.b1
              have k2 := RB5.out.b2
              have k3 := RB5.out.b3
              have k4 := RB5.out.b4
              have k5 := RB5.out.b5
              have k6 := RB5.out.b6
              have k7 := RB5.out.b7
              have n0 := N5.out.at (i := 0) rfl
              have n1 := N5.out.at (i := 1) rfl
              have n2 := N5.out.at (i := 2) rfl
              have n3 := N5.out.at (i := 3) rfl
              have n4 := N5.out.at (i := 4) rfl
              have n5 := N5.out.at (i := 5) rfl
              have n6 := N5.out.at (i := 6) rfl
              have n7 := N5.out.at (i := 7) rfl
              have n8 := N5.out.at (i := 8) rfl
              have n9 := N5.out.at (i := 9) rfl
              have n10 := N5.out.at (i := 10) rfl
              have n11 := N5.out.at (i := 11) rfl
              have n12 := N5.out.at (i := 12) rfl
              have n13 := N5.out.at (i := 13) rfl
              have n14 := N5.out.at (i := 14) rfl
              go_wp2_with fail
              clear k0 k1 k2 k3 k4 k5 k6 k7 n0 n1 n2 n3 n4 n5 n6 n7 n8 n9 n10 n11 n12 n13 n14
              refine (WText_x { b with rate := 1001 + u } 0 _ (HRS.out.next B5.out) HFT.out (HE.out.next B5.out)).mono ?_
              rintro r w6 ⟨rfl, cc⟩
              have B6 := Lib.hid (chain B5.out cc)
              have RB6 := Lib.hid (RB5.out.next cc)
              have X6 := Lib.hid (X5.out.next cc)
              have N6 := Lib.hid (N5.out.next cc)
              clear cc
              rw [no_word hbad.out (by decide) 0]
              have hem := emp_list
              go_wp2_with fail
              go_ret
              exact ⟨rfl, B6.out⟩
          · as_aux_lemma =>
              have hbad := Lib.hid (bad_rate hk.out (v := -1 - u) (by omega))
              have B4 := Lib.hid (chain B3.out (Below.new1 (.cells #[.int .i64 b.drawer, .int .i64 b.drawee, .int .i64 b.payee, .int .i64 b.sum, .int .i64 b.cur, .int .i64 b.tk, .int .i64 b.tn, .int .i64 b.tu, .int .i64 b.day, .int .i64 b.city, .int .i64 b.pay, .int .i64 b.need, .int .i64 (-1 - u), .int .i64 b.flags, .int .i64 b.parts] 35)))
              have RB4 := Lib.hid (RB3.out.next (Below.new1 (.cells #[.int .i64 b.drawer, .int .i64 b.drawee, .int .i64 b.payee, .int .i64 b.sum, .int .i64 b.cur, .int .i64 b.tk, .int .i64 b.tn, .int .i64 b.tu, .int .i64 b.day, .int .i64 b.city, .int .i64 b.pay, .int .i64 b.need, .int .i64 (-1 - u), .int .i64 b.flags, .int .i64 b.parts] 35)))
              have X4 := Lib.hid (X3.out.next (Below.new1 (.cells #[.int .i64 b.drawer, .int .i64 b.drawee, .int .i64 b.payee, .int .i64 b.sum, .int .i64 b.cur, .int .i64 b.tk, .int .i64 b.tn, .int .i64 b.tu, .int .i64 b.day, .int .i64 b.city, .int .i64 b.pay, .int .i64 b.need, .int .i64 (-1 - u), .int .i64 b.flags, .int .i64 b.parts] 35)))
              have N4 : Hid (BB (wc.alloc (.cells #[.int .i64 b.drawer, .int .i64 b.drawee, .int .i64 b.payee, .int .i64 b.sum, .int .i64 b.cur, .int .i64 b.tk, .int .i64 b.tn, .int .i64 b.tu, .int .i64 b.day, .int .i64 b.city, .int .i64 b.pay, .int .i64 b.need, .int .i64 (-1 - u), .int .i64 b.flags, .int .i64 b.parts] 35)) wc.heap.size { b with rate := -1 - u }) := heap_alloc_new _ _
              have k0 := RB4.out.b0
              have k1 := RB4.out.b1
              have k2 := RB4.out.b2
              have k3 := RB4.out.b3
              have k4 := RB4.out.b4
              have k5 := RB4.out.b5
              have k6 := RB4.out.b6
              have k7 := RB4.out.b7
              have n0 := N4.out.at (i := 0) rfl
              have n1 := N4.out.at (i := 1) rfl
              have n2 := N4.out.at (i := 2) rfl
              have n3 := N4.out.at (i := 3) rfl
              have n4 := N4.out.at (i := 4) rfl
              have n5 := N4.out.at (i := 5) rfl
              have n6 := N4.out.at (i := 6) rfl
              have n7 := N4.out.at (i := 7) rfl
              have n8 := N4.out.at (i := 8) rfl
              have n9 := N4.out.at (i := 9) rfl
              have n10 := N4.out.at (i := 10) rfl
              have n11 := N4.out.at (i := 11) rfl
              have n12 := N4.out.at (i := 12) rfl
              have n13 := N4.out.at (i := 13) rfl
              have n14 := N4.out.at (i := 14) rfl
              go_wp2_with fail
              clear x0 x1 x2 x3 x4 x5 x6 x7 x8 x9 x10 x11 x12 x13 x14 k0 k1 k2 k3 k4 k5 k6 k7 n0 n1 n2 n3 n4 n5 n6 n7 n8 n9 n10 n11 n12 n13 n14
              refine (WCheck_x { b with rate := -1 - u } _ (HRS.out.next B4.out) HFT.out).mono ?_
              rintro r w5 ⟨rfl, cc⟩
              have B5 := Lib.hid (chain B4.out cc)
              have RB5 := Lib.hid (RB4.out.next cc)
              have X5 := Lib.hid (X4.out.next cc)
              have N5 := Lib.hid (N4.out.next cc)
              clear cc
              rw [hbad.out]
              have k0 := RB5.out.b0
              have k1 := RB5.out.b1
              have k2 := RB5.out.b2
              have k3 := RB5.out.b3
              have k4 := RB5.out.b4
              have k5 := RB5.out.b5
              have k6 := RB5.out.b6
              have k7 := RB5.out.b7
              have n0 := N5.out.at (i := 0) rfl
              have n1 := N5.out.at (i := 1) rfl
              have n2 := N5.out.at (i := 2) rfl
              have n3 := N5.out.at (i := 3) rfl
              have n4 := N5.out.at (i := 4) rfl
              have n5 := N5.out.at (i := 5) rfl
              have n6 := N5.out.at (i := 6) rfl
              have n7 := N5.out.at (i := 7) rfl
              have n8 := N5.out.at (i := 8) rfl
              have n9 := N5.out.at (i := 9) rfl
              have n10 := N5.out.at (i := 10) rfl
              have n11 := N5.out.at (i := 11) rfl
              have n12 := N5.out.at (i := 12) rfl
              have n13 := N5.out.at (i := 13) rfl
              have n14 := N5.out.at (i := 14) rfl
              go_wp2_with fail
              clear k0 k1 k2 k3 k4 k5 k6 k7 n0 n1 n2 n3 n4 n5 n6 n7 n8 n9 n10 n11 n12 n13 n14
              refine (WText_x { b with rate := -1 - u } 0 _ (HRS.out.next B5.out) HFT.out (HE.out.next B5.out)).mono ?_
              rintro r w6 ⟨rfl, cc⟩
              have B6 := Lib.hid (chain B5.out cc)
              have RB6 := Lib.hid (RB5.out.next cc)
              have X6 := Lib.hid (X5.out.next cc)
              have N6 := Lib.hid (N5.out.next cc)
              clear cc
              rw [no_word hbad.out (by decide) 0]
              have hem := emp_list
              go_wp2_with fail
              go_ret
              exact ⟨rfl, B6.out⟩
        rcases hwh with hm | hwh
        · cases low
          · as_aux_lemma =>
              have hbad := Lib.hid (bad_parts hk.out (v := 5 + u) (by omega))
              have B4 := Lib.hid (chain B3.out (Below.new1 (.cells #[.int .i64 b.drawer, .int .i64 b.drawee, .int .i64 b.payee, .int .i64 b.sum, .int .i64 b.cur, .int .i64 b.tk, .int .i64 b.tn, .int .i64 b.tu, .int .i64 b.day, .int .i64 b.city, .int .i64 b.pay, .int .i64 b.need, .int .i64 b.rate, .int .i64 b.flags, .int .i64 (5 + u)] 35)))
              have RB4 := Lib.hid (RB3.out.next (Below.new1 (.cells #[.int .i64 b.drawer, .int .i64 b.drawee, .int .i64 b.payee, .int .i64 b.sum, .int .i64 b.cur, .int .i64 b.tk, .int .i64 b.tn, .int .i64 b.tu, .int .i64 b.day, .int .i64 b.city, .int .i64 b.pay, .int .i64 b.need, .int .i64 b.rate, .int .i64 b.flags, .int .i64 (5 + u)] 35)))
              have X4 := Lib.hid (X3.out.next (Below.new1 (.cells #[.int .i64 b.drawer, .int .i64 b.drawee, .int .i64 b.payee, .int .i64 b.sum, .int .i64 b.cur, .int .i64 b.tk, .int .i64 b.tn, .int .i64 b.tu, .int .i64 b.day, .int .i64 b.city, .int .i64 b.pay, .int .i64 b.need, .int .i64 b.rate, .int .i64 b.flags, .int .i64 (5 + u)] 35)))
              have N4 : Hid (BB (wc.alloc (.cells #[.int .i64 b.drawer, .int .i64 b.drawee, .int .i64 b.payee, .int .i64 b.sum, .int .i64 b.cur, .int .i64 b.tk, .int .i64 b.tn, .int .i64 b.tu, .int .i64 b.day, .int .i64 b.city, .int .i64 b.pay, .int .i64 b.need, .int .i64 b.rate, .int .i64 b.flags, .int .i64 (5 + u)] 35)) wc.heap.size { b with parts := 5 + u }) := heap_alloc_new _ _
              have k0 := RB4.out.b0
              have k1 := RB4.out.b1
              have k2 := RB4.out.b2
              have k3 := RB4.out.b3
              have k4 := RB4.out.b4
              have k5 := RB4.out.b5
              have k6 := RB4.out.b6
              have k7 := RB4.out.b7
              have n0 := N4.out.at (i := 0) rfl
              have n1 := N4.out.at (i := 1) rfl
              have n2 := N4.out.at (i := 2) rfl
              have n3 := N4.out.at (i := 3) rfl
              have n4 := N4.out.at (i := 4) rfl
              have n5 := N4.out.at (i := 5) rfl
              have n6 := N4.out.at (i := 6) rfl
              have n7 := N4.out.at (i := 7) rfl
              have n8 := N4.out.at (i := 8) rfl
              have n9 := N4.out.at (i := 9) rfl
              have n10 := N4.out.at (i := 10) rfl
              have n11 := N4.out.at (i := 11) rfl
              have n12 := N4.out.at (i := 12) rfl
              have n13 := N4.out.at (i := 13) rfl
              have n14 := N4.out.at (i := 14) rfl
              go_wp2_with fail
              clear x0 x1 x2 x3 x4 x5 x6 x7 x8 x9 x10 x11 x12 x13 x14 k0 k1 k2 k3 k4 k5 k6 k7 n0 n1 n2 n3 n4 n5 n6 n7 n8 n9 n10 n11 n12 n13 n14
              refine (WCheck_x { b with parts := 5 + u } _ (HRS.out.next B4.out) HFT.out).mono ?_
              rintro r w5 ⟨rfl, cc⟩
              have B5 := Lib.hid (chain B4.out cc)
              have RB5 := Lib.hid (RB4.out.next cc)
              have X5 := Lib.hid (X4.out.next cc)
              have N5 := Lib.hid (N4.out.next cc)
              clear cc
              rw [hbad.out]
              have k0 := RB5.out.b0
              have k1 := RB5.out.b1
              have k2 := RB5.out.b2
              have k3 := RB5.out.b3
              have k4 := RB5.out.b4
              have k5 := RB5.out.b5
              have k6 := RB5.out.b6
              have k7 := RB5.out.b7
              have n0 := N5.out.at (i := 0) rfl
              have n1 := N5.out.at (i := 1) rfl
              have n2 := N5.out.at (i := 2) rfl
              have n3 := N5.out.at (i := 3) rfl
              have n4 := N5.out.at (i := 4) rfl
              have n5 := N5.out.at (i := 5) rfl
              have n6 := N5.out.at (i := 6) rfl
              have n7 := N5.out.at (i := 7) rfl
              have n8 := N5.out.at (i := 8) rfl
              have n9 := N5.out.at (i := 9) rfl
              have n10 := N5.out.at (i := 10) rfl
              have n11 := N5.out.at (i := 11) rfl
              have n12 := N5.out.at (i := 12) rfl
              have n13 := N5.out.at (i := 13) rfl
              have n14 := N5.out.at (i := 14) rfl
              go_wp2_with fail
              clear k0 k1 k2 k3 k4 k5 k6 k7 n0 n1 n2 n3 n4 n5 n6 n7 n8 n9 n10 n11 n12 n13 n14
              refine (WText_x { b with parts := 5 + u } 0 _ (HRS.out.next B5.out) HFT.out (HE.out.next B5.out)).mono ?_
              rintro r w6 ⟨rfl, cc⟩
              have B6 := Lib.hid (chain B5.out cc)
              have RB6 := Lib.hid (RB5.out.next cc)
              have X6 := Lib.hid (X5.out.next cc)
              have N6 := Lib.hid (N5.out.next cc)
              clear cc
              rw [no_word hbad.out (by decide) 0]
              have hem := emp_list
              go_wp2_with fail
              go_ret
              exact ⟨rfl, B6.out⟩
          · as_aux_lemma =>
              have hbad := Lib.hid (bad_parts hk.out (v := -u) (by omega))
              have B4 := Lib.hid (chain B3.out (Below.new1 (.cells #[.int .i64 b.drawer, .int .i64 b.drawee, .int .i64 b.payee, .int .i64 b.sum, .int .i64 b.cur, .int .i64 b.tk, .int .i64 b.tn, .int .i64 b.tu, .int .i64 b.day, .int .i64 b.city, .int .i64 b.pay, .int .i64 b.need, .int .i64 b.rate, .int .i64 b.flags, .int .i64 (-u)] 35)))
              have RB4 := Lib.hid (RB3.out.next (Below.new1 (.cells #[.int .i64 b.drawer, .int .i64 b.drawee, .int .i64 b.payee, .int .i64 b.sum, .int .i64 b.cur, .int .i64 b.tk, .int .i64 b.tn, .int .i64 b.tu, .int .i64 b.day, .int .i64 b.city, .int .i64 b.pay, .int .i64 b.need, .int .i64 b.rate, .int .i64 b.flags, .int .i64 (-u)] 35)))
              have X4 := Lib.hid (X3.out.next (Below.new1 (.cells #[.int .i64 b.drawer, .int .i64 b.drawee, .int .i64 b.payee, .int .i64 b.sum, .int .i64 b.cur, .int .i64 b.tk, .int .i64 b.tn, .int .i64 b.tu, .int .i64 b.day, .int .i64 b.city, .int .i64 b.pay, .int .i64 b.need, .int .i64 b.rate, .int .i64 b.flags, .int .i64 (-u)] 35)))
              have N4 : Hid (BB (wc.alloc (.cells #[.int .i64 b.drawer, .int .i64 b.drawee, .int .i64 b.payee, .int .i64 b.sum, .int .i64 b.cur, .int .i64 b.tk, .int .i64 b.tn, .int .i64 b.tu, .int .i64 b.day, .int .i64 b.city, .int .i64 b.pay, .int .i64 b.need, .int .i64 b.rate, .int .i64 b.flags, .int .i64 (-u)] 35)) wc.heap.size { b with parts := -u }) := heap_alloc_new _ _
              have k0 := RB4.out.b0
              have k1 := RB4.out.b1
              have k2 := RB4.out.b2
              have k3 := RB4.out.b3
              have k4 := RB4.out.b4
              have k5 := RB4.out.b5
              have k6 := RB4.out.b6
              have k7 := RB4.out.b7
              have n0 := N4.out.at (i := 0) rfl
              have n1 := N4.out.at (i := 1) rfl
              have n2 := N4.out.at (i := 2) rfl
              have n3 := N4.out.at (i := 3) rfl
              have n4 := N4.out.at (i := 4) rfl
              have n5 := N4.out.at (i := 5) rfl
              have n6 := N4.out.at (i := 6) rfl
              have n7 := N4.out.at (i := 7) rfl
              have n8 := N4.out.at (i := 8) rfl
              have n9 := N4.out.at (i := 9) rfl
              have n10 := N4.out.at (i := 10) rfl
              have n11 := N4.out.at (i := 11) rfl
              have n12 := N4.out.at (i := 12) rfl
              have n13 := N4.out.at (i := 13) rfl
              have n14 := N4.out.at (i := 14) rfl
              go_wp2_with fail
              clear x0 x1 x2 x3 x4 x5 x6 x7 x8 x9 x10 x11 x12 x13 x14 k0 k1 k2 k3 k4 k5 k6 k7 n0 n1 n2 n3 n4 n5 n6 n7 n8 n9 n10 n11 n12 n13 n14
              refine (WCheck_x { b with parts := -u } _ (HRS.out.next B4.out) HFT.out).mono ?_
              rintro r w5 ⟨rfl, cc⟩
              have B5 := Lib.hid (chain B4.out cc)
              have RB5 := Lib.hid (RB4.out.next cc)
              have X5 := Lib.hid (X4.out.next cc)
              have N5 := Lib.hid (N4.out.next cc)
              clear cc
              rw [hbad.out]
              have k0 := RB5.out.b0
              have k1 := RB5.out.b1
              have k2 := RB5.out.b2
              have k3 := RB5.out.b3
              have k4 := RB5.out.b4
              have k5 := RB5.out.b5
              have k6 := RB5.out.b6
              have k7 := RB5.out.b7
              have n0 := N5.out.at (i := 0) rfl
              have n1 := N5.out.at (i := 1) rfl
              have n2 := N5.out.at (i := 2) rfl
              have n3 := N5.out.at (i := 3) rfl
              have n4 := N5.out.at (i := 4) rfl
              have n5 := N5.out.at (i := 5) rfl
              have n6 := N5.out.at (i := 6) rfl
              have n7 := N5.out.at (i := 7) rfl
              have n8 := N5.out.at (i := 8) rfl
              have n9 := N5.out.at (i := 9) rfl
              have n10 := N5.out.at (i := 10) rfl
              have n11 := N5.out.at (i := 11) rfl
              have n12 := N5.out.at (i := 12) rfl
              have n13 := N5.out.at (i := 13) rfl
              have n14 := N5.out.at (i := 14) rfl
              go_wp2_with fail
              clear k0 k1 k2 k3 k4 k5 k6 k7 n0 n1 n2 n3 n4 n5 n6 n7 n8 n9 n10 n11 n12 n13 n14
              refine (WText_x { b with parts := -u } 0 _ (HRS.out.next B5.out) HFT.out (HE.out.next B5.out)).mono ?_
              rintro r w6 ⟨rfl, cc⟩
              have B6 := Lib.hid (chain B5.out cc)
              have RB6 := Lib.hid (RB5.out.next cc)
              have X6 := Lib.hid (X5.out.next cc)
              have N6 := Lib.hid (N5.out.next cc)
              clear cc
              rw [no_word hbad.out (by decide) 0]
              have hem := emp_list
              go_wp2_with fail
              go_ret
              exact ⟨rfl, B6.out⟩
        rcases hwh with hm | hwh
        · cases low
          · as_aux_lemma =>
              have hbad := Lib.hid (bad_flags hk.out (v := 8 + u) (by omega))
              have B4 := Lib.hid (chain B3.out (Below.new1 (.cells #[.int .i64 b.drawer, .int .i64 b.drawee, .int .i64 b.payee, .int .i64 b.sum, .int .i64 b.cur, .int .i64 b.tk, .int .i64 b.tn, .int .i64 b.tu, .int .i64 b.day, .int .i64 b.city, .int .i64 b.pay, .int .i64 b.need, .int .i64 b.rate, .int .i64 (8 + u), .int .i64 b.parts] 35)))
              have RB4 := Lib.hid (RB3.out.next (Below.new1 (.cells #[.int .i64 b.drawer, .int .i64 b.drawee, .int .i64 b.payee, .int .i64 b.sum, .int .i64 b.cur, .int .i64 b.tk, .int .i64 b.tn, .int .i64 b.tu, .int .i64 b.day, .int .i64 b.city, .int .i64 b.pay, .int .i64 b.need, .int .i64 b.rate, .int .i64 (8 + u), .int .i64 b.parts] 35)))
              have X4 := Lib.hid (X3.out.next (Below.new1 (.cells #[.int .i64 b.drawer, .int .i64 b.drawee, .int .i64 b.payee, .int .i64 b.sum, .int .i64 b.cur, .int .i64 b.tk, .int .i64 b.tn, .int .i64 b.tu, .int .i64 b.day, .int .i64 b.city, .int .i64 b.pay, .int .i64 b.need, .int .i64 b.rate, .int .i64 (8 + u), .int .i64 b.parts] 35)))
              have N4 : Hid (BB (wc.alloc (.cells #[.int .i64 b.drawer, .int .i64 b.drawee, .int .i64 b.payee, .int .i64 b.sum, .int .i64 b.cur, .int .i64 b.tk, .int .i64 b.tn, .int .i64 b.tu, .int .i64 b.day, .int .i64 b.city, .int .i64 b.pay, .int .i64 b.need, .int .i64 b.rate, .int .i64 (8 + u), .int .i64 b.parts] 35)) wc.heap.size { b with flags := 8 + u }) := heap_alloc_new _ _
              have k0 := RB4.out.b0
              have k1 := RB4.out.b1
              have k2 := RB4.out.b2
              have k3 := RB4.out.b3
              have k4 := RB4.out.b4
              have k5 := RB4.out.b5
              have k6 := RB4.out.b6
              have k7 := RB4.out.b7
              have n0 := N4.out.at (i := 0) rfl
              have n1 := N4.out.at (i := 1) rfl
              have n2 := N4.out.at (i := 2) rfl
              have n3 := N4.out.at (i := 3) rfl
              have n4 := N4.out.at (i := 4) rfl
              have n5 := N4.out.at (i := 5) rfl
              have n6 := N4.out.at (i := 6) rfl
              have n7 := N4.out.at (i := 7) rfl
              have n8 := N4.out.at (i := 8) rfl
              have n9 := N4.out.at (i := 9) rfl
              have n10 := N4.out.at (i := 10) rfl
              have n11 := N4.out.at (i := 11) rfl
              have n12 := N4.out.at (i := 12) rfl
              have n13 := N4.out.at (i := 13) rfl
              have n14 := N4.out.at (i := 14) rfl
              go_wp2_with fail
              clear x0 x1 x2 x3 x4 x5 x6 x7 x8 x9 x10 x11 x12 x13 x14 k0 k1 k2 k3 k4 k5 k6 k7 n0 n1 n2 n3 n4 n5 n6 n7 n8 n9 n10 n11 n12 n13 n14
              refine (WCheck_x { b with flags := 8 + u } _ (HRS.out.next B4.out) HFT.out).mono ?_
              rintro r w5 ⟨rfl, cc⟩
              have B5 := Lib.hid (chain B4.out cc)
              have RB5 := Lib.hid (RB4.out.next cc)
              have X5 := Lib.hid (X4.out.next cc)
              have N5 := Lib.hid (N4.out.next cc)
              clear cc
              rw [hbad.out]
              have k0 := RB5.out.b0
              have k1 := RB5.out.b1
              have k2 := RB5.out.b2
              have k3 := RB5.out.b3
              have k4 := RB5.out.b4
              have k5 := RB5.out.b5
              have k6 := RB5.out.b6
              have k7 := RB5.out.b7
              have n0 := N5.out.at (i := 0) rfl
              have n1 := N5.out.at (i := 1) rfl
              have n2 := N5.out.at (i := 2) rfl
              have n3 := N5.out.at (i := 3) rfl
              have n4 := N5.out.at (i := 4) rfl
              have n5 := N5.out.at (i := 5) rfl
              have n6 := N5.out.at (i := 6) rfl
              have n7 := N5.out.at (i := 7) rfl
              have n8 := N5.out.at (i := 8) rfl
              have n9 := N5.out.at (i := 9) rfl
              have n10 := N5.out.at (i := 10) rfl
              have n11 := N5.out.at (i := 11) rfl
              have n12 := N5.out.at (i := 12) rfl
              have n13 := N5.out.at (i := 13) rfl
              have n14 := N5.out.at (i := 14) rfl
              go_wp2_with fail
              clear k0 k1 k2 k3 k4 k5 k6 k7 n0 n1 n2 n3 n4 n5 n6 n7 n8 n9 n10 n11 n12 n13 n14
              refine (WText_x { b with flags := 8 + u } 0 _ (HRS.out.next B5.out) HFT.out (HE.out.next B5.out)).mono ?_
              rintro r w6 ⟨rfl, cc⟩
              have B6 := Lib.hid (chain B5.out cc)
              have RB6 := Lib.hid (RB5.out.next cc)
              have X6 := Lib.hid (X5.out.next cc)
              have N6 := Lib.hid (N5.out.next cc)
              clear cc
              rw [no_word hbad.out (by decide) 0]
              have hem := emp_list
              go_wp2_with fail
              go_ret
              exact ⟨rfl, B6.out⟩
          · as_aux_lemma =>
              have hbad := Lib.hid (bad_flags hk.out (v := -1 - u) (by omega))
              have B4 := Lib.hid (chain B3.out (Below.new1 (.cells #[.int .i64 b.drawer, .int .i64 b.drawee, .int .i64 b.payee, .int .i64 b.sum, .int .i64 b.cur, .int .i64 b.tk, .int .i64 b.tn, .int .i64 b.tu, .int .i64 b.day, .int .i64 b.city, .int .i64 b.pay, .int .i64 b.need, .int .i64 b.rate, .int .i64 (-1 - u), .int .i64 b.parts] 35)))
              have RB4 := Lib.hid (RB3.out.next (Below.new1 (.cells #[.int .i64 b.drawer, .int .i64 b.drawee, .int .i64 b.payee, .int .i64 b.sum, .int .i64 b.cur, .int .i64 b.tk, .int .i64 b.tn, .int .i64 b.tu, .int .i64 b.day, .int .i64 b.city, .int .i64 b.pay, .int .i64 b.need, .int .i64 b.rate, .int .i64 (-1 - u), .int .i64 b.parts] 35)))
              have X4 := Lib.hid (X3.out.next (Below.new1 (.cells #[.int .i64 b.drawer, .int .i64 b.drawee, .int .i64 b.payee, .int .i64 b.sum, .int .i64 b.cur, .int .i64 b.tk, .int .i64 b.tn, .int .i64 b.tu, .int .i64 b.day, .int .i64 b.city, .int .i64 b.pay, .int .i64 b.need, .int .i64 b.rate, .int .i64 (-1 - u), .int .i64 b.parts] 35)))
              have N4 : Hid (BB (wc.alloc (.cells #[.int .i64 b.drawer, .int .i64 b.drawee, .int .i64 b.payee, .int .i64 b.sum, .int .i64 b.cur, .int .i64 b.tk, .int .i64 b.tn, .int .i64 b.tu, .int .i64 b.day, .int .i64 b.city, .int .i64 b.pay, .int .i64 b.need, .int .i64 b.rate, .int .i64 (-1 - u), .int .i64 b.parts] 35)) wc.heap.size { b with flags := -1 - u }) := heap_alloc_new _ _
              have k0 := RB4.out.b0
              have k1 := RB4.out.b1
              have k2 := RB4.out.b2
              have k3 := RB4.out.b3
              have k4 := RB4.out.b4
              have k5 := RB4.out.b5
              have k6 := RB4.out.b6
              have k7 := RB4.out.b7
              have n0 := N4.out.at (i := 0) rfl
              have n1 := N4.out.at (i := 1) rfl
              have n2 := N4.out.at (i := 2) rfl
              have n3 := N4.out.at (i := 3) rfl
              have n4 := N4.out.at (i := 4) rfl
              have n5 := N4.out.at (i := 5) rfl
              have n6 := N4.out.at (i := 6) rfl
              have n7 := N4.out.at (i := 7) rfl
              have n8 := N4.out.at (i := 8) rfl
              have n9 := N4.out.at (i := 9) rfl
              have n10 := N4.out.at (i := 10) rfl
              have n11 := N4.out.at (i := 11) rfl
              have n12 := N4.out.at (i := 12) rfl
              have n13 := N4.out.at (i := 13) rfl
              have n14 := N4.out.at (i := 14) rfl
              go_wp2_with fail
              clear x0 x1 x2 x3 x4 x5 x6 x7 x8 x9 x10 x11 x12 x13 x14 k0 k1 k2 k3 k4 k5 k6 k7 n0 n1 n2 n3 n4 n5 n6 n7 n8 n9 n10 n11 n12 n13 n14
              refine (WCheck_x { b with flags := -1 - u } _ (HRS.out.next B4.out) HFT.out).mono ?_
              rintro r w5 ⟨rfl, cc⟩
              have B5 := Lib.hid (chain B4.out cc)
              have RB5 := Lib.hid (RB4.out.next cc)
              have X5 := Lib.hid (X4.out.next cc)
              have N5 := Lib.hid (N4.out.next cc)
              clear cc
              rw [hbad.out]
              have k0 := RB5.out.b0
              have k1 := RB5.out.b1
              have k2 := RB5.out.b2
              have k3 := RB5.out.b3
              have k4 := RB5.out.b4
              have k5 := RB5.out.b5
              have k6 := RB5.out.b6
              have k7 := RB5.out.b7
              have n0 := N5.out.at (i := 0) rfl
              have n1 := N5.out.at (i := 1) rfl
              have n2 := N5.out.at (i := 2) rfl
              have n3 := N5.out.at (i := 3) rfl
              have n4 := N5.out.at (i := 4) rfl
              have n5 := N5.out.at (i := 5) rfl
              have n6 := N5.out.at (i := 6) rfl
              have n7 := N5.out.at (i := 7) rfl
              have n8 := N5.out.at (i := 8) rfl
              have n9 := N5.out.at (i := 9) rfl
              have n10 := N5.out.at (i := 10) rfl
              have n11 := N5.out.at (i := 11) rfl
              have n12 := N5.out.at (i := 12) rfl
              have n13 := N5.out.at (i := 13) rfl
              have n14 := N5.out.at (i := 14) rfl
              go_wp2_with fail
              clear k0 k1 k2 k3 k4 k5 k6 k7 n0 n1 n2 n3 n4 n5 n6 n7 n8 n9 n10 n11 n12 n13 n14
              refine (WText_x { b with flags := -1 - u } 0 _ (HRS.out.next B5.out) HFT.out (HE.out.next B5.out)).mono ?_
              rintro r w6 ⟨rfl, cc⟩
              have B6 := Lib.hid (chain B5.out cc)
              have RB6 := Lib.hid (RB5.out.next cc)
              have X6 := Lib.hid (X5.out.next cc)
              have N6 := Lib.hid (N5.out.next cc)
              clear cc
              rw [no_word hbad.out (by decide) 0]
              have hem := emp_list
              go_wp2_with fail
              go_ret
              exact ⟨rfl, B6.out⟩
        have hm := hwh
        cases low
        · as_aux_lemma =>
            have hbad := Lib.hid (bad_kind hk.out (v := 5 + u) (by omega))
            have B4 := Lib.hid (chain B3.out (Below.new1 (.cells #[.int .i64 b.drawer, .int .i64 b.drawee, .int .i64 b.payee, .int .i64 b.sum, .int .i64 b.cur, .int .i64 (5 + u), .int .i64 b.tn, .int .i64 b.tu, .int .i64 b.day, .int .i64 b.city, .int .i64 b.pay, .int .i64 b.need, .int .i64 b.rate, .int .i64 b.flags, .int .i64 b.parts] 35)))
            have RB4 := Lib.hid (RB3.out.next (Below.new1 (.cells #[.int .i64 b.drawer, .int .i64 b.drawee, .int .i64 b.payee, .int .i64 b.sum, .int .i64 b.cur, .int .i64 (5 + u), .int .i64 b.tn, .int .i64 b.tu, .int .i64 b.day, .int .i64 b.city, .int .i64 b.pay, .int .i64 b.need, .int .i64 b.rate, .int .i64 b.flags, .int .i64 b.parts] 35)))
            have X4 := Lib.hid (X3.out.next (Below.new1 (.cells #[.int .i64 b.drawer, .int .i64 b.drawee, .int .i64 b.payee, .int .i64 b.sum, .int .i64 b.cur, .int .i64 (5 + u), .int .i64 b.tn, .int .i64 b.tu, .int .i64 b.day, .int .i64 b.city, .int .i64 b.pay, .int .i64 b.need, .int .i64 b.rate, .int .i64 b.flags, .int .i64 b.parts] 35)))
            have N4 : Hid (BB (wc.alloc (.cells #[.int .i64 b.drawer, .int .i64 b.drawee, .int .i64 b.payee, .int .i64 b.sum, .int .i64 b.cur, .int .i64 (5 + u), .int .i64 b.tn, .int .i64 b.tu, .int .i64 b.day, .int .i64 b.city, .int .i64 b.pay, .int .i64 b.need, .int .i64 b.rate, .int .i64 b.flags, .int .i64 b.parts] 35)) wc.heap.size { b with tk := 5 + u }) := heap_alloc_new _ _
            have k0 := RB4.out.b0
            have k1 := RB4.out.b1
            have k2 := RB4.out.b2
            have k3 := RB4.out.b3
            have k4 := RB4.out.b4
            have k5 := RB4.out.b5
            have k6 := RB4.out.b6
            have k7 := RB4.out.b7
            have n0 := N4.out.at (i := 0) rfl
            have n1 := N4.out.at (i := 1) rfl
            have n2 := N4.out.at (i := 2) rfl
            have n3 := N4.out.at (i := 3) rfl
            have n4 := N4.out.at (i := 4) rfl
            have n5 := N4.out.at (i := 5) rfl
            have n6 := N4.out.at (i := 6) rfl
            have n7 := N4.out.at (i := 7) rfl
            have n8 := N4.out.at (i := 8) rfl
            have n9 := N4.out.at (i := 9) rfl
            have n10 := N4.out.at (i := 10) rfl
            have n11 := N4.out.at (i := 11) rfl
            have n12 := N4.out.at (i := 12) rfl
            have n13 := N4.out.at (i := 13) rfl
            have n14 := N4.out.at (i := 14) rfl
            go_wp2_with fail
            clear x0 x1 x2 x3 x4 x5 x6 x7 x8 x9 x10 x11 x12 x13 x14 k0 k1 k2 k3 k4 k5 k6 k7 n0 n1 n2 n3 n4 n5 n6 n7 n8 n9 n10 n11 n12 n13 n14
            refine (WCheck_x { b with tk := 5 + u } _ (HRS.out.next B4.out) HFT.out).mono ?_
            rintro r w5 ⟨rfl, cc⟩
            have B5 := Lib.hid (chain B4.out cc)
            have RB5 := Lib.hid (RB4.out.next cc)
            have X5 := Lib.hid (X4.out.next cc)
            have N5 := Lib.hid (N4.out.next cc)
            clear cc
            rw [hbad.out]
            have k0 := RB5.out.b0
            have k1 := RB5.out.b1
            have k2 := RB5.out.b2
            have k3 := RB5.out.b3
            have k4 := RB5.out.b4
            have k5 := RB5.out.b5
            have k6 := RB5.out.b6
            have k7 := RB5.out.b7
            have n0 := N5.out.at (i := 0) rfl
            have n1 := N5.out.at (i := 1) rfl
            have n2 := N5.out.at (i := 2) rfl
            have n3 := N5.out.at (i := 3) rfl
            have n4 := N5.out.at (i := 4) rfl
            have n5 := N5.out.at (i := 5) rfl
            have n6 := N5.out.at (i := 6) rfl
            have n7 := N5.out.at (i := 7) rfl
            have n8 := N5.out.at (i := 8) rfl
            have n9 := N5.out.at (i := 9) rfl
            have n10 := N5.out.at (i := 10) rfl
            have n11 := N5.out.at (i := 11) rfl
            have n12 := N5.out.at (i := 12) rfl
            have n13 := N5.out.at (i := 13) rfl
            have n14 := N5.out.at (i := 14) rfl
            go_wp2_with fail
            clear k0 k1 k2 k3 k4 k5 k6 k7 n0 n1 n2 n3 n4 n5 n6 n7 n8 n9 n10 n11 n12 n13 n14
            refine (WText_x { b with tk := 5 + u } 0 _ (HRS.out.next B5.out) HFT.out (HE.out.next B5.out)).mono ?_
            rintro r w6 ⟨rfl, cc⟩
            have B6 := Lib.hid (chain B5.out cc)
            have RB6 := Lib.hid (RB5.out.next cc)
            have X6 := Lib.hid (X5.out.next cc)
            have N6 := Lib.hid (N5.out.next cc)
            clear cc
            rw [no_word hbad.out (by decide) 0]
            have hem := emp_list
            go_wp2_with fail
            go_ret
            exact ⟨rfl, B6.out⟩
        · as_aux_lemma =>
            have hbad := Lib.hid (bad_kind hk.out (v := -1 - u) (by omega))
            have B4 := Lib.hid (chain B3.out (Below.new1 (.cells #[.int .i64 b.drawer, .int .i64 b.drawee, .int .i64 b.payee, .int .i64 b.sum, .int .i64 b.cur, .int .i64 (-1 - u), .int .i64 b.tn, .int .i64 b.tu, .int .i64 b.day, .int .i64 b.city, .int .i64 b.pay, .int .i64 b.need, .int .i64 b.rate, .int .i64 b.flags, .int .i64 b.parts] 35)))
            have RB4 := Lib.hid (RB3.out.next (Below.new1 (.cells #[.int .i64 b.drawer, .int .i64 b.drawee, .int .i64 b.payee, .int .i64 b.sum, .int .i64 b.cur, .int .i64 (-1 - u), .int .i64 b.tn, .int .i64 b.tu, .int .i64 b.day, .int .i64 b.city, .int .i64 b.pay, .int .i64 b.need, .int .i64 b.rate, .int .i64 b.flags, .int .i64 b.parts] 35)))
            have X4 := Lib.hid (X3.out.next (Below.new1 (.cells #[.int .i64 b.drawer, .int .i64 b.drawee, .int .i64 b.payee, .int .i64 b.sum, .int .i64 b.cur, .int .i64 (-1 - u), .int .i64 b.tn, .int .i64 b.tu, .int .i64 b.day, .int .i64 b.city, .int .i64 b.pay, .int .i64 b.need, .int .i64 b.rate, .int .i64 b.flags, .int .i64 b.parts] 35)))
            have N4 : Hid (BB (wc.alloc (.cells #[.int .i64 b.drawer, .int .i64 b.drawee, .int .i64 b.payee, .int .i64 b.sum, .int .i64 b.cur, .int .i64 (-1 - u), .int .i64 b.tn, .int .i64 b.tu, .int .i64 b.day, .int .i64 b.city, .int .i64 b.pay, .int .i64 b.need, .int .i64 b.rate, .int .i64 b.flags, .int .i64 b.parts] 35)) wc.heap.size { b with tk := -1 - u }) := heap_alloc_new _ _
            have k0 := RB4.out.b0
            have k1 := RB4.out.b1
            have k2 := RB4.out.b2
            have k3 := RB4.out.b3
            have k4 := RB4.out.b4
            have k5 := RB4.out.b5
            have k6 := RB4.out.b6
            have k7 := RB4.out.b7
            have n0 := N4.out.at (i := 0) rfl
            have n1 := N4.out.at (i := 1) rfl
            have n2 := N4.out.at (i := 2) rfl
            have n3 := N4.out.at (i := 3) rfl
            have n4 := N4.out.at (i := 4) rfl
            have n5 := N4.out.at (i := 5) rfl
            have n6 := N4.out.at (i := 6) rfl
            have n7 := N4.out.at (i := 7) rfl
            have n8 := N4.out.at (i := 8) rfl
            have n9 := N4.out.at (i := 9) rfl
            have n10 := N4.out.at (i := 10) rfl
            have n11 := N4.out.at (i := 11) rfl
            have n12 := N4.out.at (i := 12) rfl
            have n13 := N4.out.at (i := 13) rfl
            have n14 := N4.out.at (i := 14) rfl
            go_wp2_with fail
            clear x0 x1 x2 x3 x4 x5 x6 x7 x8 x9 x10 x11 x12 x13 x14 k0 k1 k2 k3 k4 k5 k6 k7 n0 n1 n2 n3 n4 n5 n6 n7 n8 n9 n10 n11 n12 n13 n14
            refine (WCheck_x { b with tk := -1 - u } _ (HRS.out.next B4.out) HFT.out).mono ?_
            rintro r w5 ⟨rfl, cc⟩
            have B5 := Lib.hid (chain B4.out cc)
            have RB5 := Lib.hid (RB4.out.next cc)
            have X5 := Lib.hid (X4.out.next cc)
            have N5 := Lib.hid (N4.out.next cc)
            clear cc
            rw [hbad.out]
            have k0 := RB5.out.b0
            have k1 := RB5.out.b1
            have k2 := RB5.out.b2
            have k3 := RB5.out.b3
            have k4 := RB5.out.b4
            have k5 := RB5.out.b5
            have k6 := RB5.out.b6
            have k7 := RB5.out.b7
            have n0 := N5.out.at (i := 0) rfl
            have n1 := N5.out.at (i := 1) rfl
            have n2 := N5.out.at (i := 2) rfl
            have n3 := N5.out.at (i := 3) rfl
            have n4 := N5.out.at (i := 4) rfl
            have n5 := N5.out.at (i := 5) rfl
            have n6 := N5.out.at (i := 6) rfl
            have n7 := N5.out.at (i := 7) rfl
            have n8 := N5.out.at (i := 8) rfl
            have n9 := N5.out.at (i := 9) rfl
            have n10 := N5.out.at (i := 10) rfl
            have n11 := N5.out.at (i := 11) rfl
            have n12 := N5.out.at (i := 12) rfl
            have n13 := N5.out.at (i := 13) rfl
            have n14 := N5.out.at (i := 14) rfl
            go_wp2_with fail
            clear k0 k1 k2 k3 k4 k5 k6 k7 n0 n1 n2 n3 n4 n5 n6 n7 n8 n9 n10 n11 n12 n13 n14
            refine (WText_x { b with tk := -1 - u } 0 _ (HRS.out.next B5.out) HFT.out (HE.out.next B5.out)).mono ?_
            rintro r w6 ⟨rfl, cc⟩
            have B6 := Lib.hid (chain B5.out cc)
            have RB6 := Lib.hid (RB5.out.next cc)
            have X6 := Lib.hid (X5.out.next cc)
            have N6 := Lib.hid (N5.out.next cc)
            clear cc
            rw [no_word hbad.out (by decide) 0]
            have hem := emp_list
            go_wp2_with fail
            go_ret
            exact ⟨rfl, B6.out⟩
    · have h1 : ¬ ec = 0 := h0
      go_wp2_with fail
      go_ret
      exact ⟨rfl, B3.out⟩
  case false =>
    clear hfw
    go_wp2_with fail
    go_ret
    exact ⟨rfl, B2.out⟩
end Go.Proofs.YtcjakgpmompaiaaGreatDoor
