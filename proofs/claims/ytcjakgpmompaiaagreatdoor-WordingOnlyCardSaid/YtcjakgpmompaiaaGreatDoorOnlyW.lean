/-
  WordingOnly: the walk.
-/
import Derived.Test.YtcjakgpmompaiaaGreatDoorLwA
namespace Go.Proofs.YtcjakgpmompaiaaGreatDoor
open Go.RowKit Rl Wd

set_option maxHeartbeats 12800000 in
set_option maxRecDepth 100000 in
theorem WordingOnly_x {a0 a1 a2 a3 a4 a5 a6 a7 : Option Addr} {c0 c1 c2 c3 c4 c5 c6 c7 : Nat} {R : Rlm} (hsm : SmallOk) (text : B) (w : World) (hr : RS w a0 a1 a2 a3 a4 a5 a6 a7 c0 c1 c2 c3 c4 c5 c6 c7 R) (hF : FitW R) (hE : Ev w) :
    Calls Tryz.prog 5 #[.agg #[.slice a0 R.cur.length c0, .slice a1 R.cities.length c1, .slice a2 R.groups.length c2, .slice a3 R.firms.length c3, .slice a4 R.orders.length c4, .slice a5 R.usances.length c5, .slice a6 R.rates.length c6, .slice a7 R.halts.length c7], .string text] w fun r w' => r = .returned (.bool true) ∧ Below w.heap.size w w' := by
  have HRS := Lib.hid hr
  have HFW := Lib.hid hF
  have HE := Lib.hid hE
  clear hr hF hE
  have B0 : Hid (Below w.heap.size w (w.alloc (.cells #[.slice a0 R.cur.length c0, .slice a1 R.cities.length c1, .slice a2 R.groups.length c2, .slice a3 R.firms.length c3, .slice a4 R.orders.length c4, .slice a5 R.usances.length c5, .slice a6 R.rates.length c6, .slice a7 R.halts.length c7] 31))) := (Below.new1 (w := w) (.cells #[.slice a0 R.cur.length c0, .slice a1 R.cities.length c1, .slice a2 R.groups.length c2, .slice a3 R.firms.length c3, .slice a4 R.orders.length c4, .slice a5 R.usances.length c5, .slice a6 R.rates.length c6, .slice a7 R.halts.length c7] 31))
  have RB0 : Hid (RB (w.alloc (.cells #[.slice a0 R.cur.length c0, .slice a1 R.cities.length c1, .slice a2 R.groups.length c2, .slice a3 R.firms.length c3, .slice a4 R.orders.length c4, .slice a5 R.usances.length c5, .slice a6 R.rates.length c6, .slice a7 R.halts.length c7] 31)) w.heap.size a0 a1 a2 a3 a4 a5 a6 a7 c0 c1 c2 c3 c4 c5 c6 c7 R) := (RB.new w a0 a1 a2 a3 a4 a5 a6 a7 c0 c1 c2 c3 c4 c5 c6 c7 R)
  go_enter Tryz.func5, Tryz.ntmps5
  go_wp2_with fail
  refine (hsm _ (HE.out.next B0.out)).mono ?_
  rintro r w1 ⟨rfl, cc⟩
  have B1 := Lib.hid (chain B0.out cc)
  have RB1 := Lib.hid (RB0.out.next cc)
  clear cc
  have k0 := RB1.out.b0
  have k1 := RB1.out.b1
  have k2 := RB1.out.b2
  have k3 := RB1.out.b3
  have k4 := RB1.out.b4
  have k5 := RB1.out.b5
  have k6 := RB1.out.b6
  have k7 := RB1.out.b7
  go_wp2_with fail
  clear k0 k1 k2 k3 k4 k5 k6 k7
  refine (few_x text _ (HRS.out.next B1.out) HFW.out).mono ?_
  rintro r w2 ⟨⟨fw, rfl, hfw⟩, cc⟩
  have B2 := Lib.hid (chain B1.out cc)
  have RB2 := Lib.hid (RB1.out.next cc)
  clear cc
  cases fw
  case true =>
    have zt : text.size ≤ 1000 := (hfw rfl).2
    have HFT := Lib.hid (hfw rfl).1
    clear hfw
    have k0 := RB2.out.b0
    have k1 := RB2.out.b1
    have k2 := RB2.out.b2
    have k3 := RB2.out.b3
    have k4 := RB2.out.b4
    have k5 := RB2.out.b5
    have k6 := RB2.out.b6
    have k7 := RB2.out.b7
    go_wp2_with fail
    clear k0 k1 k2 k3 k4 k5 k6 k7
    refine (Parse_x text _ (HRS.out.next B2.out) HFT.out (HE.out.next B2.out) (by omega)).mono ?_
    rintro r w3 ⟨rfl, hu, cc⟩
    have B3 := Lib.hid (chain B2.out cc)
    have RB3 := Lib.hid (RB2.out.next cc)
    clear cc
    replace hu := Lib.hid hu
    obtain ⟨y, hy⟩ : ∃ y, y = parseP R text := ⟨_, rfl⟩
    rw [← hy]
    replace hy := Lib.hid hy
    cases y with
    | none =>
      rw [show pvB none = .tuple #[.agg #[.int .i64 0, .int .i64 0, .int .i64 0, .int .i64 0, .int .i64 0, .int .i64 0, .int .i64 0, .int .i64 0, .int .i64 0, .int .i64 0, .int .i64 0, .int .i64 0, .int .i64 0, .int .i64 0, .int .i64 0], .int .i64 0, .int .i64 9] from rfl]
      have B4 := Lib.hid (chain B3.out (Below.new1 (.cells #[.int .i64 0, .int .i64 0, .int .i64 0, .int .i64 0, .int .i64 0, .int .i64 0, .int .i64 0, .int .i64 0, .int .i64 0, .int .i64 0, .int .i64 0, .int .i64 0, .int .i64 0, .int .i64 0, .int .i64 0] 35)))
      have RB4 := Lib.hid (RB3.out.next (Below.new1 (.cells #[.int .i64 0, .int .i64 0, .int .i64 0, .int .i64 0, .int .i64 0, .int .i64 0, .int .i64 0, .int .i64 0, .int .i64 0, .int .i64 0, .int .i64 0, .int .i64 0, .int .i64 0, .int .i64 0, .int .i64 0] 35)))
      have Y4 : Hid (BB (w3.alloc (.cells #[.int .i64 0, .int .i64 0, .int .i64 0, .int .i64 0, .int .i64 0, .int .i64 0, .int .i64 0, .int .i64 0, .int .i64 0, .int .i64 0, .int .i64 0, .int .i64 0, .int .i64 0, .int .i64 0, .int .i64 0] 35)) w3.heap.size ⟨0, 0, 0, 0, 0, 0, 0, 0, 0, 0, 0, 0, 0, 0, 0⟩) := heap_alloc_new _ _
      have y0 := Y4.out.at (i := 0) rfl
      have y1 := Y4.out.at (i := 1) rfl
      have y2 := Y4.out.at (i := 2) rfl
      have y3 := Y4.out.at (i := 3) rfl
      have y4 := Y4.out.at (i := 4) rfl
      have y5 := Y4.out.at (i := 5) rfl
      have y6 := Y4.out.at (i := 6) rfl
      have y7 := Y4.out.at (i := 7) rfl
      have y8 := Y4.out.at (i := 8) rfl
      have y9 := Y4.out.at (i := 9) rfl
      have y10 := Y4.out.at (i := 10) rfl
      have y11 := Y4.out.at (i := 11) rfl
      have y12 := Y4.out.at (i := 12) rfl
      have y13 := Y4.out.at (i := 13) rfl
      have y14 := Y4.out.at (i := 14) rfl
      go_wp2_with fail
      go_ret
      exact ⟨rfl, B4.out⟩
    | some x =>
      obtain ⟨b, p⟩ := x
      rw [show pvB (some (b, p)) = .tuple #[vB b, .int .i64 p, .int .i64 0] from rfl]
      have hT := Lib.hid (parse_some hy.out.symm)
      have hne : ¬ text.toList = [] := ne_list (by rw [hT.out.eq]; exact fun e => word_ne R b p (mkB_inj (b := []) e))
      have hie := ne_emp hne
      have B4 := Lib.hid (chain B3.out (Below.new1 (.cells #[.int .i64 b.drawer, .int .i64 b.drawee, .int .i64 b.payee, .int .i64 b.sum, .int .i64 b.cur, .int .i64 b.tk, .int .i64 b.tn, .int .i64 b.tu, .int .i64 b.day, .int .i64 b.city, .int .i64 b.pay, .int .i64 b.need, .int .i64 b.rate, .int .i64 b.flags, .int .i64 b.parts] 35)))
      have RB4 := Lib.hid (RB3.out.next (Below.new1 (.cells #[.int .i64 b.drawer, .int .i64 b.drawee, .int .i64 b.payee, .int .i64 b.sum, .int .i64 b.cur, .int .i64 b.tk, .int .i64 b.tn, .int .i64 b.tu, .int .i64 b.day, .int .i64 b.city, .int .i64 b.pay, .int .i64 b.need, .int .i64 b.rate, .int .i64 b.flags, .int .i64 b.parts] 35)))
      have Y4 : Hid (BB (w3.alloc (.cells #[.int .i64 b.drawer, .int .i64 b.drawee, .int .i64 b.payee, .int .i64 b.sum, .int .i64 b.cur, .int .i64 b.tk, .int .i64 b.tn, .int .i64 b.tu, .int .i64 b.day, .int .i64 b.city, .int .i64 b.pay, .int .i64 b.need, .int .i64 b.rate, .int .i64 b.flags, .int .i64 b.parts] 35)) w3.heap.size b) := heap_alloc_new _ _
      have k0 := RB4.out.b0
      have k1 := RB4.out.b1
      have k2 := RB4.out.b2
      have k3 := RB4.out.b3
      have k4 := RB4.out.b4
      have k5 := RB4.out.b5
      have k6 := RB4.out.b6
      have k7 := RB4.out.b7
      have y0 := Y4.out.at (i := 0) rfl
      have y1 := Y4.out.at (i := 1) rfl
      have y2 := Y4.out.at (i := 2) rfl
      have y3 := Y4.out.at (i := 3) rfl
      have y4 := Y4.out.at (i := 4) rfl
      have y5 := Y4.out.at (i := 5) rfl
      have y6 := Y4.out.at (i := 6) rfl
      have y7 := Y4.out.at (i := 7) rfl
      have y8 := Y4.out.at (i := 8) rfl
      have y9 := Y4.out.at (i := 9) rfl
      have y10 := Y4.out.at (i := 10) rfl
      have y11 := Y4.out.at (i := 11) rfl
      have y12 := Y4.out.at (i := 12) rfl
      have y13 := Y4.out.at (i := 13) rfl
      have y14 := Y4.out.at (i := 14) rfl
      go_wp2_with fail
      clear k0 k1 k2 k3 k4 k5 k6 k7 y0 y1 y2 y3 y4 y5 y6 y7 y8 y9 y10 y11 y12 y13 y14
      refine (WCheck_x b _ (HRS.out.next B4.out) HFT.out).mono ?_
      rintro r w5 ⟨rfl, cc⟩
      have B5 := Lib.hid (chain B4.out cc)
      have RB5 := Lib.hid (RB4.out.next cc)
      have Y5 := Lib.hid (Y4.out.next cc)
      clear cc
      obtain ⟨ec, hec⟩ : ∃ e : Int, e = checkW R b := ⟨_, rfl⟩
      rw [← hec]
      replace hec := Lib.hid hec
      have he0 : ec = 0 := by rw [hec.out]; exact hT.out.ok
      subst he0
      have k0 := RB5.out.b0
      have k1 := RB5.out.b1
      have k2 := RB5.out.b2
      have k3 := RB5.out.b3
      have k4 := RB5.out.b4
      have k5 := RB5.out.b5
      have k6 := RB5.out.b6
      have k7 := RB5.out.b7
      have y0 := Y5.out.at (i := 0) rfl
      have y1 := Y5.out.at (i := 1) rfl
      have y2 := Y5.out.at (i := 2) rfl
      have y3 := Y5.out.at (i := 3) rfl
      have y4 := Y5.out.at (i := 4) rfl
      have y5 := Y5.out.at (i := 5) rfl
      have y6 := Y5.out.at (i := 6) rfl
      have y7 := Y5.out.at (i := 7) rfl
      have y8 := Y5.out.at (i := 8) rfl
      have y9 := Y5.out.at (i := 9) rfl
      have y10 := Y5.out.at (i := 10) rfl
      have y11 := Y5.out.at (i := 11) rfl
      have y12 := Y5.out.at (i := 12) rfl
      have y13 := Y5.out.at (i := 13) rfl
      have y14 := Y5.out.at (i := 14) rfl
      go_wp2_with fail
      clear k0 k1 k2 k3 k4 k5 k6 k7 y0 y1 y2 y3 y4 y5 y6 y7 y8 y9 y10 y11 y12 y13 y14
      refine (WText_x b p _ (HRS.out.next B5.out) HFT.out (HE.out.next B5.out)).mono ?_
      rintro r w6 ⟨rfl, cc⟩
      have B6 := Lib.hid (chain B5.out cc)
      have RB6 := Lib.hid (RB5.out.next cc)
      have Y6 := Lib.hid (Y5.out.next cc)
      clear cc
      obtain ⟨tx, htx⟩ : ∃ s : B, s = textP R b p := ⟨_, rfl⟩
      rw [← htx]
      have ztx : tx.size ≤ 4000 := by rw [htx]; exact textP_size _ _ _
      replace htx := Lib.hid htx
      have he1 : tx = text := by rw [htx.out, textP_yes hT.out.toHas]; exact hT.out.eq.symm
      subst he1
      go_wp2_with fail
      go_ret
      exact ⟨rfl, B6.out⟩
  case false =>
    clear hfw
    go_wp2_with fail
    go_ret
    exact ⟨rfl, B2.out⟩
end Go.Proofs.YtcjakgpmompaiaaGreatDoor
