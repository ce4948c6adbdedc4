/-
  The program: the list of usances, Check, OrderAt, Usance, Grade, City, Firm.
-/
import Derived.Test.YtcjakgpmompaiaaGreatDoorProG
import Derived.Laws.EntriesVeiled
namespace Go.Proofs.YtcjakgpmompaiaaGreatDoor
open Go.RowKit Rl


set_option maxHeartbeats 3200000 in
set_option maxRecDepth 100000 in
theorem usances_x {a0 a1 a2 a3 a4 a5 a6 a7 : Option Addr} {c0 c1 c2 c3 c4 c5 c6 c7 : Nat} {R : Rlm} (w : World) (hr : RS w a0 a1 a2 a3 a4 a5 a6 a7 c0 c1 c2 c3 c4 c5 c6 c7 R) (hF : Fit R) :
    Calls Tryz.prog 66 #[.agg #[.slice a0 R.cur.length c0, .slice a1 R.cities.length c1, .slice a2 R.groups.length c2, .slice a3 R.firms.length c3, .slice a4 R.orders.length c4, .slice a5 R.usances.length c5, .slice a6 R.rates.length c6, .slice a7 R.halts.length c7]] w fun r w' => r = .returned (.int .i64 (usanceE R)) ∧ Below w.heap.size w w' := by
  have HR := Lib.hid hr
  have RB0 := Lib.hid (RB.new w (a0 := a0) (a1 := a1) (a2 := a2) (a3 := a3) (a4 := a4) (a5 := a5) (a6 := a6) (a7 := a7) (c0 := c0) (c1 := c1) (c2 := c2) (c3 := c3) (c4 := c4) (c5 := c5) (c6 := c6) (c7 := c7) (R := R))
  have B0 := Lib.hid (Below.new1 (w := w) (.cells #[.slice a0 R.cur.length c0, .slice a1 R.cities.length c1, .slice a2 R.groups.length c2, .slice a3 R.firms.length c3, .slice a4 R.orders.length c4, .slice a5 R.usances.length c5, .slice a6 R.rates.length c6, .slice a7 R.halts.length c7] 31))
  clear hr
  have y0 := RB0.out.b5
  have B1 := Lib.hid (chain B0.out (Below.new1 (w := (w.alloc (.cells #[.slice a0 R.cur.length c0, .slice a1 R.cities.length c1, .slice a2 R.groups.length c2, .slice a3 R.firms.length c3, .slice a4 R.orders.length c4, .slice a5 R.usances.length c5, .slice a6 R.rates.length c6, .slice a7 R.halts.length c7] 31))) (.cells #[(.func (.func 124) #[] #[.pointer (some ⟨w.heap.size, 0, none⟩)])] 145)))
  have z0 : ((w.alloc (.cells #[.slice a0 R.cur.length c0, .slice a1 R.cities.length c1, .slice a2 R.groups.length c2, .slice a3 R.firms.length c3, .slice a4 R.orders.length c4, .slice a5 R.usances.length c5, .slice a6 R.rates.length c6, .slice a7 R.halts.length c7] 31)).alloc (.cells #[(.func (.func 124) #[] #[.pointer (some ⟨w.heap.size, 0, none⟩)])] 145)).cell? ⟨(w.alloc (.cells #[.slice a0 R.cur.length c0, .slice a1 R.cities.length c1, .slice a2 R.groups.length c2, .slice a3 R.firms.length c3, .slice a4 R.orders.length c4, .slice a5 R.usances.length c5, .slice a6 R.rates.length c6, .slice a7 R.halts.length c7] 31)).heap.size, 0, none⟩ = some (.func (.func 124) #[] #[.pointer (some ⟨w.heap.size, 0, none⟩)]) := by rw [World.cell?_alloc_new]; rfl
  have RB1 := Lib.hid (RB0.out.next (Below.new1 (.cells #[(.func (.func 124) #[] #[.pointer (some ⟨w.heap.size, 0, none⟩)])] 145)))
  have zs : (w.alloc (.cells #[.slice a0 R.cur.length c0, .slice a1 R.cities.length c1, .slice a2 R.groups.length c2, .slice a3 R.firms.length c3, .slice a4 R.orders.length c4, .slice a5 R.usances.length c5, .slice a6 R.rates.length c6, .slice a7 R.halts.length c7] 31)).heap.size = w.heap.size + 1 := by simp
  rw [zs] at z0
  have HZ := Lib.hid z0
  clear z0 zs
  go_enter Tryz.func66, Tryz.ntmps66
  go_wp2_with fail
  refine (firstUsn_x a5 c5 100 _ R.usances (usE R) _ (HR.out.next B1.out).usances hF.usances (by
    intro i x w1 hx hb
    have hh := checkU_x a5 i c5 _ w.heap.size R.cities.length c1 a1 (R.usances.take i) x w1 (cell_up hb HZ.out) (RB1.out.next hb).b1 hF.cities ((HR.out.next (chain B1.out hb)).usances.take (Nat.le_of_lt (List.getElem?_eq_some_iff.1 hx).1)) (sz_take hF.usances)
    rw [us_at hx]
    exact hh)).mono ?_
  rintro r w2 ⟨rfl, b2⟩
  have B2 := Lib.hid (chain B1.out b2)
  go_wp2_with fail
  go_ret
  exact ⟨rfl, B2.out⟩

set_option maxHeartbeats 3200000 in
set_option maxRecDepth 100000 in
theorem Check_x {a0 a1 a2 a3 a4 a5 a6 a7 : Option Addr} {c0 c1 c2 c3 c4 c5 c6 c7 : Nat} {R : Rlm} (w : World) (hr : RS w a0 a1 a2 a3 a4 a5 a6 a7 c0 c1 c2 c3 c4 c5 c6 c7 R) (hF : Fit R) :
    Calls Tryz.prog 33 #[.agg #[.slice a0 R.cur.length c0, .slice a1 R.cities.length c1, .slice a2 R.groups.length c2, .slice a3 R.firms.length c3, .slice a4 R.orders.length c4, .slice a5 R.usances.length c5, .slice a6 R.rates.length c6, .slice a7 R.halts.length c7]] w fun r w' => r = .returned (.int .i64 (checkP R)) ∧ Below w.heap.size w w' := by
  have HR := Lib.hid hr
  have RB0 := Lib.hid (RB.new w (a0 := a0) (a1 := a1) (a2 := a2) (a3 := a3) (a4 := a4) (a5 := a5) (a6 := a6) (a7 := a7) (c0 := c0) (c1 := c1) (c2 := c2) (c3 := c3) (c4 := c4) (c5 := c5) (c6 := c6) (c7 := c7) (R := R))
  have B0 := Lib.hid (Below.new1 (w := w) (.cells #[.slice a0 R.cur.length c0, .slice a1 R.cities.length c1, .slice a2 R.groups.length c2, .slice a3 R.firms.length c3, .slice a4 R.orders.length c4, .slice a5 R.usances.length c5, .slice a6 R.rates.length c6, .slice a7 R.halts.length c7] 31))
  clear hr
  have B1 := Lib.hid (chain B0.out (Below.new1 (w := (w.alloc (.cells #[.slice a0 R.cur.length c0, .slice a1 R.cities.length c1, .slice a2 R.groups.length c2, .slice a3 R.firms.length c3, .slice a4 R.orders.length c4, .slice a5 R.usances.length c5, .slice a6 R.rates.length c6, .slice a7 R.halts.length c7] 31))) (.cells #[.func (.func 61) #[] #[], .func (.func 62) #[] #[], .func (.func 63) #[] #[], .func (.func 64) #[] #[], .func (.func 65) #[] #[], .func (.func 66) #[] #[], .func (.func 67) #[] #[], .func (.func 68) #[] #[]] 64)))
  have RB1 := Lib.hid (RB0.out.next (Below.new1 (.cells #[.func (.func 61) #[] #[], .func (.func 62) #[] #[], .func (.func 63) #[] #[], .func (.func 64) #[] #[], .func (.func 65) #[] #[], .func (.func 66) #[] #[], .func (.func 67) #[] #[], .func (.func 68) #[] #[]] 64)))
  have zs : (w.alloc (.cells #[.slice a0 R.cur.length c0, .slice a1 R.cities.length c1, .slice a2 R.groups.length c2, .slice a3 R.firms.length c3, .slice a4 R.orders.length c4, .slice a5 R.usances.length c5, .slice a6 R.rates.length c6, .slice a7 R.halts.length c7] 31)).heap.size = w.heap.size + 1 := by simp
  have z0 : ((w.alloc (.cells #[.slice a0 R.cur.length c0, .slice a1 R.cities.length c1, .slice a2 R.groups.length c2, .slice a3 R.firms.length c3, .slice a4 R.orders.length c4, .slice a5 R.usances.length c5, .slice a6 R.rates.length c6, .slice a7 R.halts.length c7] 31)).alloc (.cells #[.func (.func 61) #[] #[], .func (.func 62) #[] #[], .func (.func 63) #[] #[], .func (.func 64) #[] #[], .func (.func 65) #[] #[], .func (.func 66) #[] #[], .func (.func 67) #[] #[], .func (.func 68) #[] #[]] 64)).cell? ⟨w.heap.size + 1, 0, none⟩ = some (.func (.func 61) #[] #[]) := by rw [← zs, World.cell?_alloc_new]; rfl
  have Z0 := Lib.hid z0
  have z1 : ((w.alloc (.cells #[.slice a0 R.cur.length c0, .slice a1 R.cities.length c1, .slice a2 R.groups.length c2, .slice a3 R.firms.length c3, .slice a4 R.orders.length c4, .slice a5 R.usances.length c5, .slice a6 R.rates.length c6, .slice a7 R.halts.length c7] 31)).alloc (.cells #[.func (.func 61) #[] #[], .func (.func 62) #[] #[], .func (.func 63) #[] #[], .func (.func 64) #[] #[], .func (.func 65) #[] #[], .func (.func 66) #[] #[], .func (.func 67) #[] #[], .func (.func 68) #[] #[]] 64)).cell? ⟨w.heap.size + 1, 1, none⟩ = some (.func (.func 62) #[] #[]) := by rw [← zs, World.cell?_alloc_new]; rfl
  have Z1 := Lib.hid z1
  have z2 : ((w.alloc (.cells #[.slice a0 R.cur.length c0, .slice a1 R.cities.length c1, .slice a2 R.groups.length c2, .slice a3 R.firms.length c3, .slice a4 R.orders.length c4, .slice a5 R.usances.length c5, .slice a6 R.rates.length c6, .slice a7 R.halts.length c7] 31)).alloc (.cells #[.func (.func 61) #[] #[], .func (.func 62) #[] #[], .func (.func 63) #[] #[], .func (.func 64) #[] #[], .func (.func 65) #[] #[], .func (.func 66) #[] #[], .func (.func 67) #[] #[], .func (.func 68) #[] #[]] 64)).cell? ⟨w.heap.size + 1, 2, none⟩ = some (.func (.func 63) #[] #[]) := by rw [← zs, World.cell?_alloc_new]; rfl
  have Z2 := Lib.hid z2
  have z3 : ((w.alloc (.cells #[.slice a0 R.cur.length c0, .slice a1 R.cities.length c1, .slice a2 R.groups.length c2, .slice a3 R.firms.length c3, .slice a4 R.orders.length c4, .slice a5 R.usances.length c5, .slice a6 R.rates.length c6, .slice a7 R.halts.length c7] 31)).alloc (.cells #[.func (.func 61) #[] #[], .func (.func 62) #[] #[], .func (.func 63) #[] #[], .func (.func 64) #[] #[], .func (.func 65) #[] #[], .func (.func 66) #[] #[], .func (.func 67) #[] #[], .func (.func 68) #[] #[]] 64)).cell? ⟨w.heap.size + 1, 3, none⟩ = some (.func (.func 64) #[] #[]) := by rw [← zs, World.cell?_alloc_new]; rfl
  have Z3 := Lib.hid z3
  have z4 : ((w.alloc (.cells #[.slice a0 R.cur.length c0, .slice a1 R.cities.length c1, .slice a2 R.groups.length c2, .slice a3 R.firms.length c3, .slice a4 R.orders.length c4, .slice a5 R.usances.length c5, .slice a6 R.rates.length c6, .slice a7 R.halts.length c7] 31)).alloc (.cells #[.func (.func 61) #[] #[], .func (.func 62) #[] #[], .func (.func 63) #[] #[], .func (.func 64) #[] #[], .func (.func 65) #[] #[], .func (.func 66) #[] #[], .func (.func 67) #[] #[], .func (.func 68) #[] #[]] 64)).cell? ⟨w.heap.size + 1, 4, none⟩ = some (.func (.func 65) #[] #[]) := by rw [← zs, World.cell?_alloc_new]; rfl
  have Z4 := Lib.hid z4
  have z5 : ((w.alloc (.cells #[.slice a0 R.cur.length c0, .slice a1 R.cities.length c1, .slice a2 R.groups.length c2, .slice a3 R.firms.length c3, .slice a4 R.orders.length c4, .slice a5 R.usances.length c5, .slice a6 R.rates.length c6, .slice a7 R.halts.length c7] 31)).alloc (.cells #[.func (.func 61) #[] #[], .func (.func 62) #[] #[], .func (.func 63) #[] #[], .func (.func 64) #[] #[], .func (.func 65) #[] #[], .func (.func 66) #[] #[], .func (.func 67) #[] #[], .func (.func 68) #[] #[]] 64)).cell? ⟨w.heap.size + 1, 5, none⟩ = some (.func (.func 66) #[] #[]) := by rw [← zs, World.cell?_alloc_new]; rfl
  have Z5 := Lib.hid z5
  have z6 : ((w.alloc (.cells #[.slice a0 R.cur.length c0, .slice a1 R.cities.length c1, .slice a2 R.groups.length c2, .slice a3 R.firms.length c3, .slice a4 R.orders.length c4, .slice a5 R.usances.length c5, .slice a6 R.rates.length c6, .slice a7 R.halts.length c7] 31)).alloc (.cells #[.func (.func 61) #[] #[], .func (.func 62) #[] #[], .func (.func 63) #[] #[], .func (.func 64) #[] #[], .func (.func 65) #[] #[], .func (.func 66) #[] #[], .func (.func 67) #[] #[], .func (.func 68) #[] #[]] 64)).cell? ⟨w.heap.size + 1, 6, none⟩ = some (.func (.func 67) #[] #[]) := by rw [← zs, World.cell?_alloc_new]; rfl
  have Z6 := Lib.hid z6
  have z7 : ((w.alloc (.cells #[.slice a0 R.cur.length c0, .slice a1 R.cities.length c1, .slice a2 R.groups.length c2, .slice a3 R.firms.length c3, .slice a4 R.orders.length c4, .slice a5 R.usances.length c5, .slice a6 R.rates.length c6, .slice a7 R.halts.length c7] 31)).alloc (.cells #[.func (.func 61) #[] #[], .func (.func 62) #[] #[], .func (.func 63) #[] #[], .func (.func 64) #[] #[], .func (.func 65) #[] #[], .func (.func 66) #[] #[], .func (.func 67) #[] #[], .func (.func 68) #[] #[]] 64)).cell? ⟨w.heap.size + 1, 7, none⟩ = some (.func (.func 68) #[] #[]) := by rw [← zs, World.cell?_alloc_new]; rfl
  have Z7 := Lib.hid z7
  clear zs z0 z1 z2 z3 z4 z5 z6 z7
  go_enter Tryz.func33, Tryz.ntmps33
  go_wp2_with fail
  go_loopw [10] (fun i wr => OkRel 8 (lstE R) ((w.alloc (.cells #[.slice a0 R.cur.length c0, .slice a1 R.cities.length c1, .slice a2 R.groups.length c2, .slice a3 R.firms.length c3, .slice a4 R.orders.length c4, .slice a5 R.usances.length c5, .slice a6 R.rates.length c6, .slice a7 R.halts.length c7] 31)).alloc (.cells #[.func (.func 61) #[] #[], .func (.func 62) #[] #[], .func (.func 63) #[] #[], .func (.func 64) #[] #[], .func (.func 65) #[] #[], .func (.func 66) #[] #[], .func (.func 67) #[] #[], .func (.func 68) #[] #[]] 64)) i wr) (fun i _ => 8 - (intOf i).toNat)
  case atStart => exact ⟨0, Nat.zero_le _, rfl, fun j hj => by omega, Below.refl _ _⟩
  case round =>
    obtain ⟨k, hk, rfl, hall, hbw⟩ := hrel
    have Ha := Lib.hid hall
    have HB := Lib.hid hbw
    have BW := Lib.hid (chain B1.out hbw)
    have RW := RB1.out.next hbw
    have y0 := cell_up hbw Z0.out
    have y1 := cell_up hbw Z1.out
    have y2 := cell_up hbw Z2.out
    have y3 := cell_up hbw Z3.out
    have y4 := cell_up hbw Z4.out
    have y5 := cell_up hbw Z5.out
    have y6 := cell_up hbw Z6.out
    have y7 := cell_up hbw Z7.out
    have r0 := RW.b0
    have r1 := RW.b1
    have r2 := RW.b2
    have r3 := RW.b3
    have r4 := RW.b4
    have r5 := RW.b5
    have r6 := RW.b6
    have r7 := RW.b7
    clear hall hbw RW
    by_cases d0 : k = 0
    · subst d0
      have e8 : ((0 : Nat) : Int) < 8 := by decide
      go_wp2_with fail
      refine (currencies_x _ (HR.out.next BW.out) hF).mono ?_
      rintro r w1 ⟨rfl, b1⟩
      have B2 := Lib.hid (chain HB.out b1)
      have B3 := Lib.hid (chain BW.out b1)
      clear b1
      by_cases e : curE R = 0
      · have e1 : (curE R != 0) = false := nbf e
        have HN := Lib.hid (ok_step (chk := lstE R) (k := 0) Ha.out e)
        clear e
        go_wp2_with fail
        go_roundw
        case rel => exact ⟨0 + 1, by omega, by congr 1, HN.out, B2.out⟩
        case measure => simp [intOf]
      · have e1 : (curE R != 0) = true := nbt e
        have hv : Hid (checkP R = curE R) := first_at (chk := lstE R) (i := 0) Ha.out e (by omega)
        clear e
        go_wp2_with fail
        go_ret
        exact ⟨by rw [hv.out]; try rfl, B3.out⟩
    by_cases d1 : k = 1
    · subst d1
      have e8 : ((1 : Nat) : Int) < 8 := by decide
      go_wp2_with fail
      refine (cities_x _ (HR.out.next BW.out) hF).mono ?_
      rintro r w1 ⟨rfl, b1⟩
      have B2 := Lib.hid (chain HB.out b1)
      have B3 := Lib.hid (chain BW.out b1)
      clear b1
      by_cases e : cityE R = 0
      · have e1 : (cityE R != 0) = false := nbf e
        have HN := Lib.hid (ok_step (chk := lstE R) (k := 1) Ha.out e)
        clear e
        go_wp2_with fail
        go_roundw
        case rel => exact ⟨1 + 1, by omega, by congr 1, HN.out, B2.out⟩
        case measure => simp [intOf]
      · have e1 : (cityE R != 0) = true := nbt e
        have hv : Hid (checkP R = cityE R) := first_at (chk := lstE R) (i := 1) Ha.out e (by omega)
        clear e
        go_wp2_with fail
        go_ret
        exact ⟨by rw [hv.out]; try rfl, B3.out⟩
    by_cases d2 : k = 2
    · subst d2
      have e8 : ((2 : Nat) : Int) < 8 := by decide
      go_wp2_with fail
      refine (groups_x _ (HR.out.next BW.out) hF).mono ?_
      rintro r w1 ⟨rfl, b1⟩
      have B2 := Lib.hid (chain HB.out b1)
      have B3 := Lib.hid (chain BW.out b1)
      clear b1
      by_cases e : groupE R = 0
      · have e1 : (groupE R != 0) = false := nbf e
        have HN := Lib.hid (ok_step (chk := lstE R) (k := 2) Ha.out e)
        clear e
        go_wp2_with fail
        go_roundw
        case rel => exact ⟨2 + 1, by omega, by congr 1, HN.out, B2.out⟩
        case measure => simp [intOf]
      · have e1 : (groupE R != 0) = true := nbt e
        have hv : Hid (checkP R = groupE R) := first_at (chk := lstE R) (i := 2) Ha.out e (by omega)
        clear e
        go_wp2_with fail
        go_ret
        exact ⟨by rw [hv.out]; try rfl, B3.out⟩
    by_cases d3 : k = 3
    · subst d3
      have e8 : ((3 : Nat) : Int) < 8 := by decide
      go_wp2_with fail
      refine (firms_x _ (HR.out.next BW.out) hF).mono ?_
      rintro r w1 ⟨rfl, b1⟩
      have B2 := Lib.hid (chain HB.out b1)
      have B3 := Lib.hid (chain BW.out b1)
      clear b1
      by_cases e : firmE R = 0
      · have e1 : (firmE R != 0) = false := nbf e
        have HN := Lib.hid (ok_step (chk := lstE R) (k := 3) Ha.out e)
        clear e
        go_wp2_with fail
        go_roundw
        case rel => exact ⟨3 + 1, by omega, by congr 1, HN.out, B2.out⟩
        case measure => simp [intOf]
      · have e1 : (firmE R != 0) = true := nbt e
        have hv : Hid (checkP R = firmE R) := first_at (chk := lstE R) (i := 3) Ha.out e (by omega)
        clear e
        go_wp2_with fail
        go_ret
        exact ⟨by rw [hv.out]; try rfl, B3.out⟩
    by_cases d4 : k = 4
    · subst d4
      have e8 : ((4 : Nat) : Int) < 8 := by decide
      go_wp2_with fail
      refine (orders_x _ (HR.out.next BW.out) hF).mono ?_
      rintro r w1 ⟨rfl, b1⟩
      have B2 := Lib.hid (chain HB.out b1)
      have B3 := Lib.hid (chain BW.out b1)
      clear b1
      by_cases e : orderE R = 0
      · have e1 : (orderE R != 0) = false := nbf e
        have HN := Lib.hid (ok_step (chk := lstE R) (k := 4) Ha.out e)
        clear e
        go_wp2_with fail
        go_roundw
        case rel => exact ⟨4 + 1, by omega, by congr 1, HN.out, B2.out⟩
        case measure => simp [intOf]
      · have e1 : (orderE R != 0) = true := nbt e
        have hv : Hid (checkP R = orderE R) := first_at (chk := lstE R) (i := 4) Ha.out e (by omega)
        clear e
        go_wp2_with fail
        go_ret
        exact ⟨by rw [hv.out]; try rfl, B3.out⟩
    by_cases d5 : k = 5
    · subst d5
      have e8 : ((5 : Nat) : Int) < 8 := by decide
      go_wp2_with fail
      refine (usances_x _ (HR.out.next BW.out) hF).mono ?_
      rintro r w1 ⟨rfl, b1⟩
      have B2 := Lib.hid (chain HB.out b1)
      have B3 := Lib.hid (chain BW.out b1)
      clear b1
      by_cases e : usanceE R = 0
      · have e1 : (usanceE R != 0) = false := nbf e
        have HN := Lib.hid (ok_step (chk := lstE R) (k := 5) Ha.out e)
        clear e
        go_wp2_with fail
        go_roundw
        case rel => exact ⟨5 + 1, by omega, by congr 1, HN.out, B2.out⟩
        case measure => simp [intOf]
      · have e1 : (usanceE R != 0) = true := nbt e
        have hv : Hid (checkP R = usanceE R) := first_at (chk := lstE R) (i := 5) Ha.out e (by omega)
        clear e
        go_wp2_with fail
        go_ret
        exact ⟨by rw [hv.out]; try rfl, B3.out⟩
    by_cases d6 : k = 6
    · subst d6
      have e8 : ((6 : Nat) : Int) < 8 := by decide
      go_wp2_with fail
      refine (rates_x _ (HR.out.next BW.out) hF).mono ?_
      rintro r w1 ⟨rfl, b1⟩
      have B2 := Lib.hid (chain HB.out b1)
      have B3 := Lib.hid (chain BW.out b1)
      clear b1
      by_cases e : ratesE R = 0
      · have e1 : (ratesE R != 0) = false := nbf e
        have HN := Lib.hid (ok_step (chk := lstE R) (k := 6) Ha.out e)
        clear e
        go_wp2_with fail
        go_roundw
        case rel => exact ⟨6 + 1, by omega, by congr 1, HN.out, B2.out⟩
        case measure => simp [intOf]
      · have e1 : (ratesE R != 0) = true := nbt e
        have hv : Hid (checkP R = ratesE R) := first_at (chk := lstE R) (i := 6) Ha.out e (by omega)
        clear e
        go_wp2_with fail
        go_ret
        exact ⟨by rw [hv.out]; try rfl, B3.out⟩
    by_cases d7 : k = 7
    · subst d7
      have e8 : ((7 : Nat) : Int) < 8 := by decide
      go_wp2_with fail
      refine (halts_x _ (HR.out.next BW.out) hF).mono ?_
      rintro r w1 ⟨rfl, b1⟩
      have B2 := Lib.hid (chain HB.out b1)
      have B3 := Lib.hid (chain BW.out b1)
      clear b1
      by_cases e : haltE R = 0
      · have e1 : (haltE R != 0) = false := nbf e
        have HN := Lib.hid (ok_step (chk := lstE R) (k := 7) Ha.out e)
        clear e
        go_wp2_with fail
        go_roundw
        case rel => exact ⟨7 + 1, by omega, by congr 1, HN.out, B2.out⟩
        case measure => simp [intOf]
      · have e1 : (haltE R != 0) = true := nbt e
        have hv : Hid (checkP R = haltE R) := first_at (chk := lstE R) (i := 7) Ha.out e (by omega)
        clear e
        go_wp2_with fail
        go_ret
        exact ⟨by rw [hv.out]; try rfl, B3.out⟩
    obtain rfl : k = 8 := by omega
    have hv : Hid (checkP R = 0) := first_zero.2 Ha.out
    go_wp2_with fail
    go_ret
    exact ⟨by rw [hv.out]; try rfl, BW.out⟩

end Go.Proofs.YtcjakgpmompaiaaGreatDoor
