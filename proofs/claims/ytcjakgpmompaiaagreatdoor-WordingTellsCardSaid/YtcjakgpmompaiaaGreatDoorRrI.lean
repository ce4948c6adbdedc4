/-
  The reference: Alike.
-/
import Derived.Test.YtcjakgpmompaiaaGreatDoorRrH
import Derived.Test.YtcjakgpmompaiaaGreatDoorWrE
namespace Go.Proofs.YtcjakgpmompaiaaGreatDoor
open Go.RowKit Rl Wd


set_option maxHeartbeats 6400000 in
set_option maxRecDepth 100000 in
theorem RAlike_x {a0 a1 a2 a3 a4 a5 a6 a7 : Option Addr} {c0 c1 c2 c3 c4 c5 c6 c7 : Nat} {R : Rlm} (a b : B) (w : World) (hr : RS w a0 a1 a2 a3 a4 a5 a6 a7 c0 c1 c2 c3 c4 c5 c6 c7 R) (hF : Fit R) (ha : a.size ≤ 100000) (hb : b.size ≤ 100000) :
    Calls Tryz.prog 17 #[.agg #[.slice a0 R.cur.length c0, .slice a1 R.cities.length c1, .slice a2 R.groups.length c2, .slice a3 R.firms.length c3, .slice a4 R.orders.length c4, .slice a5 R.usances.length c5, .slice a6 R.rates.length c6, .slice a7 R.halts.length c7], .string a, .string b] w fun r w' => r = .returned (.bool (alikeP R a b)) ∧ Below w.heap.size w w' := by
  have HR := Lib.hid hr
  have RB0 := Lib.hid (RB.new w a0 a1 a2 a3 a4 a5 a6 a7 c0 c1 c2 c3 c4 c5 c6 c7 R)
  have B0 : Hid (Below w.heap.size w (w.alloc (.cells #[.slice a0 R.cur.length c0, .slice a1 R.cities.length c1, .slice a2 R.groups.length c2, .slice a3 R.firms.length c3, .slice a4 R.orders.length c4, .slice a5 R.usances.length c5, .slice a6 R.rates.length c6, .slice a7 R.halts.length c7] 31))) := Below.new1 _
  clear hr
  obtain ⟨k0, k1, k2, k3, k4, k5, k6, k7⟩ := RB0.out
  go_enter Tryz.func17, Tryz.ntmps17
  go_wp2_with fail
  clear k0 k1 k2 k3 k4 k5 k6 k7
  refine (RParse_x a _ (HR.out.next B0.out) hF ha).mono ?_
  rintro r w1 ⟨rfl, cc1⟩
  have B1 := Lib.hid (chain B0.out cc1)
  obtain ⟨x, e, p, hx⟩ : ∃ (x : Bl) (e p : Int), pvB (parseP R a) = .tuple #[vB x, .int .i64 p, .int .i64 e] ∧ ((e = 0 ∧ parseP R a = some (x, p)) ∨ (e = 9 ∧ parseP R a = none)) := by
    cases parseP R a with
    | some y => exact ⟨y.1, 0, y.2, rfl, .inl ⟨rfl, rfl⟩⟩
    | none => exact ⟨_, 9, 0, rfl, .inr ⟨rfl, rfl⟩⟩
  rw [hx.1]
  have HX := Lib.hid hx.2
  have RB1 := Lib.hid ((RB0.out.next cc1).next (Below.new1 (.cells #[.int .i64 x.drawer, .int .i64 x.drawee, .int .i64 x.payee, .int .i64 x.sum, .int .i64 x.cur, .int .i64 x.tk, .int .i64 x.tn, .int .i64 x.tu, .int .i64 x.day, .int .i64 x.city, .int .i64 x.pay, .int .i64 x.need, .int .i64 x.rate, .int .i64 x.flags, .int .i64 x.parts] 35)))
  have X1 := Lib.hid (BB.new w1 x _ rfl)
  have B1' : Hid (Below w.heap.size w (w1.alloc (.cells #[.int .i64 x.drawer, .int .i64 x.drawee, .int .i64 x.payee, .int .i64 x.sum, .int .i64 x.cur, .int .i64 x.tk, .int .i64 x.tn, .int .i64 x.tu, .int .i64 x.day, .int .i64 x.city, .int .i64 x.pay, .int .i64 x.need, .int .i64 x.rate, .int .i64 x.flags, .int .i64 x.parts] 35))) := chain B1.out (Below.new1 _)
  clear hx cc1
  obtain ⟨k0, k1, k2, k3, k4, k5, k6, k7⟩ := RB1.out
  go_wp2_with fail
  clear k0 k1 k2 k3 k4 k5 k6 k7
  refine (RParse_x b _ (HR.out.next B1'.out) hF hb).mono ?_
  rintro r w2 ⟨rfl, cc2⟩
  have B2 := Lib.hid (chain B1'.out cc2)
  obtain ⟨y, f, q, hy⟩ : ∃ (x : Bl) (e p : Int), pvB (parseP R b) = .tuple #[vB x, .int .i64 p, .int .i64 e] ∧ ((e = 0 ∧ parseP R b = some (x, p)) ∨ (e = 9 ∧ parseP R b = none)) := by
    cases parseP R b with
    | some y => exact ⟨y.1, 0, y.2, rfl, .inl ⟨rfl, rfl⟩⟩
    | none => exact ⟨_, 9, 0, rfl, .inr ⟨rfl, rfl⟩⟩
  rw [hy.1]
  have HY := Lib.hid hy.2
  have X2 := Lib.hid ((X1.out.below cc2 X1.out.lt).below (Below.new1 (.cells #[.int .i64 y.drawer, .int .i64 y.drawee, .int .i64 y.payee, .int .i64 y.sum, .int .i64 y.cur, .int .i64 y.tk, .int .i64 y.tn, .int .i64 y.tu, .int .i64 y.day, .int .i64 y.city, .int .i64 y.pay, .int .i64 y.need, .int .i64 y.rate, .int .i64 y.flags, .int .i64 y.parts] 35)) (by have := cc2.size; have := X1.out.lt; omega))
  have Y2 := Lib.hid (BB.new w2 y _ rfl)
  have B3 : Hid (Below w.heap.size w (w2.alloc (.cells #[.int .i64 y.drawer, .int .i64 y.drawee, .int .i64 y.payee, .int .i64 y.sum, .int .i64 y.cur, .int .i64 y.tk, .int .i64 y.tn, .int .i64 y.tu, .int .i64 y.day, .int .i64 y.city, .int .i64 y.pay, .int .i64 y.need, .int .i64 y.rate, .int .i64 y.flags, .int .i64 y.parts] 35))) := chain B2.out (Below.new1 _)
  clear hy cc2
  obtain ⟨x0, x1, x2, x3, x4, x5, x6, x7, x8, x9, x10, x11, x12, x13, x14⟩ := X2.out.all
  obtain ⟨y0, y1, y2, y3, y4, y5, y6, y7, y8, y9, y10, y11, y12, y13, y14⟩ := Y2.out.all
  rcases HX.out with ⟨rfl, hx⟩ | ⟨rfl, hx⟩
  · rcases HY.out with ⟨rfl, hy⟩ | ⟨rfl, hy⟩
    · have hv : Hid (alikeP R a b = decide (x = y)) := by show _ = _; unfold alikeP; rw [hx, hy]
      clear hx hy
      go_wp2
      all_goals go_ret
      all_goals refine ⟨ret_b ?_, B3.out⟩
      all_goals rw [hv.out]
      all_goals first
        | exact (decide_eq_true (bl_ext (by assumption) (by assumption) (by assumption) (by assumption) (by assumption) (by assumption) (by assumption) (by assumption) (by assumption) (by assumption) (by assumption) (by assumption) (by assumption) (by assumption) (by assumption))).symm
        | exact (decide_eq_false (fun e => absurd (congrArg Bl.drawer e) (by assumption))).symm
        | exact (decide_eq_false (fun e => absurd (congrArg Bl.drawee e) (by assumption))).symm
        | exact (decide_eq_false (fun e => absurd (congrArg Bl.payee e) (by assumption))).symm
        | exact (decide_eq_false (fun e => absurd (congrArg Bl.sum e) (by assumption))).symm
        | exact (decide_eq_false (fun e => absurd (congrArg Bl.cur e) (by assumption))).symm
        | exact (decide_eq_false (fun e => absurd (congrArg Bl.tk e) (by assumption))).symm
        | exact (decide_eq_false (fun e => absurd (congrArg Bl.tn e) (by assumption))).symm
        | exact (decide_eq_false (fun e => absurd (congrArg Bl.tu e) (by assumption))).symm
        | exact (decide_eq_false (fun e => absurd (congrArg Bl.day e) (by assumption))).symm
        | exact (decide_eq_false (fun e => absurd (congrArg Bl.city e) (by assumption))).symm
        | exact (decide_eq_false (fun e => absurd (congrArg Bl.pay e) (by assumption))).symm
        | exact (decide_eq_false (fun e => absurd (congrArg Bl.need e) (by assumption))).symm
        | exact (decide_eq_false (fun e => absurd (congrArg Bl.rate e) (by assumption))).symm
        | exact (decide_eq_false (fun e => absurd (congrArg Bl.flags e) (by assumption))).symm
        | exact (decide_eq_false (fun e => absurd (congrArg Bl.parts e) (by assumption))).symm
    · have hv : Hid (alikeP R a b = false) := by show _ = _; unfold alikeP; rw [hx, hy]
      clear hx hy
      go_wp2
      go_ret
      exact ⟨ret_b hv.out.symm, B3.out⟩
  · have hv : Hid (alikeP R a b = false) := by show _ = _; unfold alikeP; rw [hx]
    clear hx
    go_wp2
    go_ret
    exact ⟨ret_b hv.out.symm, B3.out⟩
end Go.Proofs.YtcjakgpmompaiaaGreatDoor
