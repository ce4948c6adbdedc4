/-
  The program: Alike.
-/
import Derived.Test.YtcjakgpmompaiaaGreatDoorWrD
namespace Go.Proofs.YtcjakgpmompaiaaGreatDoor
open Go.RowKit Rl Wd

noncomputable def alikeP (R : Rlm) (a b : B) : Bool := match parseP R a, parseP R b with
  | some x, some y => decide (x.1 = y.1)
  | _, _ => false
theorem bl_ext {x y : Bl} (h0 : x.drawer = y.drawer) (h1 : x.drawee = y.drawee) (h2 : x.payee = y.payee) (h3 : x.sum = y.sum) (h4 : x.cur = y.cur) (h5 : x.tk = y.tk) (h6 : x.tn = y.tn) (h7 : x.tu = y.tu) (h8 : x.day = y.day) (h9 : x.city = y.city) (h10 : x.pay = y.pay) (h11 : x.need = y.need) (h12 : x.rate = y.rate) (h13 : x.flags = y.flags) (h14 : x.parts = y.parts) : x = y := by
  cases x; cases y
  simp only at h0 h1 h2 h3 h4 h5 h6 h7 h8 h9 h10 h11 h12 h13 h14
  subst h0 h1 h2 h3 h4 h5 h6 h7 h8 h9 h10 h11 h12 h13 h14
  rfl
theorem pv_some (x : Bl × Int) : pvB (some x) = .tuple #[vB x.1, .int .i64 x.2, .int .i64 0] := rfl
theorem pv_none : pvB none = .tuple #[vB ⟨0, 0, 0, 0, 0, 0, 0, 0, 0, 0, 0, 0, 0, 0, 0⟩, .int .i64 0, .int .i64 9] := rfl

set_option maxHeartbeats 6400000 in
set_option maxRecDepth 100000 in
theorem Alike_x {a0 a1 a2 a3 a4 a5 a6 a7 : Option Addr} {c0 c1 c2 c3 c4 c5 c6 c7 : Nat} {R : Rlm} (a b : B) (w : World) (hr : RS w a0 a1 a2 a3 a4 a5 a6 a7 c0 c1 c2 c3 c4 c5 c6 c7 R) (hF : Fit R) (hE : Ev w) (ha : a.size ≤ 100000) (hb : b.size ≤ 100000) :
    Calls Tryz.prog 16 #[.agg #[.slice a0 R.cur.length c0, .slice a1 R.cities.length c1, .slice a2 R.groups.length c2, .slice a3 R.firms.length c3, .slice a4 R.orders.length c4, .slice a5 R.usances.length c5, .slice a6 R.rates.length c6, .slice a7 R.halts.length c7], .string a, .string b] w fun r w' => r = .returned (.bool (alikeP R a b)) ∧ Below w.heap.size w w' := by
  have HR := Lib.hid hr
  have HE := Lib.hid hE
  have RB0 := Lib.hid (RB.new w a0 a1 a2 a3 a4 a5 a6 a7 c0 c1 c2 c3 c4 c5 c6 c7 R)
  have B0 : Hid (Below w.heap.size w (w.alloc (.cells #[.slice a0 R.cur.length c0, .slice a1 R.cities.length c1, .slice a2 R.groups.length c2, .slice a3 R.firms.length c3, .slice a4 R.orders.length c4, .slice a5 R.usances.length c5, .slice a6 R.rates.length c6, .slice a7 R.halts.length c7] 31))) := Below.new1 _
  clear hr hE
  have k0 := RB0.out.b0
  have k1 := RB0.out.b1
  have k2 := RB0.out.b2
  have k3 := RB0.out.b3
  have k4 := RB0.out.b4
  have k5 := RB0.out.b5
  have k6 := RB0.out.b6
  have k7 := RB0.out.b7
  go_enter Tryz.func16, Tryz.ntmps16
  go_wp2_with fail
  clear k0 k1 k2 k3 k4 k5 k6 k7
  refine (Parse_x a _ (HR.out.next B0.out) hF (HE.out.next B0.out) ha).mono ?_
  rintro r w1 ⟨rfl, -, cc1⟩
  have B1 := Lib.hid (chain B0.out cc1)
  obtain ⟨x, e, p, hx⟩ : ∃ (x : Bl) (e p : Int), pvB (parseP R a) = .tuple #[vB x, .int .i64 p, .int .i64 e] ∧ ((e = 0 ∧ parseP R a = some (x, p)) ∨ (e = 9 ∧ parseP R a = none)) := by
    cases parseP R a with
    | some y => exact ⟨y.1, 0, y.2, rfl, .inl ⟨rfl, rfl⟩⟩
    | none => exact ⟨_, 9, 0, rfl, .inr ⟨rfl, rfl⟩⟩
  rw [hx.1]
  have HX := Lib.hid hx.2
  have RB1 := Lib.hid ((RB0.out.next cc1).next (Below.new1 (.cells #[.int .i64 x.drawer, .int .i64 x.drawee, .int .i64 x.payee, .int .i64 x.sum, .int .i64 x.cur, .int .i64 x.tk, .int .i64 x.tn, .int .i64 x.tu, .int .i64 x.day, .int .i64 x.city, .int .i64 x.pay, .int .i64 x.need, .int .i64 x.rate, .int .i64 x.flags, .int .i64 x.parts] 35)))
  have X1 := Lib.hid (BB.new w1 x _ rfl)
  have B1' : Hid (Below w.heap.size w (w1.alloc (.cells #[.int .i64 x.drawer, .int .i64 x.drawee, .int .i64 x.payee, .int .i64 x.sum, .int .i64 x.cur, .int .i64 x.tk, .int .i64 x.tn, .int .i64 x.tu, .int .i64 x.day, .int .i64 x.city, .int .i64 x.pay, .int .i64 x.need, .int .i64 x.rate, .int .i64 x.flags, .int .i64 x.parts] 35))) := chain B1.out (Below.new1 _)
  clear hx cc1
  have k0 := RB1.out.b0
  have k1 := RB1.out.b1
  have k2 := RB1.out.b2
  have k3 := RB1.out.b3
  have k4 := RB1.out.b4
  have k5 := RB1.out.b5
  have k6 := RB1.out.b6
  have k7 := RB1.out.b7
  go_wp2_with fail
  clear k0 k1 k2 k3 k4 k5 k6 k7
  refine (Parse_x b _ (HR.out.next B1'.out) hF (HE.out.next B1'.out) hb).mono ?_
  rintro r w2 ⟨rfl, -, cc2⟩
  have B2 := Lib.hid (chain B1'.out cc2)
  obtain ⟨y, f, q, hy⟩ : ∃ (x : Bl) (e p : Int), pvB (parseP R b) = .tuple #[vB x, .int .i64 p, .int .i64 e] ∧ ((e = 0 ∧ parseP R b = some (x, p)) ∨ (e = 9 ∧ parseP R b = none)) := by
    cases parseP R b with
    | some y => exact ⟨y.1, 0, y.2, rfl, .inl ⟨rfl, rfl⟩⟩
    | none => exact ⟨_, 9, 0, rfl, .inr ⟨rfl, rfl⟩⟩
  rw [hy.1]
  have HY := Lib.hid hy.2
  have X2 := Lib.hid ((X1.out.below cc2 X1.out.lt).below (Below.new1 (.cells #[.int .i64 y.drawer, .int .i64 y.drawee, .int .i64 y.payee, .int .i64 y.sum, .int .i64 y.cur, .int .i64 y.tk, .int .i64 y.tn, .int .i64 y.tu, .int .i64 y.day, .int .i64 y.city, .int .i64 y.pay, .int .i64 y.need, .int .i64 y.rate, .int .i64 y.flags, .int .i64 y.parts] 35)) (by have := cc2.size; have := X1.out.lt; omega))
  have Y2 := Lib.hid (BB.new w2 y _ rfl)
  have B3 : Hid (Below w.heap.size w (w2.alloc (.cells #[.int .i64 y.drawer, .int .i64 y.drawee, .int .i64 y.payee, .int .i64 y.sum, .int .i64 y.cur, .int .i64 y.tk, .int .i64 y.tn, .int .i64 y.tu, .int .i64 y.day, .int .i64 y.city, .int .i64 y.pay, .int .i64 y.need, .int .i64 y.rate, .int .i64 y.flags, .int .i64 y.parts] 35))) := chain B2.out (Below.new1 _)
  clear hy cc2
  have x0 := X2.out.at (i := 0) rfl
  have y0 := Y2.out.at (i := 0) rfl
  have x1 := X2.out.at (i := 1) rfl
  have y1 := Y2.out.at (i := 1) rfl
  have x2 := X2.out.at (i := 2) rfl
  have y2 := Y2.out.at (i := 2) rfl
  have x3 := X2.out.at (i := 3) rfl
  have y3 := Y2.out.at (i := 3) rfl
  have x4 := X2.out.at (i := 4) rfl
  have y4 := Y2.out.at (i := 4) rfl
  have x5 := X2.out.at (i := 5) rfl
  have y5 := Y2.out.at (i := 5) rfl
  have x6 := X2.out.at (i := 6) rfl
  have y6 := Y2.out.at (i := 6) rfl
  have x7 := X2.out.at (i := 7) rfl
  have y7 := Y2.out.at (i := 7) rfl
  have x8 := X2.out.at (i := 8) rfl
  have y8 := Y2.out.at (i := 8) rfl
  have x9 := X2.out.at (i := 9) rfl
  have y9 := Y2.out.at (i := 9) rfl
  have x10 := X2.out.at (i := 10) rfl
  have y10 := Y2.out.at (i := 10) rfl
  have x11 := X2.out.at (i := 11) rfl
  have y11 := Y2.out.at (i := 11) rfl
  have x12 := X2.out.at (i := 12) rfl
  have y12 := Y2.out.at (i := 12) rfl
  have x13 := X2.out.at (i := 13) rfl
  have y13 := Y2.out.at (i := 13) rfl
  have x14 := X2.out.at (i := 14) rfl
  have y14 := Y2.out.at (i := 14) rfl
  rcases HX.out with ⟨rfl, hx⟩ | ⟨rfl, hx⟩
  · rcases HY.out with ⟨rfl, hy⟩ | ⟨rfl, hy⟩
    · have hv : Hid (alikeP R a b = decide (x = y)) := by show _ = _; unfold alikeP; rw [hx, hy]
      clear hx hy
      go_wp2
      all_goals go_ret
      all_goals refine ⟨ret_b ?_, B3.out⟩
      all_goals rw [hv.out]
      all_goals first
        | exact (decide_eq_true (bl_ext (by assumption) (by assumption) (by assumption) (by assumption) (by assumption) (by assumption) (by assumption) (by assumption) (by assumption) (by assumption) (by assumption) (by assumption) (by assumption) (by assumption) (by assumption))).symm
        | exact (decide_eq_false (fun e => absurd (congrArg Bl.drawer e) (by assumption))).symm
        | exact (decide_eq_false (fun e => absurd (congrArg Bl.drawee e) (by assumption))).symm
        | exact (decide_eq_false (fun e => absurd (congrArg Bl.payee e) (by assumption))).symm
        | exact (decide_eq_false (fun e => absurd (congrArg Bl.sum e) (by assumption))).symm
        | exact (decide_eq_false (fun e => absurd (congrArg Bl.cur e) (by assumption))).symm
        | exact (decide_eq_false (fun e => absurd (congrArg Bl.tk e) (by assumption))).symm
        | exact (decide_eq_false (fun e => absurd (congrArg Bl.tn e) (by assumption))).symm
        | exact (decide_eq_false (fun e => absurd (congrArg Bl.tu e) (by assumption))).symm
        | exact (decide_eq_false (fun e => absurd (congrArg Bl.day e) (by assumption))).symm
        | exact (decide_eq_false (fun e => absurd (congrArg Bl.city e) (by assumption))).symm
        | exact (decide_eq_false (fun e => absurd (congrArg Bl.pay e) (by assumption))).symm
        | exact (decide_eq_false (fun e => absurd (congrArg Bl.need e) (by assumption))).symm
        | exact (decide_eq_false (fun e => absurd (congrArg Bl.rate e) (by assumption))).symm
        | exact (decide_eq_false (fun e => absurd (congrArg Bl.flags e) (by assumption))).symm
        | exact (decide_eq_false (fun e => absurd (congrArg Bl.parts e) (by assumption))).symm
    · have hv : Hid (alikeP R a b = false) := by show _ = _; unfold alikeP; rw [hx, hy]
      clear hx hy
      go_wp2
      go_ret
      exact ⟨ret_b hv.out.symm, B3.out⟩
  · have hv : Hid (alikeP R a b = false) := by show _ = _; unfold alikeP; rw [hx]
    clear hx
    go_wp2
    go_ret
    exact ⟨ret_b hv.out.symm, B3.out⟩
end Go.Proofs.YtcjakgpmompaiaaGreatDoor
