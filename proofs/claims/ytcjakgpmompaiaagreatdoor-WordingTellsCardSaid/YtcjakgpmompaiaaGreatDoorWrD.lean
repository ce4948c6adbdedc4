/-
  The program: Text, Parse, Alike.
-/
import Derived.Test.YtcjakgpmompaiaaGreatDoorChA
import Derived.Test.YtcjakgpmompaiaaGreatDoorWrC
namespace Go.Proofs.YtcjakgpmompaiaaGreatDoor
open Go.RowKit Rl Wd


set_option maxHeartbeats 3200000 in
set_option maxRecDepth 100000 in
theorem WText_x {a0 a1 a2 a3 a4 a5 a6 a7 : Option Addr} {c0 c1 c2 c3 c4 c5 c6 c7 : Nat} {R : Rlm} (b : Bl) (p : Int) (w : World) (hr : RS w a0 a1 a2 a3 a4 a5 a6 a7 c0 c1 c2 c3 c4 c5 c6 c7 R) (hF : Fit R) (hE : Ev w) :
    Calls Tryz.prog 14 #[.agg #[.slice a0 R.cur.length c0, .slice a1 R.cities.length c1, .slice a2 R.groups.length c2, .slice a3 R.firms.length c3, .slice a4 R.orders.length c4, .slice a5 R.usances.length c5, .slice a6 R.rates.length c6, .slice a7 R.halts.length c7], vB b, .int .i64 p] w fun r w' => r = .returned (.string (textP R b p)) ∧ Below w.heap.size w w' := by
  have HR := Lib.hid hr
  have X0 := Lib.hid (BB.new (w.alloc (.cells #[.slice a0 R.cur.length c0, .slice a1 R.cities.length c1, .slice a2 R.groups.length c2, .slice a3 R.firms.length c3, .slice a4 R.orders.length c4, .slice a5 R.usances.length c5, .slice a6 R.rates.length c6, .slice a7 R.halts.length c7] 31)) b (w.heap.size + 1) (by simp))
  have RB0 := Lib.hid ((RB.new w a0 a1 a2 a3 a4 a5 a6 a7 c0 c1 c2 c3 c4 c5 c6 c7 R).next (Below.new1 (.cells #[.int .i64 b.drawer, .int .i64 b.drawee, .int .i64 b.payee, .int .i64 b.sum, .int .i64 b.cur, .int .i64 b.tk, .int .i64 b.tn, .int .i64 b.tu, .int .i64 b.day, .int .i64 b.city, .int .i64 b.pay, .int .i64 b.need, .int .i64 b.rate, .int .i64 b.flags, .int .i64 b.parts] 35)))
  have B0 : Hid (Below w.heap.size w ((w.alloc (.cells #[.slice a0 R.cur.length c0, .slice a1 R.cities.length c1, .slice a2 R.groups.length c2, .slice a3 R.firms.length c3, .slice a4 R.orders.length c4, .slice a5 R.usances.length c5, .slice a6 R.rates.length c6, .slice a7 R.halts.length c7] 31)).alloc (.cells #[.int .i64 b.drawer, .int .i64 b.drawee, .int .i64 b.payee, .int .i64 b.sum, .int .i64 b.cur, .int .i64 b.tk, .int .i64 b.tn, .int .i64 b.tu, .int .i64 b.day, .int .i64 b.city, .int .i64 b.pay, .int .i64 b.need, .int .i64 b.rate, .int .i64 b.flags, .int .i64 b.parts] 35))) := chain (Below.new1 _) (Below.new1 _)
  clear hr
  have HE := Lib.hid hE
  clear hE
  have x0 := X0.out.at (i := 0) rfl
  have x1 := X0.out.at (i := 1) rfl
  have x2 := X0.out.at (i := 2) rfl
  have x3 := X0.out.at (i := 3) rfl
  have x4 := X0.out.at (i := 4) rfl
  have x5 := X0.out.at (i := 5) rfl
  have x6 := X0.out.at (i := 6) rfl
  have x7 := X0.out.at (i := 7) rfl
  have x8 := X0.out.at (i := 8) rfl
  have x9 := X0.out.at (i := 9) rfl
  have x10 := X0.out.at (i := 10) rfl
  have x11 := X0.out.at (i := 11) rfl
  have x12 := X0.out.at (i := 12) rfl
  have x13 := X0.out.at (i := 13) rfl
  have x14 := X0.out.at (i := 14) rfl
  have k0 := RB0.out.b0
  have k1 := RB0.out.b1
  have k2 := RB0.out.b2
  have k3 := RB0.out.b3
  have k4 := RB0.out.b4
  have k5 := RB0.out.b5
  have k6 := RB0.out.b6
  have k7 := RB0.out.b7
  go_enter Tryz.func14, Tryz.ntmps14
  go_wp2_with fail
  clear x0 x1 x2 x3 x4 x5 x6 x7 x8 x9 x10 x11 x12 x13 x14 k0 k1 k2 k3 k4 k5 k6 k7
  refine (WCheck_x b _ (HR.out.next B0.out) hF).mono ?_
  rintro r w1 ⟨rfl, c1⟩
  have B1 := Lib.hid (chain B0.out c1)
  have X1 := Lib.hid (X0.out.below c1 X0.out.lt)
  have RB1 := Lib.hid (RB0.out.next c1)
  clear c1
  by_cases c : checkW R b = 0
  · rw [c]
    have x14 := X1.out.at (i := 14) rfl
    have q14 : IntKind.i64.wrap (b.parts - 1) = b.parts - 1 := IntWalk.i64_in _ (by have := (rt_of c).parts; omega)
    have CC := Lib.hid c
    clear c
    go_wp2_with fail
    clear x14
    refine (bwithin_x p 0 (b.parts - 1) _).mono ?_
    rintro r w2 ⟨rfl, rfl⟩
    clear q14
    cases e : wi p 0 (b.parts - 1) with
    | false =>
      go_wp2
      go_ret
      exact ⟨str_eq (textP_no (fun h => by have := wi_iff.2 ⟨h.lo, (by have := h.hi; omega : p ≤ b.parts - 1)⟩; rw [e] at this; cases this)).symm, B1.out⟩
    | true =>
      have x0 := X1.out.at (i := 0) rfl
      have x1 := X1.out.at (i := 1) rfl
      have x2 := X1.out.at (i := 2) rfl
      have x3 := X1.out.at (i := 3) rfl
      have x4 := X1.out.at (i := 4) rfl
      have x5 := X1.out.at (i := 5) rfl
      have x6 := X1.out.at (i := 6) rfl
      have x7 := X1.out.at (i := 7) rfl
      have x8 := X1.out.at (i := 8) rfl
      have x9 := X1.out.at (i := 9) rfl
      have x10 := X1.out.at (i := 10) rfl
      have x11 := X1.out.at (i := 11) rfl
      have x12 := X1.out.at (i := 12) rfl
      have x13 := X1.out.at (i := 13) rfl
      have x14 := X1.out.at (i := 14) rfl
      have k0 := RB1.out.b0
      have k1 := RB1.out.b1
      have k2 := RB1.out.b2
      have k3 := RB1.out.b3
      have k4 := RB1.out.b4
      have k5 := RB1.out.b5
      have k6 := RB1.out.b6
      have k7 := RB1.out.b7
      have hh : Has R b p := ⟨CC.out, (wi_iff.1 e).1, by have := (wi_iff.1 e).2; omega⟩
      go_wp2_with fail
      clear x0 x1 x2 x3 x4 x5 x6 x7 x8 x9 x10 x11 x12 x13 x14 k0 k1 k2 k3 k4 k5 k6 k7
      refine (write_x b p _ (HR.out.next B1.out) hF (HE.out.next B1.out) (rt_of CC.out) hh.lo hh.hi).mono ?_
      rintro r w2 ⟨rfl, c2⟩
      have B2 := Lib.hid (chain B1.out c2)
      have X2 := Lib.hid (X1.out.below c2 X1.out.lt)
      have RB2 := Lib.hid (RB1.out.next c2)
      clear c2
      go_wp2
      go_ret
      exact ⟨str_eq (textP_yes hh).symm, B2.out⟩
  · have g : (checkW R b != 0) = true := bne_iff_ne.2 c
    have CC := Lib.hid c
    clear c
    go_wp2
    go_ret
    exact ⟨str_eq (textP_no (fun h => CC.out h.ok)).symm, B1.out⟩

/-- what Parse returns -/
def pvB : Option (Bl × Int) → Value
  | some x => .tuple #[vB x.1, .int .i64 x.2, .int .i64 0]
  | none => .tuple #[vB ⟨0, 0, 0, 0, 0, 0, 0, 0, 0, 0, 0, 0, 0, 0, 0⟩, .int .i64 0, .int .i64 9]
theorem word_ne (R : Rlm) (b : Bl) (p : Int) : wordW R b p ≠ [] := by
  rw [word_eq]
  split <;> simp
set_option maxHeartbeats 6400000 in
set_option maxRecDepth 100000 in
theorem Parse_x {a0 a1 a2 a3 a4 a5 a6 a7 : Option Addr} {c0 c1 c2 c3 c4 c5 c6 c7 : Nat} {R : Rlm} (text : B) (w : World) (hr : RS w a0 a1 a2 a3 a4 a5 a6 a7 c0 c1 c2 c3 c4 c5 c6 c7 R) (hF : Fit R) (hE : Ev w) (hs : text.size ≤ 100000) :
    Calls Tryz.prog 10 #[.agg #[.slice a0 R.cur.length c0, .slice a1 R.cities.length c1, .slice a2 R.groups.length c2, .slice a3 R.firms.length c3, .slice a4 R.orders.length c4, .slice a5 R.usances.length c5, .slice a6 R.rates.length c6, .slice a7 R.halts.length c7], .string text] w fun r w' => r = .returned (pvB (parseP R text)) ∧ Uniq R text ∧ Below w.heap.size w w' := by
  have HR := Lib.hid hr
  have HE := Lib.hid hE
  have X0 := Lib.hid (BB.new (w.alloc (.cells #[.slice a0 R.cur.length c0, .slice a1 R.cities.length c1, .slice a2 R.groups.length c2, .slice a3 R.firms.length c3, .slice a4 R.orders.length c4, .slice a5 R.usances.length c5, .slice a6 R.rates.length c6, .slice a7 R.halts.length c7] 31)) (⟨0, 0, 0, 0, 0, 0, 0, 0, 0, 0, 0, 0, 0, 0, 0⟩ : Bl) (w.heap.size + 1) (by simp))
  have RB0 := Lib.hid ((RB.new w a0 a1 a2 a3 a4 a5 a6 a7 c0 c1 c2 c3 c4 c5 c6 c7 R).next (Below.new1 (.cells #[.int .i64 0, .int .i64 0, .int .i64 0, .int .i64 0, .int .i64 0, .int .i64 0, .int .i64 0, .int .i64 0, .int .i64 0, .int .i64 0, .int .i64 0, .int .i64 0, .int .i64 0, .int .i64 0, .int .i64 0] 35)))
  have B0 : Hid (Below w.heap.size w ((w.alloc (.cells #[.slice a0 R.cur.length c0, .slice a1 R.cities.length c1, .slice a2 R.groups.length c2, .slice a3 R.firms.length c3, .slice a4 R.orders.length c4, .slice a5 R.usances.length c5, .slice a6 R.rates.length c6, .slice a7 R.halts.length c7] 31)).alloc (.cells #[.int .i64 0, .int .i64 0, .int .i64 0, .int .i64 0, .int .i64 0, .int .i64 0, .int .i64 0, .int .i64 0, .int .i64 0, .int .i64 0, .int .i64 0, .int .i64 0, .int .i64 0, .int .i64 0, .int .i64 0] 35))) := chain (Below.new1 _) (Below.new1 _)
  clear hr hE
  have x0 := X0.out.at (i := 0) rfl
  have x1 := X0.out.at (i := 1) rfl
  have x2 := X0.out.at (i := 2) rfl
  have x3 := X0.out.at (i := 3) rfl
  have x4 := X0.out.at (i := 4) rfl
  have x5 := X0.out.at (i := 5) rfl
  have x6 := X0.out.at (i := 6) rfl
  have x7 := X0.out.at (i := 7) rfl
  have x8 := X0.out.at (i := 8) rfl
  have x9 := X0.out.at (i := 9) rfl
  have x10 := X0.out.at (i := 10) rfl
  have x11 := X0.out.at (i := 11) rfl
  have x12 := X0.out.at (i := 12) rfl
  have x13 := X0.out.at (i := 13) rfl
  have x14 := X0.out.at (i := 14) rfl
  have k0 := RB0.out.b0
  have k1 := RB0.out.b1
  have k2 := RB0.out.b2
  have k3 := RB0.out.b3
  have k4 := RB0.out.b4
  have k5 := RB0.out.b5
  have k6 := RB0.out.b6
  have k7 := RB0.out.b7
  go_enter Tryz.func10, Tryz.ntmps10
  go_wp2_with fail
  clear x0 x1 x2 x3 x4 x5 x6 x7 x8 x9 x10 x11 x12 x13 x14 k0 k1 k2 k3 k4 k5 k6 k7
  refine (read_x _ (HR.out.next B0.out) hF (HE.out.next B0.out) hs).mono ?_
  rintro r w1 ⟨b, p, rfl, hu, c1⟩
  have HU := Lib.hid hu
  have B1 := Lib.hid (chain B0.out c1)
  have X1 := Lib.hid (X0.out.below c1 X0.out.lt)
  have RB1 := Lib.hid (RB0.out.next c1)
  clear hu c1
  have HZ : Hid (w.heap.size < w.heap.size + 1) := Nat.lt_succ_self _
  have x0 := X1.out.at (i := 0) rfl
  have f0 := X1.out.free 0
  have x1 := X1.out.at (i := 1) rfl
  have f1 := X1.out.free 1
  have x2 := X1.out.at (i := 2) rfl
  have f2 := X1.out.free 2
  have x3 := X1.out.at (i := 3) rfl
  have f3 := X1.out.free 3
  have x4 := X1.out.at (i := 4) rfl
  have f4 := X1.out.free 4
  have x5 := X1.out.at (i := 5) rfl
  have f5 := X1.out.free 5
  have x6 := X1.out.at (i := 6) rfl
  have f6 := X1.out.free 6
  have x7 := X1.out.at (i := 7) rfl
  have f7 := X1.out.free 7
  have x8 := X1.out.at (i := 8) rfl
  have f8 := X1.out.free 8
  have x9 := X1.out.at (i := 9) rfl
  have f9 := X1.out.free 9
  have x10 := X1.out.at (i := 10) rfl
  have f10 := X1.out.free 10
  have x11 := X1.out.at (i := 11) rfl
  have f11 := X1.out.free 11
  have x12 := X1.out.at (i := 12) rfl
  have f12 := X1.out.free 12
  have x13 := X1.out.at (i := 13) rfl
  have f13 := X1.out.free 13
  have x14 := X1.out.at (i := 14) rfl
  have f14 := X1.out.free 14
  have k0 := RB1.out.b0
  have k1 := RB1.out.b1
  have k2 := RB1.out.b2
  have k3 := RB1.out.b3
  have k4 := RB1.out.b4
  have k5 := RB1.out.b5
  have k6 := RB1.out.b6
  have k7 := RB1.out.b7
  have X2 := Lib.hid (((((((((((((((((((((((((((((((X1.out).set 0 (.int .i64 b.drawer) (b' := (⟨b.drawer, 0, 0, 0, 0, 0, 0, 0, 0, 0, 0, 0, 0, 0, 0⟩ : Bl)) rfl)).set 1 (.int .i64 b.drawee) (b' := (⟨b.drawer, b.drawee, 0, 0, 0, 0, 0, 0, 0, 0, 0, 0, 0, 0, 0⟩ : Bl)) rfl)).set 2 (.int .i64 b.payee) (b' := (⟨b.drawer, b.drawee, b.payee, 0, 0, 0, 0, 0, 0, 0, 0, 0, 0, 0, 0⟩ : Bl)) rfl)).set 3 (.int .i64 b.sum) (b' := (⟨b.drawer, b.drawee, b.payee, b.sum, 0, 0, 0, 0, 0, 0, 0, 0, 0, 0, 0⟩ : Bl)) rfl)).set 4 (.int .i64 b.cur) (b' := (⟨b.drawer, b.drawee, b.payee, b.sum, b.cur, 0, 0, 0, 0, 0, 0, 0, 0, 0, 0⟩ : Bl)) rfl)).set 5 (.int .i64 b.tk) (b' := (⟨b.drawer, b.drawee, b.payee, b.sum, b.cur, b.tk, 0, 0, 0, 0, 0, 0, 0, 0, 0⟩ : Bl)) rfl)).set 6 (.int .i64 b.tn) (b' := (⟨b.drawer, b.drawee, b.payee, b.sum, b.cur, b.tk, b.tn, 0, 0, 0, 0, 0, 0, 0, 0⟩ : Bl)) rfl)).set 7 (.int .i64 b.tu) (b' := (⟨b.drawer, b.drawee, b.payee, b.sum, b.cur, b.tk, b.tn, b.tu, 0, 0, 0, 0, 0, 0, 0⟩ : Bl)) rfl)).set 8 (.int .i64 b.day) (b' := (⟨b.drawer, b.drawee, b.payee, b.sum, b.cur, b.tk, b.tn, b.tu, b.day, 0, 0, 0, 0, 0, 0⟩ : Bl)) rfl)).set 9 (.int .i64 b.city) (b' := (⟨b.drawer, b.drawee, b.payee, b.sum, b.cur, b.tk, b.tn, b.tu, b.day, b.city, 0, 0, 0, 0, 0⟩ : Bl)) rfl)).set 10 (.int .i64 b.pay) (b' := (⟨b.drawer, b.drawee, b.payee, b.sum, b.cur, b.tk, b.tn, b.tu, b.day, b.city, b.pay, 0, 0, 0, 0⟩ : Bl)) rfl)).set 11 (.int .i64 b.need) (b' := (⟨b.drawer, b.drawee, b.payee, b.sum, b.cur, b.tk, b.tn, b.tu, b.day, b.city, b.pay, b.need, 0, 0, 0⟩ : Bl)) rfl)).set 12 (.int .i64 b.rate) (b' := (⟨b.drawer, b.drawee, b.payee, b.sum, b.cur, b.tk, b.tn, b.tu, b.day, b.city, b.pay, b.need, b.rate, 0, 0⟩ : Bl)) rfl)).set 13 (.int .i64 b.flags) (b' := (⟨b.drawer, b.drawee, b.payee, b.sum, b.cur, b.tk, b.tn, b.tu, b.day, b.city, b.pay, b.need, b.rate, b.flags, 0⟩ : Bl)) rfl)).set 14 (.int .i64 b.parts) (b' := (⟨b.drawer, b.drawee, b.payee, b.sum, b.cur, b.tk, b.tn, b.tu, b.day, b.city, b.pay, b.need, b.rate, b.flags, b.parts⟩ : Bl)) rfl))
  have B2 := Lib.hid ((below_at (below_at (below_at (below_at (below_at (below_at (below_at (below_at (below_at (below_at (below_at (below_at (below_at (below_at (below_at B1.out HZ.out 0 (.int .i64 b.drawer)) HZ.out 1 (.int .i64 b.drawee)) HZ.out 2 (.int .i64 b.payee)) HZ.out 3 (.int .i64 b.sum)) HZ.out 4 (.int .i64 b.cur)) HZ.out 5 (.int .i64 b.tk)) HZ.out 6 (.int .i64 b.tn)) HZ.out 7 (.int .i64 b.tu)) HZ.out 8 (.int .i64 b.day)) HZ.out 9 (.int .i64 b.city)) HZ.out 10 (.int .i64 b.pay)) HZ.out 11 (.int .i64 b.need)) HZ.out 12 (.int .i64 b.rate)) HZ.out 13 (.int .i64 b.flags)) HZ.out 14 (.int .i64 b.parts)))
  have UQ : Uniq R text := fun b1 p1 b2 p2 h1 h2 => by
    obtain ⟨q1, q2⟩ := HU.out _ _ h1
    obtain ⟨q3, q4⟩ := HU.out _ _ h2
    exact ⟨q1.trans q3.symm, q2.trans q4.symm⟩
  by_cases ht : text = ByteArray.empty
  · have hN := Lib.hid (parse_no (fun b p h => word_ne R b p (mkB_inj (h.eq.symm.trans ht))))
    subst ht
    go_wp2
    clear x0 f0 x1 f1 x2 f2 x3 f3 x4 f4 x5 f5 x6 f6 x7 f7 x8 f8 x9 f9 x10 f10 x11 f11 x12 f12 x13 f13 x14 f14
    have XF := ((((((((((((((((((((((((((((((X2.out).set 0 (.int .i64 0) (b' := (⟨0, b.drawee, b.payee, b.sum, b.cur, b.tk, b.tn, b.tu, b.day, b.city, b.pay, b.need, b.rate, b.flags, b.parts⟩ : Bl)) rfl)).set 1 (.int .i64 0) (b' := (⟨0, 0, b.payee, b.sum, b.cur, b.tk, b.tn, b.tu, b.day, b.city, b.pay, b.need, b.rate, b.flags, b.parts⟩ : Bl)) rfl)).set 2 (.int .i64 0) (b' := (⟨0, 0, 0, b.sum, b.cur, b.tk, b.tn, b.tu, b.day, b.city, b.pay, b.need, b.rate, b.flags, b.parts⟩ : Bl)) rfl)).set 3 (.int .i64 0) (b' := (⟨0, 0, 0, 0, b.cur, b.tk, b.tn, b.tu, b.day, b.city, b.pay, b.need, b.rate, b.flags, b.parts⟩ : Bl)) rfl)).set 4 (.int .i64 0) (b' := (⟨0, 0, 0, 0, 0, b.tk, b.tn, b.tu, b.day, b.city, b.pay, b.need, b.rate, b.flags, b.parts⟩ : Bl)) rfl)).set 5 (.int .i64 0) (b' := (⟨0, 0, 0, 0, 0, 0, b.tn, b.tu, b.day, b.city, b.pay, b.need, b.rate, b.flags, b.parts⟩ : Bl)) rfl)).set 6 (.int .i64 0) (b' := (⟨0, 0, 0, 0, 0, 0, 0, b.tu, b.day, b.city, b.pay, b.need, b.rate, b.flags, b.parts⟩ : Bl)) rfl)).set 7 (.int .i64 0) (b' := (⟨0, 0, 0, 0, 0, 0, 0, 0, b.day, b.city, b.pay, b.need, b.rate, b.flags, b.parts⟩ : Bl)) rfl)).set 8 (.int .i64 0) (b' := (⟨0, 0, 0, 0, 0, 0, 0, 0, 0, b.city, b.pay, b.need, b.rate, b.flags, b.parts⟩ : Bl)) rfl)).set 9 (.int .i64 0) (b' := (⟨0, 0, 0, 0, 0, 0, 0, 0, 0, 0, b.pay, b.need, b.rate, b.flags, b.parts⟩ : Bl)) rfl)).set 10 (.int .i64 0) (b' := (⟨0, 0, 0, 0, 0, 0, 0, 0, 0, 0, 0, b.need, b.rate, b.flags, b.parts⟩ : Bl)) rfl)).set 11 (.int .i64 0) (b' := (⟨0, 0, 0, 0, 0, 0, 0, 0, 0, 0, 0, 0, b.rate, b.flags, b.parts⟩ : Bl)) rfl)).set 12 (.int .i64 0) (b' := (⟨0, 0, 0, 0, 0, 0, 0, 0, 0, 0, 0, 0, 0, b.flags, b.parts⟩ : Bl)) rfl)).set 13 (.int .i64 0) (b' := (⟨0, 0, 0, 0, 0, 0, 0, 0, 0, 0, 0, 0, 0, 0, b.parts⟩ : Bl)) rfl)).set 14 (.int .i64 0) (b' := (⟨0, 0, 0, 0, 0, 0, 0, 0, 0, 0, 0, 0, 0, 0, 0⟩ : Bl)) rfl)
    have BF := (below_at (below_at (below_at (below_at (below_at (below_at (below_at (below_at (below_at (below_at (below_at (below_at (below_at (below_at (below_at B2.out HZ.out 0 (.int .i64 0)) HZ.out 1 (.int .i64 0)) HZ.out 2 (.int .i64 0)) HZ.out 3 (.int .i64 0)) HZ.out 4 (.int .i64 0)) HZ.out 5 (.int .i64 0)) HZ.out 6 (.int .i64 0)) HZ.out 7 (.int .i64 0)) HZ.out 8 (.int .i64 0)) HZ.out 9 (.int .i64 0)) HZ.out 10 (.int .i64 0)) HZ.out 11 (.int .i64 0)) HZ.out 12 (.int .i64 0)) HZ.out 13 (.int .i64 0)) HZ.out 14 (.int .i64 0))
    have r0 := XF.at (i := 0) rfl
    have r1 := XF.at (i := 1) rfl
    have r2 := XF.at (i := 2) rfl
    have r3 := XF.at (i := 3) rfl
    have r4 := XF.at (i := 4) rfl
    have r5 := XF.at (i := 5) rfl
    have r6 := XF.at (i := 6) rfl
    have r7 := XF.at (i := 7) rfl
    have r8 := XF.at (i := 8) rfl
    have r9 := XF.at (i := 9) rfl
    have r10 := XF.at (i := 10) rfl
    have r11 := XF.at (i := 11) rfl
    have r12 := XF.at (i := 12) rfl
    have r13 := XF.at (i := 13) rfl
    have r14 := XF.at (i := 14) rfl
    exact bodyPost_ret (v := .tuple #[.agg #[.int .i64 0, .int .i64 0, .int .i64 0, .int .i64 0, .int .i64 0, .int .i64 0, .int .i64 0, .int .i64 0, .int .i64 0, .int .i64 0, .int .i64 0, .int .i64 0, .int .i64 0, .int .i64 0, .int .i64 0], .int .i64 0, .int .i64 9]) (by simp [results, Tryz.results10, go_sem, r0, r1, r2, r3, r4, r5, r6, r7, r8, r9, r10, r11, r12, r13, r14]) rfl ⟨by rw [hN.out]; rfl, UQ, BF⟩
  · have hemp : text.toList.isEmpty = false := by
      rw [Lib.toList_data]
      cases hh : text.data.toList with
      | nil => exact absurd (ByteArray.ext (Array.toList_inj.1 hh)) ht
      | cons _ _ => rfl
    have HT := Lib.hid ht
    clear ht
    go_wp2_with fail
    clear x0 f0 x1 f1 x2 f2 x3 f3 x4 f4 x5 f5 x6 f6 x7 f7 x8 f8 x9 f9 x10 f10 x11 f11 x12 f12 x13 f13 x14 f14 k0 k1 k2 k3 k4 k5 k6 k7
    refine (WText_x b p _ (HR.out.next B2.out) hF (HE.out.next B2.out)).mono ?_
    rintro r w3 ⟨rfl, c3⟩
    obtain ⟨T, hT⟩ : ∃ T, T = textP R b p := ⟨_, rfl⟩
    rw [← hT]
    have B3 := Lib.hid (chain B2.out c3)
    have X3 := Lib.hid (X2.out.below c3 X2.out.lt)
    have HTT := Lib.hid hT
    clear c3 hT
    have x0 := X3.out.at (i := 0) rfl
    have f0 := X3.out.free 0
    have x1 := X3.out.at (i := 1) rfl
    have f1 := X3.out.free 1
    have x2 := X3.out.at (i := 2) rfl
    have f2 := X3.out.free 2
    have x3 := X3.out.at (i := 3) rfl
    have f3 := X3.out.free 3
    have x4 := X3.out.at (i := 4) rfl
    have f4 := X3.out.free 4
    have x5 := X3.out.at (i := 5) rfl
    have f5 := X3.out.free 5
    have x6 := X3.out.at (i := 6) rfl
    have f6 := X3.out.free 6
    have x7 := X3.out.at (i := 7) rfl
    have f7 := X3.out.free 7
    have x8 := X3.out.at (i := 8) rfl
    have f8 := X3.out.free 8
    have x9 := X3.out.at (i := 9) rfl
    have f9 := X3.out.free 9
    have x10 := X3.out.at (i := 10) rfl
    have f10 := X3.out.free 10
    have x11 := X3.out.at (i := 11) rfl
    have f11 := X3.out.free 11
    have x12 := X3.out.at (i := 12) rfl
    have f12 := X3.out.free 12
    have x13 := X3.out.at (i := 13) rfl
    have f13 := X3.out.free 13
    have x14 := X3.out.at (i := 14) rfl
    have f14 := X3.out.free 14
    by_cases e : T = text
    · have e1 : (T.toList == text.toList) = true := by rw [e]; simp
      have e2 : (T.toList != text.toList) = false := by rw [e]; simp
      have hI : IsT R text b p := by
        by_cases hh : Has R b p
        · exact ⟨hh, by rw [← e, HTT.out, textP_yes hh]⟩
        · exact absurd (by rw [← e, HTT.out, textP_no hh]) HT.out
      have hN := Lib.hid (parse_yes UQ hI)
      clear e hI
      go_wp2
      clear x0 f0 x1 f1 x2 f2 x3 f3 x4 f4 x5 f5 x6 f6 x7 f7 x8 f8 x9 f9 x10 f10 x11 f11 x12 f12 x13 f13 x14 f14
      have XF := ((((((((((((((((((((((((((((((X3.out).set 0 (.int .i64 b.drawer) (b' := (⟨b.drawer, b.drawee, b.payee, b.sum, b.cur, b.tk, b.tn, b.tu, b.day, b.city, b.pay, b.need, b.rate, b.flags, b.parts⟩ : Bl)) rfl)).set 1 (.int .i64 b.drawee) (b' := (⟨b.drawer, b.drawee, b.payee, b.sum, b.cur, b.tk, b.tn, b.tu, b.day, b.city, b.pay, b.need, b.rate, b.flags, b.parts⟩ : Bl)) rfl)).set 2 (.int .i64 b.payee) (b' := (⟨b.drawer, b.drawee, b.payee, b.sum, b.cur, b.tk, b.tn, b.tu, b.day, b.city, b.pay, b.need, b.rate, b.flags, b.parts⟩ : Bl)) rfl)).set 3 (.int .i64 b.sum) (b' := (⟨b.drawer, b.drawee, b.payee, b.sum, b.cur, b.tk, b.tn, b.tu, b.day, b.city, b.pay, b.need, b.rate, b.flags, b.parts⟩ : Bl)) rfl)).set 4 (.int .i64 b.cur) (b' := (⟨b.drawer, b.drawee, b.payee, b.sum, b.cur, b.tk, b.tn, b.tu, b.day, b.city, b.pay, b.need, b.rate, b.flags, b.parts⟩ : Bl)) rfl)).set 5 (.int .i64 b.tk) (b' := (⟨b.drawer, b.drawee, b.payee, b.sum, b.cur, b.tk, b.tn, b.tu, b.day, b.city, b.pay, b.need, b.rate, b.flags, b.parts⟩ : Bl)) rfl)).set 6 (.int .i64 b.tn) (b' := (⟨b.drawer, b.drawee, b.payee, b.sum, b.cur, b.tk, b.tn, b.tu, b.day, b.city, b.pay, b.need, b.rate, b.flags, b.parts⟩ : Bl)) rfl)).set 7 (.int .i64 b.tu) (b' := (⟨b.drawer, b.drawee, b.payee, b.sum, b.cur, b.tk, b.tn, b.tu, b.day, b.city, b.pay, b.need, b.rate, b.flags, b.parts⟩ : Bl)) rfl)).set 8 (.int .i64 b.day) (b' := (⟨b.drawer, b.drawee, b.payee, b.sum, b.cur, b.tk, b.tn, b.tu, b.day, b.city, b.pay, b.need, b.rate, b.flags, b.parts⟩ : Bl)) rfl)).set 9 (.int .i64 b.city) (b' := (⟨b.drawer, b.drawee, b.payee, b.sum, b.cur, b.tk, b.tn, b.tu, b.day, b.city, b.pay, b.need, b.rate, b.flags, b.parts⟩ : Bl)) rfl)).set 10 (.int .i64 b.pay) (b' := (⟨b.drawer, b.drawee, b.payee, b.sum, b.cur, b.tk, b.tn, b.tu, b.day, b.city, b.pay, b.need, b.rate, b.flags, b.parts⟩ : Bl)) rfl)).set 11 (.int .i64 b.need) (b' := (⟨b.drawer, b.drawee, b.payee, b.sum, b.cur, b.tk, b.tn, b.tu, b.day, b.city, b.pay, b.need, b.rate, b.flags, b.parts⟩ : Bl)) rfl)).set 12 (.int .i64 b.rate) (b' := (⟨b.drawer, b.drawee, b.payee, b.sum, b.cur, b.tk, b.tn, b.tu, b.day, b.city, b.pay, b.need, b.rate, b.flags, b.parts⟩ : Bl)) rfl)).set 13 (.int .i64 b.flags) (b' := (⟨b.drawer, b.drawee, b.payee, b.sum, b.cur, b.tk, b.tn, b.tu, b.day, b.city, b.pay, b.need, b.rate, b.flags, b.parts⟩ : Bl)) rfl)).set 14 (.int .i64 b.parts) (b' := (⟨b.drawer, b.drawee, b.payee, b.sum, b.cur, b.tk, b.tn, b.tu, b.day, b.city, b.pay, b.need, b.rate, b.flags, b.parts⟩ : Bl)) rfl)
      have BF := (below_at (below_at (below_at (below_at (below_at (below_at (below_at (below_at (below_at (below_at (below_at (below_at (below_at (below_at (below_at B3.out HZ.out 0 (.int .i64 b.drawer)) HZ.out 1 (.int .i64 b.drawee)) HZ.out 2 (.int .i64 b.payee)) HZ.out 3 (.int .i64 b.sum)) HZ.out 4 (.int .i64 b.cur)) HZ.out 5 (.int .i64 b.tk)) HZ.out 6 (.int .i64 b.tn)) HZ.out 7 (.int .i64 b.tu)) HZ.out 8 (.int .i64 b.day)) HZ.out 9 (.int .i64 b.city)) HZ.out 10 (.int .i64 b.pay)) HZ.out 11 (.int .i64 b.need)) HZ.out 12 (.int .i64 b.rate)) HZ.out 13 (.int .i64 b.flags)) HZ.out 14 (.int .i64 b.parts))
      have r0 := XF.at (i := 0) rfl
      have r1 := XF.at (i := 1) rfl
      have r2 := XF.at (i := 2) rfl
      have r3 := XF.at (i := 3) rfl
      have r4 := XF.at (i := 4) rfl
      have r5 := XF.at (i := 5) rfl
      have r6 := XF.at (i := 6) rfl
      have r7 := XF.at (i := 7) rfl
      have r8 := XF.at (i := 8) rfl
      have r9 := XF.at (i := 9) rfl
      have r10 := XF.at (i := 10) rfl
      have r11 := XF.at (i := 11) rfl
      have r12 := XF.at (i := 12) rfl
      have r13 := XF.at (i := 13) rfl
      have r14 := XF.at (i := 14) rfl
      exact bodyPost_ret (v := .tuple #[.agg #[.int .i64 b.drawer, .int .i64 b.drawee, .int .i64 b.payee, .int .i64 b.sum, .int .i64 b.cur, .int .i64 b.tk, .int .i64 b.tn, .int .i64 b.tu, .int .i64 b.day, .int .i64 b.city, .int .i64 b.pay, .int .i64 b.need, .int .i64 b.rate, .int .i64 b.flags, .int .i64 b.parts], .int .i64 p, .int .i64 0]) (by simp [results, Tryz.results10, go_sem, r0, r1, r2, r3, r4, r5, r6, r7, r8, r9, r10, r11, r12, r13, r14]) rfl ⟨by rw [hN.out]; rfl, UQ, BF⟩
    · have e1 : (T.toList == text.toList) = false := (Lib.bytes_beq_false_iff _ _).2 e
      have e2 : (T.toList != text.toList) = true := by unfold bne; rw [e1]; rfl
      have hN := Lib.hid (parse_no (R := R) (s := text) (fun b' p' h => by
        obtain ⟨rfl, rfl⟩ := HU.out _ _ h
        exact e (by rw [HTT.out, textP_yes h.toHas, h.eq])))
      clear e
      go_wp2
      clear x0 f0 x1 f1 x2 f2 x3 f3 x4 f4 x5 f5 x6 f6 x7 f7 x8 f8 x9 f9 x10 f10 x11 f11 x12 f12 x13 f13 x14 f14
      have XF := ((((((((((((((((((((((((((((((X3.out).set 0 (.int .i64 0) (b' := (⟨0, b.drawee, b.payee, b.sum, b.cur, b.tk, b.tn, b.tu, b.day, b.city, b.pay, b.need, b.rate, b.flags, b.parts⟩ : Bl)) rfl)).set 1 (.int .i64 0) (b' := (⟨0, 0, b.payee, b.sum, b.cur, b.tk, b.tn, b.tu, b.day, b.city, b.pay, b.need, b.rate, b.flags, b.parts⟩ : Bl)) rfl)).set 2 (.int .i64 0) (b' := (⟨0, 0, 0, b.sum, b.cur, b.tk, b.tn, b.tu, b.day, b.city, b.pay, b.need, b.rate, b.flags, b.parts⟩ : Bl)) rfl)).set 3 (.int .i64 0) (b' := (⟨0, 0, 0, 0, b.cur, b.tk, b.tn, b.tu, b.day, b.city, b.pay, b.need, b.rate, b.flags, b.parts⟩ : Bl)) rfl)).set 4 (.int .i64 0) (b' := (⟨0, 0, 0, 0, 0, b.tk, b.tn, b.tu, b.day, b.city, b.pay, b.need, b.rate, b.flags, b.parts⟩ : Bl)) rfl)).set 5 (.int .i64 0) (b' := (⟨0, 0, 0, 0, 0, 0, b.tn, b.tu, b.day, b.city, b.pay, b.need, b.rate, b.flags, b.parts⟩ : Bl)) rfl)).set 6 (.int .i64 0) (b' := (⟨0, 0, 0, 0, 0, 0, 0, b.tu, b.day, b.city, b.pay, b.need, b.rate, b.flags, b.parts⟩ : Bl)) rfl)).set 7 (.int .i64 0) (b' := (⟨0, 0, 0, 0, 0, 0, 0, 0, b.day, b.city, b.pay, b.need, b.rate, b.flags, b.parts⟩ : Bl)) rfl)).set 8 (.int .i64 0) (b' := (⟨0, 0, 0, 0, 0, 0, 0, 0, 0, b.city, b.pay, b.need, b.rate, b.flags, b.parts⟩ : Bl)) rfl)).set 9 (.int .i64 0) (b' := (⟨0, 0, 0, 0, 0, 0, 0, 0, 0, 0, b.pay, b.need, b.rate, b.flags, b.parts⟩ : Bl)) rfl)).set 10 (.int .i64 0) (b' := (⟨0, 0, 0, 0, 0, 0, 0, 0, 0, 0, 0, b.need, b.rate, b.flags, b.parts⟩ : Bl)) rfl)).set 11 (.int .i64 0) (b' := (⟨0, 0, 0, 0, 0, 0, 0, 0, 0, 0, 0, 0, b.rate, b.flags, b.parts⟩ : Bl)) rfl)).set 12 (.int .i64 0) (b' := (⟨0, 0, 0, 0, 0, 0, 0, 0, 0, 0, 0, 0, 0, b.flags, b.parts⟩ : Bl)) rfl)).set 13 (.int .i64 0) (b' := (⟨0, 0, 0, 0, 0, 0, 0, 0, 0, 0, 0, 0, 0, 0, b.parts⟩ : Bl)) rfl)).set 14 (.int .i64 0) (b' := (⟨0, 0, 0, 0, 0, 0, 0, 0, 0, 0, 0, 0, 0, 0, 0⟩ : Bl)) rfl)
      have BF := (below_at (below_at (below_at (below_at (below_at (below_at (below_at (below_at (below_at (below_at (below_at (below_at (below_at (below_at (below_at B3.out HZ.out 0 (.int .i64 0)) HZ.out 1 (.int .i64 0)) HZ.out 2 (.int .i64 0)) HZ.out 3 (.int .i64 0)) HZ.out 4 (.int .i64 0)) HZ.out 5 (.int .i64 0)) HZ.out 6 (.int .i64 0)) HZ.out 7 (.int .i64 0)) HZ.out 8 (.int .i64 0)) HZ.out 9 (.int .i64 0)) HZ.out 10 (.int .i64 0)) HZ.out 11 (.int .i64 0)) HZ.out 12 (.int .i64 0)) HZ.out 13 (.int .i64 0)) HZ.out 14 (.int .i64 0))
      have r0 := XF.at (i := 0) rfl
      have r1 := XF.at (i := 1) rfl
      have r2 := XF.at (i := 2) rfl
      have r3 := XF.at (i := 3) rfl
      have r4 := XF.at (i := 4) rfl
      have r5 := XF.at (i := 5) rfl
      have r6 := XF.at (i := 6) rfl
      have r7 := XF.at (i := 7) rfl
      have r8 := XF.at (i := 8) rfl
      have r9 := XF.at (i := 9) rfl
      have r10 := XF.at (i := 10) rfl
      have r11 := XF.at (i := 11) rfl
      have r12 := XF.at (i := 12) rfl
      have r13 := XF.at (i := 13) rfl
      have r14 := XF.at (i := 14) rfl
      exact bodyPost_ret (v := .tuple #[.agg #[.int .i64 0, .int .i64 0, .int .i64 0, .int .i64 0, .int .i64 0, .int .i64 0, .int .i64 0, .int .i64 0, .int .i64 0, .int .i64 0, .int .i64 0, .int .i64 0, .int .i64 0, .int .i64 0, .int .i64 0], .int .i64 0, .int .i64 9]) (by simp [results, Tryz.results10, go_sem, r0, r1, r2, r3, r4, r5, r6, r7, r8, r9, r10, r11, r12, r13, r14]) rfl ⟨by rw [hN.out]; rfl, UQ, BF⟩
end Go.Proofs.YtcjakgpmompaiaaGreatDoor
