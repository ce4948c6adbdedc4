/-
  The program's reader: the whole text.
-/
import Derived.Test.YtcjakgpmompaiaaGreatDoorRdF
namespace Go.Proofs.YtcjakgpmompaiaaGreatDoor
open Go.RowKit Rl Wd

/-- a bill as a value -/
abbrev vB (b : Bl) : Value := .agg #[.int .i64 b.drawer, .int .i64 b.drawee, .int .i64 b.payee, .int .i64 b.sum, .int .i64 b.cur, .int .i64 b.tk, .int .i64 b.tn, .int .i64 b.tu, .int .i64 b.day, .int .i64 b.city, .int .i64 b.pay, .int .i64 b.need, .int .i64 b.rate, .int .i64 b.flags, .int .i64 b.parts]
theorem or4 {fl : Int} {d : Bool} (h : fl = if d = true then 1 else 0) : bits BinOp.or IntKind.i64 fl 4 = fl + 4 := by
  subst h
  cases d <;> decide
theorem or2 {fl fl2 : Int} {d o : Bool} (h : fl = if d = true then 1 else 0) (h2 : fl2 = if o = true then fl + 4 else fl) : bits BinOp.or IntKind.i64 fl2 2 = fl2 + 2 := by
  subst h2 h
  cases d <;> cases o <;> decide
theorem flags_eq {fl fl2 : Int} {d n o : Bool} (h : fl = if d = true then 1 else 0) (h2 : fl2 = if o = true then fl + 4 else fl) : (if n = true then fl2 + 2 else fl2) = flagsOf d n o := by
  subst h2 h
  cases d <;> cases o <;> cases n <;> decide
set_option maxHeartbeats 6400000 in
set_option maxRecDepth 100000 in
theorem read_x {a0 a1 a2 a3 a4 a5 a6 a7 : Option Addr} {c0 c1 c2 c3 c4 c5 c6 c7 : Nat} {R : Rlm} {text : B} (w : World) (hr : RS w a0 a1 a2 a3 a4 a5 a6 a7 c0 c1 c2 c3 c4 c5 c6 c7 R) (hF : Fit R) (hE : Ev w) (hs : text.size ≤ 100000) :
    Calls Tryz.prog 21 #[.agg #[.slice a0 R.cur.length c0, .slice a1 R.cities.length c1, .slice a2 R.groups.length c2, .slice a3 R.firms.length c3, .slice a4 R.orders.length c4, .slice a5 R.usances.length c5, .slice a6 R.rates.length c6, .slice a7 R.halts.length c7], .string text] w fun r w' => ∃ (b : Bl) (p : Int), r = .returned (.tuple #[vB b, .int .i64 p]) ∧ (∀ b' p', IsT R text b' p' → b' = b ∧ p' = p) ∧ Below w.heap.size w w' := by
  have HR := Lib.hid hr
  have HF := Lib.hid hF
  have HE := Lib.hid hE
  have RB0 := Lib.hid (RB.new w (a0 := a0) (a1 := a1) (a2 := a2) (a3 := a3) (a4 := a4) (a5 := a5) (a6 := a6) (a7 := a7) (c0 := c0) (c1 := c1) (c2 := c2) (c3 := c3) (c4 := c4) (c5 := c5) (c6 := c6) (c7 := c7) (R := R))
  have z1 : (w.alloc (.cells #[.slice a0 R.cur.length c0, .slice a1 R.cities.length c1, .slice a2 R.groups.length c2, .slice a3 R.firms.length c3, .slice a4 R.orders.length c4, .slice a5 R.usances.length c5, .slice a6 R.rates.length c6, .slice a7 R.halts.length c7] 31)).heap.size = w.heap.size + 1 := by simp
  have z2 : ((w.alloc (.cells #[.slice a0 R.cur.length c0, .slice a1 R.cities.length c1, .slice a2 R.groups.length c2, .slice a3 R.firms.length c3, .slice a4 R.orders.length c4, .slice a5 R.usances.length c5, .slice a6 R.rates.length c6, .slice a7 R.halts.length c7] 31)).alloc (.cells #[.int .i64 0, .int .i64 0, .int .i64 0, .int .i64 0, .int .i64 0, .int .i64 0, .int .i64 0, .int .i64 0, .int .i64 0, .int .i64 0, .int .i64 0, .int .i64 0, .int .i64 0, .int .i64 0, .int .i64 0] 35)).heap.size = w.heap.size + 2 := by simp
  have HW : Hid (Below w.heap.size w (((w.alloc (.cells #[.slice a0 R.cur.length c0, .slice a1 R.cities.length c1, .slice a2 R.groups.length c2, .slice a3 R.firms.length c3, .slice a4 R.orders.length c4, .slice a5 R.usances.length c5, .slice a6 R.rates.length c6, .slice a7 R.halts.length c7] 31)).alloc (.cells #[.int .i64 0, .int .i64 0, .int .i64 0, .int .i64 0, .int .i64 0, .int .i64 0, .int .i64 0, .int .i64 0, .int .i64 0, .int .i64 0, .int .i64 0, .int .i64 0, .int .i64 0, .int .i64 0, .int .i64 0] 35)).alloc (.cells #[.slice a0 R.cur.length c0, .slice a1 R.cities.length c1, .slice a2 R.groups.length c2, .slice a3 R.firms.length c3, .slice a4 R.orders.length c4, .slice a5 R.usances.length c5, .slice a6 R.rates.length c6, .slice a7 R.halts.length c7, .string text] 87))) := chain (chain (Below.new1 _) (Below.new1 _)) (Below.new1 _)
  have H0 : Hid (PB (((w.alloc (.cells #[.slice a0 R.cur.length c0, .slice a1 R.cities.length c1, .slice a2 R.groups.length c2, .slice a3 R.firms.length c3, .slice a4 R.orders.length c4, .slice a5 R.usances.length c5, .slice a6 R.rates.length c6, .slice a7 R.halts.length c7] 31)).alloc (.cells #[.int .i64 0, .int .i64 0, .int .i64 0, .int .i64 0, .int .i64 0, .int .i64 0, .int .i64 0, .int .i64 0, .int .i64 0, .int .i64 0, .int .i64 0, .int .i64 0, .int .i64 0, .int .i64 0, .int .i64 0] 35)).alloc (.cells #[.slice a0 R.cur.length c0, .slice a1 R.cities.length c1, .slice a2 R.groups.length c2, .slice a3 R.firms.length c3, .slice a4 R.orders.length c4, .slice a5 R.usances.length c5, .slice a6 R.rates.length c6, .slice a7 R.halts.length c7, .string text] 87)) (w.heap.size + 2) [Value.slice a0 R.cur.length c0, Value.slice a1 R.cities.length c1, Value.slice a2 R.groups.length c2, Value.slice a3 R.firms.length c3, Value.slice a4 R.orders.length c4, Value.slice a5 R.usances.length c5, Value.slice a6 R.rates.length c6, Value.slice a7 R.halts.length c7] text) := ⟨rfl, hs, by rw [← z2]; exact heap_alloc_new _ _⟩
  have X0 : Hid (BB (((w.alloc (.cells #[.slice a0 R.cur.length c0, .slice a1 R.cities.length c1, .slice a2 R.groups.length c2, .slice a3 R.firms.length c3, .slice a4 R.orders.length c4, .slice a5 R.usances.length c5, .slice a6 R.rates.length c6, .slice a7 R.halts.length c7] 31)).alloc (.cells #[.int .i64 0, .int .i64 0, .int .i64 0, .int .i64 0, .int .i64 0, .int .i64 0, .int .i64 0, .int .i64 0, .int .i64 0, .int .i64 0, .int .i64 0, .int .i64 0, .int .i64 0, .int .i64 0, .int .i64 0] 35)).alloc (.cells #[.slice a0 R.cur.length c0, .slice a1 R.cities.length c1, .slice a2 R.groups.length c2, .slice a3 R.firms.length c3, .slice a4 R.orders.length c4, .slice a5 R.usances.length c5, .slice a6 R.rates.length c6, .slice a7 R.halts.length c7, .string text] 87)) (w.heap.size + 1) (⟨0, 0, 0, 0, 0, 0, 0, 0, 0, 0, 0, 0, 0, 0, 0⟩ : Bl)) := BB.below (h := w.heap.size + 1) (n := w.heap.size + 2) (w := (w.alloc (.cells #[.slice a0 R.cur.length c0, .slice a1 R.cities.length c1, .slice a2 R.groups.length c2, .slice a3 R.firms.length c3, .slice a4 R.orders.length c4, .slice a5 R.usances.length c5, .slice a6 R.rates.length c6, .slice a7 R.halts.length c7] 31)).alloc (.cells #[.int .i64 0, .int .i64 0, .int .i64 0, .int .i64 0, .int .i64 0, .int .i64 0, .int .i64 0, .int .i64 0, .int .i64 0, .int .i64 0, .int .i64 0, .int .i64 0, .int .i64 0, .int .i64 0, .int .i64 0] 35)) (by unfold BB; rw [← z1]; exact heap_alloc_new _ _) ((Below.new1 _).mono (Nat.le_of_eq z2.symm)) (by omega)
  have B0 := Lib.hid (Below.refl (w.heap.size + 1) (((w.alloc (.cells #[.slice a0 R.cur.length c0, .slice a1 R.cities.length c1, .slice a2 R.groups.length c2, .slice a3 R.firms.length c3, .slice a4 R.orders.length c4, .slice a5 R.usances.length c5, .slice a6 R.rates.length c6, .slice a7 R.halts.length c7] 31)).alloc (.cells #[.int .i64 0, .int .i64 0, .int .i64 0, .int .i64 0, .int .i64 0, .int .i64 0, .int .i64 0, .int .i64 0, .int .i64 0, .int .i64 0, .int .i64 0, .int .i64 0, .int .i64 0, .int .i64 0, .int .i64 0] 35)).alloc (.cells #[.slice a0 R.cur.length c0, .slice a1 R.cities.length c1, .slice a2 R.groups.length c2, .slice a3 R.firms.length c3, .slice a4 R.orders.length c4, .slice a5 R.usances.length c5, .slice a6 R.rates.length c6, .slice a7 R.halts.length c7, .string text] 87)))
  have HLT : w.heap.size + 1 < w.heap.size + 2 := by omega
  have HG : w.heap.size ≤ w.heap.size + 1 := by omega
  have HL : Hid (∀ w', Below (w.heap.size + 1) (((w.alloc (.cells #[.slice a0 R.cur.length c0, .slice a1 R.cities.length c1, .slice a2 R.groups.length c2, .slice a3 R.firms.length c3, .slice a4 R.orders.length c4, .slice a5 R.usances.length c5, .slice a6 R.rates.length c6, .slice a7 R.halts.length c7] 31)).alloc (.cells #[.int .i64 0, .int .i64 0, .int .i64 0, .int .i64 0, .int .i64 0, .int .i64 0, .int .i64 0, .int .i64 0, .int .i64 0, .int .i64 0, .int .i64 0, .int .i64 0, .int .i64 0, .int .i64 0, .int .i64 0] 35)).alloc (.cells #[.slice a0 R.cur.length c0, .slice a1 R.cities.length c1, .slice a2 R.groups.length c2, .slice a3 R.firms.length c3, .slice a4 R.orders.length c4, .slice a5 R.usances.length c5, .slice a6 R.rates.length c6, .slice a7 R.halts.length c7, .string text] 87)) w' → Ev w') := fun w' hb => HE.out.next (HW.out.trans (hb.mono HG))
  clear z1 z2 hr hF hE
  obtain ⟨k0, k1, k2, k3, k4, k5, k6, k7⟩ := RB0.out
  go_enter Tryz.func21, Tryz.ntmps21
  go_wp2_with fail
  clear k0 k1 k2 k3 k4 k5 k6 k7
  refine (heading_x _ H0.out X0.out rfl HLT (fun w' hb => HL.out w' hb)).mono ?_
  rintro r w1 ⟨d, part, N, t1, rfl, hd, h1, x1, b1⟩
  have HD := Lib.hid hd
  have H1 := Lib.hid h1
  obtain ⟨fl, hfl⟩ : ∃ fl : Int, fl = if d = true then 1 else 0 := ⟨_, rfl⟩
  rw [← hfl] at x1
  have X1 := Lib.hid x1
  have B1 := Lib.hid b1
  have HFL := Lib.hid hfl
  clear hd h1 x1 b1 hfl
  go_wp2_with fail
  refine (take_c ⟨#[100, 114, 97, 119, 110, 32, 105, 110, 32]⟩ _ H1.out).mono ?_
  rintro r w2 ⟨q2, rfl, -, h2, b2⟩
  have H2 := Lib.hid h2
  replace b2 := b2.low H1.out.lt
  have X2 := Lib.hid (X1.out.below b2 HLT)
  have B2 := Lib.hid (B1.out.trans (b2.mono (Nat.le_of_lt HLT)))
  clear h2 b2
  go_wp2_with fail
  refine (rdCity_x _ H2.out HR.out HF.out (HW.out.trans (B2.out.mono HG)) (Nat.le_trans HG (Nat.le_of_lt HLT))).mono ?_
  rintro r w3 ⟨v3, t3, rfl, n3, h3, b3⟩
  have N3 := Lib.hid n3
  clear n3
  have H3 := Lib.hid h3
  have X3 := Lib.hid (X2.out.below b3 HLT)
  have B3 := Lib.hid (B2.out.trans (b3.mono (Nat.le_of_lt HLT)))
  clear h3 b3
  have y4 := X3.out.at (i := 9) rfl
  have f4 := X3.out.free 9
  have X4 := Lib.hid (X3.out.set 9 (.int .i64 v3) (b' := (⟨0, 0, 0, 0, 0, 0, 0, 0, 0, v3, 0, 0, 0, fl, N⟩ : Bl)) rfl)
  have H4 := Lib.hid (H3.out.other (h := w.heap.size + 1) (i := 9) (.int .i64 v3) (Nat.ne_of_lt HLT))
  have B4 := Lib.hid (below_set B3.out 9 (.int .i64 v3))
  go_wp2_with fail
  clear y4 f4
  refine (take_c ⟨#[32, 111, 110, 32]⟩ _ H4.out).mono ?_
  rintro r w5 ⟨q5, rfl, -, h5, b5⟩
  have H5 := Lib.hid h5
  replace b5 := b5.low H4.out.lt
  have X5 := Lib.hid (X4.out.below b5 HLT)
  have B5 := Lib.hid (B4.out.trans (b5.mono (Nat.le_of_lt HLT)))
  clear h5 b5
  go_wp2_with fail
  refine (rdDate_x _ H5.out (HL.out _ B5.out) (fun w' ho => HL.out w' (B5.out.trans ((ho.low H5.out.lt).mono (Nat.le_of_lt HLT))))).mono ?_
  rintro r w6 ⟨v6, t6, rfl, n6, h6, b6⟩
  have N6 := Lib.hid n6
  clear n6
  have H6 := Lib.hid h6
  replace b6 := b6.low H5.out.lt
  have X6 := Lib.hid (X5.out.below b6 HLT)
  have B6 := Lib.hid (B5.out.trans (b6.mono (Nat.le_of_lt HLT)))
  clear h6 b6
  have y7 := X6.out.at (i := 8) rfl
  have f7 := X6.out.free 8
  have X7 := Lib.hid (X6.out.set 8 (.int .i64 v6) (b' := (⟨0, 0, 0, 0, 0, 0, 0, 0, v6, v3, 0, 0, 0, fl, N⟩ : Bl)) rfl)
  have H7 := Lib.hid (H6.out.other (h := w.heap.size + 1) (i := 8) (.int .i64 v6) (Nat.ne_of_lt HLT))
  have B7 := Lib.hid (below_set B6.out 8 (.int .i64 v6))
  go_wp2_with fail
  clear y7 f7
  refine (take_c ⟨#[10, 112, 97, 121, 32]⟩ _ H7.out).mono ?_
  rintro r w8 ⟨q8, rfl, -, h8, b8⟩
  have H8 := Lib.hid h8
  replace b8 := b8.low H7.out.lt
  have X8 := Lib.hid (X7.out.below b8 HLT)
  have B8 := Lib.hid (B7.out.trans (b8.mono (Nat.le_of_lt HLT)))
  clear h8 b8
  go_wp2_with fail
  refine (term_x _ H8.out (fun w' hb => HL.out w' (B8.out.trans (hb.mono (Nat.le_of_lt HLT))))).mono ?_
  rintro r w9 ⟨tk1, tn1, tu1, t9, rfl, n9, h9, b9⟩
  have N9 := Lib.hid n9
  clear n9
  have H9 := Lib.hid h9
  have X9 := Lib.hid (X8.out.below b9 HLT)
  have B9 := Lib.hid (B8.out.trans (b9.mono (Nat.le_of_lt HLT)))
  clear h9 b9
  have y9_0 := X9.out.at (i := 5) rfl
  have f9_0 := X9.out.free 5
  have y9_1 := X9.out.at (i := 6) rfl
  have f9_1 := X9.out.free 6
  have y9_2 := X9.out.at (i := 7) rfl
  have f9_2 := X9.out.free 7
  have X10 := Lib.hid (X9.out.set 5 (.int .i64 tk1) (b' := (⟨0, 0, 0, 0, 0, tk1, 0, 0, v6, v3, 0, 0, 0, fl, N⟩ : Bl)) rfl)
  have H10 := Lib.hid (H9.out.other (h := w.heap.size + 1) (i := 5) (.int .i64 tk1) (Nat.ne_of_lt HLT))
  have B10 := Lib.hid (below_set B9.out 5 (.int .i64 tk1))
  have X11 := Lib.hid (X10.out.set 6 (.int .i64 tn1) (b' := (⟨0, 0, 0, 0, 0, tk1, tn1, 0, v6, v3, 0, 0, 0, fl, N⟩ : Bl)) rfl)
  have H11 := Lib.hid (H10.out.other (h := w.heap.size + 1) (i := 6) (.int .i64 tn1) (Nat.ne_of_lt HLT))
  have B11 := Lib.hid (below_set B10.out 6 (.int .i64 tn1))
  have X12 := Lib.hid (X11.out.set 7 (.int .i64 tu1) (b' := (⟨0, 0, 0, 0, 0, tk1, tn1, tu1, v6, v3, 0, 0, 0, fl, N⟩ : Bl)) rfl)
  have H12 := Lib.hid (H11.out.other (h := w.heap.size + 1) (i := 7) (.int .i64 tu1) (Nat.ne_of_lt HLT))
  have B12 := Lib.hid (below_set B11.out 7 (.int .i64 tu1))
  go_wp2_with fail
  clear y9_0 f9_0 y9_1 f9_1 y9_2 f9_2
  refine (take_c ⟨#[10, 116, 111, 32]⟩ _ H12.out).mono ?_
  rintro r w13 ⟨q13, rfl, -, h13, b13⟩
  have H13 := Lib.hid h13
  replace b13 := b13.low H12.out.lt
  have X13 := Lib.hid (X12.out.below b13 HLT)
  have B13 := Lib.hid (B12.out.trans (b13.mono (Nat.le_of_lt HLT)))
  clear h13 b13
  go_wp2_with fail
  refine (payee_x _ H13.out X13.out HLT HR.out HF.out (HW.out.trans (B13.out.mono HG)) HG (fun w' hb => HL.out w' (B13.out.trans hb)) (or4 HFL.out)).mono ?_
  rintro r w14 ⟨p1, o1, t14, rfl, n14, h14, x14, b14⟩
  have N14 := Lib.hid n14
  have H14 := Lib.hid h14
  obtain ⟨fl2, hfl2⟩ : ∃ fl2 : Int, fl2 = if o1 = true then fl + 4 else fl := ⟨_, rfl⟩
  replace x14 : BB w14 (w.heap.size + 1) (⟨0, 0, p1, 0, 0, tk1, tn1, tu1, v6, v3, 0, 0, 0, fl2, N⟩ : Bl) := by rw [hfl2]; exact x14
  have X14 := Lib.hid x14
  have B14 := Lib.hid (B13.out.trans b14)
  have HFL2 := Lib.hid hfl2
  clear n14 h14 x14 b14 hfl2
  go_wp2_with fail
  refine (sum_x _ H14.out X14.out HLT HR.out HF.out (HW.out.trans (B14.out.mono HG)) HG (fun w' hb => HL.out w' (B14.out.trans hb)) rfl).mono ?_
  rintro r w15 ⟨su1, su2, su3, t15, rfl, n15, h15, x15, b15⟩
  have N15 := Lib.hid n15
  have H15 := Lib.hid h15
  have X15 : Hid (BB w15 (w.heap.size + 1) (⟨0, 0, p1, su1, su2, tk1, tn1, tu1, v6, v3, 0, 0, su3, fl2, N⟩ : Bl)) := x15
  have B15 := Lib.hid (B14.out.trans b15)
  clear n15 h15 x15 b15
  go_wp2_with fail
  refine (take_c ⟨#[116, 111, 32, 98, 101, 32, 112, 97, 105, 100, 32, 98, 121, 32]⟩ _ H15.out).mono ?_
  rintro r w16 ⟨q16, rfl, -, h16, b16⟩
  have H16 := Lib.hid h16
  replace b16 := b16.low H15.out.lt
  have X16 := Lib.hid (X15.out.below b16 HLT)
  have B16 := Lib.hid (B15.out.trans (b16.mono (Nat.le_of_lt HLT)))
  clear h16 b16
  go_wp2_with fail
  refine (rdFirm_x _ H16.out HR.out HF.out (HW.out.trans (B16.out.mono HG)) (Nat.le_trans HG (Nat.le_of_lt HLT))).mono ?_
  rintro r w17 ⟨v17, t17, rfl, n17, h17, b17⟩
  have N17 := Lib.hid n17
  clear n17
  have H17 := Lib.hid h17
  have X17 := Lib.hid (X16.out.below b17 HLT)
  have B17 := Lib.hid (B16.out.trans (b17.mono (Nat.le_of_lt HLT)))
  clear h17 b17
  have y18 := X17.out.at (i := 1) rfl
  have f18 := X17.out.free 1
  have X18 := Lib.hid (X17.out.set 1 (.int .i64 v17) (b' := (⟨0, v17, p1, su1, su2, tk1, tn1, tu1, v6, v3, 0, 0, su3, fl2, N⟩ : Bl)) rfl)
  have H18 := Lib.hid (H17.out.other (h := w.heap.size + 1) (i := 1) (.int .i64 v17) (Nat.ne_of_lt HLT))
  have B18 := Lib.hid (below_set B17.out 1 (.int .i64 v17))
  go_wp2_with fail
  clear y18 f18
  refine (take_c ⟨#[32, 105, 110, 32]⟩ _ H18.out).mono ?_
  rintro r w19 ⟨q19, rfl, -, h19, b19⟩
  have H19 := Lib.hid h19
  replace b19 := b19.low H18.out.lt
  have X19 := Lib.hid (X18.out.below b19 HLT)
  have B19 := Lib.hid (B18.out.trans (b19.mono (Nat.le_of_lt HLT)))
  clear h19 b19
  go_wp2_with fail
  refine (rdCity_x _ H19.out HR.out HF.out (HW.out.trans (B19.out.mono HG)) (Nat.le_trans HG (Nat.le_of_lt HLT))).mono ?_
  rintro r w20 ⟨v20, t20, rfl, n20, h20, b20⟩
  have N20 := Lib.hid n20
  clear n20
  have H20 := Lib.hid h20
  have X20 := Lib.hid (X19.out.below b20 HLT)
  have B20 := Lib.hid (B19.out.trans (b20.mono (Nat.le_of_lt HLT)))
  clear h20 b20
  have y21 := X20.out.at (i := 10) rfl
  have f21 := X20.out.free 10
  have X21 := Lib.hid (X20.out.set 10 (.int .i64 v20) (b' := (⟨0, v17, p1, su1, su2, tk1, tn1, tu1, v6, v3, v20, 0, su3, fl2, N⟩ : Bl)) rfl)
  have H21 := Lib.hid (H20.out.other (h := w.heap.size + 1) (i := 10) (.int .i64 v20) (Nat.ne_of_lt HLT))
  have B21 := Lib.hid (below_set B20.out 10 (.int .i64 v20))
  go_wp2_with fail
  clear y21 f21
  refine (take_c ⟨#[10]⟩ _ H21.out).mono ?_
  rintro r w22 ⟨q22, rfl, -, h22, b22⟩
  have H22 := Lib.hid h22
  replace b22 := b22.low H21.out.lt
  have X22 := Lib.hid (X21.out.below b22 HLT)
  have B22 := Lib.hid (B21.out.trans (b22.mono (Nat.le_of_lt HLT)))
  clear h22 b22
  go_wp2_with fail
  refine (clauses_x _ H22.out X22.out HLT HR.out HF.out (HW.out.trans (B22.out.mono HG)) HG (fun w' hb => HL.out w' (B22.out.trans hb)) (or2 HFL.out HFL2.out)).mono ?_
  rintro r w23 ⟨nd, dd, t23, rfl, n23, h23, x23, b23⟩
  have N23 := Lib.hid n23
  have H23 := Lib.hid h23
  obtain ⟨fl3, hfl3⟩ : ∃ fl3 : Int, fl3 = if dd = true then fl2 + 2 else fl2 := ⟨_, rfl⟩
  replace x23 : BB w23 (w.heap.size + 1) (⟨0, v17, p1, su1, su2, tk1, tn1, tu1, v6, v3, v20, nd, su3, fl3, N⟩ : Bl) := by rw [hfl3]; exact x23
  have X23 := Lib.hid x23
  have B23 := Lib.hid (B22.out.trans b23)
  have HFL3 := Lib.hid hfl3
  clear n23 h23 x23 b23 hfl3
  go_wp2_with fail
  refine (take_c ⟨#[115, 105, 103, 110, 101, 100, 32]⟩ _ H23.out).mono ?_
  rintro r w24 ⟨q24, rfl, -, h24, b24⟩
  have H24 := Lib.hid h24
  replace b24 := b24.low H23.out.lt
  have X24 := Lib.hid (X23.out.below b24 HLT)
  have B24 := Lib.hid (B23.out.trans (b24.mono (Nat.le_of_lt HLT)))
  clear h24 b24
  go_wp2_with fail
  refine (rdFirm_x _ H24.out HR.out HF.out (HW.out.trans (B24.out.mono HG)) (Nat.le_trans HG (Nat.le_of_lt HLT))).mono ?_
  rintro r w25 ⟨v25, t25, rfl, n25, h25, b25⟩
  have N25 := Lib.hid n25
  clear n25
  have H25 := Lib.hid h25
  have X25 := Lib.hid (X24.out.below b25 HLT)
  have B25 := Lib.hid (B24.out.trans (b25.mono (Nat.le_of_lt HLT)))
  clear h25 b25
  have y26 := X25.out.at (i := 0) rfl
  have f26 := X25.out.free 0
  have X26 := Lib.hid (X25.out.set 0 (.int .i64 v25) (b' := (⟨v25, v17, p1, su1, su2, tk1, tn1, tu1, v6, v3, v20, nd, su3, fl3, N⟩ : Bl)) rfl)
  have H26 := Lib.hid (H25.out.other (h := w.heap.size + 1) (i := 0) (.int .i64 v25) (Nat.ne_of_lt HLT))
  have B26 := Lib.hid (below_set B25.out 0 (.int .i64 v25))
  obtain ⟨m0, m1, m2, m3, m4, m5, m6, m7, m8, m9, m10, m11, m12, m13, m14⟩ := X26.out.all
  obtain ⟨u0, u1, u2, u3, u4, u5, u6, u7, u8, u9, u10, u11, u12, u13, u14⟩ := X26.out.frees
  go_wp2
  have XF := ((((((((((((((((((((((((((((((X26.out).set 0 (.int .i64 v25) (b' := (⟨v25, v17, p1, su1, su2, tk1, tn1, tu1, v6, v3, v20, nd, su3, fl3, N⟩ : Bl)) rfl)).set 1 (.int .i64 v17) (b' := (⟨v25, v17, p1, su1, su2, tk1, tn1, tu1, v6, v3, v20, nd, su3, fl3, N⟩ : Bl)) rfl)).set 2 (.int .i64 p1) (b' := (⟨v25, v17, p1, su1, su2, tk1, tn1, tu1, v6, v3, v20, nd, su3, fl3, N⟩ : Bl)) rfl)).set 3 (.int .i64 su1) (b' := (⟨v25, v17, p1, su1, su2, tk1, tn1, tu1, v6, v3, v20, nd, su3, fl3, N⟩ : Bl)) rfl)).set 4 (.int .i64 su2) (b' := (⟨v25, v17, p1, su1, su2, tk1, tn1, tu1, v6, v3, v20, nd, su3, fl3, N⟩ : Bl)) rfl)).set 5 (.int .i64 tk1) (b' := (⟨v25, v17, p1, su1, su2, tk1, tn1, tu1, v6, v3, v20, nd, su3, fl3, N⟩ : Bl)) rfl)).set 6 (.int .i64 tn1) (b' := (⟨v25, v17, p1, su1, su2, tk1, tn1, tu1, v6, v3, v20, nd, su3, fl3, N⟩ : Bl)) rfl)).set 7 (.int .i64 tu1) (b' := (⟨v25, v17, p1, su1, su2, tk1, tn1, tu1, v6, v3, v20, nd, su3, fl3, N⟩ : Bl)) rfl)).set 8 (.int .i64 v6) (b' := (⟨v25, v17, p1, su1, su2, tk1, tn1, tu1, v6, v3, v20, nd, su3, fl3, N⟩ : Bl)) rfl)).set 9 (.int .i64 v3) (b' := (⟨v25, v17, p1, su1, su2, tk1, tn1, tu1, v6, v3, v20, nd, su3, fl3, N⟩ : Bl)) rfl)).set 10 (.int .i64 v20) (b' := (⟨v25, v17, p1, su1, su2, tk1, tn1, tu1, v6, v3, v20, nd, su3, fl3, N⟩ : Bl)) rfl)).set 11 (.int .i64 nd) (b' := (⟨v25, v17, p1, su1, su2, tk1, tn1, tu1, v6, v3, v20, nd, su3, fl3, N⟩ : Bl)) rfl)).set 12 (.int .i64 su3) (b' := (⟨v25, v17, p1, su1, su2, tk1, tn1, tu1, v6, v3, v20, nd, su3, fl3, N⟩ : Bl)) rfl)).set 13 (.int .i64 fl3) (b' := (⟨v25, v17, p1, su1, su2, tk1, tn1, tu1, v6, v3, v20, nd, su3, fl3, N⟩ : Bl)) rfl)).set 14 (.int .i64 N) (b' := (⟨v25, v17, p1, su1, su2, tk1, tn1, tu1, v6, v3, v20, nd, su3, fl3, N⟩ : Bl)) rfl)
  have BF := (below_set (below_set (below_set (below_set (below_set (below_set (below_set (below_set (below_set (below_set (below_set (below_set (below_set (below_set (below_set B26.out 0 (.int .i64 v25)) 1 (.int .i64 v17)) 2 (.int .i64 p1)) 3 (.int .i64 su1)) 4 (.int .i64 su2)) 5 (.int .i64 tk1)) 6 (.int .i64 tn1)) 7 (.int .i64 tu1)) 8 (.int .i64 v6)) 9 (.int .i64 v3)) 10 (.int .i64 v20)) 11 (.int .i64 nd)) 12 (.int .i64 su3)) 13 (.int .i64 fl3)) 14 (.int .i64 N))
  obtain ⟨r0, r1, r2, r3, r4, r5, r6, r7, r8, r9, r10, r11, r12, r13, r14⟩ := XF.all
  exact bodyPost_ret (v := .tuple #[vB (⟨v25, v17, p1, su1, su2, tk1, tn1, tu1, v6, v3, v20, nd, su3, fl3, N⟩ : Bl), .int .i64 part]) (by simp [results, Tryz.results21, go_sem, r0, r1, r2, r3, r4, r5, r6, r7, r8, r9, r10, r11, r12, r13, r14]) rfl ⟨(⟨v25, v17, p1, su1, su2, tk1, tn1, tu1, v6, v3, v20, nd, su3, fl3, N⟩ : Bl), part, rfl, fun b' p' hi => by
      obtain ⟨q1, q2⟩ := read_ok HD.out N3.out N6.out N9.out N14.out N15.out N17.out N20.out N23.out N25.out b' p' hi
      exact ⟨by rw [q1, HFL3.out, flags_eq HFL.out HFL2.out], q2⟩, HW.out.trans (BF.mono HG)⟩
end Go.Proofs.YtcjakgpmompaiaaGreatDoor
