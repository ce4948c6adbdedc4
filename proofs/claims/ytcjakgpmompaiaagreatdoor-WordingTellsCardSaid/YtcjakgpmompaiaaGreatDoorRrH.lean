/-
  The reference reads a wording.
-/
import Derived.Test.YtcjakgpmompaiaaGreatDoorRrG
import Derived.Test.YtcjakgpmompaiaaGreatDoorRrD
namespace Go.Proofs.YtcjakgpmompaiaaGreatDoor
open Go.RowKit Rl Wd


set_option maxHeartbeats 3200000 in
set_option maxRecDepth 100000 in
theorem RText_no {a0 a1 a2 a3 a4 a5 a6 a7 : Option Addr} {c0 c1 c2 c3 c4 c5 c6 c7 : Nat} {R : Rlm} (b : Bl) (p : Int) (w : World) (hr : RS w a0 a1 a2 a3 a4 a5 a6 a7 c0 c1 c2 c3 c4 c5 c6 c7 R) (hF : Fit R) (hno : ¬ Has R b p) :
    Calls Tryz.prog 15 #[.agg #[.slice a0 R.cur.length c0, .slice a1 R.cities.length c1, .slice a2 R.groups.length c2, .slice a3 R.firms.length c3, .slice a4 R.orders.length c4, .slice a5 R.usances.length c5, .slice a6 R.rates.length c6, .slice a7 R.halts.length c7], vB b, .int .i64 p] w fun r w' => r = .returned (.string ByteArray.empty) ∧ Below w.heap.size w w' := by
  have HRS := Lib.hid hr
  have HFT := Lib.hid hF
  have HNO := Lib.hid hno
  have B0 := Lib.hid (chain (Below.new1 (w := w) (.cells #[.slice a0 R.cur.length c0, .slice a1 R.cities.length c1, .slice a2 R.groups.length c2, .slice a3 R.firms.length c3, .slice a4 R.orders.length c4, .slice a5 R.usances.length c5, .slice a6 R.rates.length c6, .slice a7 R.halts.length c7] 31)) (Below.new1 (.cells #[.int .i64 b.drawer, .int .i64 b.drawee, .int .i64 b.payee, .int .i64 b.sum, .int .i64 b.cur, .int .i64 b.tk, .int .i64 b.tn, .int .i64 b.tu, .int .i64 b.day, .int .i64 b.city, .int .i64 b.pay, .int .i64 b.need, .int .i64 b.rate, .int .i64 b.flags, .int .i64 b.parts] 35)))
  have RB0 := Lib.hid ((RB.new w a0 a1 a2 a3 a4 a5 a6 a7 c0 c1 c2 c3 c4 c5 c6 c7 R).next (Below.new1 (.cells #[.int .i64 b.drawer, .int .i64 b.drawee, .int .i64 b.payee, .int .i64 b.sum, .int .i64 b.cur, .int .i64 b.tk, .int .i64 b.tn, .int .i64 b.tu, .int .i64 b.day, .int .i64 b.city, .int .i64 b.pay, .int .i64 b.need, .int .i64 b.rate, .int .i64 b.flags, .int .i64 b.parts] 35)))
  have X0 := Lib.hid (BB.new (w.alloc (.cells #[.slice a0 R.cur.length c0, .slice a1 R.cities.length c1, .slice a2 R.groups.length c2, .slice a3 R.firms.length c3, .slice a4 R.orders.length c4, .slice a5 R.usances.length c5, .slice a6 R.rates.length c6, .slice a7 R.halts.length c7] 31)) b (w.heap.size + 1) (by simp))
  clear hr hF hno
  obtain ⟨k0, k1, k2, k3, k4, k5, k6, k7⟩ := RB0.out
  obtain ⟨x0, x1, x2, x3, x4, x5, x6, x7, x8, x9, x10, x11, x12, x13, x14⟩ := X0.out.all
  go_enter Tryz.func15, Tryz.ntmps15
  go_wp2_with fail
  clear k0 k1 k2 k3 k4 k5 k6 k7 x0 x1 x2 x3 x4 x5 x6 x7 x8 x9 x10 x11 x12 x13 x14
  refine (RCheck_x b _ (HRS.out.next B0.out) HFT.out).mono ?_
  rintro r w1 ⟨rfl, cc⟩
  have B1 := Lib.hid (chain B0.out cc)
  have X1 := Lib.hid (X0.out.next cc)
  clear cc
  obtain ⟨ec, hec⟩ : ∃ e : Int, e = checkW R b := ⟨_, rfl⟩
  rw [← hec]
  by_cases h0 : ec = 0
  · subst h0
    have hat : (decide (0 ≤ p) && decide (p < b.parts)) = false := by
      cases e : (decide (0 ≤ p) && decide (p < b.parts))
      · rfl
      · simp only [Bool.and_eq_true, decide_eq_true_iff] at e
        exact absurd ⟨hec.symm, e.1, e.2⟩ HNO.out
    clear hec
    obtain ⟨x0, x1, x2, x3, x4, x5, x6, x7, x8, x9, x10, x11, x12, x13, x14⟩ := X1.out.all
    go_wp2_with fail
    refine (Rat_x p b.parts _).mono ?_
    rintro r wx ⟨rfl, rfl⟩
    rw [hat]
    go_wp2_with fail
    go_ret
    exact ⟨rfl, B1.out⟩
  · have h1 : ¬ ec = 0 := h0
    clear hec
    go_wp2_with fail
    go_ret
    exact ⟨rfl, B1.out⟩
theorem RText_x {a0 a1 a2 a3 a4 a5 a6 a7 : Option Addr} {c0 c1 c2 c3 c4 c5 c6 c7 : Nat} {R : Rlm} (b : Bl) (p : Int) (w : World) (hr : RS w a0 a1 a2 a3 a4 a5 a6 a7 c0 c1 c2 c3 c4 c5 c6 c7 R) (hF : Fit R) :
    Calls Tryz.prog 15 #[.agg #[.slice a0 R.cur.length c0, .slice a1 R.cities.length c1, .slice a2 R.groups.length c2, .slice a3 R.firms.length c3, .slice a4 R.orders.length c4, .slice a5 R.usances.length c5, .slice a6 R.rates.length c6, .slice a7 R.halts.length c7], vB b, .int .i64 p] w fun r w' => r = .returned (.string (textP R b p)) ∧ Below w.heap.size w w' := by
  by_cases h : Has R b p
  · rw [textP_yes h]
    exact RText_yes b p w hr hF h
  · rw [textP_no h]
    exact RText_no b p w hr hF h
/-- what the reference's reading comes to -/
theorem parse_ref {R : Rlm} {s : B} {bb : Bl} {q : Int} (hs : ∀ b p, IsT R s b p → b = bb ∧ p = q) : (s = ByteArray.empty → parseP R s = none) ∧ (s ≠ ByteArray.empty → textP R bb q = s → parseP R s = some (bb, q)) ∧ (textP R bb q ≠ s → parseP R s = none) := by
  refine ⟨fun h => parse_no (fun b p e => ?_), fun h h2 => ?_, fun h => parse_no (fun b p e => ?_)⟩
  · exact word_ne R b p (mkB_inj (b := []) (e.eq.symm.trans h))
  · by_cases hh : Has R bb q
    · exact parse_yes (uniq_all _ _) ⟨hh, by rw [← h2]; exact textP_yes hh⟩
    · rw [textP_no hh] at h2
      exact absurd h2.symm h
  · obtain ⟨rfl, rfl⟩ := hs b p e
    exact h ((textP_yes e.toHas).trans e.eq.symm)

theorem fl_or2 {fl fl2 : Int} {q o : Bool} (h : fl = if q = true then 1 else 0) (h2 : fl2 = if o = true then fl + 4 else fl) : bits BinOp.or IntKind.i64 fl2 2 = fl2 + 2 := by
  subst h2
  subst h
  cases q <;> cases o <;> decide
theorem fl_all {fl fl2 fl3 : Int} {q o d : Bool} (h : fl = if q = true then 1 else 0) (h2 : fl2 = if o = true then fl + 4 else fl) (h3 : fl3 = if d = true then fl2 + 2 else fl2) : flagsOf q d o = fl3 := by
  subst h3
  subst h2
  subst h
  cases q <;> cases o <;> cases d <;> decide

theorem fl_or4 {fl : Int} {q : Bool} (h : fl = if q = true then 1 else 0) : bits BinOp.or IntKind.i64 fl 4 = fl + 4 := by
  subst h
  cases q <;> decide

theorem RB_row {w : World} {g h : Nat} {a0 a1 a2 a3 a4 a5 a6 a7 : Option Addr} {c0 c1 c2 c3 c4 c5 c6 c7 : Nat} {R : Rlm} (e : RB w g a0 a1 a2 a3 a4 a5 a6 a7 c0 c1 c2 c3 c4 c5 c6 c7 R) (hg : h ≠ g) (v0 v1 v2 v3 v4 v5 v6 v7 v8 v9 v10 v11 v12 v13 v14 : Value) : RB (((((((((((((((w.setCell ⟨h, 0, none⟩ v0).setCell ⟨h, 1, none⟩ v1).setCell ⟨h, 2, none⟩ v2).setCell ⟨h, 3, none⟩ v3).setCell ⟨h, 4, none⟩ v4).setCell ⟨h, 5, none⟩ v5).setCell ⟨h, 6, none⟩ v6).setCell ⟨h, 7, none⟩ v7).setCell ⟨h, 8, none⟩ v8).setCell ⟨h, 9, none⟩ v9).setCell ⟨h, 10, none⟩ v10).setCell ⟨h, 11, none⟩ v11).setCell ⟨h, 12, none⟩ v12).setCell ⟨h, 13, none⟩ v13).setCell ⟨h, 14, none⟩ v14) g a0 a1 a2 a3 a4 a5 a6 a7 c0 c1 c2 c3 c4 c5 c6 c7 R :=
  RB.put (RB.put (RB.put (RB.put (RB.put (RB.put (RB.put (RB.put (RB.put (RB.put (RB.put (RB.put (RB.put (RB.put (RB.put (e) v0 hg) v1 hg) v2 hg) v3 hg) v4 hg) v5 hg) v6 hg) v7 hg) v8 hg) v9 hg) v10 hg) v11 hg) v12 hg) v13 hg) v14 hg

theorem Bx.oth {T : TypeId} {w : World} {h g : Nat} {b : List Value} (e : Bx T w h b) (hg : g ≠ h) (v0 v1 v2 v3 v4 v5 v6 v7 v8 v9 v10 v11 v12 v13 v14 : Value) : Bx T (((((((((((((((w.setCell ⟨g, 0, none⟩ v0).setCell ⟨g, 1, none⟩ v1).setCell ⟨g, 2, none⟩ v2).setCell ⟨g, 3, none⟩ v3).setCell ⟨g, 4, none⟩ v4).setCell ⟨g, 5, none⟩ v5).setCell ⟨g, 6, none⟩ v6).setCell ⟨g, 7, none⟩ v7).setCell ⟨g, 8, none⟩ v8).setCell ⟨g, 9, none⟩ v9).setCell ⟨g, 10, none⟩ v10).setCell ⟨g, 11, none⟩ v11).setCell ⟨g, 12, none⟩ v12).setCell ⟨g, 13, none⟩ v13).setCell ⟨g, 14, none⟩ v14) h b :=
  Bx.other (Bx.other (Bx.other (Bx.other (Bx.other (Bx.other (Bx.other (Bx.other (Bx.other (Bx.other (Bx.other (Bx.other (Bx.other (Bx.other (Bx.other (e) v0 hg) v1 hg) v2 hg) v3 hg) v4 hg) v5 hg) v6 hg) v7 hg) v8 hg) v9 hg) v10 hg) v11 hg) v12 hg) v13 hg) v14 hg

set_option maxHeartbeats 40000000 in
set_option maxRecDepth 100000 in
theorem parse_tail {a0 a1 a2 a3 a4 a5 a6 a7 : Option Addr} {c0 c1 c2 c3 c4 c5 c6 c7 : Nat} {R : Rlm} {text s17 n16 : B} {qw : Bool} {v1 dw py sv cv tk tn tu vd ci pw iv vn : Int} {u12 u13 u14 u15 u16 u17 u18 u19 u20 u21 u22 u23 u24 u25 u26 u27 u28 u29 u30 u31 u32 u33 u34 u35 u36 u37 u38 u39 u40 u41 u42 u43 u44 u45 u46 u47 u48 u49 u50 u51 u52 u53 u54 u55 u56 u57 u58 u59 u60 u61 u62 u63 u64 u65 u66 u67 u68 u69 u70 u71 u72 u73 u74 u75 u76 u77 u78 u79 u80 u81 u82 u83 u84 u85 u86 u87 u88 u89 u90 u91 u92 u93 u94 u95 u96 u97 u98 u99 u100 u101 u102 u103 u104 u105 u106 u107 u108 u109 u110 u111 u112 u113 u114 u115 u116 u117 u118 u119 u120 u121 u122 u123 u124 u125 u126 u127 u128 u129 u130 u131 u132 u133 u134 : Value} {dr nd fl3 : Int} (w : World) {wx : World} (HRS : Hid (RS w a0 a1 a2 a3 a4 a5 a6 a7 c0 c1 c2 c3 c4 c5 c6 c7 R)) (HFT : Hid (Fit R)) (lv1 : -1 ≤ v1) (uv1 : v1 ≤ 10000000000000) (NZ : Hid (w.heap.size ≤ w.heap.size + 1)) (HP : Hid ((text = ByteArray.empty → parseP R text = none) ∧ (text ≠ ByteArray.empty → textP R (⟨dr, dw, py, sv, cv, tk, tn, tu, vd, ci, pw, nd, iv, fl3, vn⟩ : Bl) (v1 - 1) = text → parseP R text = some ((⟨dr, dw, py, sv, cv, tk, tn, tu, vd, ci, pw, nd, iv, fl3, vn⟩ : Bl), v1 - 1)) ∧ (textP R (⟨dr, dw, py, sv, cv, tk, tn, tu, vd, ci, pw, nd, iv, fl3, vn⟩ : Bl) (v1 - 1) ≠ text → parseP R text = none))) (RB0 : Hid (RB wx w.heap.size a0 a1 a2 a3 a4 a5 a6 a7 c0 c1 c2 c3 c4 c5 c6 c7 R)) (X0 : Hid (Bx 35 wx (w.heap.size + 1 + 1) [.int .i64 dr, .int .i64 dw, .int .i64 py, .int .i64 sv, .int .i64 cv, .int .i64 tk, .int .i64 tn, .int .i64 tu, .int .i64 vd, .int .i64 ci, .int .i64 pw, .int .i64 nd, .int .i64 iv, .int .i64 fl3, .int .i64 vn])) (Z0 : Hid (Bx 35 wx (w.heap.size + 1) [.int .i64 0, .int .i64 0, .int .i64 0, .int .i64 0, .int .i64 0, .int .i64 0, .int .i64 0, .int .i64 0, .int .i64 0, .int .i64 0, .int .i64 0, .int .i64 0, .int .i64 0, .int .i64 0, .int .i64 0])) (B0 : Hid (Below w.heap.size w wx)) :
    Code.wp Tryz.prog (((Code.region 29 #[⟨some 120, .move (.tmp 1), 9, "ref.go:313", #[], none⟩, ⟨some 121, .binOp .eql 9 (.tmp 120) (.const (.string { data := #[] })) 9, 4, "ref.go:313", #[⟨0, .data⟩], none⟩, ⟨some 122, .move (.tmp 121), 4, "ref.go:313", #[⟨1, .data⟩], none⟩, ⟨some 123, .load 31 (.tmp 2), 31, "ref.go:313", #[⟨2, .guard⟩], some (2, false)⟩, ⟨some 124, .load 35 (.tmp 7), 35, "ref.go:313", #[⟨2, .guard⟩], some (2, false)⟩, ⟨some 125, .move (.tmp 10), 3, "ref.go:313", #[⟨2, .guard⟩], some (2, false)⟩, ⟨some 126, .binOp .sub 3 (.tmp 125) (.const (.int .i64 1)) 3, 3, "ref.go:313", #[⟨5, .data⟩, ⟨2, .guard⟩], some (2, false)⟩, ⟨some 127, .call { callee := .value (.func 15), args := #[.tmp 123, .tmp 124, .tmp 126], argTypes := #[31, 35, 3] }, 9, "ref.go:313", #[⟨3, .data⟩, ⟨4, .data⟩, ⟨6, .data⟩, ⟨2, .chain⟩, ⟨2, .guard⟩], some (2, false)⟩, ⟨some 128, .move (.tmp 1), 9, "ref.go:313", #[⟨2, .guard⟩], some (2, false)⟩, ⟨some 129, .binOp .neq 9 (.tmp 127) (.tmp 128) 9, 4, "ref.go:313", #[⟨7, .data⟩, ⟨8, .data⟩, ⟨2, .guard⟩], some (2, false)⟩, ⟨some 130, .pick (.tmp 122) (.const (.bool true)) (.tmp 129), 4, "ref.go:313", #[⟨2, .data⟩, ⟨9, .data⟩], none⟩] false).seq (Code.cond (.tmp 130) ((Code.region 30 #[⟨some 131, .build 35 #[], 35, "ref.go:314", #[], none⟩, ⟨none, .store 35 (.tmp 4) (.tmp 131), 0, "ref.go:314", #[⟨0, .data⟩, ⟨0, .phase⟩], none⟩, ⟨some 5, .assign (.const (.int .i64 0)), 3, "ref.go:314", #[⟨1, .chain⟩, ⟨0, .phase⟩, ⟨1, .phase⟩], none⟩, ⟨some 6, .assign (.const (.int .i64 9)), 38, "ref.go:314", #[⟨2, .chain⟩, ⟨0, .phase⟩, ⟨1, .phase⟩, ⟨2, .phase⟩], none⟩] false).seq Code.ret) Code.skip)).seq ((Code.region 31 #[⟨some 132, .load 35 (.tmp 7), 35, "ref.go:316", #[], none⟩, ⟨some 133, .move (.tmp 10), 3, "ref.go:316", #[⟨3, .gcOnly .lateStores⟩], none⟩, ⟨some 134, .binOp .sub 3 (.tmp 133) (.const (.int .i64 1)) 3, 3, "ref.go:316", #[⟨1, .data⟩, ⟨3, .gcOnly .lateStores⟩], none⟩, ⟨none, .store 35 (.tmp 4) (.tmp 132), 0, "ref.go:316", #[⟨0, .data⟩, ⟨0, .phase⟩, ⟨1, .textOnly .lateStores⟩, ⟨2, .textOnly .lateStores⟩], none⟩, ⟨some 5, .assign (.tmp 134), 3, "ref.go:316", #[⟨2, .data⟩, ⟨3, .chain⟩, ⟨0, .phase⟩, ⟨1, .phase⟩, ⟨2, .phase⟩, ⟨3, .phase⟩], none⟩, ⟨some 6, .assign (.const (.int .i64 0)), 38, "ref.go:316", #[⟨4, .chain⟩, ⟨0, .phase⟩, ⟨1, .phase⟩, ⟨2, .phase⟩, ⟨3, .phase⟩, ⟨4, .phase⟩], none⟩] false).seq Code.ret)) (bodyPost Tryz.prog Tryz.f11 fun r w' => r = .returned (pvB (parseP R text)) ∧ Below w.heap.size w w') { tmps := #[.agg #[.slice a0 R.cur.length c0, .slice a1 R.cities.length c1, .slice a2 R.groups.length c2, .slice a3 R.firms.length c3, .slice a4 R.orders.length c4, .slice a5 R.usances.length c5, .slice a6 R.rates.length c6, .slice a7 R.halts.length c7], .string text, .pointer (some ⟨w.heap.size, 0, none⟩), undef, .pointer (some ⟨w.heap.size + 1, 0, none⟩), .int .i64 0, .int .i64 0, .pointer (some ⟨w.heap.size + 1 + 1, 0, none⟩), .string s17, .bool qw, .int .i64 v1, .string n16, u12, u13, u14, u15, u16, u17, u18, u19, u20, u21, u22, u23, u24, u25, u26, u27, u28, u29, u30, u31, u32, u33, u34, u35, u36, u37, u38, u39, u40, u41, u42, u43, u44, u45, u46, u47, u48, u49, u50, u51, u52, u53, u54, u55, u56, u57, u58, u59, u60, u61, u62, u63, u64, u65, u66, u67, u68, u69, u70, u71, u72, u73, u74, u75, u76, u77, u78, u79, u80, u81, u82, u83, u84, u85, u86, u87, u88, u89, u90, u91, u92, u93, u94, u95, u96, u97, u98, u99, u100, u101, u102, u103, u104, u105, u106, u107, u108, u109, u110, u111, u112, u113, u114, u115, u116, u117, u118, u119, u120, u121, u122, u123, u124, u125, u126, u127, u128, u129, u130, u131, u132, u133, u134], defers := [] } wx := by
  have HL1 := Lib.hid lv1
  have hwp : IntKind.i64.wrap (v1 - 1) = v1 - 1 := IntWalk.i64_in _ (by omega)
  by_cases ht : text = ByteArray.empty
  · have hN := Lib.hid (HP.out.1 ht)
    clear HP
    subst ht
    have hem := emp_list
    obtain ⟨y0, y1, y2, y3, y4, y5, y6, y7, y8, y9, y10, y11, y12, y13, y14⟩ := Z0.out.all
    obtain ⟨f0, f1, f2, f3, f4, f5, f6, f7, f8, f9, f10, f11, f12, f13, f14⟩ := Z0.out.frees
    go_wp2
    clear y0 f0 y1 f1 y2 f2 y3 f3 y4 f4 y5 f5 y6 f6 y7 f7 y8 f8 y9 f9 y10 f10 y11 f11 y12 f12 y13 f13 y14 f14
    have CF := Z0.out.row rfl (.int .i64 0) (.int .i64 0) (.int .i64 0) (.int .i64 0) (.int .i64 0) (.int .i64 0) (.int .i64 0) (.int .i64 0) (.int .i64 0) (.int .i64 0) (.int .i64 0) (.int .i64 0) (.int .i64 0) (.int .i64 0) (.int .i64 0)
    have BF := below_row B0.out NZ.out (.int .i64 0) (.int .i64 0) (.int .i64 0) (.int .i64 0) (.int .i64 0) (.int .i64 0) (.int .i64 0) (.int .i64 0) (.int .i64 0) (.int .i64 0) (.int .i64 0) (.int .i64 0) (.int .i64 0) (.int .i64 0) (.int .i64 0)
    obtain ⟨r0, r1, r2, r3, r4, r5, r6, r7, r8, r9, r10, r11, r12, r13, r14⟩ := CF.all
    exact bodyPost_ret (v := .tuple #[.agg #[.int .i64 0, .int .i64 0, .int .i64 0, .int .i64 0, .int .i64 0, .int .i64 0, .int .i64 0, .int .i64 0, .int .i64 0, .int .i64 0, .int .i64 0, .int .i64 0, .int .i64 0, .int .i64 0, .int .i64 0], .int .i64 0, .int .i64 9]) (by simp [results, Tryz.results11, go_sem, r0, r1, r2, r3, r4, r5, r6, r7, r8, r9, r10, r11, r12, r13, r14]) rfl ⟨by rw [hN.out]; rfl, BF⟩
  · have HT := Lib.hid ht
    have hne := ne_list ht
    have hemp := ne_emp hne
    clear ht
    obtain ⟨x0, x1, x2, x3, x4, x5, x6, x7, x8, x9, x10, x11, x12, x13, x14⟩ := X0.out.all
    obtain ⟨k0, k1, k2, k3, k4, k5, k6, k7⟩ := RB0.out
    go_wp2_with fail
    clear x0 x1 x2 x3 x4 x5 x6 x7 x8 x9 x10 x11 x12 x13 x14 k0 k1 k2 k3 k4 k5 k6 k7
    refine (RText_x (⟨dr, dw, py, sv, cv, tk, tn, tu, vd, ci, pw, nd, iv, fl3, vn⟩ : Bl) (v1 - 1) _ (HRS.out.next B0.out) HFT.out).mono ?_
    rintro r w1 ⟨rfl, cc⟩
    have RB1 := Lib.hid (RB0.out.next cc)
    have X1 := Lib.hid (X0.out.next cc)
    have Z1 := Lib.hid (Z0.out.next cc)
    have B1 := Lib.hid (chain B0.out cc)
    clear cc
    obtain ⟨T, hT⟩ : ∃ T, T = textP R (⟨dr, dw, py, sv, cv, tk, tn, tu, vd, ci, pw, nd, iv, fl3, vn⟩ : Bl) (v1 - 1) := ⟨_, rfl⟩
    rw [← hT]
    have HTT := Lib.hid hT
    clear hT
    by_cases e : T = text
    · have e1 : (T.toList == text.toList) = true := by rw [e]; simp
      have e2 : (T.toList != text.toList) = false := by rw [e]; simp
      have hN := Lib.hid (HP.out.2.1 HT.out (HTT.out.symm.trans e))
      clear e
      obtain ⟨x0, x1, x2, x3, x4, x5, x6, x7, x8, x9, x10, x11, x12, x13, x14⟩ := X1.out.all
      obtain ⟨y0, y1, y2, y3, y4, y5, y6, y7, y8, y9, y10, y11, y12, y13, y14⟩ := Z1.out.all
      obtain ⟨f0, f1, f2, f3, f4, f5, f6, f7, f8, f9, f10, f11, f12, f13, f14⟩ := Z1.out.frees
      go_wp2
      clear x0 x1 x2 x3 x4 x5 x6 x7 x8 x9 x10 x11 x12 x13 x14 y0 f0 y1 f1 y2 f2 y3 f3 y4 f4 y5 f5 y6 f6 y7 f7 y8 f8 y9 f9 y10 f10 y11 f11 y12 f12 y13 f13 y14 f14
      have CF := Z1.out.row rfl (.int .i64 dr) (.int .i64 dw) (.int .i64 py) (.int .i64 sv) (.int .i64 cv) (.int .i64 tk) (.int .i64 tn) (.int .i64 tu) (.int .i64 vd) (.int .i64 ci) (.int .i64 pw) (.int .i64 nd) (.int .i64 iv) (.int .i64 fl3) (.int .i64 vn)
      have BF := below_row B1.out NZ.out (.int .i64 dr) (.int .i64 dw) (.int .i64 py) (.int .i64 sv) (.int .i64 cv) (.int .i64 tk) (.int .i64 tn) (.int .i64 tu) (.int .i64 vd) (.int .i64 ci) (.int .i64 pw) (.int .i64 nd) (.int .i64 iv) (.int .i64 fl3) (.int .i64 vn)
      obtain ⟨r0, r1, r2, r3, r4, r5, r6, r7, r8, r9, r10, r11, r12, r13, r14⟩ := CF.all
      exact bodyPost_ret (v := .tuple #[.agg #[.int .i64 dr, .int .i64 dw, .int .i64 py, .int .i64 sv, .int .i64 cv, .int .i64 tk, .int .i64 tn, .int .i64 tu, .int .i64 vd, .int .i64 ci, .int .i64 pw, .int .i64 nd, .int .i64 iv, .int .i64 fl3, .int .i64 vn], .int .i64 (v1 - 1), .int .i64 0]) (by simp [results, Tryz.results11, go_sem, r0, r1, r2, r3, r4, r5, r6, r7, r8, r9, r10, r11, r12, r13, r14]) rfl ⟨by rw [hN.out]; rfl, BF⟩
    · have e1 : (T.toList == text.toList) = false := (Lib.bytes_beq_false_iff _ _).2 e
      have e2 : (T.toList != text.toList) = true := by unfold bne; rw [e1]; rfl
      have hN := Lib.hid (HP.out.2.2 (fun h => e (HTT.out.trans h)))
      clear e
      obtain ⟨y0, y1, y2, y3, y4, y5, y6, y7, y8, y9, y10, y11, y12, y13, y14⟩ := Z1.out.all
      obtain ⟨f0, f1, f2, f3, f4, f5, f6, f7, f8, f9, f10, f11, f12, f13, f14⟩ := Z1.out.frees
      go_wp2
      clear y0 f0 y1 f1 y2 f2 y3 f3 y4 f4 y5 f5 y6 f6 y7 f7 y8 f8 y9 f9 y10 f10 y11 f11 y12 f12 y13 f13 y14 f14
      have CF := Z1.out.row rfl (.int .i64 0) (.int .i64 0) (.int .i64 0) (.int .i64 0) (.int .i64 0) (.int .i64 0) (.int .i64 0) (.int .i64 0) (.int .i64 0) (.int .i64 0) (.int .i64 0) (.int .i64 0) (.int .i64 0) (.int .i64 0) (.int .i64 0)
      have BF := below_row B1.out NZ.out (.int .i64 0) (.int .i64 0) (.int .i64 0) (.int .i64 0) (.int .i64 0) (.int .i64 0) (.int .i64 0) (.int .i64 0) (.int .i64 0) (.int .i64 0) (.int .i64 0) (.int .i64 0) (.int .i64 0) (.int .i64 0) (.int .i64 0)
      obtain ⟨r0, r1, r2, r3, r4, r5, r6, r7, r8, r9, r10, r11, r12, r13, r14⟩ := CF.all
      exact bodyPost_ret (v := .tuple #[.agg #[.int .i64 0, .int .i64 0, .int .i64 0, .int .i64 0, .int .i64 0, .int .i64 0, .int .i64 0, .int .i64 0, .int .i64 0, .int .i64 0, .int .i64 0, .int .i64 0, .int .i64 0, .int .i64 0, .int .i64 0], .int .i64 0, .int .i64 9]) (by simp [results, Tryz.results11, go_sem, r0, r1, r2, r3, r4, r5, r6, r7, r8, r9, r10, r11, r12, r13, r14]) rfl ⟨by rw [hN.out]; rfl, BF⟩

set_option maxHeartbeats 40000000 in
set_option maxRecDepth 100000 in
theorem parse_28 {a0 a1 a2 a3 a4 a5 a6 a7 : Option Addr} {c0 c1 c2 c3 c4 c5 c6 c7 : Nat} {R : Rlm} {text s17 n16 : B} {qw : Bool} {v1 dw py sv cv tk tn tu vd ci pw iv vn : Int} {u12 u13 u14 u15 u16 u17 u18 u19 u20 u21 u22 u23 u24 u25 u26 u27 u28 u29 u30 u31 u32 u33 u34 u35 u36 u37 u38 u39 u40 u41 u42 u43 u44 u45 u46 u47 u48 u49 u50 u51 u52 u53 u54 u55 u56 u57 u58 u59 u60 u61 u62 u63 u64 u65 u66 u67 u68 u69 u70 u71 u72 u73 u74 u75 u76 u77 u78 u79 u80 u81 u82 u83 u84 u85 u86 u87 u88 u89 u90 u91 u92 u93 u94 u95 u96 u97 u98 u99 u100 u101 u102 u103 u104 u105 u106 u107 u108 u109 u110 u111 u112 u113 u114 u115 u116 u117 u118 u119 u120 u121 u122 u123 u124 u125 u126 u127 u128 u129 u130 u131 u132 u133 u134 : Value} {o : Bool} {fl fl2 : Int} (w : World) {WB : World} {K : Act → World → Prop} (HRS : Hid (RS w a0 a1 a2 a3 a4 a5 a6 a7 c0 c1 c2 c3 c4 c5 c6 c7 R)) (HFT : Hid (Fit R)) (lv1 : -1 ≤ v1) (uv1 : v1 ≤ 10000000000000) (zs17 : s17.size ≤ 100000) (HFL : Hid (fl = if qw = true then 1 else 0)) (HFL2 : Hid (fl2 = if o = true then fl + 4 else fl)) (NR : Hid (w.heap.size + 1 + 1 ≠ w.heap.size)) (NZX : Hid (w.heap.size + 1 + 1 ≠ w.heap.size + 1)) (NX : Hid (w.heap.size ≤ w.heap.size + 1 + 1)) (NZ : Hid (w.heap.size ≤ w.heap.size + 1)) (HP : ∀ (dd : Bool) (nd dr fl3 : Int), Hid (fl3 = if dd = true then fl2 + 2 else fl2) → Hid (LsR R (lineP s17.data.toList) nd dd dr) → Hid ((text = ByteArray.empty → parseP R text = none) ∧ (text ≠ ByteArray.empty → textP R (⟨dr, dw, py, sv, cv, tk, tn, tu, vd, ci, pw, nd, iv, fl3, vn⟩ : Bl) (v1 - 1) = text → parseP R text = some ((⟨dr, dw, py, sv, cv, tk, tn, tu, vd, ci, pw, nd, iv, fl3, vn⟩ : Bl), v1 - 1)) ∧ (textP R (⟨dr, dw, py, sv, cv, tk, tn, tu, vd, ci, pw, nd, iv, fl3, vn⟩ : Bl) (v1 - 1) ≠ text → parseP R text = none))) (RB0 : Hid (RB WB w.heap.size a0 a1 a2 a3 a4 a5 a6 a7 c0 c1 c2 c3 c4 c5 c6 c7 R)) (X0 : Hid (Bx 35 WB (w.heap.size + 1 + 1) [.int .i64 0, .int .i64 dw, .int .i64 py, .int .i64 sv, .int .i64 cv, .int .i64 tk, .int .i64 tn, .int .i64 tu, .int .i64 vd, .int .i64 ci, .int .i64 pw, .int .i64 (-1), .int .i64 iv, .int .i64 fl2, .int .i64 vn])) (Z0 : Hid (Bx 35 WB (w.heap.size + 1) [.int .i64 0, .int .i64 0, .int .i64 0, .int .i64 0, .int .i64 0, .int .i64 0, .int .i64 0, .int .i64 0, .int .i64 0, .int .i64 0, .int .i64 0, .int .i64 0, .int .i64 0, .int .i64 0, .int .i64 0])) (B0 : Hid (Below w.heap.size w WB)) (hK : ∀ (a : Act) (wy : World), Code.wp Tryz.prog (((Code.region 29 #[⟨some 120, .move (.tmp 1), 9, "ref.go:313", #[], none⟩, ⟨some 121, .binOp .eql 9 (.tmp 120) (.const (.string { data := #[] })) 9, 4, "ref.go:313", #[⟨0, .data⟩], none⟩, ⟨some 122, .move (.tmp 121), 4, "ref.go:313", #[⟨1, .data⟩], none⟩, ⟨some 123, .load 31 (.tmp 2), 31, "ref.go:313", #[⟨2, .guard⟩], some (2, false)⟩, ⟨some 124, .load 35 (.tmp 7), 35, "ref.go:313", #[⟨2, .guard⟩], some (2, false)⟩, ⟨some 125, .move (.tmp 10), 3, "ref.go:313", #[⟨2, .guard⟩], some (2, false)⟩, ⟨some 126, .binOp .sub 3 (.tmp 125) (.const (.int .i64 1)) 3, 3, "ref.go:313", #[⟨5, .data⟩, ⟨2, .guard⟩], some (2, false)⟩, ⟨some 127, .call { callee := .value (.func 15), args := #[.tmp 123, .tmp 124, .tmp 126], argTypes := #[31, 35, 3] }, 9, "ref.go:313", #[⟨3, .data⟩, ⟨4, .data⟩, ⟨6, .data⟩, ⟨2, .chain⟩, ⟨2, .guard⟩], some (2, false)⟩, ⟨some 128, .move (.tmp 1), 9, "ref.go:313", #[⟨2, .guard⟩], some (2, false)⟩, ⟨some 129, .binOp .neq 9 (.tmp 127) (.tmp 128) 9, 4, "ref.go:313", #[⟨7, .data⟩, ⟨8, .data⟩, ⟨2, .guard⟩], some (2, false)⟩, ⟨some 130, .pick (.tmp 122) (.const (.bool true)) (.tmp 129), 4, "ref.go:313", #[⟨2, .data⟩, ⟨9, .data⟩], none⟩] false).seq (Code.cond (.tmp 130) ((Code.region 30 #[⟨some 131, .build 35 #[], 35, "ref.go:314", #[], none⟩, ⟨none, .store 35 (.tmp 4) (.tmp 131), 0, "ref.go:314", #[⟨0, .data⟩, ⟨0, .phase⟩], none⟩, ⟨some 5, .assign (.const (.int .i64 0)), 3, "ref.go:314", #[⟨1, .chain⟩, ⟨0, .phase⟩, ⟨1, .phase⟩], none⟩, ⟨some 6, .assign (.const (.int .i64 9)), 38, "ref.go:314", #[⟨2, .chain⟩, ⟨0, .phase⟩, ⟨1, .phase⟩, ⟨2, .phase⟩], none⟩] false).seq Code.ret) Code.skip)).seq ((Code.region 31 #[⟨some 132, .load 35 (.tmp 7), 35, "ref.go:316", #[], none⟩, ⟨some 133, .move (.tmp 10), 3, "ref.go:316", #[⟨3, .gcOnly .lateStores⟩], none⟩, ⟨some 134, .binOp .sub 3 (.tmp 133) (.const (.int .i64 1)) 3, 3, "ref.go:316", #[⟨1, .data⟩, ⟨3, .gcOnly .lateStores⟩], none⟩, ⟨none, .store 35 (.tmp 4) (.tmp 132), 0, "ref.go:316", #[⟨0, .data⟩, ⟨0, .phase⟩, ⟨1, .textOnly .lateStores⟩, ⟨2, .textOnly .lateStores⟩], none⟩, ⟨some 5, .assign (.tmp 134), 3, "ref.go:316", #[⟨2, .data⟩, ⟨3, .chain⟩, ⟨0, .phase⟩, ⟨1, .phase⟩, ⟨2, .phase⟩, ⟨3, .phase⟩], none⟩, ⟨some 6, .assign (.const (.int .i64 0)), 38, "ref.go:316", #[⟨4, .chain⟩, ⟨0, .phase⟩, ⟨1, .phase⟩, ⟨2, .phase⟩, ⟨3, .phase⟩, ⟨4, .phase⟩], none⟩] false).seq Code.ret)) (bodyPost Tryz.prog Tryz.f11 fun r w' => r = .returned (pvB (parseP R text)) ∧ Below w.heap.size w w') a wy → K a wy) :
    Code.wp Tryz.prog (Code.region 28 #[⟨some 115, .load 31 (.tmp 2), 31, "ref.go:312", #[], none⟩, ⟨some 116, .load 35 (.tmp 7), 35, "ref.go:312", #[], none⟩, ⟨some 117, .move (.tmp 8), 9, "ref.go:312", #[], none⟩, ⟨some 118, .call { callee := .value (.func 24), args := #[.tmp 117], argTypes := #[9] }, 9, "ref.go:312", #[⟨2, .data⟩], none⟩, ⟨some 119, .call { callee := .value (.func 32), args := #[.tmp 115, .tmp 116, .tmp 118], argTypes := #[31, 35, 9] }, 35, "ref.go:312", #[⟨0, .data⟩, ⟨1, .data⟩, ⟨3, .data⟩, ⟨3, .chain⟩], none⟩, ⟨none, .store 35 (.tmp 7) (.tmp 119), 0, "ref.go:312", #[⟨4, .data⟩, ⟨4, .chain⟩, ⟨0, .phase⟩, ⟨1, .phase⟩, ⟨2, .phase⟩, ⟨3, .phase⟩, ⟨4, .phase⟩], none⟩] true) (Exit.then K (bodyPost Tryz.prog Tryz.f11 fun r w' => r = .returned (pvB (parseP R text)) ∧ Below w.heap.size w w')) { tmps := #[.agg #[.slice a0 R.cur.length c0, .slice a1 R.cities.length c1, .slice a2 R.groups.length c2, .slice a3 R.firms.length c3, .slice a4 R.orders.length c4, .slice a5 R.usances.length c5, .slice a6 R.rates.length c6, .slice a7 R.halts.length c7], .string text, .pointer (some ⟨w.heap.size, 0, none⟩), undef, .pointer (some ⟨w.heap.size + 1, 0, none⟩), .int .i64 0, .int .i64 0, .pointer (some ⟨w.heap.size + 1 + 1, 0, none⟩), .string s17, .bool qw, .int .i64 v1, .string n16, u12, u13, u14, u15, u16, u17, u18, u19, u20, u21, u22, u23, u24, u25, u26, u27, u28, u29, u30, u31, u32, u33, u34, u35, u36, u37, u38, u39, u40, u41, u42, u43, u44, u45, u46, u47, u48, u49, u50, u51, u52, u53, u54, u55, u56, u57, u58, u59, u60, u61, u62, u63, u64, u65, u66, u67, u68, u69, u70, u71, u72, u73, u74, u75, u76, u77, u78, u79, u80, u81, u82, u83, u84, u85, u86, u87, u88, u89, u90, u91, u92, u93, u94, u95, u96, u97, u98, u99, u100, u101, u102, u103, u104, u105, u106, u107, u108, u109, u110, u111, u112, u113, u114, u115, u116, u117, u118, u119, u120, u121, u122, u123, u124, u125, u126, u127, u128, u129, u130, u131, u132, u133, u134], defers := [] } WB := by
  have D0 : Hid (Below WB.heap.size WB WB.drew) := (Below.refl _ _).drew
  refine wp_region_held_drew (S := fun wz => RB wz w.heap.size a0 a1 a2 a3 a4 a5 a6 a7 c0 c1 c2 c3 c4 c5 c6 c7 R) (by kernel_rfl) ?_ (fun hHeld => ?_)
  · exact RB0.out.next D0.out
  refine takeN0 (v := ?_) (by kernel_rfl) (by kernel_rfl) (by kernel_rfl) (fun _ _ _ h => h) (by rfl) ?_ (by assumption) ?_
  rotate_left
  · intro wz hSw
    have k0 := hSw.b0
    have k1 := hSw.b1
    have k2 := hSw.b2
    have k3 := hSw.b3
    have k4 := hSw.b4
    have k5 := hSw.b5
    have k6 := hSw.b6
    have k7 := hSw.b7
    try dsimp only at hSw
    go_simp
    try with_reducible rfl
  try simp only [Act.put, lyA, lyB, lyC]
  refine takeN2 (v := ?_) (by kernel_rfl) (by kernel_rfl) (by kernel_rfl) (fun _ _ _ h => h) (by rfl) ?_ (by assumption) ?_
  rotate_left
  · intro wz hSw
    try dsimp only at hSw
    go_simp
    try with_reducible rfl
  try simp only [Act.put, lyA, lyB, lyC]
  refine wpAnyH_ready (rs := [1, 3]) (by kernel_rfl) (by simp) (AllReadyH.cons rfl (fun K hK => ?_) (AllReadyH.cons rfl (fun K hK => ?_) AllReadyH.nil))
  · rw [if_pos (by rfl)]
    have xz := X0.out.next D0.out
    obtain ⟨x0, x1, x2, x3, x4, x5, x6, x7, x8, x9, x10, x11, x12, x13, x14⟩ := xz.all
    clear xz
    go_simp
    clear x0 x1 x2 x3 x4 x5 x6 x7 x8 x9 x10 x11 x12 x13 x14
    refine hK.out _ _ ?_ (fun hHeld => ?_)
    · exact RB0.out.next D0.out
    clear hK K
    try simp only [Act.put, lyA, lyB, lyC]
    refine comeN3 (by kernel_rfl) (by rfl) (fun K hK => ?_)
    go_simp
    (go_at_call 24; refine (Rline_r s17 _ (by omega)).mono ?_; rintro r y1 ⟨s18, rfl, Ls18, zs18, cc⟩)
    try go_wp2_with fail
    have D1 : Hid (Below WB.heap.size WB y1) := chain D0.out cc
    clear cc
    refine hK.out _ _ ?_ (fun hHeld => ?_)
    · exact RB0.out.next D1.out
    clear hK K
    try simp only [Act.put, lyA, lyB, lyC]
    refine comeN4 (by kernel_rfl) (by rfl) (fun K hK => ?_)
    go_simp
    (go_at_call 32; refine (RreadLast_x ⟨0, dw, py, sv, cv, tk, tn, tu, vd, ci, pw, (-1), iv, fl2, vn⟩ s18 _ (HRS.out.next (chain B0.out D1.out)) HFT.out (by omega) (fl_or2 HFL.out HFL2.out) rfl).mono ?_; rintro r y2 ⟨nd, dd, dr, er, Nls, cc⟩)
    obtain ⟨fl3, hfl3⟩ : ∃ f : Int, f = if dd = true then fl2 + 2 else fl2 := ⟨_, rfl⟩
    have er2 : r = .returned (.agg #[.int .i64 dr, .int .i64 dw, .int .i64 py, .int .i64 sv, .int .i64 cv, .int .i64 tk, .int .i64 tn, .int .i64 tu, .int .i64 vd, .int .i64 ci, .int .i64 pw, .int .i64 nd, .int .i64 iv, .int .i64 fl3, .int .i64 vn]) := by rw [hfl3]; exact er
    have HFL3 := Lib.hid hfl3
    clear er hfl3
    subst er2
    try go_wp2_with fail
    have D2 : Hid (Below WB.heap.size WB y2) := chain D1.out cc
    clear cc
    refine hK.out _ _ ?_ (fun hHeld => ?_)
    · exact RB0.out.next D2.out
    clear hK K
    try simp only [Act.put, lyA, lyB, lyC]
    refine comeN5 (by kernel_rfl) (by rfl) (fun K hK => ?_)
    have X28 := X0.out.next D2.out
    obtain ⟨ya0, ya1, ya2, ya3, ya4, ya5, ya6, ya7, ya8, ya9, ya10, ya11, ya12, ya13, ya14⟩ := X28.all
    obtain ⟨fa0, fa1, fa2, fa3, fa4, fa5, fa6, fa7, fa8, fa9, fa10, fa11, fa12, fa13, fa14⟩ := X28.frees
    go_simp
    clear ya0 fa0 ya1 fa1 ya2 fa2 ya3 fa3 ya4 fa4 ya5 fa5 ya6 fa6 ya7 fa7 ya8 fa8 ya9 fa9 ya10 fa10 ya11 fa11 ya12 fa12 ya13 fa13 ya14 fa14
    refine hK.out _ _ ?_ (fun hHeld => ?_)
    · exact RB_row (RB0.out.next D2.out) NR.out (.int .i64 dr) (.int .i64 dw) (.int .i64 py) (.int .i64 sv) (.int .i64 cv) (.int .i64 tk) (.int .i64 tn) (.int .i64 tu) (.int .i64 vd) (.int .i64 ci) (.int .i64 pw) (.int .i64 nd) (.int .i64 iv) (.int .i64 fl3) (.int .i64 vn)
    clear hK K
    try simp only [Act.put, lyA, lyB, lyC]
    refine wpAnyH_done (by kernel_rfl) ?_ _
    refine hK _ _ (parse_tail w HRS HFT lv1 uv1 NZ (HP dd nd dr fl3 HFL3 (by show LsR R _ nd dd dr; rw [← Ls18.out]; exact Nls.out)) (RB_row (RB0.out.next D2.out) NR.out (.int .i64 dr) (.int .i64 dw) (.int .i64 py) (.int .i64 sv) (.int .i64 cv) (.int .i64 tk) (.int .i64 tn) (.int .i64 tu) (.int .i64 vd) (.int .i64 ci) (.int .i64 pw) (.int .i64 nd) (.int .i64 iv) (.int .i64 fl3) (.int .i64 vn)) (X28.row rfl (.int .i64 dr) (.int .i64 dw) (.int .i64 py) (.int .i64 sv) (.int .i64 cv) (.int .i64 tk) (.int .i64 tn) (.int .i64 tu) (.int .i64 vd) (.int .i64 ci) (.int .i64 pw) (.int .i64 nd) (.int .i64 iv) (.int .i64 fl3) (.int .i64 vn)) ((Z0.out.next D2.out).oth NZX.out (.int .i64 dr) (.int .i64 dw) (.int .i64 py) (.int .i64 sv) (.int .i64 cv) (.int .i64 tk) (.int .i64 tn) (.int .i64 tu) (.int .i64 vd) (.int .i64 ci) (.int .i64 pw) (.int .i64 nd) (.int .i64 iv) (.int .i64 fl3) (.int .i64 vn)) (below_row (chain B0.out D2.out) NX.out (.int .i64 dr) (.int .i64 dw) (.int .i64 py) (.int .i64 sv) (.int .i64 cv) (.int .i64 tk) (.int .i64 tn) (.int .i64 tu) (.int .i64 vd) (.int .i64 ci) (.int .i64 pw) (.int .i64 nd) (.int .i64 iv) (.int .i64 fl3) (.int .i64 vn)))
  · rw [if_pos (by rfl)]
    go_simp
    (go_at_call 24; refine (Rline_r s17 _ (by omega)).mono ?_; rintro r y1 ⟨s18, rfl, Ls18, zs18, cc⟩)
    try go_wp2_with fail
    have D1 : Hid (Below WB.heap.size WB y1) := chain D0.out cc
    clear cc
    refine hK.out _ _ ?_ (fun hHeld => ?_)
    · exact RB0.out.next D1.out
    clear hK K
    try simp only [Act.put, lyA, lyB, lyC]
    refine wpAnyH_ready (rs := [1]) (by kernel_rfl) (by simp) (AllReadyH.cons rfl (fun K hK => ?_) AllReadyH.nil)
    rw [if_pos (by rfl)]
    have xz := X0.out.next D1.out
    obtain ⟨x0, x1, x2, x3, x4, x5, x6, x7, x8, x9, x10, x11, x12, x13, x14⟩ := xz.all
    clear xz
    go_simp
    clear x0 x1 x2 x3 x4 x5 x6 x7 x8 x9 x10 x11 x12 x13 x14
    refine hK.out _ _ ?_ (fun hHeld => ?_)
    · exact RB0.out.next D1.out
    clear hK K
    try simp only [Act.put, lyA, lyB, lyC]
    refine comeN4 (by kernel_rfl) (by rfl) (fun K hK => ?_)
    go_simp
    (go_at_call 32; refine (RreadLast_x ⟨0, dw, py, sv, cv, tk, tn, tu, vd, ci, pw, (-1), iv, fl2, vn⟩ s18 _ (HRS.out.next (chain B0.out D1.out)) HFT.out (by omega) (fl_or2 HFL.out HFL2.out) rfl).mono ?_; rintro r y2 ⟨nd, dd, dr, er, Nls, cc⟩)
    obtain ⟨fl3, hfl3⟩ : ∃ f : Int, f = if dd = true then fl2 + 2 else fl2 := ⟨_, rfl⟩
    have er2 : r = .returned (.agg #[.int .i64 dr, .int .i64 dw, .int .i64 py, .int .i64 sv, .int .i64 cv, .int .i64 tk, .int .i64 tn, .int .i64 tu, .int .i64 vd, .int .i64 ci, .int .i64 pw, .int .i64 nd, .int .i64 iv, .int .i64 fl3, .int .i64 vn]) := by rw [hfl3]; exact er
    have HFL3 := Lib.hid hfl3
    clear er hfl3
    subst er2
    try go_wp2_with fail
    have D2 : Hid (Below WB.heap.size WB y2) := chain D1.out cc
    clear cc
    refine hK.out _ _ ?_ (fun hHeld => ?_)
    · exact RB0.out.next D2.out
    clear hK K
    try simp only [Act.put, lyA, lyB, lyC]
    refine comeN5 (by kernel_rfl) (by rfl) (fun K hK => ?_)
    have X28 := X0.out.next D2.out
    obtain ⟨ya0, ya1, ya2, ya3, ya4, ya5, ya6, ya7, ya8, ya9, ya10, ya11, ya12, ya13, ya14⟩ := X28.all
    obtain ⟨fa0, fa1, fa2, fa3, fa4, fa5, fa6, fa7, fa8, fa9, fa10, fa11, fa12, fa13, fa14⟩ := X28.frees
    go_simp
    clear ya0 fa0 ya1 fa1 ya2 fa2 ya3 fa3 ya4 fa4 ya5 fa5 ya6 fa6 ya7 fa7 ya8 fa8 ya9 fa9 ya10 fa10 ya11 fa11 ya12 fa12 ya13 fa13 ya14 fa14
    refine hK.out _ _ ?_ (fun hHeld => ?_)
    · exact RB_row (RB0.out.next D2.out) NR.out (.int .i64 dr) (.int .i64 dw) (.int .i64 py) (.int .i64 sv) (.int .i64 cv) (.int .i64 tk) (.int .i64 tn) (.int .i64 tu) (.int .i64 vd) (.int .i64 ci) (.int .i64 pw) (.int .i64 nd) (.int .i64 iv) (.int .i64 fl3) (.int .i64 vn)
    clear hK K
    try simp only [Act.put, lyA, lyB, lyC]
    refine wpAnyH_done (by kernel_rfl) ?_ _
    refine hK _ _ (parse_tail w HRS HFT lv1 uv1 NZ (HP dd nd dr fl3 HFL3 (by show LsR R _ nd dd dr; rw [← Ls18.out]; exact Nls.out)) (RB_row (RB0.out.next D2.out) NR.out (.int .i64 dr) (.int .i64 dw) (.int .i64 py) (.int .i64 sv) (.int .i64 cv) (.int .i64 tk) (.int .i64 tn) (.int .i64 tu) (.int .i64 vd) (.int .i64 ci) (.int .i64 pw) (.int .i64 nd) (.int .i64 iv) (.int .i64 fl3) (.int .i64 vn)) (X28.row rfl (.int .i64 dr) (.int .i64 dw) (.int .i64 py) (.int .i64 sv) (.int .i64 cv) (.int .i64 tk) (.int .i64 tn) (.int .i64 tu) (.int .i64 vd) (.int .i64 ci) (.int .i64 pw) (.int .i64 nd) (.int .i64 iv) (.int .i64 fl3) (.int .i64 vn)) ((Z0.out.next D2.out).oth NZX.out (.int .i64 dr) (.int .i64 dw) (.int .i64 py) (.int .i64 sv) (.int .i64 cv) (.int .i64 tk) (.int .i64 tn) (.int .i64 tu) (.int .i64 vd) (.int .i64 ci) (.int .i64 pw) (.int .i64 nd) (.int .i64 iv) (.int .i64 fl3) (.int .i64 vn)) (below_row (chain B0.out D2.out) NX.out (.int .i64 dr) (.int .i64 dw) (.int .i64 py) (.int .i64 sv) (.int .i64 cv) (.int .i64 tk) (.int .i64 tn) (.int .i64 tu) (.int .i64 vd) (.int .i64 ci) (.int .i64 pw) (.int .i64 nd) (.int .i64 iv) (.int .i64 fl3) (.int .i64 vn)))

set_option maxHeartbeats 40000000 in
set_option maxRecDepth 100000 in
theorem RParse_x {a0 a1 a2 a3 a4 a5 a6 a7 : Option Addr} {c0 c1 c2 c3 c4 c5 c6 c7 : Nat} {R : Rlm} (text : B) (w : World) (hr : RS w a0 a1 a2 a3 a4 a5 a6 a7 c0 c1 c2 c3 c4 c5 c6 c7 R) (hF : Fit R) (hs : text.size ≤ 100000) :
    Calls Tryz.prog 11 #[.agg #[.slice a0 R.cur.length c0, .slice a1 R.cities.length c1, .slice a2 R.groups.length c2, .slice a3 R.firms.length c3, .slice a4 R.orders.length c4, .slice a5 R.usances.length c5, .slice a6 R.rates.length c6, .slice a7 R.halts.length c7], .string text] w fun r w' => r = .returned (pvB (parseP R text)) ∧ Below w.heap.size w w' := by
  have HRS := Lib.hid hr
  have HFT := Lib.hid hF
  have NR : Hid (w.heap.size + 1 + 1 ≠ w.heap.size) := by show _ ≠ _; omega
  have NZX : Hid (w.heap.size + 1 + 1 ≠ w.heap.size + 1) := by show _ ≠ _; omega
  have NX : Hid (w.heap.size ≤ w.heap.size + 1 + 1) := by show _ ≤ _; omega
  have NZ : Hid (w.heap.size ≤ w.heap.size + 1) := Nat.le_succ _
  clear hr hF
  go_enter Tryz.func11, Tryz.ntmps11
  go_wp2_with fail
  refine (Reat_r text ⟨#[98, 105, 108, 108, 32]⟩ _ (by omega) (by decide)).mono ?_
  rintro r wx ⟨t1, qw, rfl, Tt1, Qqw, zt1, rfl⟩
  go_upto_if 18 with fail
  go_cut [8] (fun v wx => ∃ s1 : B, v = .string s1 ∧ Hid (s1.data.toList = if qw = true then tk text.data.toList (tBill ++ [32]) else tk text.data.toList (tPaper ++ [32])) ∧ s1.size ≤ text.size ∧ wx = (((w.alloc (.cells #[.slice a0 R.cur.length c0, .slice a1 R.cities.length c1, .slice a2 R.groups.length c2, .slice a3 R.firms.length c3, .slice a4 R.orders.length c4, .slice a5 R.usances.length c5, .slice a6 R.rates.length c6, .slice a7 R.halts.length c7] 31)).alloc (.cells #[.int .i64 0, .int .i64 0, .int .i64 0, .int .i64 0, .int .i64 0, .int .i64 0, .int .i64 0, .int .i64 0, .int .i64 0, .int .i64 0, .int .i64 0, .int .i64 0, .int .i64 0, .int .i64 0, .int .i64 0] 35)).alloc (.cells #[.int .i64 0, .int .i64 0, .int .i64 (-1), .int .i64 0, .int .i64 (-1), .int .i64 0, .int .i64 0, .int .i64 0, .int .i64 0, .int .i64 0, .int .i64 0, .int .i64 (-1), .int .i64 0, .int .i64 (if qw = true then 1 else 0), .int .i64 0] 35)))
  case first =>
    cases qw
    case true =>
      go_wp2_with fail
      go_meet
      exact ⟨t1, rfl, by show _ = _; rw [if_pos trivial]; exact Tt1.out, zt1, rfl⟩
    case false =>
      go_wp2_with fail
      refine (Reat_r text ⟨#[112, 97, 112, 101, 114, 32]⟩ _ (by omega) (by decide)).mono ?_
      rintro r wx ⟨t2, q2, rfl, Tt2, Qq2, zt2, rfl⟩
      go_wp2_with fail
      go_meet
      exact ⟨t2, rfl, by show _ = _; rw [if_neg (by decide)]; exact Tt2.out, zt2, rfl⟩
  case rest =>
  obtain ⟨s1, rfl, ES1, zs1, rfl⟩ := hcut
  obtain ⟨fl, hfl⟩ : ∃ fl : Int, fl = if qw = true then 1 else 0 := ⟨_, rfl⟩
  rw [← hfl]
  have HFL := Lib.hid hfl
  clear hfl
  have RB0 := Lib.hid (((RB.new w a0 a1 a2 a3 a4 a5 a6 a7 c0 c1 c2 c3 c4 c5 c6 c7 R).next (Below.new1 (.cells #[.int .i64 0, .int .i64 0, .int .i64 0, .int .i64 0, .int .i64 0, .int .i64 0, .int .i64 0, .int .i64 0, .int .i64 0, .int .i64 0, .int .i64 0, .int .i64 0, .int .i64 0, .int .i64 0, .int .i64 0] 35))).next (Below.new1 (.cells #[.int .i64 0, .int .i64 0, .int .i64 (-1), .int .i64 0, .int .i64 (-1), .int .i64 0, .int .i64 0, .int .i64 0, .int .i64 0, .int .i64 0, .int .i64 0, .int .i64 (-1), .int .i64 0, .int .i64 fl, .int .i64 0] 35)))
  have Z0 : Hid (Bx 35 (((w.alloc (.cells #[.slice a0 R.cur.length c0, .slice a1 R.cities.length c1, .slice a2 R.groups.length c2, .slice a3 R.firms.length c3, .slice a4 R.orders.length c4, .slice a5 R.usances.length c5, .slice a6 R.rates.length c6, .slice a7 R.halts.length c7] 31)).alloc (.cells #[.int .i64 0, .int .i64 0, .int .i64 0, .int .i64 0, .int .i64 0, .int .i64 0, .int .i64 0, .int .i64 0, .int .i64 0, .int .i64 0, .int .i64 0, .int .i64 0, .int .i64 0, .int .i64 0, .int .i64 0] 35)).alloc (.cells #[.int .i64 0, .int .i64 0, .int .i64 (-1), .int .i64 0, .int .i64 (-1), .int .i64 0, .int .i64 0, .int .i64 0, .int .i64 0, .int .i64 0, .int .i64 0, .int .i64 (-1), .int .i64 0, .int .i64 fl, .int .i64 0] 35)) (w.heap.size + 1) [.int .i64 0, .int .i64 0, .int .i64 0, .int .i64 0, .int .i64 0, .int .i64 0, .int .i64 0, .int .i64 0, .int .i64 0, .int .i64 0, .int .i64 0, .int .i64 0, .int .i64 0, .int .i64 0, .int .i64 0]) := (Bx.new 35 (w.alloc (.cells #[.slice a0 R.cur.length c0, .slice a1 R.cities.length c1, .slice a2 R.groups.length c2, .slice a3 R.firms.length c3, .slice a4 R.orders.length c4, .slice a5 R.usances.length c5, .slice a6 R.rates.length c6, .slice a7 R.halts.length c7] 31)) [.int .i64 0, .int .i64 0, .int .i64 0, .int .i64 0, .int .i64 0, .int .i64 0, .int .i64 0, .int .i64 0, .int .i64 0, .int .i64 0, .int .i64 0, .int .i64 0, .int .i64 0, .int .i64 0, .int .i64 0] (w.heap.size + 1) (by simp)).next (Below.new1 (.cells #[.int .i64 0, .int .i64 0, .int .i64 (-1), .int .i64 0, .int .i64 (-1), .int .i64 0, .int .i64 0, .int .i64 0, .int .i64 0, .int .i64 0, .int .i64 0, .int .i64 (-1), .int .i64 0, .int .i64 fl, .int .i64 0] 35))
  have X0 : Hid (Bx 35 (((w.alloc (.cells #[.slice a0 R.cur.length c0, .slice a1 R.cities.length c1, .slice a2 R.groups.length c2, .slice a3 R.firms.length c3, .slice a4 R.orders.length c4, .slice a5 R.usances.length c5, .slice a6 R.rates.length c6, .slice a7 R.halts.length c7] 31)).alloc (.cells #[.int .i64 0, .int .i64 0, .int .i64 0, .int .i64 0, .int .i64 0, .int .i64 0, .int .i64 0, .int .i64 0, .int .i64 0, .int .i64 0, .int .i64 0, .int .i64 0, .int .i64 0, .int .i64 0, .int .i64 0] 35)).alloc (.cells #[.int .i64 0, .int .i64 0, .int .i64 (-1), .int .i64 0, .int .i64 (-1), .int .i64 0, .int .i64 0, .int .i64 0, .int .i64 0, .int .i64 0, .int .i64 0, .int .i64 (-1), .int .i64 0, .int .i64 fl, .int .i64 0] 35)) (w.heap.size + 1 + 1) [.int .i64 0, .int .i64 0, .int .i64 (-1), .int .i64 0, .int .i64 (-1), .int .i64 0, .int .i64 0, .int .i64 0, .int .i64 0, .int .i64 0, .int .i64 0, .int .i64 (-1), .int .i64 0, .int .i64 fl, .int .i64 0]) := Bx.new 35 ((w.alloc (.cells #[.slice a0 R.cur.length c0, .slice a1 R.cities.length c1, .slice a2 R.groups.length c2, .slice a3 R.firms.length c3, .slice a4 R.orders.length c4, .slice a5 R.usances.length c5, .slice a6 R.rates.length c6, .slice a7 R.halts.length c7] 31)).alloc (.cells #[.int .i64 0, .int .i64 0, .int .i64 0, .int .i64 0, .int .i64 0, .int .i64 0, .int .i64 0, .int .i64 0, .int .i64 0, .int .i64 0, .int .i64 0, .int .i64 0, .int .i64 0, .int .i64 0, .int .i64 0] 35)) [.int .i64 0, .int .i64 0, .int .i64 (-1), .int .i64 0, .int .i64 (-1), .int .i64 0, .int .i64 0, .int .i64 0, .int .i64 0, .int .i64 0, .int .i64 0, .int .i64 (-1), .int .i64 0, .int .i64 fl, .int .i64 0] (w.heap.size + 1 + 1) (by simp)
  have B0 : Hid (Below w.heap.size w (((w.alloc (.cells #[.slice a0 R.cur.length c0, .slice a1 R.cities.length c1, .slice a2 R.groups.length c2, .slice a3 R.firms.length c3, .slice a4 R.orders.length c4, .slice a5 R.usances.length c5, .slice a6 R.rates.length c6, .slice a7 R.halts.length c7] 31)).alloc (.cells #[.int .i64 0, .int .i64 0, .int .i64 0, .int .i64 0, .int .i64 0, .int .i64 0, .int .i64 0, .int .i64 0, .int .i64 0, .int .i64 0, .int .i64 0, .int .i64 0, .int .i64 0, .int .i64 0, .int .i64 0] 35)).alloc (.cells #[.int .i64 0, .int .i64 0, .int .i64 (-1), .int .i64 0, .int .i64 (-1), .int .i64 0, .int .i64 0, .int .i64 0, .int .i64 0, .int .i64 0, .int .i64 0, .int .i64 (-1), .int .i64 0, .int .i64 fl, .int .i64 0] 35))) := chain (chain (Below.new1 (.cells #[.slice a0 R.cur.length c0, .slice a1 R.cities.length c1, .slice a2 R.groups.length c2, .slice a3 R.firms.length c3, .slice a4 R.orders.length c4, .slice a5 R.usances.length c5, .slice a6 R.rates.length c6, .slice a7 R.halts.length c7] 31)) (Below.new1 (.cells #[.int .i64 0, .int .i64 0, .int .i64 0, .int .i64 0, .int .i64 0, .int .i64 0, .int .i64 0, .int .i64 0, .int .i64 0, .int .i64 0, .int .i64 0, .int .i64 0, .int .i64 0, .int .i64 0, .int .i64 0] 35))) (Below.new1 (.cells #[.int .i64 0, .int .i64 0, .int .i64 (-1), .int .i64 0, .int .i64 (-1), .int .i64 0, .int .i64 0, .int .i64 0, .int .i64 0, .int .i64 0, .int .i64 0, .int .i64 (-1), .int .i64 0, .int .i64 fl, .int .i64 0] 35))
  go_wp2_with fail
  refine (RNumber_r s1 _ (by omega)).mono ?_
  rintro r w1 ⟨v1, s2, rfl, Nv1, zs2, lv1, uv1, cc⟩
  have RB1 := Lib.hid (RB0.out.next cc)
  have X1 := Lib.hid (X0.out.next cc)
  have Z1 := Lib.hid (Z0.out.next cc)
  have B1 := Lib.hid (chain B0.out cc)
  clear cc
  go_wp2_with fail
  refine (Reat_r s2 ⟨#[32, 111, 102, 32]⟩ _ (by omega) (by decide)).mono ?_
  rintro r wx ⟨s3, q3, rfl, Ts3, Qq3, zs3, rfl⟩
  go_wp2_with fail
  refine (RNumber_r s3 _ (by omega)).mono ?_
  rintro r w2 ⟨vn, s4, rfl, Nvn, zs4, lvn, uvn, cc⟩
  have RB2 := Lib.hid (RB1.out.next cc)
  have X2 := Lib.hid (X1.out.next cc)
  have Z2 := Lib.hid (Z1.out.next cc)
  have B2 := Lib.hid (chain B1.out cc)
  clear cc
  have ys := X2.out.at (i := 14) rfl
  have fs := X2.out.free 14
  have RB3 := Lib.hid (RB2.out.put (i := 14) (.int .i64 vn) NR.out)
  have X3 := Lib.hid (X2.out.set 14 (.int .i64 vn))
  have Z3 := Lib.hid (Z2.out.other (i := 14) (.int .i64 vn) NZX.out)
  have B3 := Lib.hid (below_put (i := 14) B2.out NX.out (.int .i64 vn))
  go_wp2_with fail
  clear ys fs
  refine (Rline_r s4 _ (by omega)).mono ?_
  rintro r w4 ⟨s5, rfl, Ls5, zs5, cc⟩
  have RB4 := Lib.hid (RB3.out.next cc)
  have X4 := Lib.hid (X3.out.next cc)
  have Z4 := Lib.hid (Z3.out.next cc)
  have B4 := Lib.hid (chain B3.out cc)
  clear cc
  go_wp2_with fail
  refine (Reat_r s5 ⟨#[100, 114, 97, 119, 110, 32, 105, 110, 32]⟩ _ (by omega) (by decide)).mono ?_
  rintro r wx ⟨s6, q6, rfl, Ts6, Qq6, zs6, rfl⟩
  go_wp2_with fail
  refine (Rword_r s6 _ (by omega)).mono ?_
  rintro r w5 ⟨n6, s7, rfl, Nn6, zn6, zs7, cc⟩
  have RB5 := Lib.hid (RB4.out.next cc)
  have X5 := Lib.hid (X4.out.next cc)
  have Z5 := Lib.hid (Z4.out.next cc)
  have B5 := Lib.hid (chain B4.out cc)
  clear cc
  obtain ⟨k0, k1, k2, k3, k4, k5, k6, k7⟩ := RB5.out
  go_wp2_with fail
  clear k0 k1 k2 k3 k4 k5 k6 k7
  refine (rCity_x n6 _ (HRS.out.next B5.out) HFT.out).mono ?_
  rintro r w6 ⟨rfl, cc⟩
  have RB6 := Lib.hid (RB5.out.next cc)
  have X6 := Lib.hid (X5.out.next cc)
  have Z6 := Lib.hid (Z5.out.next cc)
  have B6 := Lib.hid (chain B5.out cc)
  clear cc
  obtain ⟨ci, hci⟩ : ∃ v : Int, v = findV (R.cities.map Cty.nm) n6 := ⟨_, rfl⟩
  rw [← hci]
  replace hci := Lib.hid hci
  have ys := X6.out.at (i := 9) rfl
  have fs := X6.out.free 9
  have RB7 := Lib.hid (RB6.out.put (i := 9) (.int .i64 ci) NR.out)
  have X7 := Lib.hid (X6.out.set 9 (.int .i64 ci))
  have Z7 := Lib.hid (Z6.out.other (i := 9) (.int .i64 ci) NZX.out)
  have B7 := Lib.hid (below_put (i := 9) B6.out NX.out (.int .i64 ci))
  go_wp2_with fail
  clear ys fs
  refine (Reat_r s7 ⟨#[32, 111, 110, 32]⟩ _ (by omega) (by decide)).mono ?_
  rintro r wx ⟨s8, q8, rfl, Ts8, Qq8, zs8, rfl⟩
  go_wp2_with fail
  refine (RreadDate_x s8 _ (by omega)).mono ?_
  rintro r w8 ⟨vd, s9, rfl, Nd9, zs9, cc⟩
  have RB8 := Lib.hid (RB7.out.next cc)
  have X8 := Lib.hid (X7.out.next cc)
  have Z8 := Lib.hid (Z7.out.next cc)
  have B8 := Lib.hid (chain B7.out cc)
  clear cc
  have ys := X8.out.at (i := 8) rfl
  have fs := X8.out.free 8
  have RB9 := Lib.hid (RB8.out.put (i := 8) (.int .i64 vd) NR.out)
  have X9 := Lib.hid (X8.out.set 8 (.int .i64 vd))
  have Z9 := Lib.hid (Z8.out.other (i := 8) (.int .i64 vd) NZX.out)
  have B9 := Lib.hid (below_put (i := 8) B8.out NX.out (.int .i64 vd))
  go_wp2_with fail
  clear ys fs
  refine (Rline_r s9 _ (by omega)).mono ?_
  rintro r w10 ⟨s10, rfl, Ls10, zs10, cc⟩
  have RB10 := Lib.hid (RB9.out.next cc)
  have X10 := Lib.hid (X9.out.next cc)
  have Z10 := Lib.hid (Z9.out.next cc)
  have B10 := Lib.hid (chain B9.out cc)
  clear cc
  go_wp2_with fail
  refine (RreadTenor_x s10 _ (by omega)).mono ?_
  rintro r w11 ⟨tk, tn, tu, rfl, Nten, cc⟩
  have RB11 := Lib.hid (RB10.out.next cc)
  have X11 := Lib.hid (X10.out.next cc)
  have Z11 := Lib.hid (Z10.out.next cc)
  have B11 := Lib.hid (chain B10.out cc)
  clear cc
  have ya5 := X11.out.at (i := 5) rfl
  have fa5 := X11.out.free 5
  have ya6 := X11.out.at (i := 6) rfl
  have fa6 := X11.out.free 6
  have ya7 := X11.out.at (i := 7) rfl
  have fa7 := X11.out.free 7
  have X12 := Lib.hid (((X11.out.set 5 (.int .i64 tk)).set 6 (.int .i64 tn)).set 7 (.int .i64 tu))
  have B12 := Lib.hid (below_put (i := 7) (below_put (i := 6) (below_put (i := 5) B11.out NX.out (.int .i64 tk)) NX.out (.int .i64 tn)) NX.out (.int .i64 tu))
  have RB12 := Lib.hid (((RB11.out.put (i := 5) (.int .i64 tk) NR.out).put (i := 6) (.int .i64 tn) NR.out).put (i := 7) (.int .i64 tu) NR.out)
  have Z12 := Lib.hid (((Z11.out.other (i := 5) (.int .i64 tk) NZX.out).other (i := 6) (.int .i64 tn) NZX.out).other (i := 7) (.int .i64 tu) NZX.out)
  go_wp2_with fail
  clear ya5 ya6 ya7 fa5 fa6 fa7
  refine (Rline_r s10 _ (by omega)).mono ?_
  rintro r w13 ⟨s11, rfl, Ls11, zs11, cc⟩
  have RB13 := Lib.hid (RB12.out.next cc)
  have X13 := Lib.hid (X12.out.next cc)
  have Z13 := Lib.hid (Z12.out.next cc)
  have B13 := Lib.hid (chain B12.out cc)
  clear cc
  obtain ⟨x0, x1, x2, x3, x4, x5, x6, x7, x8, x9, x10, x11, x12, x13, x14⟩ := X13.out.all
  obtain ⟨k0, k1, k2, k3, k4, k5, k6, k7⟩ := RB13.out
  go_wp2_with fail
  clear x0 x1 x2 x3 x4 x5 x6 x7 x8 x9 x10 x11 x12 x13 x14 k0 k1 k2 k3 k4 k5 k6 k7
  have q := RreadPayee_x ⟨0, 0, (-1), 0, (-1), tk, tn, tu, vd, ci, 0, (-1), 0, fl, vn⟩ s11 _ (HRS.out.next B13.out) HFT.out (by omega) (fl_or4 HFL.out) rfl
  refine q.mono ?_
  clear q
  rintro r w14 ⟨py, o, er, Npy, cc⟩
  obtain ⟨fl2, hfl2⟩ : ∃ f : Int, f = if o = true then fl + 4 else fl := ⟨_, rfl⟩
  have er2 : r = .returned (.agg #[.int .i64 0, .int .i64 0, .int .i64 py, .int .i64 0, .int .i64 (-1), .int .i64 tk, .int .i64 tn, .int .i64 tu, .int .i64 vd, .int .i64 ci, .int .i64 0, .int .i64 (-1), .int .i64 0, .int .i64 fl2, .int .i64 vn]) := by rw [hfl2]; exact er
  have HFL2 := Lib.hid hfl2
  clear er hfl2
  subst er2
  have RB14 := Lib.hid (RB13.out.next cc)
  have X14 := Lib.hid (X13.out.next cc)
  have Z14 := Lib.hid (Z13.out.next cc)
  have B14 := Lib.hid (chain B13.out cc)
  clear cc
  obtain ⟨ya0, ya1, ya2, ya3, ya4, ya5, ya6, ya7, ya8, ya9, ya10, ya11, ya12, ya13, ya14⟩ := X14.out.all
  obtain ⟨fa0, fa1, fa2, fa3, fa4, fa5, fa6, fa7, fa8, fa9, fa10, fa11, fa12, fa13, fa14⟩ := X14.out.frees
  have X15 := Lib.hid (X14.out.row rfl (.int .i64 0) (.int .i64 0) (.int .i64 py) (.int .i64 0) (.int .i64 (-1)) (.int .i64 tk) (.int .i64 tn) (.int .i64 tu) (.int .i64 vd) (.int .i64 ci) (.int .i64 0) (.int .i64 (-1)) (.int .i64 0) (.int .i64 fl2) (.int .i64 vn))
  have B15 := Lib.hid (below_row B14.out NX.out (.int .i64 0) (.int .i64 0) (.int .i64 py) (.int .i64 0) (.int .i64 (-1)) (.int .i64 tk) (.int .i64 tn) (.int .i64 tu) (.int .i64 vd) (.int .i64 ci) (.int .i64 0) (.int .i64 (-1)) (.int .i64 0) (.int .i64 fl2) (.int .i64 vn))
  have RB15 := Lib.hid (RB_row RB14.out NR.out (.int .i64 0) (.int .i64 0) (.int .i64 py) (.int .i64 0) (.int .i64 (-1)) (.int .i64 tk) (.int .i64 tn) (.int .i64 tu) (.int .i64 vd) (.int .i64 ci) (.int .i64 0) (.int .i64 (-1)) (.int .i64 0) (.int .i64 fl2) (.int .i64 vn))
  have Z15 := Lib.hid (Z14.out.oth NZX.out (.int .i64 0) (.int .i64 0) (.int .i64 py) (.int .i64 0) (.int .i64 (-1)) (.int .i64 tk) (.int .i64 tn) (.int .i64 tu) (.int .i64 vd) (.int .i64 ci) (.int .i64 0) (.int .i64 (-1)) (.int .i64 0) (.int .i64 fl2) (.int .i64 vn))
  go_wp2_with fail
  clear ya0 ya1 ya2 ya3 ya4 ya5 ya6 ya7 ya8 ya9 ya10 ya11 ya12 ya13 ya14 fa0 fa1 fa2 fa3 fa4 fa5 fa6 fa7 fa8 fa9 fa10 fa11 fa12 fa13 fa14
  generalize hWW : (((((((((((((((w14.setCell ⟨(w.heap.size + 1 + 1), 0, none⟩ (.int .i64 0)).setCell ⟨(w.heap.size + 1 + 1), 1, none⟩ (.int .i64 0)).setCell ⟨(w.heap.size + 1 + 1), 2, none⟩ (.int .i64 py)).setCell ⟨(w.heap.size + 1 + 1), 3, none⟩ (.int .i64 0)).setCell ⟨(w.heap.size + 1 + 1), 4, none⟩ (.int .i64 (-1))).setCell ⟨(w.heap.size + 1 + 1), 5, none⟩ (.int .i64 tk)).setCell ⟨(w.heap.size + 1 + 1), 6, none⟩ (.int .i64 tn)).setCell ⟨(w.heap.size + 1 + 1), 7, none⟩ (.int .i64 tu)).setCell ⟨(w.heap.size + 1 + 1), 8, none⟩ (.int .i64 vd)).setCell ⟨(w.heap.size + 1 + 1), 9, none⟩ (.int .i64 ci)).setCell ⟨(w.heap.size + 1 + 1), 10, none⟩ (.int .i64 0)).setCell ⟨(w.heap.size + 1 + 1), 11, none⟩ (.int .i64 (-1))).setCell ⟨(w.heap.size + 1 + 1), 12, none⟩ (.int .i64 0)).setCell ⟨(w.heap.size + 1 + 1), 13, none⟩ (.int .i64 fl2)).setCell ⟨(w.heap.size + 1 + 1), 14, none⟩ (.int .i64 vn)) = WW15 at RB15 X15 Z15 B15 ⊢
  clear hWW
  refine (Rline_r s11 _ (by omega)).mono ?_
  rintro r w16 ⟨s12, rfl, Ls12, zs12, cc⟩
  have RB16 := Lib.hid (RB15.out.next cc)
  have X16 := Lib.hid (X15.out.next cc)
  have Z16 := Lib.hid (Z15.out.next cc)
  have B16 := Lib.hid (chain B15.out cc)
  clear cc
  obtain ⟨x0, x1, x2, x3, x4, x5, x6, x7, x8, x9, x10, x11, x12, x13, x14⟩ := X16.out.all
  obtain ⟨k0, k1, k2, k3, k4, k5, k6, k7⟩ := RB16.out
  go_wp2_with fail
  clear x0 x1 x2 x3 x4 x5 x6 x7 x8 x9 x10 x11 x12 x13 x14 k0 k1 k2 k3 k4 k5 k6 k7
  have q := RreadSum_x ⟨0, 0, py, 0, (-1), tk, tn, tu, vd, ci, 0, (-1), 0, fl2, vn⟩ s12 _ (HRS.out.next B16.out) HFT.out (by omega) rfl rfl
  refine q.mono ?_
  clear q
  rintro r w17 ⟨sv, cv, iv, er, Nsm, cc⟩
  have er2 : r = .returned (.agg #[.int .i64 0, .int .i64 0, .int .i64 py, .int .i64 sv, .int .i64 cv, .int .i64 tk, .int .i64 tn, .int .i64 tu, .int .i64 vd, .int .i64 ci, .int .i64 0, .int .i64 (-1), .int .i64 iv, .int .i64 fl2, .int .i64 vn]) := er
  clear er
  subst er2
  have RB17 := Lib.hid (RB16.out.next cc)
  have X17 := Lib.hid (X16.out.next cc)
  have Z17 := Lib.hid (Z16.out.next cc)
  have B17 := Lib.hid (chain B16.out cc)
  clear cc
  obtain ⟨ya0, ya1, ya2, ya3, ya4, ya5, ya6, ya7, ya8, ya9, ya10, ya11, ya12, ya13, ya14⟩ := X17.out.all
  obtain ⟨fa0, fa1, fa2, fa3, fa4, fa5, fa6, fa7, fa8, fa9, fa10, fa11, fa12, fa13, fa14⟩ := X17.out.frees
  have X18 := Lib.hid (X17.out.row rfl (.int .i64 0) (.int .i64 0) (.int .i64 py) (.int .i64 sv) (.int .i64 cv) (.int .i64 tk) (.int .i64 tn) (.int .i64 tu) (.int .i64 vd) (.int .i64 ci) (.int .i64 0) (.int .i64 (-1)) (.int .i64 iv) (.int .i64 fl2) (.int .i64 vn))
  have B18 := Lib.hid (below_row B17.out NX.out (.int .i64 0) (.int .i64 0) (.int .i64 py) (.int .i64 sv) (.int .i64 cv) (.int .i64 tk) (.int .i64 tn) (.int .i64 tu) (.int .i64 vd) (.int .i64 ci) (.int .i64 0) (.int .i64 (-1)) (.int .i64 iv) (.int .i64 fl2) (.int .i64 vn))
  have RB18 := Lib.hid (RB_row RB17.out NR.out (.int .i64 0) (.int .i64 0) (.int .i64 py) (.int .i64 sv) (.int .i64 cv) (.int .i64 tk) (.int .i64 tn) (.int .i64 tu) (.int .i64 vd) (.int .i64 ci) (.int .i64 0) (.int .i64 (-1)) (.int .i64 iv) (.int .i64 fl2) (.int .i64 vn))
  have Z18 := Lib.hid (Z17.out.oth NZX.out (.int .i64 0) (.int .i64 0) (.int .i64 py) (.int .i64 sv) (.int .i64 cv) (.int .i64 tk) (.int .i64 tn) (.int .i64 tu) (.int .i64 vd) (.int .i64 ci) (.int .i64 0) (.int .i64 (-1)) (.int .i64 iv) (.int .i64 fl2) (.int .i64 vn))
  go_wp2_with fail
  clear ya0 ya1 ya2 ya3 ya4 ya5 ya6 ya7 ya8 ya9 ya10 ya11 ya12 ya13 ya14 fa0 fa1 fa2 fa3 fa4 fa5 fa6 fa7 fa8 fa9 fa10 fa11 fa12 fa13 fa14
  generalize hWW : (((((((((((((((w17.setCell ⟨(w.heap.size + 1 + 1), 0, none⟩ (.int .i64 0)).setCell ⟨(w.heap.size + 1 + 1), 1, none⟩ (.int .i64 0)).setCell ⟨(w.heap.size + 1 + 1), 2, none⟩ (.int .i64 py)).setCell ⟨(w.heap.size + 1 + 1), 3, none⟩ (.int .i64 sv)).setCell ⟨(w.heap.size + 1 + 1), 4, none⟩ (.int .i64 cv)).setCell ⟨(w.heap.size + 1 + 1), 5, none⟩ (.int .i64 tk)).setCell ⟨(w.heap.size + 1 + 1), 6, none⟩ (.int .i64 tn)).setCell ⟨(w.heap.size + 1 + 1), 7, none⟩ (.int .i64 tu)).setCell ⟨(w.heap.size + 1 + 1), 8, none⟩ (.int .i64 vd)).setCell ⟨(w.heap.size + 1 + 1), 9, none⟩ (.int .i64 ci)).setCell ⟨(w.heap.size + 1 + 1), 10, none⟩ (.int .i64 0)).setCell ⟨(w.heap.size + 1 + 1), 11, none⟩ (.int .i64 (-1))).setCell ⟨(w.heap.size + 1 + 1), 12, none⟩ (.int .i64 iv)).setCell ⟨(w.heap.size + 1 + 1), 13, none⟩ (.int .i64 fl2)).setCell ⟨(w.heap.size + 1 + 1), 14, none⟩ (.int .i64 vn)) = WW18 at RB18 X18 Z18 B18 ⊢
  clear hWW
  refine (Rline_r s12 _ (by omega)).mono ?_
  rintro r w19 ⟨s13, rfl, Ls13, zs13, cc⟩
  have RB19 := Lib.hid (RB18.out.next cc)
  have X19 := Lib.hid (X18.out.next cc)
  have Z19 := Lib.hid (Z18.out.next cc)
  have B19 := Lib.hid (chain B18.out cc)
  clear cc
  go_wp2_with fail
  refine (Reat_r s13 ⟨#[116, 111, 32, 98, 101, 32, 112, 97, 105, 100, 32, 98, 121, 32]⟩ _ (by omega) (by decide)).mono ?_
  rintro r wx ⟨s14, q14, rfl, Ts14, Qq14, zs14, rfl⟩
  go_wp2_with fail
  refine (Rword_r s14 _ (by omega)).mono ?_
  rintro r w20 ⟨n14, s15, rfl, Nn14, zn14, zs15, cc⟩
  have RB20 := Lib.hid (RB19.out.next cc)
  have X20 := Lib.hid (X19.out.next cc)
  have Z20 := Lib.hid (Z19.out.next cc)
  have B20 := Lib.hid (chain B19.out cc)
  clear cc
  obtain ⟨k0, k1, k2, k3, k4, k5, k6, k7⟩ := RB20.out
  go_wp2_with fail
  clear k0 k1 k2 k3 k4 k5 k6 k7
  refine (rFirm_x n14 _ (HRS.out.next B20.out) HFT.out).mono ?_
  rintro r w21 ⟨rfl, cc⟩
  have RB21 := Lib.hid (RB20.out.next cc)
  have X21 := Lib.hid (X20.out.next cc)
  have Z21 := Lib.hid (Z20.out.next cc)
  have B21 := Lib.hid (chain B20.out cc)
  clear cc
  obtain ⟨dw, hdw⟩ : ∃ v : Int, v = findV (R.firms.map Frm.nm) n14 := ⟨_, rfl⟩
  rw [← hdw]
  replace hdw := Lib.hid hdw
  have ys := X21.out.at (i := 1) rfl
  have fs := X21.out.free 1
  have RB22 := Lib.hid (RB21.out.put (i := 1) (.int .i64 dw) NR.out)
  have X22 := Lib.hid (X21.out.set 1 (.int .i64 dw))
  have Z22 := Lib.hid (Z21.out.other (i := 1) (.int .i64 dw) NZX.out)
  have B22 := Lib.hid (below_put (i := 1) B21.out NX.out (.int .i64 dw))
  go_wp2_with fail
  clear ys fs
  refine (Reat_r s15 ⟨#[32, 105, 110, 32]⟩ _ (by omega) (by decide)).mono ?_
  rintro r wx ⟨s16, q16, rfl, Ts16, Qq16, zs16, rfl⟩
  go_wp2_with fail
  refine (Rword_r s16 _ (by omega)).mono ?_
  rintro r w23 ⟨n16, s17, rfl, Nn16, zn16, zs17, cc⟩
  have RB23 := Lib.hid (RB22.out.next cc)
  have X23 := Lib.hid (X22.out.next cc)
  have Z23 := Lib.hid (Z22.out.next cc)
  have B23 := Lib.hid (chain B22.out cc)
  clear cc
  obtain ⟨k0, k1, k2, k3, k4, k5, k6, k7⟩ := RB23.out
  go_wp2_with fail
  clear k0 k1 k2 k3 k4 k5 k6 k7
  refine (rCity_x n16 _ (HRS.out.next B23.out) HFT.out).mono ?_
  rintro r w24 ⟨rfl, cc⟩
  have RB24 := Lib.hid (RB23.out.next cc)
  have X24 := Lib.hid (X23.out.next cc)
  have Z24 := Lib.hid (Z23.out.next cc)
  have B24 := Lib.hid (chain B23.out cc)
  clear cc
  obtain ⟨pw, hpw⟩ : ∃ v : Int, v = findV (R.cities.map Cty.nm) n16 := ⟨_, rfl⟩
  rw [← hpw]
  replace hpw := Lib.hid hpw
  have ys := X24.out.at (i := 10) rfl
  have fs := X24.out.free 10
  have RB25 := Lib.hid (RB24.out.put (i := 10) (.int .i64 pw) NR.out)
  have X25 := Lib.hid (X24.out.set 10 (.int .i64 pw))
  have Z25 := Lib.hid (Z24.out.other (i := 10) (.int .i64 pw) NZX.out)
  have B25 := Lib.hid (below_put (i := 10) B24.out NX.out (.int .i64 pw))
  go_upto_region 28 with fail
  clear ys fs
  generalize hWW : (w24.setCell ⟨(w.heap.size + 1 + 1), 10, none⟩ (.int .i64 pw)) = WB at RB25 X25 Z25 B25 ⊢
  clear hWW
  refine parse_28 w HRS HFT lv1 uv1 (by omega) HFL HFL2 NR NZX NX NZ (fun dd nd dr fl3 HFL3 Nls => Lib.hid (parse_ref (R := R) (s := text) (bb := (⟨dr, dw, py, sv, cv, tk, tn, tu, vd, ci, pw, nd, iv, fl3, vn⟩ : Bl)) (q := v1 - 1) (fun b p (h : IsT R text b p) => by
    have f := ref_ok (R := R) (s := text.data.toList) Qqw.out ES1.out Nv1.out (by have q := Nvn.out; rw [Ts3.out] at q; exact q) (by have q := Nn6.out.city (R := R); rw [Ts6.out, Ls5.out, show mkB n6.data.toList = n6 from rfl, ← hci.out] at q; exact q) (by have q := Nd9.out; rw [Ts8.out] at q; exact q) (by have q := Nten.out; rw [Ls10.out] at q; exact q) (by have q := Npy.out; rw [Ls11.out, Ls10.out] at q; exact q) (by have q := Nsm.out; rw [Ls12.out, Ls11.out, Ls10.out] at q; exact q) (by have q := Nn14.out.firm (R := R); rw [Ts14.out, Ls13.out, Ls12.out, Ls11.out, Ls10.out, show mkB n14.data.toList = n14 from rfl, ← hdw.out] at q; exact q) (by have q := Nn16.out.city (R := R); rw [Ts16.out, show mkB n16.data.toList = n16 from rfl, ← hpw.out] at q; exact q) Nls.out b p h
    rw [fl_all HFL.out HFL2.out HFL3.out] at f
    exact f))) RB25 X25 Z25 B25 ?_
  assumption
end Go.Proofs.YtcjakgpmompaiaaGreatDoor
