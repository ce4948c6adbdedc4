/-
  The reference reads: the sum.
-/
import Derived.Test.YtcjakgpmompaiaaGreatDoorRrC
namespace Go.Proofs.YtcjakgpmompaiaaGreatDoor
open Go.RowKit Rl Wd


set_option maxHeartbeats 60000000 in
set_option maxRecDepth 100000 in
theorem RreadSum_x {a0 a1 a2 a3 a4 a5 a6 a7 : Option Addr} {c0 c1 c2 c3 c4 c5 c6 c7 : Nat} {R : Rlm} (b : Bl) (s : B) (w : World) (hr : RS w a0 a1 a2 a3 a4 a5 a6 a7 c0 c1 c2 c3 c4 c5 c6 c7 R) (hF : Fit R) (hs : s.size ≤ 100000) (hcu : b.cur = -1) (hr0 : b.rate = 0) :
    Calls Tryz.prog 30 #[.agg #[.slice a0 R.cur.length c0, .slice a1 R.cities.length c1, .slice a2 R.groups.length c2, .slice a3 R.firms.length c3, .slice a4 R.orders.length c4, .slice a5 R.usances.length c5, .slice a6 R.rates.length c6, .slice a7 R.halts.length c7], vB b, .string s] w fun r w' => ∃ (v c i : Int), r = .returned (vB { b with sum := v, cur := c, rate := i }) ∧ Hid (SmR R s.data.toList v c i) ∧ Below w.heap.size w w' := by
  have HC := Lib.hid hcu
  have HR0 := Lib.hid hr0
  have hsc : R.cur.length < 50 := hF.s1
  clear hcu hr0
  have HRS := Lib.hid hr
  have HFT := Lib.hid hF
  have NXR : Hid (w.heap.size + 1 ≠ w.heap.size) := Nat.succ_ne_self _
  have NXZ : Hid (w.heap.size + 1 ≠ w.heap.size + 2) := Nat.ne_of_lt (Nat.lt_succ_self _)
  have NX : Hid (w.heap.size ≤ w.heap.size + 1) := Nat.le_succ _
  have NZ : Hid (w.heap.size ≤ w.heap.size + 2) := Nat.le_add_right _ _
  clear hr hF
  go_enter Tryz.func30, Tryz.ntmps30
  have RB0 := Lib.hid (((RB.new w a0 a1 a2 a3 a4 a5 a6 a7 c0 c1 c2 c3 c4 c5 c6 c7 R).next (Below.new1 (.cells #[.int .i64 b.drawer, .int .i64 b.drawee, .int .i64 b.payee, .int .i64 b.sum, .int .i64 b.cur, .int .i64 b.tk, .int .i64 b.tn, .int .i64 b.tu, .int .i64 b.day, .int .i64 b.city, .int .i64 b.pay, .int .i64 b.need, .int .i64 b.rate, .int .i64 b.flags, .int .i64 b.parts] 35))).next (Below.new1 (.cells #[.int .i64 0, .int .i64 0, .int .i64 0, .int .i64 0, .int .i64 0, .int .i64 0, .int .i64 0, .int .i64 0, .int .i64 0, .int .i64 0, .int .i64 0, .int .i64 0, .int .i64 0, .int .i64 0, .int .i64 0] 35)))
  have X0 : Hid (Bx 35 (((w.alloc (.cells #[.slice a0 R.cur.length c0, .slice a1 R.cities.length c1, .slice a2 R.groups.length c2, .slice a3 R.firms.length c3, .slice a4 R.orders.length c4, .slice a5 R.usances.length c5, .slice a6 R.rates.length c6, .slice a7 R.halts.length c7] 31)).alloc (.cells #[.int .i64 b.drawer, .int .i64 b.drawee, .int .i64 b.payee, .int .i64 b.sum, .int .i64 b.cur, .int .i64 b.tk, .int .i64 b.tn, .int .i64 b.tu, .int .i64 b.day, .int .i64 b.city, .int .i64 b.pay, .int .i64 b.need, .int .i64 b.rate, .int .i64 b.flags, .int .i64 b.parts] 35)).alloc (.cells #[.int .i64 0, .int .i64 0, .int .i64 0, .int .i64 0, .int .i64 0, .int .i64 0, .int .i64 0, .int .i64 0, .int .i64 0, .int .i64 0, .int .i64 0, .int .i64 0, .int .i64 0, .int .i64 0, .int .i64 0] 35)) (w.heap.size + 1) [.int .i64 b.drawer, .int .i64 b.drawee, .int .i64 b.payee, .int .i64 b.sum, .int .i64 b.cur, .int .i64 b.tk, .int .i64 b.tn, .int .i64 b.tu, .int .i64 b.day, .int .i64 b.city, .int .i64 b.pay, .int .i64 b.need, .int .i64 b.rate, .int .i64 b.flags, .int .i64 b.parts]) := (Bx.new 35 (w.alloc (.cells #[.slice a0 R.cur.length c0, .slice a1 R.cities.length c1, .slice a2 R.groups.length c2, .slice a3 R.firms.length c3, .slice a4 R.orders.length c4, .slice a5 R.usances.length c5, .slice a6 R.rates.length c6, .slice a7 R.halts.length c7] 31)) [.int .i64 b.drawer, .int .i64 b.drawee, .int .i64 b.payee, .int .i64 b.sum, .int .i64 b.cur, .int .i64 b.tk, .int .i64 b.tn, .int .i64 b.tu, .int .i64 b.day, .int .i64 b.city, .int .i64 b.pay, .int .i64 b.need, .int .i64 b.rate, .int .i64 b.flags, .int .i64 b.parts] (w.heap.size + 1) (by simp)).next (Below.new1 (.cells #[.int .i64 0, .int .i64 0, .int .i64 0, .int .i64 0, .int .i64 0, .int .i64 0, .int .i64 0, .int .i64 0, .int .i64 0, .int .i64 0, .int .i64 0, .int .i64 0, .int .i64 0, .int .i64 0, .int .i64 0] 35))
  have Z0 : Hid (Bx 35 (((w.alloc (.cells #[.slice a0 R.cur.length c0, .slice a1 R.cities.length c1, .slice a2 R.groups.length c2, .slice a3 R.firms.length c3, .slice a4 R.orders.length c4, .slice a5 R.usances.length c5, .slice a6 R.rates.length c6, .slice a7 R.halts.length c7] 31)).alloc (.cells #[.int .i64 b.drawer, .int .i64 b.drawee, .int .i64 b.payee, .int .i64 b.sum, .int .i64 b.cur, .int .i64 b.tk, .int .i64 b.tn, .int .i64 b.tu, .int .i64 b.day, .int .i64 b.city, .int .i64 b.pay, .int .i64 b.need, .int .i64 b.rate, .int .i64 b.flags, .int .i64 b.parts] 35)).alloc (.cells #[.int .i64 0, .int .i64 0, .int .i64 0, .int .i64 0, .int .i64 0, .int .i64 0, .int .i64 0, .int .i64 0, .int .i64 0, .int .i64 0, .int .i64 0, .int .i64 0, .int .i64 0, .int .i64 0, .int .i64 0] 35)) (w.heap.size + 2) [.int .i64 0, .int .i64 0, .int .i64 0, .int .i64 0, .int .i64 0, .int .i64 0, .int .i64 0, .int .i64 0, .int .i64 0, .int .i64 0, .int .i64 0, .int .i64 0, .int .i64 0, .int .i64 0, .int .i64 0]) := Bx.new 35 ((w.alloc (.cells #[.slice a0 R.cur.length c0, .slice a1 R.cities.length c1, .slice a2 R.groups.length c2, .slice a3 R.firms.length c3, .slice a4 R.orders.length c4, .slice a5 R.usances.length c5, .slice a6 R.rates.length c6, .slice a7 R.halts.length c7] 31)).alloc (.cells #[.int .i64 b.drawer, .int .i64 b.drawee, .int .i64 b.payee, .int .i64 b.sum, .int .i64 b.cur, .int .i64 b.tk, .int .i64 b.tn, .int .i64 b.tu, .int .i64 b.day, .int .i64 b.city, .int .i64 b.pay, .int .i64 b.need, .int .i64 b.rate, .int .i64 b.flags, .int .i64 b.parts] 35)) [.int .i64 0, .int .i64 0, .int .i64 0, .int .i64 0, .int .i64 0, .int .i64 0, .int .i64 0, .int .i64 0, .int .i64 0, .int .i64 0, .int .i64 0, .int .i64 0, .int .i64 0, .int .i64 0, .int .i64 0] (w.heap.size + 2) (by simp)
  have B0 : Hid (Below w.heap.size w (((w.alloc (.cells #[.slice a0 R.cur.length c0, .slice a1 R.cities.length c1, .slice a2 R.groups.length c2, .slice a3 R.firms.length c3, .slice a4 R.orders.length c4, .slice a5 R.usances.length c5, .slice a6 R.rates.length c6, .slice a7 R.halts.length c7] 31)).alloc (.cells #[.int .i64 b.drawer, .int .i64 b.drawee, .int .i64 b.payee, .int .i64 b.sum, .int .i64 b.cur, .int .i64 b.tk, .int .i64 b.tn, .int .i64 b.tu, .int .i64 b.day, .int .i64 b.city, .int .i64 b.pay, .int .i64 b.need, .int .i64 b.rate, .int .i64 b.flags, .int .i64 b.parts] 35)).alloc (.cells #[.int .i64 0, .int .i64 0, .int .i64 0, .int .i64 0, .int .i64 0, .int .i64 0, .int .i64 0, .int .i64 0, .int .i64 0, .int .i64 0, .int .i64 0, .int .i64 0, .int .i64 0, .int .i64 0, .int .i64 0] 35))) := chain (chain (Below.new1 (.cells #[.slice a0 R.cur.length c0, .slice a1 R.cities.length c1, .slice a2 R.groups.length c2, .slice a3 R.firms.length c3, .slice a4 R.orders.length c4, .slice a5 R.usances.length c5, .slice a6 R.rates.length c6, .slice a7 R.halts.length c7] 31)) (Below.new1 (.cells #[.int .i64 b.drawer, .int .i64 b.drawee, .int .i64 b.payee, .int .i64 b.sum, .int .i64 b.cur, .int .i64 b.tk, .int .i64 b.tn, .int .i64 b.tu, .int .i64 b.day, .int .i64 b.city, .int .i64 b.pay, .int .i64 b.need, .int .i64 b.rate, .int .i64 b.flags, .int .i64 b.parts] 35))) (Below.new1 (.cells #[.int .i64 0, .int .i64 0, .int .i64 0, .int .i64 0, .int .i64 0, .int .i64 0, .int .i64 0, .int .i64 0, .int .i64 0, .int .i64 0, .int .i64 0, .int .i64 0, .int .i64 0, .int .i64 0, .int .i64 0] 35))
  go_wp2_with fail
  refine (RNumber_r s _ (by omega)).mono ?_
  rintro r w1 ⟨v, t1, rfl, Nv, zt1, lv, uv, cc⟩
  have RB1 := Lib.hid (RB0.out.next cc)
  have X1 := Lib.hid (X0.out.next cc)
  have Z1 := Lib.hid (Z0.out.next cc)
  have B1 := Lib.hid (chain B0.out cc)
  clear cc
  have ys := X1.out.at (i := 3) rfl
  have fs := X1.out.free 3
  have RB2 := Lib.hid (RB1.out.put (i := 3) (.int .i64 v) NXR.out)
  have X2 := Lib.hid (X1.out.set 3 (.int .i64 v))
  have Z2 := Lib.hid (Z1.out.other (i := 3) (.int .i64 v) NXZ.out)
  have B2 := Lib.hid (below_put (i := 3) B1.out NX.out (.int .i64 v))
  go_wp2_with fail
  clear ys fs
  refine (Reat_r t1 ⟨#[32]⟩ _ (by omega) (by decide)).mono ?_
  rintro r wx ⟨t2, q2, rfl, Tt2, Qq2, zt2, rfl⟩
  go_wp2_with fail
  refine (Rword_r t2 _ (by omega)).mono ?_
  rintro r w3 ⟨nm, t3, rfl, Nnm, znm, zt3, cc⟩
  have RB3 := Lib.hid (RB2.out.next cc)
  have X3 := Lib.hid (X2.out.next cc)
  have Z3 := Lib.hid (Z2.out.next cc)
  have B3 := Lib.hid (chain B2.out cc)
  clear cc
  go_wp2_with fail
  go_loopw [10] (fun iv wr => ∃ k : Nat, k ≤ R.cur.length ∧ iv = .int .i64 (k : Int) ∧ RB wr w.heap.size a0 a1 a2 a3 a4 a5 a6 a7 c0 c1 c2 c3 c4 c5 c6 c7 R ∧ Bx 35 wr (w.heap.size + 1) [.int .i64 b.drawer, .int .i64 b.drawee, .int .i64 b.payee, .int .i64 v, .int .i64 (lastV R.cur nm k (-1)), .int .i64 b.tk, .int .i64 b.tn, .int .i64 b.tu, .int .i64 b.day, .int .i64 b.city, .int .i64 b.pay, .int .i64 b.need, .int .i64 b.rate, .int .i64 b.flags, .int .i64 b.parts] ∧ Bx 35 wr (w.heap.size + 2) [.int .i64 0, .int .i64 0, .int .i64 0, .int .i64 0, .int .i64 0, .int .i64 0, .int .i64 0, .int .i64 0, .int .i64 0, .int .i64 0, .int .i64 0, .int .i64 0, .int .i64 0, .int .i64 0, .int .i64 0] ∧ Below w.heap.size w wr) (fun iv _ => R.cur.length - (intOf iv).toNat)
  case atStart => exact ⟨0, Nat.zero_le _, rfl, RB3.out, by rw [show lastV R.cur nm 0 (-1) = b.cur from HC.out.symm]; exact X3.out, Z3.out, B3.out⟩
  case round =>
    obtain ⟨k, hk, rfl, ebr, ebx, ebz, ebb⟩ := hrel
    have RBk := Lib.hid ebr
    have Xk := Lib.hid ebx
    have Zk := Lib.hid ebz
    have Bk := Lib.hid ebb
    have k0 : (0 : Int) ≤ (k : Int) := by omega
    have kk := ebr.b0
    clear ebr ebx ebz ebb
    by_cases c : k < R.cur.length
    case neg =>
      have kc : ¬ (k : Int) < (R.cur.length : Int) := by omega
      obtain rfl : k = R.cur.length := by omega
      go_wp2_with fail
      clear kk
      refine (Reat_r t3 ⟨#[32, 119, 105, 116, 104, 32, 105, 110, 116, 101, 114, 101, 115, 116, 32, 97, 116, 32]⟩ _ (by omega) (by decide)).mono ?_
      rintro r wx ⟨t4, q4, rfl, Tt4, Qq4, zt4, rfl⟩
      have RB90 := Lib.hid RBk.out
      have X90 := Lib.hid Xk.out
      have Z90 := Lib.hid Zk.out
      have B90 := Lib.hid Bk.out
      cases q4
      case true =>
        go_wp2_with fail
        refine (RNumber_r t4 _ (by omega)).mono ?_
        rintro r w91 ⟨i, t5, rfl, Ni, zt5, li, ui, cc⟩
        have RB91 := Lib.hid (RB90.out.next cc)
        have X91 := Lib.hid (X90.out.next cc)
        have Z91 := Lib.hid (Z90.out.next cc)
        have B91 := Lib.hid (chain B90.out cc)
        clear cc
        have ys := X91.out.at (i := 12) rfl
        have fs := X91.out.free 12
        have RB92 := Lib.hid (RB91.out.put (i := 12) (.int .i64 i) NXR.out)
        have X92 := Lib.hid (X91.out.set 12 (.int .i64 i))
        have Z92 := Lib.hid (Z91.out.other (i := 12) (.int .i64 i) NXZ.out)
        have B92 := Lib.hid (below_put (i := 12) B91.out NX.out (.int .i64 i))
        obtain ⟨x0, x1, x2, x3, x4, x5, x6, x7, x8, x9, x10, x11, x12, x13, x14⟩ := X92.out.all
        obtain ⟨y0, y1, y2, y3, y4, y5, y6, y7, y8, y9, y10, y11, y12, y13, y14⟩ := Z92.out.all
        obtain ⟨f0, f1, f2, f3, f4, f5, f6, f7, f8, f9, f10, f11, f12, f13, f14⟩ := Z92.out.frees
        go_wp2
        have CF := Z92.out.row rfl (.int .i64 b.drawer) (.int .i64 b.drawee) (.int .i64 b.payee) (.int .i64 v) (.int .i64 (lastV R.cur nm R.cur.length (-1))) (.int .i64 b.tk) (.int .i64 b.tn) (.int .i64 b.tu) (.int .i64 b.day) (.int .i64 b.city) (.int .i64 b.pay) (.int .i64 b.need) (.int .i64 i) (.int .i64 b.flags) (.int .i64 b.parts)
        have BF := below_row B92.out NZ.out (.int .i64 b.drawer) (.int .i64 b.drawee) (.int .i64 b.payee) (.int .i64 v) (.int .i64 (lastV R.cur nm R.cur.length (-1))) (.int .i64 b.tk) (.int .i64 b.tn) (.int .i64 b.tu) (.int .i64 b.day) (.int .i64 b.city) (.int .i64 b.pay) (.int .i64 b.need) (.int .i64 i) (.int .i64 b.flags) (.int .i64 b.parts)
        obtain ⟨r0, r1, r2, r3, r4, r5, r6, r7, r8, r9, r10, r11, r12, r13, r14⟩ := CF.all
        exact bodyPost_ret (v := .agg #[.int .i64 b.drawer, .int .i64 b.drawee, .int .i64 b.payee, .int .i64 v, .int .i64 (lastV R.cur nm R.cur.length (-1)), .int .i64 b.tk, .int .i64 b.tn, .int .i64 b.tu, .int .i64 b.day, .int .i64 b.city, .int .i64 b.pay, .int .i64 b.need, .int .i64 i, .int .i64 b.flags, .int .i64 b.parts]) (by simp [results, Tryz.results30, go_sem, r0, r1, r2, r3, r4, r5, r6, r7, r8, r9, r10, r11, r12, r13, r14]) rfl ⟨v, _, i, rfl, smR_of (t3 := t5.data.toList) Nv.out (by have h := curR_last (R := R) Nnm.out; rw [Tt2.out] at h; exact h) (by rw [if_pos Qq4.out.symm]; have h := Ni.out; rw [Tt4.out] at h; exact h), BF⟩
      case false =>
        obtain ⟨x0, x1, x2, x3, x4, x5, x6, x7, x8, x9, x10, x11, x12, x13, x14⟩ := X90.out.all
        obtain ⟨y0, y1, y2, y3, y4, y5, y6, y7, y8, y9, y10, y11, y12, y13, y14⟩ := Z90.out.all
        obtain ⟨f0, f1, f2, f3, f4, f5, f6, f7, f8, f9, f10, f11, f12, f13, f14⟩ := Z90.out.frees
        go_wp2
        have CF := Z90.out.row rfl (.int .i64 b.drawer) (.int .i64 b.drawee) (.int .i64 b.payee) (.int .i64 v) (.int .i64 (lastV R.cur nm R.cur.length (-1))) (.int .i64 b.tk) (.int .i64 b.tn) (.int .i64 b.tu) (.int .i64 b.day) (.int .i64 b.city) (.int .i64 b.pay) (.int .i64 b.need) (.int .i64 b.rate) (.int .i64 b.flags) (.int .i64 b.parts)
        have BF := below_row B90.out NZ.out (.int .i64 b.drawer) (.int .i64 b.drawee) (.int .i64 b.payee) (.int .i64 v) (.int .i64 (lastV R.cur nm R.cur.length (-1))) (.int .i64 b.tk) (.int .i64 b.tn) (.int .i64 b.tu) (.int .i64 b.day) (.int .i64 b.city) (.int .i64 b.pay) (.int .i64 b.need) (.int .i64 b.rate) (.int .i64 b.flags) (.int .i64 b.parts)
        obtain ⟨r0, r1, r2, r3, r4, r5, r6, r7, r8, r9, r10, r11, r12, r13, r14⟩ := CF.all
        exact bodyPost_ret (v := .agg #[.int .i64 b.drawer, .int .i64 b.drawee, .int .i64 b.payee, .int .i64 v, .int .i64 (lastV R.cur nm R.cur.length (-1)), .int .i64 b.tk, .int .i64 b.tn, .int .i64 b.tu, .int .i64 b.day, .int .i64 b.city, .int .i64 b.pay, .int .i64 b.need, .int .i64 b.rate, .int .i64 b.flags, .int .i64 b.parts]) (by simp [results, Tryz.results30, go_sem, r0, r1, r2, r3, r4, r5, r6, r7, r8, r9, r10, r11, r12, r13, r14]) rfl ⟨v, _, b.rate, rfl, smR_of (t3 := []) Nv.out (by have h := curR_last (R := R) Nnm.out; rw [Tt2.out] at h; exact h) (by rw [if_neg (by rw [← Qq4.out]; decide)]; exact HR0.out), BF⟩
    case pos =>
      have kc : (k : Int) < (R.cur.length : Int) := by omega
      obtain ⟨x, hx⟩ : ∃ x, R.cur[k]? = some x := ⟨_, List.getElem?_eq_getElem c⟩
      obtain ⟨b1, off, ea, -, hc⟩ := (HRS.out.next Bk.out).cur.at hx
      rw [ea] at kk ⊢
      have t0 : wr.cell? ⟨b1, off + k, none⟩ = some (.string x) := by have := hc 0 _ rfl; rwa [Nat.mul_one, Nat.add_zero] at this
      clear hc
      by_cases e : x = nm
      · have e1 : (x.toList == nm.toList) = true := list_eq e
        have hl : Hid (lastV R.cur nm (k + 1) (-1) = (k : Int)) := by show _ = _; rw [lastV_succ, if_pos (by rw [hx, e])]
        have ys := Xk.out.at (i := 4) rfl
        have fs := Xk.out.free 4
        clear e hx
        go_wp2_with fail
        go_roundw
        case rel => exact ⟨k + 1, by omega, by go_num, by rw [← ea]; exact RBk.out.put (i := 4) (.int .i64 (k : Int)) NXR.out, by rw [hl.out]; exact Xk.out.set 4 (.int .i64 (k : Int)), Zk.out.other (i := 4) (.int .i64 (k : Int)) NXZ.out, below_put (i := 4) Bk.out NX.out (.int .i64 (k : Int))⟩
        case measure => simp [intOf]; omega
      · have e1 : (x.toList == nm.toList) = false := list_ne e
        have hl : Hid (lastV R.cur nm (k + 1) (-1) = lastV R.cur nm k (-1)) := by show _ = _; rw [lastV_succ, if_neg (by rw [hx]; intro h; exact e (Option.some.inj h))]
        clear e hx
        go_wp2_with fail
        go_roundw
        case rel => exact ⟨k + 1, by omega, by go_num, by rw [← ea]; exact RBk.out, by rw [hl.out]; exact Xk.out, Zk.out, Bk.out⟩
        case measure => simp [intOf]; omega
end Go.Proofs.YtcjakgpmompaiaaGreatDoor
