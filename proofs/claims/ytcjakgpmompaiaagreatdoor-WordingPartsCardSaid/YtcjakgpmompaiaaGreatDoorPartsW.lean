/-
  WordingParts: the walk.
-/
import Derived.Test.YtcjakgpmompaiaaGreatDoorLwL
namespace Go.Proofs.YtcjakgpmompaiaaGreatDoor
open Go.RowKit Rl Wd

def PaRel (len : Nat) (W : World) (v : Value) (wr : World) : Prop := ∃ n : Nat, n ≤ len ∧ v = .int .i64 (n : Int) ∧ Below W.heap.size W wr
theorem str_cell {w : World} {b o n c len : Nat} {l : List B} {s : B} (h : SAt w (.slice (some ⟨b, o, none⟩) len c) l) (hs : l[n]? = some s) : w.cell? ⟨b, o + n, none⟩ = some (.string s) := by
  obtain ⟨b2, o2, e, -, hc⟩ := h.at hs
  simp only [Option.some.injEq, Addr.mk.injEq] at e
  obtain ⟨rfl, rfl, -⟩ := e
  have := hc 0 _ rfl
  rwa [Nat.mul_one, Nat.add_zero] at this
set_option maxHeartbeats 12800000 in
set_option maxRecDepth 100000 in
theorem WordingParts_x {a0 a1 a2 a3 a4 a5 a6 a7 : Option Addr} {c0 c1 c2 c3 c4 c5 c6 c7 : Nat} {R : Rlm} (hsm : SmallOk) (b : Bl) (xx yy : Int) (ot : Bl) (hx0 : 0 ≤ xx) (hx1 : xx ≤ 255) (hy0 : 0 ≤ yy) (hy1 : yy ≤ 255) (w : World) (hr : RS w a0 a1 a2 a3 a4 a5 a6 a7 c0 c1 c2 c3 c4 c5 c6 c7 R) (hF : FitW R) (hE : Ev w) :
    Calls Tryz.prog 6 #[.agg #[.slice a0 R.cur.length c0, .slice a1 R.cities.length c1, .slice a2 R.groups.length c2, .slice a3 R.firms.length c3, .slice a4 R.orders.length c4, .slice a5 R.usances.length c5, .slice a6 R.rates.length c6, .slice a7 R.halts.length c7], vB b, .int .u8 xx, .int .u8 yy, vB ot] w fun r w' => r = .returned (.bool true) ∧ Below w.heap.size w w' := by
  have HRS := Lib.hid hr
  have HFW := Lib.hid hF
  have HE := Lib.hid hE
  clear hr hF hE
  have B0 : Hid (Below w.heap.size w (((w.alloc (.cells #[.slice a0 R.cur.length c0, .slice a1 R.cities.length c1, .slice a2 R.groups.length c2, .slice a3 R.firms.length c3, .slice a4 R.orders.length c4, .slice a5 R.usances.length c5, .slice a6 R.rates.length c6, .slice a7 R.halts.length c7] 31)).alloc (.cells #[.int .i64 b.drawer, .int .i64 b.drawee, .int .i64 b.payee, .int .i64 b.sum, .int .i64 b.cur, .int .i64 b.tk, .int .i64 b.tn, .int .i64 b.tu, .int .i64 b.day, .int .i64 b.city, .int .i64 b.pay, .int .i64 b.need, .int .i64 b.rate, .int .i64 b.flags, .int .i64 b.parts] 35)).alloc (.cells #[.int .i64 ot.drawer, .int .i64 ot.drawee, .int .i64 ot.payee, .int .i64 ot.sum, .int .i64 ot.cur, .int .i64 ot.tk, .int .i64 ot.tn, .int .i64 ot.tu, .int .i64 ot.day, .int .i64 ot.city, .int .i64 ot.pay, .int .i64 ot.need, .int .i64 ot.rate, .int .i64 ot.flags, .int .i64 ot.parts] 35))) := (chain (chain (Below.new1 (w := w) (.cells #[.slice a0 R.cur.length c0, .slice a1 R.cities.length c1, .slice a2 R.groups.length c2, .slice a3 R.firms.length c3, .slice a4 R.orders.length c4, .slice a5 R.usances.length c5, .slice a6 R.rates.length c6, .slice a7 R.halts.length c7] 31)) (Below.new1 (.cells #[.int .i64 b.drawer, .int .i64 b.drawee, .int .i64 b.payee, .int .i64 b.sum, .int .i64 b.cur, .int .i64 b.tk, .int .i64 b.tn, .int .i64 b.tu, .int .i64 b.day, .int .i64 b.city, .int .i64 b.pay, .int .i64 b.need, .int .i64 b.rate, .int .i64 b.flags, .int .i64 b.parts] 35))) (Below.new1 (.cells #[.int .i64 ot.drawer, .int .i64 ot.drawee, .int .i64 ot.payee, .int .i64 ot.sum, .int .i64 ot.cur, .int .i64 ot.tk, .int .i64 ot.tn, .int .i64 ot.tu, .int .i64 ot.day, .int .i64 ot.city, .int .i64 ot.pay, .int .i64 ot.need, .int .i64 ot.rate, .int .i64 ot.flags, .int .i64 ot.parts] 35)))
  have RB0 : Hid (RB (((w.alloc (.cells #[.slice a0 R.cur.length c0, .slice a1 R.cities.length c1, .slice a2 R.groups.length c2, .slice a3 R.firms.length c3, .slice a4 R.orders.length c4, .slice a5 R.usances.length c5, .slice a6 R.rates.length c6, .slice a7 R.halts.length c7] 31)).alloc (.cells #[.int .i64 b.drawer, .int .i64 b.drawee, .int .i64 b.payee, .int .i64 b.sum, .int .i64 b.cur, .int .i64 b.tk, .int .i64 b.tn, .int .i64 b.tu, .int .i64 b.day, .int .i64 b.city, .int .i64 b.pay, .int .i64 b.need, .int .i64 b.rate, .int .i64 b.flags, .int .i64 b.parts] 35)).alloc (.cells #[.int .i64 ot.drawer, .int .i64 ot.drawee, .int .i64 ot.payee, .int .i64 ot.sum, .int .i64 ot.cur, .int .i64 ot.tk, .int .i64 ot.tn, .int .i64 ot.tu, .int .i64 ot.day, .int .i64 ot.city, .int .i64 ot.pay, .int .i64 ot.need, .int .i64 ot.rate, .int .i64 ot.flags, .int .i64 ot.parts] 35)) w.heap.size a0 a1 a2 a3 a4 a5 a6 a7 c0 c1 c2 c3 c4 c5 c6 c7 R) := (((RB.new w a0 a1 a2 a3 a4 a5 a6 a7 c0 c1 c2 c3 c4 c5 c6 c7 R).next (Below.new1 (.cells #[.int .i64 b.drawer, .int .i64 b.drawee, .int .i64 b.payee, .int .i64 b.sum, .int .i64 b.cur, .int .i64 b.tk, .int .i64 b.tn, .int .i64 b.tu, .int .i64 b.day, .int .i64 b.city, .int .i64 b.pay, .int .i64 b.need, .int .i64 b.rate, .int .i64 b.flags, .int .i64 b.parts] 35))).next (Below.new1 (.cells #[.int .i64 ot.drawer, .int .i64 ot.drawee, .int .i64 ot.payee, .int .i64 ot.sum, .int .i64 ot.cur, .int .i64 ot.tk, .int .i64 ot.tn, .int .i64 ot.tu, .int .i64 ot.day, .int .i64 ot.city, .int .i64 ot.pay, .int .i64 ot.need, .int .i64 ot.rate, .int .i64 ot.flags, .int .i64 ot.parts] 35)))
  have X0 : Hid (BB (((w.alloc (.cells #[.slice a0 R.cur.length c0, .slice a1 R.cities.length c1, .slice a2 R.groups.length c2, .slice a3 R.firms.length c3, .slice a4 R.orders.length c4, .slice a5 R.usances.length c5, .slice a6 R.rates.length c6, .slice a7 R.halts.length c7] 31)).alloc (.cells #[.int .i64 b.drawer, .int .i64 b.drawee, .int .i64 b.payee, .int .i64 b.sum, .int .i64 b.cur, .int .i64 b.tk, .int .i64 b.tn, .int .i64 b.tu, .int .i64 b.day, .int .i64 b.city, .int .i64 b.pay, .int .i64 b.need, .int .i64 b.rate, .int .i64 b.flags, .int .i64 b.parts] 35)).alloc (.cells #[.int .i64 ot.drawer, .int .i64 ot.drawee, .int .i64 ot.payee, .int .i64 ot.sum, .int .i64 ot.cur, .int .i64 ot.tk, .int .i64 ot.tn, .int .i64 ot.tu, .int .i64 ot.day, .int .i64 ot.city, .int .i64 ot.pay, .int .i64 ot.need, .int .i64 ot.rate, .int .i64 ot.flags, .int .i64 ot.parts] 35)) (w.heap.size + 1) b) := ((BB.new (w.alloc (.cells #[.slice a0 R.cur.length c0, .slice a1 R.cities.length c1, .slice a2 R.groups.length c2, .slice a3 R.firms.length c3, .slice a4 R.orders.length c4, .slice a5 R.usances.length c5, .slice a6 R.rates.length c6, .slice a7 R.halts.length c7] 31)) b (w.heap.size + 1) (by simp)).next (Below.new1 (.cells #[.int .i64 ot.drawer, .int .i64 ot.drawee, .int .i64 ot.payee, .int .i64 ot.sum, .int .i64 ot.cur, .int .i64 ot.tk, .int .i64 ot.tn, .int .i64 ot.tu, .int .i64 ot.day, .int .i64 ot.city, .int .i64 ot.pay, .int .i64 ot.need, .int .i64 ot.rate, .int .i64 ot.flags, .int .i64 ot.parts] 35)))
  have O0 : Hid (BB (((w.alloc (.cells #[.slice a0 R.cur.length c0, .slice a1 R.cities.length c1, .slice a2 R.groups.length c2, .slice a3 R.firms.length c3, .slice a4 R.orders.length c4, .slice a5 R.usances.length c5, .slice a6 R.rates.length c6, .slice a7 R.halts.length c7] 31)).alloc (.cells #[.int .i64 b.drawer, .int .i64 b.drawee, .int .i64 b.payee, .int .i64 b.sum, .int .i64 b.cur, .int .i64 b.tk, .int .i64 b.tn, .int .i64 b.tu, .int .i64 b.day, .int .i64 b.city, .int .i64 b.pay, .int .i64 b.need, .int .i64 b.rate, .int .i64 b.flags, .int .i64 b.parts] 35)).alloc (.cells #[.int .i64 ot.drawer, .int .i64 ot.drawee, .int .i64 ot.payee, .int .i64 ot.sum, .int .i64 ot.cur, .int .i64 ot.tk, .int .i64 ot.tn, .int .i64 ot.tu, .int .i64 ot.day, .int .i64 ot.city, .int .i64 ot.pay, .int .i64 ot.need, .int .i64 ot.rate, .int .i64 ot.flags, .int .i64 ot.parts] 35)) (w.heap.size + 2) ot) := (BB.new ((w.alloc (.cells #[.slice a0 R.cur.length c0, .slice a1 R.cities.length c1, .slice a2 R.groups.length c2, .slice a3 R.firms.length c3, .slice a4 R.orders.length c4, .slice a5 R.usances.length c5, .slice a6 R.rates.length c6, .slice a7 R.halts.length c7] 31)).alloc (.cells #[.int .i64 b.drawer, .int .i64 b.drawee, .int .i64 b.payee, .int .i64 b.sum, .int .i64 b.cur, .int .i64 b.tk, .int .i64 b.tn, .int .i64 b.tu, .int .i64 b.day, .int .i64 b.city, .int .i64 b.pay, .int .i64 b.need, .int .i64 b.rate, .int .i64 b.flags, .int .i64 b.parts] 35)) ot (w.heap.size + 2) (by simp))
  go_enter Tryz.func6, Tryz.ntmps6
  go_wp2_with fail
  refine (hsm _ (HE.out.next B0.out)).mono ?_
  rintro r w1 ⟨rfl, cc⟩
  have B1 := Lib.hid (chain B0.out cc)
  have RB1 := Lib.hid (RB0.out.next cc)
  have X1 := Lib.hid (X0.out.next cc)
  have O1 := Lib.hid (O0.out.next cc)
  clear cc
  have k0 := RB1.out.b0
  have k1 := RB1.out.b1
  have k2 := RB1.out.b2
  have k3 := RB1.out.b3
  have k4 := RB1.out.b4
  have k5 := RB1.out.b5
  have k6 := RB1.out.b6
  have k7 := RB1.out.b7
  go_wp2_with fail
  clear k0 k1 k2 k3 k4 k5 k6 k7
  refine (few_x ⟨#[]⟩ _ (HRS.out.next B1.out) HFW.out).mono ?_
  rintro r w2 ⟨⟨fw, rfl, hfw⟩, cc⟩
  have B2 := Lib.hid (chain B1.out cc)
  have RB2 := Lib.hid (RB1.out.next cc)
  have X2 := Lib.hid (X1.out.next cc)
  have O2 := Lib.hid (O1.out.next cc)
  clear cc
  cases fw
  case true =>
    have HFT := Lib.hid (hfw rfl).1
    clear hfw
    have k0 := RB2.out.b0
    have k1 := RB2.out.b1
    have k2 := RB2.out.b2
    have k3 := RB2.out.b3
    have k4 := RB2.out.b4
    have k5 := RB2.out.b5
    have k6 := RB2.out.b6
    have k7 := RB2.out.b7
    have x0 := X2.out.at (i := 0) rfl
    have x1 := X2.out.at (i := 1) rfl
    have x2 := X2.out.at (i := 2) rfl
    have x3 := X2.out.at (i := 3) rfl
    have x4 := X2.out.at (i := 4) rfl
    have x5 := X2.out.at (i := 5) rfl
    have x6 := X2.out.at (i := 6) rfl
    have x7 := X2.out.at (i := 7) rfl
    have x8 := X2.out.at (i := 8) rfl
    have x9 := X2.out.at (i := 9) rfl
    have x10 := X2.out.at (i := 10) rfl
    have x11 := X2.out.at (i := 11) rfl
    have x12 := X2.out.at (i := 12) rfl
    have x13 := X2.out.at (i := 13) rfl
    have x14 := X2.out.at (i := 14) rfl
    go_wp2_with fail
    clear k0 k1 k2 k3 k4 k5 k6 k7 x0 x1 x2 x3 x4 x5 x6 x7 x8 x9 x10 x11 x12 x13 x14
    refine (WCheck_x b _ (HRS.out.next B2.out) HFT.out).mono ?_
    rintro r w3 ⟨rfl, cc⟩
    have B3 := Lib.hid (chain B2.out cc)
    have RB3 := Lib.hid (RB2.out.next cc)
    have X3 := Lib.hid (X2.out.next cc)
    have O3 := Lib.hid (O2.out.next cc)
    clear cc
    obtain ⟨ec, hec⟩ : ∃ e : Int, e = checkW R b := ⟨_, rfl⟩
    rw [← hec]
    replace hec := Lib.hid hec
    by_cases h0 : ec = 0
    · subst h0
      have hRt := rt_of hec.out.symm
      have hp1 := hRt.parts
      have HK := Lib.hid hec.out.symm
      have HRT := Lib.hid hRt
      clear hec hRt
      have g1 : ¬ b.parts < 1 := by omega
      have g0 : (b.parts == 0) = false := beq_eq_false_iff_ne.2 (by omega)
      have x0 := X3.out.at (i := 0) rfl
      have x1 := X3.out.at (i := 1) rfl
      have x2 := X3.out.at (i := 2) rfl
      have x3 := X3.out.at (i := 3) rfl
      have x4 := X3.out.at (i := 4) rfl
      have x5 := X3.out.at (i := 5) rfl
      have x6 := X3.out.at (i := 6) rfl
      have x7 := X3.out.at (i := 7) rfl
      have x8 := X3.out.at (i := 8) rfl
      have x9 := X3.out.at (i := 9) rfl
      have x10 := X3.out.at (i := 10) rfl
      have x11 := X3.out.at (i := 11) rfl
      have x12 := X3.out.at (i := 12) rfl
      have x13 := X3.out.at (i := 13) rfl
      have x14 := X3.out.at (i := 14) rfl
      have k0 := RB3.out.b0
      have k1 := RB3.out.b1
      have k2 := RB3.out.b2
      have k3 := RB3.out.b3
      have k4 := RB3.out.b4
      have k5 := RB3.out.b5
      have k6 := RB3.out.b6
      have k7 := RB3.out.b7
      go_upto_region 6 with fail
      obtain ⟨i, hi⟩ : ∃ i : Int, i = xx % b.parts := ⟨_, rfl⟩
      obtain ⟨j, hj⟩ : ∃ j : Int, j = yy % b.parts := ⟨_, rfl⟩
      have hi0 : 0 ≤ i := by rw [hi]; exact Int.emod_nonneg _ (by omega)
      have hi1 : i < b.parts := by rw [hi]; exact Int.emod_lt_of_pos _ (by omega)
      have hj0 : 0 ≤ j := by rw [hj]; exact Int.emod_nonneg _ (by omega)
      have hj1 : j < b.parts := by rw [hj]; exact Int.emod_lt_of_pos _ (by omega)
      rw [← hi, ← hj]
      clear hi hj
      have HI : Hid (Has R b i) := ⟨HK.out, hi0, hi1⟩
      have HJ : Hid (Has R b j) := ⟨HK.out, hj0, hj1⟩
      go_wp2_with fail
      clear x0 x1 x2 x3 x4 x5 x6 x7 x8 x9 x10 x11 x12 x13 x14 k0 k1 k2 k3 k4 k5 k6 k7
      refine (WText_x b i _ (HRS.out.next B3.out) HFT.out (HE.out.next B3.out)).mono ?_
      rintro r w4 ⟨rfl, cc⟩
      have B4 := Lib.hid (chain B3.out cc)
      have RB4 := Lib.hid (RB3.out.next cc)
      have X4 := Lib.hid (X3.out.next cc)
      have O4 := Lib.hid (O3.out.next cc)
      clear cc
      rw [textP_yes HI.out]
      obtain ⟨s, hs⟩ : ∃ s : B, s = mkB (wordW R b i) := ⟨_, rfl⟩
      rw [← hs]
      have zs : s.size ≤ 4000 := by rw [hs]; exact word_size HI.out
      replace hs := Lib.hid hs
      have x0 := X4.out.at (i := 0) rfl
      have x1 := X4.out.at (i := 1) rfl
      have x2 := X4.out.at (i := 2) rfl
      have x3 := X4.out.at (i := 3) rfl
      have x4 := X4.out.at (i := 4) rfl
      have x5 := X4.out.at (i := 5) rfl
      have x6 := X4.out.at (i := 6) rfl
      have x7 := X4.out.at (i := 7) rfl
      have x8 := X4.out.at (i := 8) rfl
      have x9 := X4.out.at (i := 9) rfl
      have x10 := X4.out.at (i := 10) rfl
      have x11 := X4.out.at (i := 11) rfl
      have x12 := X4.out.at (i := 12) rfl
      have x13 := X4.out.at (i := 13) rfl
      have x14 := X4.out.at (i := 14) rfl
      have k0 := RB4.out.b0
      have k1 := RB4.out.b1
      have k2 := RB4.out.b2
      have k3 := RB4.out.b3
      have k4 := RB4.out.b4
      have k5 := RB4.out.b5
      have k6 := RB4.out.b6
      have k7 := RB4.out.b7
      go_wp2_with fail
      clear x0 x1 x2 x3 x4 x5 x6 x7 x8 x9 x10 x11 x12 x13 x14 k0 k1 k2 k3 k4 k5 k6 k7
      refine (WText_x b j _ (HRS.out.next B4.out) HFT.out (HE.out.next B4.out)).mono ?_
      rintro r w5 ⟨rfl, cc⟩
      have B5 := Lib.hid (chain B4.out cc)
      have RB5 := Lib.hid (RB4.out.next cc)
      have X5 := Lib.hid (X4.out.next cc)
      have O5 := Lib.hid (O4.out.next cc)
      clear cc
      rw [textP_yes HJ.out]
      obtain ⟨t, ht⟩ : ∃ s : B, s = mkB (wordW R b j) := ⟨_, rfl⟩
      rw [← ht]
      have zt : t.size ≤ 4000 := by rw [ht]; exact word_size HJ.out
      replace ht := Lib.hid ht
      go_wp2_with fail
      refine (lines_x s _ (by omega)).mono ?_
      rintro r w6 ⟨⟨v, rfl, Y, aY, cY, fY, rfl, hcY, hsY, hlY, hpY⟩, cc⟩
      have B6 := Lib.hid (chain B5.out cc)
      have RB6 := Lib.hid (RB5.out.next cc)
      have X6 := Lib.hid (X5.out.next cc)
      have O6 := Lib.hid (O5.out.next cc)
      clear cc
      have SY := Lib.hid hsY
      have PY := Lib.hid (lines_of HRT.out hs.out hpY)
      clear hsY hpY
      go_wp2_with fail
      refine (lines_x t _ (by omega)).mono ?_
      rintro r w7 ⟨⟨v, rfl, Z, aZ, cZ, fZ, rfl, hcZ, hsZ, hlZ, hpZ⟩, cc⟩
      have bz := cc
      have B7 := Lib.hid (chain B6.out cc)
      have RB7 := Lib.hid (RB6.out.next cc)
      have X7 := Lib.hid (X6.out.next cc)
      have O7 := Lib.hid (O6.out.next cc)
      clear cc
      replace SY := Lib.hid (SY.out.next bz)
      have SZ := Lib.hid hsZ
      have PZ := Lib.hid (lines_of HRT.out ht.out hpZ)
      clear hsZ hpZ
      clear bz
      have hlen : Y.length = Z.length := by
        have h1 := congrArg List.length PY.out
        have h2 := congrArg List.length PZ.out
        rw [List.length_map] at h1 h2
        rw [h1, h2]
        exact lines_len R b i j
      have hsev : 7 ≤ Y.length := by
        have h1 := congrArg List.length PY.out
        rw [List.length_map] at h1
        rw [h1]
        exact lines_seven R b i
      have HLEN := Lib.hid hlen
      have HSEV := Lib.hid hsev
      have hzl : ((Z.length : Int) != (Z.length : Int)) = false := by simp
      have hz7 : ¬ (Z.length : Int) < 7 := by omega
      have hz7d : decide ((Z.length : Int) < 7) = false := decide_eq_false hz7
      go_upto_region 10 with fail
      go_cut [86] (fun v wx => v = .bool false ∧ Below w7.heap.size w7 wx)
      case first =>
        as_aux_lemma =>
          have D0 : Hid (Below w7.heap.size w7 w7.drew) := (Below.refl _ _).drew
          refine wp_region_held_drew (S := Below w7.heap.size w7) (by kernel_rfl) ?_ (fun hHeld => ?_)
          · exact D0.out
          refine swap_ops (ops' := paOps) (by kernel_rfl) ?_
          refine wpAnyH_take (v := ?_) po_0 po_none (by kernel_rfl) (by kernel_rfl) (fun _ _ _ h => h) (Or.inl ⟨by rfl, ?_⟩) (by assumption) ?_
          rotate_left
          · intro wz hSw
            have kz := RB7.out.next hSw
            have k0 := kz.b0
            have k1 := kz.b1
            have k2 := kz.b2
            have k3 := kz.b3
            have k4 := kz.b4
            have k5 := kz.b5
            have k6 := kz.b6
            have k7 := kz.b7
            clear kz
            clear hSw
            go_simp
            try with_reducible rfl
          try simp only [Act.put, List.setIfInBounds_toArray, List.set_cons_zero, List.set_cons_succ]
          refine wpAnyH_take (v := ?_) po_1 po_none (by kernel_rfl) (by kernel_rfl) (fun _ _ _ h => h) (Or.inl ⟨by rfl, ?_⟩) (by assumption) ?_
          rotate_left
          · intro wz hSw
            clear hSw
            go_simp
            try with_reducible rfl
          try simp only [Act.put, List.setIfInBounds_toArray, List.set_cons_zero, List.set_cons_succ]
          refine wpAnyH_take (v := ?_) po_2 po_none (by kernel_rfl) (by kernel_rfl) (fun _ _ _ h => h) (Or.inl ⟨by rfl, ?_⟩) (by assumption) ?_
          rotate_left
          · intro wz hSw
            clear hSw
            go_simp
            try with_reducible rfl
          try simp only [Act.put, List.setIfInBounds_toArray, List.set_cons_zero, List.set_cons_succ]
          refine wpAnyH_ready (rs := [3]) (by kernel_rfl) (by simp) (AllReadyH.cons po_3 (fun K hK => ?_) AllReadyH.nil)
          rw [if_pos (by rfl)]
          go_simp
          (go_at_call 16; refine (Alike_x s t _ (HRS.out.next (chain B7.out D0.out)) HFT.out (HE.out.next (chain B7.out D0.out)) (by omega) (by omega)).mono ?_; rintro r v1 ⟨rfl, cc⟩)
          try go_wp2_with fail
          have D1 : Hid (Below w7.heap.size w7 v1) := (chain D0.out cc)
          clear cc
          rw [show alikeP R s t = true by rw [hs.out, ht.out]; exact alike_parts HI.out HJ.out]
          refine hK.out _ _ ?_ (fun hHeld => ?_)
          · exact D1.out
          clear hK K
          try simp only [Act.put, List.setIfInBounds_toArray, List.set_cons_zero, List.set_cons_succ]
          refine wpAnyH_take (v := ?_) po_4 po_none (by kernel_rfl) (by kernel_rfl) (fun _ _ _ h => h) (Or.inl ⟨by rfl, ?_⟩) (by assumption) ?_
          rotate_left
          · intro wz hSw
            clear hSw
            go_simp
            try with_reducible rfl
          try simp only [Act.put, List.setIfInBounds_toArray, List.set_cons_zero, List.set_cons_succ]
          refine wpAnyH_take (v := ?_) po_5 po_none (by kernel_rfl) (by kernel_rfl) (fun _ _ _ h => h) (Or.inl ⟨by rfl, ?_⟩) (by assumption) ?_
          rotate_left
          · intro wz hSw
            clear hSw
            go_simp
            try with_reducible rfl
          try simp only [Act.put, List.setIfInBounds_toArray, List.set_cons_zero, List.set_cons_succ]
          refine wpAnyH_take (v := ?_) po_6 po_none (by kernel_rfl) (by kernel_rfl) (fun _ _ _ h => h) (Or.inl ⟨by rfl, ?_⟩) (by assumption) ?_
          rotate_left
          · intro wz hSw
            clear hSw
            go_simp
            try with_reducible rfl
          try simp only [Act.put, List.setIfInBounds_toArray, List.set_cons_zero, List.set_cons_succ]
          refine wpAnyH_take (v := ?_) po_7 po_none (by kernel_rfl) (by kernel_rfl) (fun _ _ _ h => h) (Or.inl ⟨by rfl, ?_⟩) (by assumption) ?_
          rotate_left
          · intro wz hSw
            clear hSw
            go_simp
            try with_reducible rfl
          try simp only [Act.put, List.setIfInBounds_toArray, List.set_cons_zero, List.set_cons_succ]
          refine wpAnyH_take (v := ?_) po_8 po_none (by kernel_rfl) (by kernel_rfl) (fun _ _ _ h => h) (Or.inl ⟨by rfl, ?_⟩) (by assumption) ?_
          rotate_left
          · intro wz hSw
            clear hSw
            go_simp
            try with_reducible rfl
          try simp only [Act.put, List.setIfInBounds_toArray, List.set_cons_zero, List.set_cons_succ]
          refine wpAnyH_take (v := ?_) po_9 po_none (by kernel_rfl) (by kernel_rfl) (fun _ _ _ h => h) (Or.inl ⟨by rfl, ?_⟩) (by assumption) ?_
          rotate_left
          · intro wz hSw
            clear hSw
            go_simp
            try with_reducible rfl
          try simp only [Act.put, List.setIfInBounds_toArray, List.set_cons_zero, List.set_cons_succ]
          refine wpAnyH_take (v := ?_) po_10 po_none (by kernel_rfl) (by kernel_rfl) (fun _ _ _ h => h) (Or.inl ⟨by rfl, ?_⟩) (by assumption) ?_
          rotate_left
          · intro wz hSw
            clear hSw
            go_simp
            try with_reducible rfl
          try simp only [Act.put, List.setIfInBounds_toArray, List.set_cons_zero, List.set_cons_succ]
          refine wpAnyH_take (v := ?_) po_11 po_none (by kernel_rfl) (by kernel_rfl) (fun _ _ _ h => h) (Or.inl ⟨by rfl, ?_⟩) (by assumption) ?_
          rotate_left
          · intro wz hSw
            clear hSw
            go_simp
            try with_reducible rfl
          try simp only [Act.put, List.setIfInBounds_toArray, List.set_cons_zero, List.set_cons_succ]
          refine wpAnyH_take (v := ?_) po_12 po_none (by kernel_rfl) (by kernel_rfl) (fun _ _ _ h => h) (Or.inl ⟨by rfl, ?_⟩) (by assumption) ?_
          rotate_left
          · intro wz hSw
            clear hSw
            go_simp
            try with_reducible rfl
          try simp only [Act.put, List.setIfInBounds_toArray, List.set_cons_zero, List.set_cons_succ]
          refine wpAnyH_take (v := ?_) po_13 po_none (by kernel_rfl) (by kernel_rfl) (fun _ _ _ h => h) (Or.inl ⟨by rfl, ?_⟩) (by assumption) ?_
          rotate_left
          · intro wz hSw
            clear hSw
            go_simp
            try with_reducible rfl
          try simp only [Act.put, List.setIfInBounds_toArray, List.set_cons_zero, List.set_cons_succ]
          refine wpAnyH_take (v := ?_) po_14 po_none (by kernel_rfl) (by kernel_rfl) (fun _ _ _ h => h) (Or.inl ⟨by rfl, ?_⟩) (by assumption) ?_
          rotate_left
          · intro wz hSw
            clear hSw
            go_simp
            try with_reducible rfl
          try simp only [Act.put, List.setIfInBounds_toArray, List.set_cons_zero, List.set_cons_succ]
          refine wpAnyH_take (v := ?_) po_15 po_none (by kernel_rfl) (by kernel_rfl) (fun _ _ _ h => h) (Or.inl ⟨by rfl, ?_⟩) (by assumption) ?_
          rotate_left
          · intro wz hSw
            clear hSw
            go_simp
            try simp only [hz7d]
            try with_reducible rfl
          try simp only [Act.put, List.setIfInBounds_toArray, List.set_cons_zero, List.set_cons_succ]
          refine wpAnyH_take (v := ?_) po_16 po_none (by kernel_rfl) (by kernel_rfl) (fun _ _ _ h => h) (Or.inl ⟨by rfl, ?_⟩) (by assumption) ?_
          rotate_left
          · intro wz hSw
            clear hSw
            go_simp
            try with_reducible rfl
          try simp only [Act.put, List.setIfInBounds_toArray, List.set_cons_zero, List.set_cons_succ]
          refine wpAnyH_take (v := ?_) po_17 po_none (by kernel_rfl) (by kernel_rfl) (fun _ _ _ h => h) (Or.inl ⟨by rfl, ?_⟩) (by assumption) ?_
          rotate_left
          · intro wz hSw
            clear hSw
            go_simp
            try with_reducible rfl
          try simp only [Act.put, List.setIfInBounds_toArray, List.set_cons_zero, List.set_cons_succ]
          refine wpAnyH_take (v := ?_) po_18 po_none (by kernel_rfl) (by kernel_rfl) (fun _ _ _ h => h) (Or.inl ⟨by rfl, ?_⟩) (by assumption) ?_
          rotate_left
          · intro wz hSw
            have kz := RB7.out.next hSw
            have k0 := kz.b0
            have k1 := kz.b1
            have k2 := kz.b2
            have k3 := kz.b3
            have k4 := kz.b4
            have k5 := kz.b5
            have k6 := kz.b6
            have k7 := kz.b7
            clear kz
            clear hSw
            go_simp
            try with_reducible rfl
          try simp only [Act.put, List.setIfInBounds_toArray, List.set_cons_zero, List.set_cons_succ]
          refine wpAnyH_take (v := ?_) po_19 po_none (by kernel_rfl) (by kernel_rfl) (fun _ _ _ h => h) (Or.inl ⟨by rfl, ?_⟩) (by assumption) ?_
          rotate_left
          · intro wz hSw
            clear hSw
            go_simp
            try with_reducible rfl
          try simp only [Act.put, List.setIfInBounds_toArray, List.set_cons_zero, List.set_cons_succ]
          refine wpAnyH_take (v := ?_) po_20 po_none (by kernel_rfl) (by kernel_rfl) (fun _ _ _ h => h) (Or.inl ⟨by rfl, ?_⟩) (by assumption) ?_
          rotate_left
          · intro wz hSw
            have kz := RB7.out.next hSw
            have k0 := kz.b0
            have k1 := kz.b1
            have k2 := kz.b2
            have k3 := kz.b3
            have k4 := kz.b4
            have k5 := kz.b5
            have k6 := kz.b6
            have k7 := kz.b7
            clear kz
            clear hSw
            go_simp
            try with_reducible rfl
          try simp only [Act.put, List.setIfInBounds_toArray, List.set_cons_zero, List.set_cons_succ]
          refine wpAnyH_take (v := ?_) po_21 po_none (by kernel_rfl) (by kernel_rfl) (fun _ _ _ h => h) (Or.inl ⟨by rfl, ?_⟩) (by assumption) ?_
          rotate_left
          · intro wz hSw
            have xz := O7.out.next hSw
            have o0 := xz.at (i := 0) rfl
            have o1 := xz.at (i := 1) rfl
            have o2 := xz.at (i := 2) rfl
            have o3 := xz.at (i := 3) rfl
            have o4 := xz.at (i := 4) rfl
            have o5 := xz.at (i := 5) rfl
            have o6 := xz.at (i := 6) rfl
            have o7 := xz.at (i := 7) rfl
            have o8 := xz.at (i := 8) rfl
            have o9 := xz.at (i := 9) rfl
            have o10 := xz.at (i := 10) rfl
            have o11 := xz.at (i := 11) rfl
            have o12 := xz.at (i := 12) rfl
            have o13 := xz.at (i := 13) rfl
            have o14 := xz.at (i := 14) rfl
            clear xz
            clear hSw
            go_simp
            try with_reducible rfl
          try simp only [Act.put, List.setIfInBounds_toArray, List.set_cons_zero, List.set_cons_succ]
          refine wpAnyH_take (v := ?_) po_24 po_none (by kernel_rfl) (by kernel_rfl) (fun _ _ _ h => h) (Or.inl ⟨by rfl, ?_⟩) (by assumption) ?_
          rotate_left
          · intro wz hSw
            have xz := O7.out.next hSw
            have o0 := xz.at (i := 0) rfl
            have o1 := xz.at (i := 1) rfl
            have o2 := xz.at (i := 2) rfl
            have o3 := xz.at (i := 3) rfl
            have o4 := xz.at (i := 4) rfl
            have o5 := xz.at (i := 5) rfl
            have o6 := xz.at (i := 6) rfl
            have o7 := xz.at (i := 7) rfl
            have o8 := xz.at (i := 8) rfl
            have o9 := xz.at (i := 9) rfl
            have o10 := xz.at (i := 10) rfl
            have o11 := xz.at (i := 11) rfl
            have o12 := xz.at (i := 12) rfl
            have o13 := xz.at (i := 13) rfl
            have o14 := xz.at (i := 14) rfl
            clear xz
            clear hSw
            go_simp
            try with_reducible rfl
          try simp only [Act.put, List.setIfInBounds_toArray, List.set_cons_zero, List.set_cons_succ]
          refine wpAnyH_take (v := ?_) po_25 po_none (by kernel_rfl) (by kernel_rfl) (fun _ _ _ h => h) (Or.inl ⟨by rfl, ?_⟩) (by assumption) ?_
          rotate_left
          · intro wz hSw
            have xz := X7.out.next hSw
            have x0 := xz.at (i := 0) rfl
            have x1 := xz.at (i := 1) rfl
            have x2 := xz.at (i := 2) rfl
            have x3 := xz.at (i := 3) rfl
            have x4 := xz.at (i := 4) rfl
            have x5 := xz.at (i := 5) rfl
            have x6 := xz.at (i := 6) rfl
            have x7 := xz.at (i := 7) rfl
            have x8 := xz.at (i := 8) rfl
            have x9 := xz.at (i := 9) rfl
            have x10 := xz.at (i := 10) rfl
            have x11 := xz.at (i := 11) rfl
            have x12 := xz.at (i := 12) rfl
            have x13 := xz.at (i := 13) rfl
            have x14 := xz.at (i := 14) rfl
            clear xz
            clear hSw
            go_simp
            try with_reducible rfl
          try simp only [Act.put, List.setIfInBounds_toArray, List.set_cons_zero, List.set_cons_succ]
          refine wpAnyH_take (v := .bool (decide (ot = b))) po_26 po_none (by kernel_rfl) (by kernel_rfl) (fun _ _ _ h => h) (Or.inl ⟨by rfl, ?_⟩) (by assumption) ?_
          · intro wz hSw
            clear hSw
            go_simp
            rw [bl_ifs]
            by_cases e : ot = b
            · rw [if_pos e, decide_eq_true e]
            · rw [if_neg e, decide_eq_false e]
          try simp only [Act.put, List.setIfInBounds_toArray, List.set_cons_zero, List.set_cons_succ]
          refine wpAnyH_ready (rs := [22]) (by kernel_rfl) (by simp) (AllReadyH.cons po_22 (fun K hK => ?_) AllReadyH.nil)
          rw [if_pos (by rfl)]
          go_simp
          (go_at_call 14; refine (WText_x ot 0 _ (HRS.out.next (chain B7.out D1.out)) HFT.out (HE.out.next (chain B7.out D1.out))).mono ?_; rintro r v2 ⟨rfl, cc⟩)
          try go_wp2_with fail
          have D2 : Hid (Below w7.heap.size w7 v2) := (chain D1.out cc)
          clear cc
          obtain ⟨t0, ht0⟩ : ∃ s : B, s = textP R ot 0 := ⟨_, rfl⟩
          rw [← ht0]
          have zt0 : t0.size ≤ 4000 := by rw [ht0]; exact textP_size _ _ _
          replace ht0 := Lib.hid ht0
          refine hK.out _ _ ?_ (fun hHeld => ?_)
          · exact D2.out
          clear hK K
          try simp only [Act.put, List.setIfInBounds_toArray, List.set_cons_zero, List.set_cons_succ]
          refine wpAnyH_ready (rs := [23]) (by kernel_rfl) (by simp) (AllReadyH.cons po_23 (fun K hK => ?_) AllReadyH.nil)
          rw [if_pos (by rfl)]
          go_simp
          (go_at_call 16; refine (Alike_x s t0 _ (HRS.out.next (chain B7.out D2.out)) HFT.out (HE.out.next (chain B7.out D2.out)) (by omega) (by omega)).mono ?_; rintro r v3 ⟨rfl, cc⟩)
          try go_wp2_with fail
          have D3 : Hid (Below w7.heap.size w7 v3) := (chain D2.out cc)
          clear cc
          rw [show alikeP R s t0 = decide (ot = b) by rw [hs.out, ht0.out]; exact alike_other HI.out]
          refine hK.out _ _ ?_ (fun hHeld => ?_)
          · exact D3.out
          clear hK K
          try simp only [Act.put, List.setIfInBounds_toArray, List.set_cons_zero, List.set_cons_succ]
          refine wpAnyH_take (v := ?_) po_27 po_none (by kernel_rfl) (by kernel_rfl) (fun _ _ _ h => h) (Or.inl ⟨by rfl, ?_⟩) (by assumption) ?_
          rotate_left
          · intro wz hSw
            clear hSw
            go_simp
            try simp only [bne_self_eq_false]
            try with_reducible rfl
          try simp only [Act.put, List.setIfInBounds_toArray, List.set_cons_zero, List.set_cons_succ]
          refine wpAnyH_take (v := ?_) po_28 po_none (by kernel_rfl) (by kernel_rfl) (fun _ _ _ h => h) (Or.inl ⟨by rfl, ?_⟩) (by assumption) ?_
          rotate_left
          · intro wz hSw
            clear hSw
            go_simp
            try with_reducible rfl
          try simp only [Act.put, List.setIfInBounds_toArray, List.set_cons_zero, List.set_cons_succ]
          refine wpAnyH_done (by kernel_rfl) ?_ _
          go_wp2_with fail
          go_meet
          case rel => exact ⟨rfl, D3.out⟩
      case rest =>
        obtain ⟨rfl, bc⟩ := hcut
        have BC := Lib.hid (chain B7.out bc)
        have SY2 := Lib.hid (SY.out.next bc)
        have SZ2 := Lib.hid (SZ.out.next bc)
        clear bc
        obtain ⟨y0, hy0⟩ : ∃ y, Y[0]? = some y := ⟨_, List.getElem?_eq_getElem (by have := HLEN.out; have := HSEV.out; omega)⟩
        obtain ⟨z0, hz0⟩ : ∃ z, Z[0]? = some z := ⟨_, List.getElem?_eq_getElem (by have := HSEV.out; have := HLEN.out; omega)⟩
        obtain ⟨bY, oY, rfl, -, -⟩ := SY2.out.at hy0
        obtain ⟨bZ, oZ, rfl, -, -⟩ := SZ2.out.at hz0
        clear hy0 hz0
        go_wp2_with fail
        go_loopw [18] (fun v wr => PaRel Z.length wc v wr) (fun v _ => Z.length - (intOf v).toNat)
        case atStart => exact ⟨0, Nat.zero_le _, rfl, Below.refl _ _⟩
        case round =>
          obtain ⟨n, hn, rfl, hb⟩ := hrel
          have HB := Lib.hid hb
          have HBW := Lib.hid (chain BC.out hb)
          have k0 : (0 : Int) ≤ (n : Int) := by omega
          by_cases c : n < Z.length
          case neg =>
            have kc : ¬ (n : Int) < (Z.length : Int) := by omega
            clear hb
            go_wp2_with fail
            go_ret
            exact ⟨rfl, HBW.out⟩
          case pos =>
            have kc : (n : Int) < (Z.length : Int) := by omega
            obtain ⟨y, hy⟩ : ∃ y, Y[n]? = some y := ⟨_, List.getElem?_eq_getElem (by have := HLEN.out; omega)⟩
            obtain ⟨z, hz⟩ : ∃ z, Z[n]? = some z := ⟨_, List.getElem?_eq_getElem c⟩
            have ty : wr.cell? ⟨bY, oY + n, none⟩ = some (.string y) := str_cell (SY2.out.next hb) hy
            have tz : wr.cell? ⟨bZ, oZ + n, none⟩ = some (.string z) := str_cell (SZ2.out.next hb) hz
            have hd := lines_differ HRT.out HI.out.lo HI.out.hi HJ.out.lo HJ.out.hi n y.data.toList z.data.toList (by rw [← PY.out, List.getElem?_map, hy]; rfl) (by rw [← PZ.out, List.getElem?_map, hz]; rfl)
            have hdl : y.toList = z.toList ↔ ¬ (i ≠ j ∧ (n = 0 ∨ n = 6)) := by rw [ByteArray.toList_eq, ByteArray.toList_eq]; exact hd
            clear hd hb hy hz
            have HD := Lib.hid hdl
            clear hdl
            by_cases e : i = j
            · have e1 : (i != j) = false := by rw [e]; simp
              have q : (y.toList == z.toList) = true := beq_iff_eq.2 (HD.out.2 (fun h => h.1 e))
              have E := Lib.hid e
              clear e
              go_wp2_with fail
              go_region
              all_goals go_wp2
              all_goals go_roundw
              case rel => exact ⟨n + 1, by omega, by go_num, HB.out.drew⟩
              case measure => simp [intOf]; omega
            · have e1 : (i != j) = true := bne_iff_ne.2 e
              by_cases n0 : n = 0
              · have q : (y.toList == z.toList) = false := beq_eq_false_iff_ne.2 (fun h => HD.out.1 h ⟨e, .inl n0⟩)
                have m0 : ((n : Int) == 0) = true := beq_iff_eq.2 (by omega)
                clear e n0
                go_wp2_with fail
                go_region
                all_goals go_wp2
                all_goals go_roundw
                case rel => exact ⟨n + 1, by omega, by go_num, HB.out.drew⟩
                case measure => simp [intOf]; omega
              · have m0 : ((n : Int) == 0) = false := beq_eq_false_iff_ne.2 (by omega)
                by_cases n6 : n = 6
                · have q : (y.toList == z.toList) = false := beq_eq_false_iff_ne.2 (fun h => HD.out.1 h ⟨e, .inr n6⟩)
                  have m6 : ((n : Int) == 6) = true := beq_iff_eq.2 (by omega)
                  clear e n0 n6
                  go_wp2_with fail
                  go_region
                  all_goals go_wp2
                  all_goals go_roundw
                  case rel => exact ⟨n + 1, by omega, by go_num, HB.out.drew⟩
                  case measure => simp [intOf]; omega
                · have q : (y.toList == z.toList) = true := beq_iff_eq.2 (HD.out.2 (fun h => by rcases h.2 with h | h; exact n0 h; exact n6 h))
                  have m6 : ((n : Int) == 6) = false := beq_eq_false_iff_ne.2 (by omega)
                  clear e n0 n6
                  go_wp2_with fail
                  go_region
                  all_goals go_wp2
                  all_goals go_roundw
                  case rel => exact ⟨n + 1, by omega, by go_num, HB.out.drew⟩
                  case measure => simp [intOf]; omega
    · have h1 : ¬ ec = 0 := h0
      go_wp2_with fail
      go_ret
      exact ⟨rfl, B3.out⟩
  case false =>
    clear hfw
    go_wp2_with fail
    go_ret
    exact ⟨rfl, B2.out⟩
end Go.Proofs.YtcjakgpmompaiaaGreatDoor
