/-
  The law CalendarMonths's walk.
-/
import Derived.Test.YtmlelmknbddkjaaDoorBackW
namespace Go.Proofs.YtmlelmknbddkjaaDoor
open Go.RowKit

theorem wrap_far (a b : Int) (ha : -5000 ≤ a ∧ a ≤ 5000) (hb : I64 b) : I64 (IntKind.i64.wrap (a + b)) ∧ (IntKind.i64.wrap (a + b) = a + b ∨ ((b < -10000 ∨ 10000 < b) ∧ (IntKind.i64.wrap (a + b) < -10000 ∨ 10000 < IntKind.i64.wrap (a + b)))) := by
  unfold I64 at *
  rw [IntKind.wrap_i64]
  omega
/-- months added to a right day: nothing, or the day in its month -/
theorem months_one {t a : Int} (h : valid t = true) : (∃ y m d u yy mm dd : Int, date t = (y, m, d, 0) ∧ addM t a = (u, 0) ∧ valid u = true ∧ date u = (yy, mm, dd, 0) ∧ 12 * yy + mm = 12 * y + m + a ∧ dd ≤ d ∧ (d ≤ 28 → dd = d) ∧
      1 ≤ d ∧ -5000 ≤ a ∧ a ≤ 5000 ∧ 2000 ≤ y ∧ y ≤ 2300 ∧ 1 ≤ m ∧ m ≤ 12 ∧ 2000 ≤ yy ∧ yy ≤ 2300 ∧ 1 ≤ mm ∧ mm ≤ 12 ∧ Cal.shift t.toNat a = some u.toNat ∧ 0 ≤ u ∧ u ≤ 100000 ∧ d = Cal.dom t.toNat) ∨
    addM t a = (0, 3) := by
  have hb := valid_iff.1 h
  obtain ⟨j, i, d, hi, h1, h2, hj, hm, hd, hD, -⟩ := date_valid h
  by_cases far : a < -5000 ∨ 5000 < a
  · right
    have e := addM_far (t := t.toNat) (n := a) (by omega) far
    rw [show ((t.toNat : Nat) : Int) = t by omega] at e
    exact e
  · cases hs : Cal.shift t.toNat a with
    | none => exact .inr (by unfold addM; rw [if_pos h, hs])
    | some u =>
      by_cases hu : u ≤ 100000
      · left
        have hv : valid (u : Int) = true := valid_yes (by omega) (by omega)
        obtain ⟨j', i', d', hi', k1, k2, hj', hm', hd', hD', -⟩ := date_valid hv
        rw [Int.toNat_natCast] at hm' hd'
        obtain ⟨e1, e2, -⟩ := Cal.shift_some hs
        have l1 := (Cal.len_bounds (Cal.mon u)).1
        refine ⟨_, _, _, (u : Int), _, _, _, hD, by unfold addM; rw [if_pos h, hs]; simp only; rw [if_pos hu], hv, hD', by omega, by omega, fun h28 => by omega, by omega, by omega, by omega, by omega, by omega, by omega, by omega, by omega, by omega, by omega, by omega, ?_, by omega, by omega, by omega⟩
        rw [Int.toNat_natCast]
      · right
        unfold addM
        rw [if_pos h, hs]
        simp only
        rw [if_neg hu]
/-- months one after the other -/
theorem months_two {t a b u : Int} (h : valid t = true) (hv : valid u = true) (hs : Cal.shift t.toNat a = some u.toNat) (hd : (Cal.dom t.toNat : Int) ≤ 28) : addM u b = addM t (a + b) := by
  have e := (Cal.shift_shift (b := b) hs (by omega)).1
  unfold addM
  rw [if_pos h, if_pos hv, e]
theorem months_later {t t' a u u' : Int} (hle : t ≤ t') (hu : 0 ≤ u) (hu' : 0 ≤ u') (h1 : Cal.shift t.toNat a = some u.toNat) (h2 : Cal.shift t'.toNat a = some u'.toNat) : u ≤ u' := by
  have := Cal.shift_mono (show t.toNat ≤ t'.toNat by omega) h1 h2
  omega

set_option maxHeartbeats 12800000 in
set_option maxRecDepth 100000 in
theorem CalendarMonths_x (h : CalOk) (t a b more : Int) (w : World) (ht : I64 t) (ha : I64 a) (hb : I64 b) (hmore : I64 more) (hbf : Bf w) :
    Calls Tryd.prog 5 #[.int .i64 t, .int .i64 a, .int .i64 b, .int .i64 more] w fun e w' => e = .returned (.bool true) ∧ Below w.heap.size w w' := by
  have HW := Lib.hid hbf
  clear hbf
  have HT := Lib.hid ht
  have HA := Lib.hid ha
  have HB := Lib.hid hb
  have HM := Lib.hid hmore
  clear ha hb
  cases V : valid t with
  | false =>
    have D : Hid (date t = (0, 0, 0, 3)) := by show _ = _; unfold date; rw [V]; rfl
    have R : Hid (addM t a = (0, 3)) := addM_not V
    have hv : t < 0 ∨ 100000 < t := by
      by_cases h : t < 0 ∨ 100000 < t
      · exact h
      · rw [valid_yes (by omega) (by omega)] at V; cases V
    clear V ht hmore
    rcases hv with hv | hv
    · have hn : decide (t < 0) = true := decide_eq_true hv
      go_enter Tryd.func5, Tryd.ntmps5
      go_wp2_with fail
      refine (small_x h _ HW.out).mono ?_
      rintro e w1 ⟨rfl, b1⟩
      have c1 := b1
      clear b1
      go_wp2_with fail
      refine (h.date t _ HT.out (bf_of HW.out c1)).mono ?_
      rintro e w2 ⟨rfl, b1⟩
      rw [D.out]
      simp only [dv]
      have c2 := chain c1 b1
      clear b1 c1
      go_wp2_with fail
      refine (h.addM t a _ HT.out HA.out (bf_of HW.out c2)).mono ?_
      rintro e w3 ⟨rfl, b1⟩
      rw [R.out]
      simp only [pv]
      have c3 := chain c2 b1
      clear b1 c2
      go_wp2_with fail
      go_ret
      exact ⟨by try rfl, c3⟩
    · have hn : decide (t < 0) = false := decide_eq_false (by omega)
      have hn2 : decide (100000 < t) = true := decide_eq_true hv
      go_enter Tryd.func5, Tryd.ntmps5
      go_wp2_with fail
      refine (small_x h _ HW.out).mono ?_
      rintro e w1 ⟨rfl, b1⟩
      have c1 := b1
      clear b1
      go_wp2_with fail
      refine (h.date t _ HT.out (bf_of HW.out c1)).mono ?_
      rintro e w2 ⟨rfl, b1⟩
      rw [D.out]
      simp only [dv]
      have c2 := chain c1 b1
      clear b1 c1
      go_wp2_with fail
      refine (h.addM t a _ HT.out HA.out (bf_of HW.out c2)).mono ?_
      rintro e w3 ⟨rfl, b1⟩
      rw [R.out]
      simp only [pv]
      have c3 := chain c2 b1
      clear b1 c2
      go_wp2_with fail
      go_ret
      exact ⟨by try rfl, c3⟩
  | true =>
    have hb := valid_iff.1 V
    have t0 : 0 ≤ t := hb.1
    have t1 : t ≤ 100000 := hb.2
    rcases months_one (a := a) V with ⟨y, m, d, u, yy, mm, dd, d1, r1, v2, d2, e1, e2, e3, g1, a0, a1, y0, y1, m0, m1, z0, z1, n0, n1, sh, u0, u1, hdom⟩ | r1
    · have D := Lib.hid d1
      have R := Lib.hid r1
      have D2 := Lib.hid d2
      have HU : Hid (I64 u) := small_I64 (by omega) (by omega)
      obtain ⟨hS, hS2⟩ := wrap_far a b ⟨a0, a1⟩ HB.out
      obtain ⟨sw, hsw⟩ : ∃ s, IntKind.i64.wrap (a + b) = s := ⟨_, rfl⟩
      have hsw2 := (IntWalk.i64_left (a + b)).symm.trans hsw
      rw [hsw] at hS hS2
      have HS : Hid (I64 sw) := hS
      obtain ⟨⟨p1, p2⟩, hp⟩ : ∃ P, addM u b = P := ⟨_, rfl⟩
      have P := Lib.hid hp
      have q1 : yy * 12 + mm = y * 12 + m + a := by omega
      have hQ : d ≤ 28 → addM t sw = (p1, p2) := fun hd => by
        rcases hS2 with h1 | ⟨h1, h2⟩
        · rw [h1, ← hp]
          exact (months_two V v2 sh (by omega)).symm
        · have k1 := addM_far (t := u.toNat) (n := b) (by omega) (by omega)
          have k2 := addM_far (t := t.toNat) (n := sw) (by omega) (by omega)
          rw [show ((u.toNat : Nat) : Int) = u by omega] at k1
          rw [show ((t.toNat : Nat) : Int) = t by omega] at k2
          rw [k2, ← hp, k1]
      -- the last step's ways
      have hlast : (more < 0 ∨ 100000 - t < more) ∨ (0 ≤ more ∧ more ≤ 100000 - t ∧ (addM (t + more) a = (0, 3) ∨ ∃ v, addM (t + more) a = (v, 0) ∧ u ≤ v)) := by
        by_cases h1 : more < 0 ∨ 100000 - t < more
        · exact .inl h1
        · right
          refine ⟨by omega, by omega, ?_⟩
          rcases months_one (t := t + more) (a := a) (valid_yes (by omega) (by omega)) with ⟨_, _, _, v, _, _, _, _, r2, _, _, _, _, _, _, _, _, _, _, _, _, _, _, _, _, sh2, v0, _, _⟩ | r2
          · exact .inr ⟨v, r2, months_later (by omega) u0 v0 sh sh2⟩
          · exact .inl r2
      have sum1 : 12 * yy + mm = 12 * y + m + a := e1
      obtain ⟨X, hX⟩ : ∃ X, 12 * yy + mm = X := ⟨_, rfl⟩
      have hX2 : 12 * y + m + a = X := by omega
      have w1 : IntKind.i64.wrap (12 * yy + mm) = X := by rw [hX]; exact IntWalk.i64_in _ (by omega)
      have w2 : IntKind.i64.wrap (12 * y + m + a) = X := by rw [hX2]; exact IntWalk.i64_in _ (by omega)
      have hd3 : ¬ d < dd := by omega
      clear d1 r1 d2 hp ht hmore V v2 e1 q1 sum1 hdom sh hS hS2 hb
      have hdays : (d ≤ 28 ∧ dd = d ∧ addM t sw = (p1, p2)) ∨ 28 < d := by
        by_cases h28 : d ≤ 28
        · exact .inl ⟨h28, e3 h28, hQ h28⟩
        · exact .inr (by omega)
      obtain ⟨⟨s1, s2⟩, hs⟩ : ∃ S, addM t sw = S := ⟨_, rfl⟩
      clear e3 hQ
      have goal : ∀ (_ : (d ≤ 28 ∧ dd = d ∧ s1 = p1 ∧ s2 = p2) ∨ 28 < d), Calls Tryd.prog 5 #[.int .i64 t, .int .i64 a, .int .i64 b, .int .i64 more] w fun e w' => e = .returned (.bool true) ∧ Below w.heap.size w w' := by
        intro hdays
        have Q := Lib.hid hs
        clear hs
        rcases hlast with hout | ⟨k0, k1, hl⟩
        · rcases hout with hout | hout
          · rcases hdays with ⟨h28, rfl, rfl, rfl⟩ | h28
            · go_enter Tryd.func5, Tryd.ntmps5
              go_wp2_with fail
              refine (small_x h _ HW.out).mono ?_
              rintro e w1 ⟨rfl, b1⟩
              have c1 := b1
              clear b1
              go_wp2_with fail
              refine (h.date t _ HT.out (bf_of HW.out c1)).mono ?_
              rintro e w2 ⟨rfl, b1⟩
              rw [D.out]
              simp only [dv]
              have c2 := chain c1 b1
              clear b1 c1
              go_wp2_with fail
              refine (h.addM t a _ HT.out HA.out (bf_of HW.out c2)).mono ?_
              rintro e w3 ⟨rfl, b1⟩
              rw [R.out]
              simp only [pv]
              have c3 := chain c2 b1
              clear b1 c2
              go_wp2_with fail
              refine (h.date u _ HU.out (bf_of HW.out c3)).mono ?_
              rintro e w4 ⟨rfl, b1⟩
              rw [D2.out]
              simp only [dv]
              have c4 := chain c3 b1
              clear b1 c3
              go_wp2_with fail
              refine (h.addM u b _ HU.out HB.out (bf_of HW.out c4)).mono ?_
              rintro e w5 ⟨rfl, b1⟩
              rw [P.out]
              simp only [pv]
              have c5 := chain c4 b1
              clear b1 c4
              go_wp2_with fail
              refine (h.addM t sw _ HT.out HS.out (bf_of HW.out c5)).mono ?_
              rintro e w6 ⟨rfl, b1⟩
              rw [Q.out]
              simp only [pv]
              have c6 := chain c5 b1
              clear b1 c5
              go_wp2_with fail
              go_ret
              exact ⟨by try rfl, c6⟩
            · have h30 : ¬ d ≤ 28 := by omega
              go_enter Tryd.func5, Tryd.ntmps5
              go_wp2_with fail
              refine (small_x h _ HW.out).mono ?_
              rintro e w1 ⟨rfl, b1⟩
              have c1 := b1
              clear b1
              go_wp2_with fail
              refine (h.date t _ HT.out (bf_of HW.out c1)).mono ?_
              rintro e w2 ⟨rfl, b1⟩
              rw [D.out]
              simp only [dv]
              have c2 := chain c1 b1
              clear b1 c1
              go_wp2_with fail
              refine (h.addM t a _ HT.out HA.out (bf_of HW.out c2)).mono ?_
              rintro e w3 ⟨rfl, b1⟩
              rw [R.out]
              simp only [pv]
              have c3 := chain c2 b1
              clear b1 c2
              go_wp2_with fail
              refine (h.date u _ HU.out (bf_of HW.out c3)).mono ?_
              rintro e w4 ⟨rfl, b1⟩
              rw [D2.out]
              simp only [dv]
              have c4 := chain c3 b1
              clear b1 c3
              go_wp2_with fail
              refine (h.addM u b _ HU.out HB.out (bf_of HW.out c4)).mono ?_
              rintro e w5 ⟨rfl, b1⟩
              rw [P.out]
              simp only [pv]
              have c5 := chain c4 b1
              clear b1 c4
              go_wp2_with fail
              refine (h.addM t sw _ HT.out HS.out (bf_of HW.out c5)).mono ?_
              rintro e w6 ⟨rfl, b1⟩
              rw [Q.out]
              simp only [pv]
              have c6 := chain c5 b1
              clear b1 c5
              go_wp2_with fail
              go_ret
              exact ⟨by try rfl, c6⟩
          · have mz : ¬ more < 0 := by omega
            rcases hdays with ⟨h28, rfl, rfl, rfl⟩ | h28
            · go_enter Tryd.func5, Tryd.ntmps5
              go_wp2_with fail
              refine (small_x h _ HW.out).mono ?_
              rintro e w1 ⟨rfl, b1⟩
              have c1 := b1
              clear b1
              go_wp2_with fail
              refine (h.date t _ HT.out (bf_of HW.out c1)).mono ?_
              rintro e w2 ⟨rfl, b1⟩
              rw [D.out]
              simp only [dv]
              have c2 := chain c1 b1
              clear b1 c1
              go_wp2_with fail
              refine (h.addM t a _ HT.out HA.out (bf_of HW.out c2)).mono ?_
              rintro e w3 ⟨rfl, b1⟩
              rw [R.out]
              simp only [pv]
              have c3 := chain c2 b1
              clear b1 c2
              go_wp2_with fail
              refine (h.date u _ HU.out (bf_of HW.out c3)).mono ?_
              rintro e w4 ⟨rfl, b1⟩
              rw [D2.out]
              simp only [dv]
              have c4 := chain c3 b1
              clear b1 c3
              go_wp2_with fail
              refine (h.addM u b _ HU.out HB.out (bf_of HW.out c4)).mono ?_
              rintro e w5 ⟨rfl, b1⟩
              rw [P.out]
              simp only [pv]
              have c5 := chain c4 b1
              clear b1 c4
              go_wp2_with fail
              refine (h.addM t sw _ HT.out HS.out (bf_of HW.out c5)).mono ?_
              rintro e w6 ⟨rfl, b1⟩
              rw [Q.out]
              simp only [pv]
              have c6 := chain c5 b1
              clear b1 c5
              go_wp2_with fail
              go_ret
              exact ⟨by try rfl, c6⟩
            · have h30 : ¬ d ≤ 28 := by omega
              go_enter Tryd.func5, Tryd.ntmps5
              go_wp2_with fail
              refine (small_x h _ HW.out).mono ?_
              rintro e w1 ⟨rfl, b1⟩
              have c1 := b1
              clear b1
              go_wp2_with fail
              refine (h.date t _ HT.out (bf_of HW.out c1)).mono ?_
              rintro e w2 ⟨rfl, b1⟩
              rw [D.out]
              simp only [dv]
              have c2 := chain c1 b1
              clear b1 c1
              go_wp2_with fail
              refine (h.addM t a _ HT.out HA.out (bf_of HW.out c2)).mono ?_
              rintro e w3 ⟨rfl, b1⟩
              rw [R.out]
              simp only [pv]
              have c3 := chain c2 b1
              clear b1 c2
              go_wp2_with fail
              refine (h.date u _ HU.out (bf_of HW.out c3)).mono ?_
              rintro e w4 ⟨rfl, b1⟩
              rw [D2.out]
              simp only [dv]
              have c4 := chain c3 b1
              clear b1 c3
              go_wp2_with fail
              refine (h.addM u b _ HU.out HB.out (bf_of HW.out c4)).mono ?_
              rintro e w5 ⟨rfl, b1⟩
              rw [P.out]
              simp only [pv]
              have c5 := chain c4 b1
              clear b1 c4
              go_wp2_with fail
              refine (h.addM t sw _ HT.out HS.out (bf_of HW.out c5)).mono ?_
              rintro e w6 ⟨rfl, b1⟩
              rw [Q.out]
              simp only [pv]
              have c6 := chain c5 b1
              clear b1 c5
              go_wp2_with fail
              go_ret
              exact ⟨by try rfl, c6⟩
        · have HL : Hid (I64 (t + more)) := small_I64 (by omega) (by omega)
          have nm : ¬ more < 0 := by omega
          have nm2 : ¬ 100000 - t < more := by omega
          rcases hl with hl | ⟨v, hl, hle⟩
          · have L := Lib.hid hl
            clear hl
            rcases hdays with ⟨h28, rfl, rfl, rfl⟩ | h28
            · go_enter Tryd.func5, Tryd.ntmps5
              go_wp2_with fail
              refine (small_x h _ HW.out).mono ?_
              rintro e w1 ⟨rfl, b1⟩
              have c1 := b1
              clear b1
              go_wp2_with fail
              refine (h.date t _ HT.out (bf_of HW.out c1)).mono ?_
              rintro e w2 ⟨rfl, b1⟩
              rw [D.out]
              simp only [dv]
              have c2 := chain c1 b1
              clear b1 c1
              go_wp2_with fail
              refine (h.addM t a _ HT.out HA.out (bf_of HW.out c2)).mono ?_
              rintro e w3 ⟨rfl, b1⟩
              rw [R.out]
              simp only [pv]
              have c3 := chain c2 b1
              clear b1 c2
              go_wp2_with fail
              refine (h.date u _ HU.out (bf_of HW.out c3)).mono ?_
              rintro e w4 ⟨rfl, b1⟩
              rw [D2.out]
              simp only [dv]
              have c4 := chain c3 b1
              clear b1 c3
              go_wp2_with fail
              refine (h.addM u b _ HU.out HB.out (bf_of HW.out c4)).mono ?_
              rintro e w5 ⟨rfl, b1⟩
              rw [P.out]
              simp only [pv]
              have c5 := chain c4 b1
              clear b1 c4
              go_wp2_with fail
              refine (h.addM t sw _ HT.out HS.out (bf_of HW.out c5)).mono ?_
              rintro e w6 ⟨rfl, b1⟩
              rw [Q.out]
              simp only [pv]
              have c6 := chain c5 b1
              clear b1 c5
              go_wp2_with fail
              refine (h.addM (t + more) a _ HL.out HA.out (bf_of HW.out c6)).mono ?_
              rintro e w7 ⟨rfl, b1⟩
              rw [L.out]
              simp only [pv]
              have c7 := chain c6 b1
              clear b1 c6
              go_wp2_with fail
              go_ret
              exact ⟨by try rfl, c7⟩
            · have h30 : ¬ d ≤ 28 := by omega
              go_enter Tryd.func5, Tryd.ntmps5
              go_wp2_with fail
              refine (small_x h _ HW.out).mono ?_
              rintro e w1 ⟨rfl, b1⟩
              have c1 := b1
              clear b1
              go_wp2_with fail
              refine (h.date t _ HT.out (bf_of HW.out c1)).mono ?_
              rintro e w2 ⟨rfl, b1⟩
              rw [D.out]
              simp only [dv]
              have c2 := chain c1 b1
              clear b1 c1
              go_wp2_with fail
              refine (h.addM t a _ HT.out HA.out (bf_of HW.out c2)).mono ?_
              rintro e w3 ⟨rfl, b1⟩
              rw [R.out]
              simp only [pv]
              have c3 := chain c2 b1
              clear b1 c2
              go_wp2_with fail
              refine (h.date u _ HU.out (bf_of HW.out c3)).mono ?_
              rintro e w4 ⟨rfl, b1⟩
              rw [D2.out]
              simp only [dv]
              have c4 := chain c3 b1
              clear b1 c3
              go_wp2_with fail
              refine (h.addM u b _ HU.out HB.out (bf_of HW.out c4)).mono ?_
              rintro e w5 ⟨rfl, b1⟩
              rw [P.out]
              simp only [pv]
              have c5 := chain c4 b1
              clear b1 c4
              go_wp2_with fail
              refine (h.addM t sw _ HT.out HS.out (bf_of HW.out c5)).mono ?_
              rintro e w6 ⟨rfl, b1⟩
              rw [Q.out]
              simp only [pv]
              have c6 := chain c5 b1
              clear b1 c5
              go_wp2_with fail
              refine (h.addM (t + more) a _ HL.out HA.out (bf_of HW.out c6)).mono ?_
              rintro e w7 ⟨rfl, b1⟩
              rw [L.out]
              simp only [pv]
              have c7 := chain c6 b1
              clear b1 c6
              go_wp2_with fail
              go_ret
              exact ⟨by try rfl, c7⟩
          · have L := Lib.hid hl
            clear hl
            rcases hdays with ⟨h28, rfl, rfl, rfl⟩ | h28
            · go_enter Tryd.func5, Tryd.ntmps5
              go_wp2_with fail
              refine (small_x h _ HW.out).mono ?_
              rintro e w1 ⟨rfl, b1⟩
              have c1 := b1
              clear b1
              go_wp2_with fail
              refine (h.date t _ HT.out (bf_of HW.out c1)).mono ?_
              rintro e w2 ⟨rfl, b1⟩
              rw [D.out]
              simp only [dv]
              have c2 := chain c1 b1
              clear b1 c1
              go_wp2_with fail
              refine (h.addM t a _ HT.out HA.out (bf_of HW.out c2)).mono ?_
              rintro e w3 ⟨rfl, b1⟩
              rw [R.out]
              simp only [pv]
              have c3 := chain c2 b1
              clear b1 c2
              go_wp2_with fail
              refine (h.date u _ HU.out (bf_of HW.out c3)).mono ?_
              rintro e w4 ⟨rfl, b1⟩
              rw [D2.out]
              simp only [dv]
              have c4 := chain c3 b1
              clear b1 c3
              go_wp2_with fail
              refine (h.addM u b _ HU.out HB.out (bf_of HW.out c4)).mono ?_
              rintro e w5 ⟨rfl, b1⟩
              rw [P.out]
              simp only [pv]
              have c5 := chain c4 b1
              clear b1 c4
              go_wp2_with fail
              refine (h.addM t sw _ HT.out HS.out (bf_of HW.out c5)).mono ?_
              rintro e w6 ⟨rfl, b1⟩
              rw [Q.out]
              simp only [pv]
              have c6 := chain c5 b1
              clear b1 c5
              go_wp2_with fail
              refine (h.addM (t + more) a _ HL.out HA.out (bf_of HW.out c6)).mono ?_
              rintro e w7 ⟨rfl, b1⟩
              rw [L.out]
              simp only [pv]
              have c7 := chain c6 b1
              clear b1 c6
              go_wp2_with fail
              go_ret
              exact ⟨by try rfl, c7⟩
            · have h30 : ¬ d ≤ 28 := by omega
              go_enter Tryd.func5, Tryd.ntmps5
              go_wp2_with fail
              refine (small_x h _ HW.out).mono ?_
              rintro e w1 ⟨rfl, b1⟩
              have c1 := b1
              clear b1
              go_wp2_with fail
              refine (h.date t _ HT.out (bf_of HW.out c1)).mono ?_
              rintro e w2 ⟨rfl, b1⟩
              rw [D.out]
              simp only [dv]
              have c2 := chain c1 b1
              clear b1 c1
              go_wp2_with fail
              refine (h.addM t a _ HT.out HA.out (bf_of HW.out c2)).mono ?_
              rintro e w3 ⟨rfl, b1⟩
              rw [R.out]
              simp only [pv]
              have c3 := chain c2 b1
              clear b1 c2
              go_wp2_with fail
              refine (h.date u _ HU.out (bf_of HW.out c3)).mono ?_
              rintro e w4 ⟨rfl, b1⟩
              rw [D2.out]
              simp only [dv]
              have c4 := chain c3 b1
              clear b1 c3
              go_wp2_with fail
              refine (h.addM u b _ HU.out HB.out (bf_of HW.out c4)).mono ?_
              rintro e w5 ⟨rfl, b1⟩
              rw [P.out]
              simp only [pv]
              have c5 := chain c4 b1
              clear b1 c4
              go_wp2_with fail
              refine (h.addM t sw _ HT.out HS.out (bf_of HW.out c5)).mono ?_
              rintro e w6 ⟨rfl, b1⟩
              rw [Q.out]
              simp only [pv]
              have c6 := chain c5 b1
              clear b1 c5
              go_wp2_with fail
              refine (h.addM (t + more) a _ HL.out HA.out (bf_of HW.out c6)).mono ?_
              rintro e w7 ⟨rfl, b1⟩
              rw [L.out]
              simp only [pv]
              have c7 := chain c6 b1
              clear b1 c6
              go_wp2_with fail
              go_ret
              exact ⟨by try rfl, c7⟩
      refine goal ?_
      rcases hdays with ⟨h1, h2, h3⟩ | h1
      · rw [hs] at h3
        injection h3 with h3 h4
        exact .inl ⟨h1, h2, h3, h4⟩
      · exact .inr h1
    · obtain ⟨y, m, d, d1, -⟩ := back_one V
      have D := Lib.hid d1
      have R := Lib.hid r1
      have hn : decide (t < 0) = false := decide_eq_false (by omega)
      have hn2 : decide (100000 < t) = false := decide_eq_false (by omega)
      clear d1 r1 V ht hmore hb
      go_enter Tryd.func5, Tryd.ntmps5
      go_wp2_with fail
      refine (small_x h _ HW.out).mono ?_
      rintro e w1 ⟨rfl, b1⟩
      have c1 := b1
      clear b1
      go_wp2_with fail
      refine (h.date t _ HT.out (bf_of HW.out c1)).mono ?_
      rintro e w2 ⟨rfl, b1⟩
      rw [D.out]
      simp only [dv]
      have c2 := chain c1 b1
      clear b1 c1
      go_wp2_with fail
      refine (h.addM t a _ HT.out HA.out (bf_of HW.out c2)).mono ?_
      rintro e w3 ⟨rfl, b1⟩
      rw [R.out]
      simp only [pv]
      have c3 := chain c2 b1
      clear b1 c2
      go_wp2_with fail
      go_ret
      exact ⟨by try rfl, c3⟩

end Go.Proofs.YtmlelmknbddkjaaDoor
