/-
  The reference's Day, Weekday and AddMonths.
-/
import Derived.Test.YtmlelmknbddkjaaDoorCalB
namespace Go.Proofs.YtmlelmknbddkjaaDoor
open Go.RowKit

/-- is there this date; its day's number; the day of a date -/
def dateOk (y m d : Int) : Bool := decide (2000 ≤ y ∧ 1 ≤ m ∧ m ≤ 12 ∧ 1 ≤ d ∧ d ≤ (Cal.mlen y.toNat m.toNat : Nat))
def dayNo (y m d : Int) : Int := (Cal.S (12 * (y.toNat - 2000) + (m.toNat - 1)) : Nat) + d - 1
def dayOf (y m d : Int) : Int × Int := if dateOk y m d = true ∧ dayNo y m d ≤ 100000 then (dayNo y m d, 0) else (0, 3)
abbrev pv (x : Int × Int) : Value := .tuple #[.int .i64 x.1, .int .i64 x.2]

theorem dayOf_not {y m d : Int} (h : ¬(2000 ≤ y ∧ 1 ≤ m ∧ m ≤ 12 ∧ 1 ≤ d ∧ d ≤ (Cal.mlen y.toNat m.toNat : Nat))) : dayOf y m d = (0, 3) := by
  unfold dayOf
  rw [if_neg]
  rintro ⟨h1, -⟩
  exact h (of_decide_eq_true h1)
theorem dayOf_late {y m d : Int} (h : 2300 < y) : dayOf y m d = (0, 3) := by
  unfold dayOf
  rw [if_neg]
  rintro ⟨h1, h2⟩
  have h3 := of_decide_eq_true h1
  unfold dayNo at h2
  have h4 := Cal.S_mono (show 12 * 301 ≤ 12 * (y.toNat - 2000) + (m.toNat - 1) by omega)
  have h5 := Cal.S_years 301
  omega
theorem dayOf_at {j i : Nat} {d : Int} (hi : i < 12) (h1 : 1 ≤ d) (h2 : d ≤ (Cal.mlen (2000 + j) (i + 1) : Nat)) :
    dayOf (2000 + (j : Int)) ((i : Int) + 1) d = if (Cal.S (12 * j + i) : Int) + d - 1 ≤ 100000 then ((Cal.S (12 * j + i) : Int) + d - 1, 0) else (0, 3) := by
  have e : dayNo (2000 + (j : Int)) ((i : Int) + 1) d = (Cal.S (12 * j + i) : Int) + d - 1 := by
    unfold dayNo
    rw [show (2000 + (j : Int)).toNat - 2000 = j by omega, show ((i : Int) + 1).toNat - 1 = i by omega]
  have o : dateOk (2000 + (j : Int)) ((i : Int) + 1) d = true := decide_eq_true (by rw [show (2000 + (j : Int)).toNat = 2000 + j by omega, show ((i : Int) + 1).toNat = i + 1 by omega]; omega)
  unfold dayOf
  rw [e, o]
  simp only [true_and]

def YRel2 (j : Nat) (d : Int) (w : World) (o y : Value) (wr : World) : Prop := ∃ k : Nat, k ≤ j ∧ o = .int .i64 ((Cal.S (12 * k) : Int) + d - 1) ∧ y = .int .i64 (2000 + (k : Int)) ∧ w = wr
def MRel2 (j i : Nat) (d : Int) (w : World) (o m : Value) (wr : World) : Prop := ∃ k : Nat, k ≤ i ∧ o = .int .i64 ((Cal.S (12 * j + k) : Int) + d - 1) ∧ m = .int .i64 ((k : Int) + 1) ∧ w = wr

set_option maxHeartbeats 6400000 in
set_option maxRecDepth 100000 in
theorem Day_x (y m d : Int) (w : World) : Calls Tryd.prog 14 #[.int .i64 y, .int .i64 m, .int .i64 d] w fun e w' => e = .returned (pv (dayOf y m d)) ∧ w = w' := by
  by_cases c1 : y < 2000
  · have hv : Hid (dayOf y m d = (0, 3)) := dayOf_not (by omega)
    go_enter Tryd.func14, Tryd.ntmps14
    go_wp2_with fail
    go_ret2
    exact ⟨by rw [hv.out]; try rfl, rfl⟩
  by_cases c2 : 2300 < y
  · have hv : Hid (dayOf y m d = (0, 3)) := dayOf_late c2
    go_enter Tryd.func14, Tryd.ntmps14
    go_wp2_with fail
    go_ret2
    exact ⟨by rw [hv.out]; try rfl, rfl⟩
  by_cases c3 : m < 1
  · have hv : Hid (dayOf y m d = (0, 3)) := dayOf_not (by omega)
    go_enter Tryd.func14, Tryd.ntmps14
    go_wp2_with fail
    go_ret2
    exact ⟨by rw [hv.out]; try rfl, rfl⟩
  by_cases c4 : 12 < m
  · have hv : Hid (dayOf y m d = (0, 3)) := dayOf_not (by omega)
    go_enter Tryd.func14, Tryd.ntmps14
    go_wp2_with fail
    go_ret2
    exact ⟨by rw [hv.out]; try rfl, rfl⟩
  by_cases c5 : d < 1
  · have hv : Hid (dayOf y m d = (0, 3)) := dayOf_not (by omega)
    go_enter Tryd.func14, Tryd.ntmps14
    go_wp2_with fail
    go_ret2
    exact ⟨by rw [hv.out]; try rfl, rfl⟩
  obtain ⟨j, rfl⟩ : ∃ j : Nat, y = (2000 + (j : Int)) := ⟨y.toNat - 2000, by omega⟩
  obtain ⟨i, rfl⟩ : ∃ i : Nat, m = ((i : Int) + 1) := ⟨m.toNat - 1, by omega⟩
  have j0 : (2000 : Int) ≤ (2000 + (j : Int)) := by omega
  have j1 : (2000 + (j : Int)) ≤ 2300 := by omega
  have i0 : (1 : Int) ≤ ((i : Int) + 1) := by omega
  have i1 : ((i : Int) + 1) ≤ 12 := by omega
  have d1 : 1 ≤ d := by omega
  have Hj : Hid (2000 + j ≤ 1000000) := by show _ ≤ _; omega
  have Hi : Hid (i + 1 ≤ 12) := by show _ ≤ _; omega
  obtain ⟨L, hL⟩ : ∃ L, Cal.mlen (2000 + j) (i + 1) = L := ⟨_, rfl⟩
  have HL := Lib.hid hL
  have L1 := (Cal.mlen_bounds (2000 + j) (i + 1)).2
  by_cases c6 : (L : Int) < d
  · have hv : Hid (dayOf (2000 + (j : Int)) ((i : Int) + 1) d = (0, 3)) := dayOf_not (by rw [show (2000 + (j : Int)).toNat = 2000 + j by omega, show ((i : Int) + 1).toNat = i + 1 by omega, hL]; omega)
    clear hL L1 c1 c2 c3 c4 c5
    go_enter Tryd.func14, Tryd.ntmps14
    go_wp2_with fail
    refine (Length_x (2000 + j) (i + 1) _ Hj.out Hi.out).mono ?_
    rintro e w1 ⟨rfl, rfl⟩
    rw [HL.out]
    go_wp2_with fail
    go_ret2
    exact ⟨by rw [hv.out]; try rfl, rfl⟩
  · have c7 : d ≤ (L : Int) := by omega
    have d2 : d ≤ 31 := by omega
    have hv := dayOf_at (j := j) (i := i) (d := d) (by omega) d1 (by rw [hL]; exact c7)
    have HD := Lib.hid hv
    clear hv hL L1 c1 c2 c3 c4 c5 c6
    go_enter Tryd.func14, Tryd.ntmps14
    go_wp2_with fail
    refine (Length_x (2000 + j) (i + 1) _ Hj.out Hi.out).mono ?_
    rintro e w1 ⟨rfl, rfl⟩
    rw [HL.out]
    go_wp2_with fail
    go_loopw [8, 9] (fun o y wr => YRel2 j d w o y wr) (fun _ y _ => 2000 + j - (intOf y).toNat)
    case atStart => exact ⟨0, Nat.zero_le _, by simp [Cal.S], rfl, rfl⟩
    case round =>
      obtain ⟨k, hk, rfl, rfl, rfl⟩ := hrel
      have hS := Cal.S_most (12 * k)
      have k0 : (2000 : Int) ≤ (2000 + (k : Int)) := by omega
      have Hk := Lib.hid hk
      by_cases c : k = j
      · subst c
        clear hS
        go_wp2_with fail
        go_loopw [8, 10] (fun o m wr => MRel2 k i d w o m wr) (fun _ m _ => i + 1 - (intOf m).toNat)
        case atStart => exact ⟨0, Nat.zero_le _, rfl, rfl, rfl⟩
        case round =>
          obtain ⟨n, hn, rfl, rfl, rfl⟩ := hrel
          have hS := Cal.S_most (12 * k + n)
          have n0 : (1 : Int) ≤ ((n : Int) + 1) := by omega
          have Hn := Lib.hid hn
          have s0 : (0 : Int) ≤ (Cal.S (12 * k + n) : Int) := by omega
          have s1 : (Cal.S (12 * k + n) : Int) ≤ 120000 := by omega
          by_cases c : n = i
          · subst c
            clear hS hn
            obtain ⟨O, hO⟩ : ∃ O, (Cal.S (12 * k + n) : Int) + d - 1 = O := ⟨_, rfl⟩
            rw [hO] at HD
            rw [hO]
            have o0 : 0 ≤ O := by omega
            by_cases v : O ≤ 100000
            · have V : Hid (valid O = true) := valid_yes o0 v
              have hv : Hid (dayOf (2000 + (k : Int)) ((n : Int) + 1) d = (O, 0)) := by show _ = _; rw [HD.out, if_pos v]
              clear v hO
              go_wp2_with fail
              refine (Valid_x _ _).mono ?_
              rintro e w1 ⟨rfl, rfl⟩
              rw [V.out]
              go_wp2_with fail
              go_ret2
              exact ⟨by rw [hv.out]; try rfl, rfl⟩
            · have V : Hid (valid O = false) := valid_no (by omega)
              have hv : Hid (dayOf (2000 + (k : Int)) ((n : Int) + 1) d = (0, 3)) := by show _ = _; rw [HD.out, if_neg v]
              clear v hO
              go_wp2_with fail
              refine (Valid_x _ _).mono ?_
              rintro e w1 ⟨rfl, rfl⟩
              rw [V.out]
              go_wp2_with fail
              go_ret2
              exact ⟨by rw [hv.out]; try rfl, rfl⟩
          · have c1 : ((n : Int) + 1) < ((i : Int) + 1) := by omega
            obtain ⟨D, hD⟩ : ∃ D, Cal.mlen (2000 + k) (n + 1) = D := ⟨_, rfl⟩
            have hD2 := (Cal.mlen_bounds (2000 + k) (n + 1)).2
            rw [hD] at hD2
            have HD2 := Lib.hid hD
            have D0 : (0 : Int) ≤ (D : Int) := by omega
            have D1 : (D : Int) ≤ 31 := by omega
            have hs : Hid ((Cal.S (12 * k + (n + 1)) : Int) = (Cal.S (12 * k + n) : Int) + (D : Int)) := by
              show _ = _
              rw [show 12 * k + (n + 1) = 12 * k + n + 1 by omega, Cal.S_succ, Cal.len_at k n (by omega), hD]; omega
            have hn' : Hid (n + 1 ≤ i) := by show _ ≤ _; omega
            clear hS hn c hD hD2
            generalize Cal.S (12 * k + n) = Z at *
            go_wp2_with fail
            refine (Length_x (2000 + k) (n + 1) _ Hj.out (by have := hn'.out; have := Hi.out; omega)).mono ?_
            rintro e w1 ⟨rfl, rfl⟩
            rw [HD2.out]
            go_wp2_with fail
            go_roundw
            case rel => exact ⟨n + 1, hn'.out, by congr 1; rw [hs.out]; omega, by congr 1, rfl⟩
            case measure => have := hn'.out; simp [intOf]; omega
      · have c1 : (2000 + (k : Int)) < (2000 + (j : Int)) := by omega
        obtain ⟨D, hD⟩ : ∃ D, Cal.ylen (2000 + k) = D := ⟨_, rfl⟩
        have hD2 := (Cal.ylen_bounds (2000 + k)).2
        rw [hD] at hD2
        have HD2 := Lib.hid hD
        have D0 : (0 : Int) ≤ (D : Int) := by omega
        have D1 : (D : Int) ≤ 366 := by omega
        have s0 : (0 : Int) ≤ (Cal.S (12 * k) : Int) := by omega
        have s1 : (Cal.S (12 * k) : Int) ≤ 120000 := by omega
        have hs : Hid ((Cal.S (12 * (k + 1)) : Int) = (Cal.S (12 * k) : Int) + (D : Int)) := by
          show _ = _
          rw [Cal.S_year, hD]; omega
        have hk' : Hid (k + 1 ≤ j) := by show _ ≤ _; omega
        clear hS hk c hD hD2
        generalize Cal.S (12 * k) = Z at *
        go_wp2_with fail
        refine (days_x (2000 + k) _ (by have := hk'.out; have := Hj.out; omega)).mono ?_
        rintro e w1 ⟨rfl, rfl⟩
        rw [HD2.out]
        go_wp2_with fail
        go_roundw
        case rel => exact ⟨k + 1, hk'.out, by congr 1; rw [hs.out]; omega, by congr 1, rfl⟩
        case measure => have := hk'.out; simp [intOf]; omega

end Go.Proofs.YtmlelmknbddkjaaDoor
