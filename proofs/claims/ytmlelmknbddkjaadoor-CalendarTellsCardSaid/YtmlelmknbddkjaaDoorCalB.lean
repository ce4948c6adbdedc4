/-
  The reference's Date.
-/
import Derived.Test.YtmlelmknbddkjaaDoorCalA
namespace Go.Proofs.YtmlelmknbddkjaaDoor
open Go.RowKit

/-- the date of a day; its value as a result -/
def date (t : Int) : Int × Int × Int × Int :=
  if valid t then (((2000 + Cal.mon t.toNat / 12 : Nat) : Int), ((Cal.mon t.toNat % 12 + 1 : Nat) : Int), ((Cal.dom t.toNat : Nat) : Int), 0) else (0, 0, 0, 3)
abbrev dv (x : Int × Int × Int × Int) : Value := .tuple #[.int .i64 x.1, .int .i64 x.2.1, .int .i64 x.2.2.1, .int .i64 x.2.2.2]

theorem date_at {T j i R : Nat} (hT : T ≤ 100000) (hi : i < 12) (h1 : Cal.S (12 * j + i) + R = T) (h2 : R < Cal.mlen (2000 + j) (i + 1)) :
    date (T : Int) = (((2000 + j : Nat) : Int), ((i + 1 : Nat) : Int), ((R + 1 : Nat) : Int), 0) := by
  have e : Cal.mon T = 12 * j + i := Cal.mon_eq (by omega) (by rw [Cal.S_succ, Cal.len_at j i hi]; omega)
  unfold date
  rw [if_pos (valid_yes (by omega) (by omega)), Int.toNat_natCast]
  have d : Cal.dom T = R + 1 := by unfold Cal.dom; rw [e]; omega
  rw [d, e, show (12 * j + i) / 12 = j by omega, show (12 * j + i) % 12 = i by omega]

def YRel (T : Nat) (w : World) (y r : Value) (wr : World) : Prop := ∃ j R : Nat, j ≤ 273 ∧ R ≤ 100000 ∧ y = .int .i64 ((2000 + j : Nat) : Int) ∧ r = .int .i64 (R : Int) ∧ Cal.S (12 * j) + R = T ∧ w = wr
def MRel (T j : Nat) (w : World) (m r : Value) (wr : World) : Prop := ∃ i R : Nat, i < 12 ∧ R ≤ 100000 ∧ m = .int .i64 ((i + 1 : Nat) : Int) ∧ r = .int .i64 (R : Int) ∧ Cal.S (12 * j + i) + R = T ∧ w = wr

set_option maxHeartbeats 3200000 in
theorem Date_x (t : Int) (w : World) : Calls Tryd.prog 12 #[.int .i64 t] w fun e w' => e = .returned (dv (date t)) ∧ w = w' := by
  by_cases hb : 0 ≤ t ∧ t ≤ 100000
  case neg =>
    have V : Hid (valid t = false) := valid_no (by omega)
    have hv : Hid (date t = (0, 0, 0, 3)) := by show _ = _; unfold date; rw [V.out]; rfl
    clear hb
    go_enter Tryd.func12, Tryd.ntmps12
    go_wp2_with fail
    refine (Valid_x t _).mono ?_
    rintro e w1 ⟨rfl, rfl⟩
    rw [V.out]
    go_wp2_with fail
    exact bodyPost_ret (v := .tuple #[.int .i64 0, .int .i64 0, .int .i64 0, .int .i64 3]) (by simp [results, Tryd.results12, go_sem]) rfl ⟨by rw [hv.out]; try rfl, rfl⟩
  case pos =>
    obtain ⟨T, rfl⟩ : ∃ T : Nat, t = T := ⟨t.toNat, by omega⟩
    have V : Hid (valid (T : Int) = true) := valid_yes hb.1 hb.2
    have hT : Hid (T ≤ 100000) := by show T ≤ _; omega
    have hT2 : (T : Int) ≤ 100000 := hb.2
    clear hb
    go_enter Tryd.func12, Tryd.ntmps12
    go_wp2_with fail
    refine (Valid_x _ _).mono ?_
    rintro e w1 ⟨rfl, rfl⟩
    rw [V.out]
    clear V
    go_wp2_with fail
    go_loopw [6, 7] (fun y r wr => YRel T w y r wr) (fun _ r _ => (intOf r).toNat)
    case atStart => exact ⟨0, T, by omega, hT.out, rfl, rfl, by simp [Cal.S], rfl⟩
    case round =>
      obtain ⟨j, R, hj, hR, rfl, rfl, hs, rfl⟩ := hrel
      have Hs := Lib.hid hs
      have Hj := Lib.hid hj
      have j0 : (0 : Int) ≤ ((2000 + j : Nat) : Int) := by omega
      have j1 : ((2000 + j : Nat) : Int) ≤ 2273 := by omega
      have r0 : (0 : Int) ≤ (R : Int) := by omega
      have r1 : (R : Int) ≤ 100000 := by omega
      obtain ⟨D, hD⟩ : ∃ D, Cal.ylen (2000 + j) = D := ⟨_, rfl⟩
      have hD1 := Cal.ylen_bounds (2000 + j)
      rw [hD] at hD1
      have HD := Lib.hid hD
      have d0 : (365 : Int) ≤ (D : Int) := by omega
      have d1 : (D : Int) ≤ 366 := by omega
      by_cases c : D ≤ R
      · have c1 : (D : Int) ≤ (R : Int) := by omega
        have hn : Hid (Cal.S (12 * (j + 1)) + (R - D) = T) := by
          show _ = _
          rw [Cal.S_year, hD]; omega
        have hj' : Hid (j + 1 ≤ 273) := by
          have h1 := Cal.S_years (j + 1)
          have h2 := hn.out
          have h3 := hT.out
          show _ ≤ _
          omega
        clear hs hj hR hD hD1
        go_wp2_with fail
        refine (days_x (2000 + j) _ (by have := Hj.out; omega)).mono ?_
        rintro e w1 ⟨rfl, rfl⟩
        rw [HD.out]
        go_wp2_with fail
        refine (days_x (2000 + j) _ (by have := Hj.out; omega)).mono ?_
        rintro e w1 ⟨rfl, rfl⟩
        rw [HD.out]
        go_wp2_with fail
        go_roundw
        case rel => exact ⟨j + 1, R - D, hj'.out, by omega, by congr 1, by congr 1; omega, hn.out, rfl⟩
        case measure => simp [intOf]; omega
      · have c1 : (R : Int) < (D : Int) := by omega
        have hlast : Hid (T < Cal.S (12 * j + 12)) := by
          have := Cal.S_year j
          rw [show 12 * (j + 1) = 12 * j + 12 by omega, hD] at this
          show _ < _
          omega
        clear hs hj hR hD hD1
        go_wp2_with fail
        refine (days_x (2000 + j) _ (by have := Hj.out; omega)).mono ?_
        rintro e w1 ⟨rfl, rfl⟩
        rw [HD.out]
        go_wp2_with fail
        go_loopw [8, 7] (fun m r wr => MRel T j w m r wr) (fun _ r _ => (intOf r).toNat)
        case atStart => exact ⟨0, R, by omega, by omega, rfl, rfl, Hs.out, rfl⟩
        case round =>
          obtain ⟨i, R', hi, hR', rfl, rfl, hs', rfl⟩ := hrel
          have Hs2 := Lib.hid hs'
          have Hi := Lib.hid hi
          obtain ⟨D', hD'⟩ : ∃ D, Cal.mlen (2000 + j) (i + 1) = D := ⟨_, rfl⟩
          have hD2 := Cal.mlen_bounds (2000 + j) (i + 1)
          rw [hD'] at hD2
          have HD2 := Lib.hid hD'
          have i0 : (0 : Int) ≤ ((i + 1 : Nat) : Int) := by omega
          have i1 : ((i + 1 : Nat) : Int) ≤ 12 := by omega
          have r0' : (0 : Int) ≤ (R' : Int) := by omega
          have r1' : (R' : Int) ≤ 100000 := by omega
          have d0' : (28 : Int) ≤ (D' : Int) := by omega
          have d1' : (D' : Int) ≤ 31 := by omega
          by_cases c' : D' ≤ R'
          · have c1' : (D' : Int) ≤ (R' : Int) := by omega
            have hn : Hid (Cal.S (12 * j + (i + 1)) + (R' - D') = T) := by
              show _ = _
              rw [show 12 * j + (i + 1) = 12 * j + i + 1 by omega, Cal.S_succ, Cal.len_at j i hi, hD']; omega
            have hi' : Hid (i + 1 < 12) := by
              show _ < _
              apply Nat.lt_of_not_le
              intro h
              have h1 := hn.out
              have h2 := hlast.out
              rw [show i + 1 = 12 by omega] at h1
              omega
            clear hs' hi hR' hD' hD2
            go_wp2_with fail
            refine (Length_x (2000 + j) (i + 1) _ (by have := Hj.out; omega) (by have := Hi.out; omega)).mono ?_
            rintro e w1 ⟨rfl, rfl⟩
            rw [HD2.out]
            go_wp2_with fail
            refine (Length_x (2000 + j) (i + 1) _ (by have := Hj.out; omega) (by have := Hi.out; omega)).mono ?_
            rintro e w1 ⟨rfl, rfl⟩
            rw [HD2.out]
            go_wp2_with fail
            go_roundw
            case rel => exact ⟨i + 1, R' - D', hi'.out, by omega, by congr 1, by congr 1; omega, hn.out, rfl⟩
            case measure => simp [intOf]; omega
          · have c1' : (R' : Int) < (D' : Int) := by omega
            have hv : Hid (date (T : Int) = (((2000 + j : Nat) : Int), ((i + 1 : Nat) : Int), ((R' + 1 : Nat) : Int), 0)) := date_at hT.out hi hs' (by rw [hD']; omega)
            clear hs' hi hR' hD' hD2
            go_wp2_with fail
            refine (Length_x (2000 + j) (i + 1) _ (by have := Hj.out; omega) (by have := Hi.out; omega)).mono ?_
            rintro e w1 ⟨rfl, rfl⟩
            rw [HD2.out]
            go_wp2_with fail
            exact bodyPost_ret (v := .tuple #[.int .i64 ((2000 + j : Nat) : Int), .int .i64 ((i + 1 : Nat) : Int), .int .i64 ((R' : Int) + 1), .int .i64 0]) (by simp [results, Tryd.results12, go_sem]) rfl ⟨by rw [hv.out]; try rfl, rfl⟩

end Go.Proofs.YtmlelmknbddkjaaDoor
