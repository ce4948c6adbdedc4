/-
  The plain mathematics of layer 4: months, days and dates. It imports nothing of the program.
-/
import Derived.Below
import Derived.Test.YtcjakgpmompaiaaGreatDoorProg
import Derived.WalkKit
import Derived.WalkSpells
import Derived.WalkLawsBesides
import Derived.Lib.Hide
import Derived.IntWalk
import Derived.Deep.DeepCutAuto
namespace Go.Proofs.YtcjakgpmompaiaaGreatDoor.Ca.Cal

def leap (y : Nat) : Bool := y % 4 == 0 && (y % 100 != 0 || y % 400 == 0)
def mlen (y m : Nat) : Nat := if m = 2 then (if leap y then 29 else 28) else if m = 4 ∨ m = 6 ∨ m = 9 ∨ m = 11 then 30 else 31
def ylen (y : Nat) : Nat := if leap y then 366 else 365
/-- the days of the month number k (0 is January 2000), and of all before it -/
def len (k : Nat) : Nat := mlen (2000 + k / 12) (k % 12 + 1)
def S : Nat → Nat
  | 0 => 0
  | k + 1 => S k + len k
def mon : Nat → Nat
  | 0 => 0
  | t + 1 => if S (mon t + 1) ≤ t + 1 then mon t + 1 else mon t
def dom (t : Nat) : Nat := t - S (mon t) + 1

theorem mlen_bounds (y m : Nat) : 28 ≤ mlen y m ∧ mlen y m ≤ 31 := by unfold mlen; constructor <;> (repeat' split) <;> omega
theorem len_bounds (k : Nat) : 28 ≤ len k ∧ len k ≤ 31 := mlen_bounds _ _
theorem ylen_bounds (y : Nat) : 365 ≤ ylen y ∧ ylen y ≤ 366 := by unfold ylen; split <;> omega
theorem S_succ (k : Nat) : S (k + 1) = S k + len k := rfl
theorem S_mono {k j : Nat} (h : k ≤ j) : S k ≤ S j := by
  induction h with
  | refl => exact Nat.le_refl _
  | step h ih => rw [S_succ]; omega
theorem mon_spec (t : Nat) : S (mon t) ≤ t ∧ t < S (mon t + 1) := by
  induction t with
  | zero =>
    have := (len_bounds 0).1
    exact ⟨Nat.le_refl 0, by show 0 < S 1; rw [S_succ]; omega⟩
  | succ t ih =>
    unfold mon
    split
    · rename_i h
      have := (len_bounds (mon t + 1)).1
      exact ⟨h, by rw [S_succ (mon t + 1)]; omega⟩
    · omega
theorem mon_eq {t k : Nat} (h1 : S k ≤ t) (h2 : t < S (k + 1)) : mon t = k := by
  obtain ⟨k1, k2⟩ := mon_spec t
  rcases Nat.lt_trichotomy (mon t) k with h | h | h
  · have := S_mono (show mon t + 1 ≤ k from h); omega
  · exact h
  · have := S_mono (show k + 1 ≤ mon t from h); omega
theorem dom_spec (t : Nat) : 1 ≤ dom t ∧ dom t ≤ len (mon t) ∧ S (mon t) + dom t = t + 1 := by
  obtain ⟨h1, h2⟩ := mon_spec t
  rw [S_succ] at h2
  unfold dom
  omega
theorem len_at (j i : Nat) (h : i < 12) : len (12 * j + i) = mlen (2000 + j) (i + 1) := by
  unfold len
  rw [show (12 * j + i) / 12 = j by omega, show (12 * j + i) % 12 = i by omega]
theorem S_year (j : Nat) : S (12 * (j + 1)) = S (12 * j) + ylen (2000 + j) := by
  have e : S (12 * (j + 1)) = S (12 * j) + len (12 * j) + len (12 * j + 1) + len (12 * j + 2) + len (12 * j + 3) + len (12 * j + 4) + len (12 * j + 5) + len (12 * j + 6) + len (12 * j + 7) + len (12 * j + 8) + len (12 * j + 9) + len (12 * j + 10) + len (12 * j + 11) := rfl
  rw [e, show len (12 * j) = mlen (2000 + j) 1 from len_at j 0 (by omega), len_at j 1 (by omega), len_at j 2 (by omega), len_at j 3 (by omega), len_at j 4 (by omega), len_at j 5 (by omega),
    len_at j 6 (by omega), len_at j 7 (by omega), len_at j 8 (by omega), len_at j 9 (by omega), len_at j 10 (by omega), len_at j 11 (by omega)]
  cases h : leap (2000 + j) <;> simp [mlen, ylen, h] <;> omega
theorem S_years (j : Nat) : 365 * j ≤ S (12 * j) := by
  induction j with
  | zero => exact Nat.zero_le _
  | succ j ih => rw [S_year]; have := (ylen_bounds (2000 + j)).1; omega
theorem S_most (k : Nat) : 28 * k ≤ S k ∧ S k ≤ 31 * k := by
  induction k with
  | zero => exact ⟨Nat.le_refl 0, Nat.le_refl 0⟩
  | succ k ih => rw [S_succ]; have := len_bounds k; omega
/-- a day's month lies in the first 274 years -/
theorem mon_small {t : Nat} (h : t ≤ 100000) : mon t < 3288 := by
  have h1 := (mon_spec t).1
  have h2 := S_years 274
  apply Nat.lt_of_not_le
  intro c
  have := S_mono (show 12 * 274 ≤ mon t by omega)
  omega
/-- months later -/
def shift (t : Nat) (n : Int) : Option Nat :=
  if (mon t : Int) + n < 0 then none
  else
    let k := ((mon t : Int) + n).toNat
    some (S k + min (dom t) (len k) - 1)
end Go.Proofs.YtcjakgpmompaiaaGreatDoor.Ca.Cal

/-
  The reference's functions of years and months.
-/
namespace Go.Proofs.YtcjakgpmompaiaaGreatDoor.Ca
open Go.RowKit

def I64 (n : Int) : Prop := -9223372036854775808 ≤ n ∧ n ≤ 9223372036854775807
def valid (t : Int) : Bool := decide (0 ≤ t ∧ t ≤ 100000)
theorem valid_yes {t : Int} (h1 : 0 ≤ t) (h2 : t ≤ 100000) : valid t = true := decide_eq_true ⟨h1, h2⟩
theorem valid_no {t : Int} (h : t < 0 ∨ 100000 < t) : valid t = false := decide_eq_false (by omega)
theorem valid_iff {t : Int} : valid t = true ↔ 0 ≤ t ∧ t ≤ 100000 := decide_eq_true_iff

theorem mod_facts (y m : Nat) : ((y : Int) % (m : Int) == 0) = (y % m == 0) ∧ ((y : Int) % (m : Int) != 0) = (y % m != 0) := by
  have e : (y : Int) % (m : Int) = ((y % m : Nat) : Int) := by simp
  rw [e]
  generalize y % m = r
  by_cases h : r = 0
  · subst h; exact ⟨rfl, rfl⟩
  · have h1 : ((r : Int) == 0) = false := by simp; omega
    have h2 : (r == 0) = false := by simp; omega
    exact ⟨by rw [h1, h2], by unfold bne; rw [h1, h2]⟩

theorem Valid_x (n : Int) (w : World) : Calls Tryz.prog 43 #[.int .i64 n] w fun e w' => e = .returned (.bool (valid n)) ∧ w = w' := by
  by_cases h1 : 0 ≤ n
  · by_cases h2 : n ≤ 100000
    · have hv : Hid (valid n = true) := valid_yes h1 h2
      go_enter Tryz.func43, Tryz.ntmps43
      go_wp2_with fail
      go_ret
      exact ⟨by rw [hv.out]; try rfl, rfl⟩
    · have hv : Hid (valid n = false) := valid_no (by omega)
      go_enter Tryz.func43, Tryz.ntmps43
      go_wp2_with fail
      go_ret
      exact ⟨by rw [hv.out]; try rfl, rfl⟩
  · have hv : Hid (valid n = false) := valid_no (by omega)
    go_enter Tryz.func43, Tryz.ntmps43
    go_wp2_with fail
    go_ret
    exact ⟨by rw [hv.out]; try rfl, rfl⟩

set_option maxHeartbeats 1600000 in
theorem leap_x (y : Nat) (w : World) (hy : y ≤ 1000000) : Calls Tryz.prog 154 #[.int .i64 (y : Int)] w fun e w' => e = .returned (.bool (Cal.leap y)) ∧ w = w' := by
  have a1 : ((y : Int) % 4 == 0) = (y % 4 == 0) := (mod_facts y 4).1
  have b2 : ((y : Int) % 100 != 0) = (y % 100 != 0) := (mod_facts y 100).2
  have c1 : ((y : Int) % 400 == 0) = (y % 400 == 0) := (mod_facts y 400).1
  have y0 : (0 : Int) ≤ (y : Int) := by omega
  have y1 : (y : Int) ≤ 1000000 := by omega
  have hv : Hid (Cal.leap y = ((y % 4 == 0) && ((y % 100 != 0) || (y % 400 == 0)))) := rfl
  generalize (y % 4 == 0) = g4 at *
  generalize (y % 100 != 0) = g1 at *
  generalize (y % 400 == 0) = g0 at *
  clear hy
  cases g4 <;> cases g1 <;> cases g0
  all_goals
    go_enter Tryz.func154, Tryz.ntmps154
    go_wp2_with fail
    go_ret
    exact ⟨by rw [hv.out]; try rfl, rfl⟩

set_option maxHeartbeats 1600000 in
theorem Length_x (y m : Nat) (w : World) (hy : y ≤ 1000000) (hm : m ≤ 12) : Calls Tryz.prog 93 #[.int .i64 (y : Int), .int .i64 (m : Int)] w fun e w' => e = .returned (.int .i64 (Cal.mlen y m : Nat)) ∧ w = w' := by
  have Hy := Lib.hid hy
  have hv : Hid (Cal.mlen y m = if m = 2 then (if Cal.leap y then 29 else 28) else if m = 4 ∨ m = 6 ∨ m = 9 ∨ m = 11 then 30 else 31) := rfl
  obtain ⟨l, hl⟩ : ∃ l, Cal.leap y = l := ⟨_, rfl⟩
  rw [hl] at hv
  have Hl := Lib.hid hl
  clear hl hy
  have key : ∀ k : Nat, m = k → k ≤ 12 → Calls Tryz.prog 93 #[.int .i64 (y : Int), .int .i64 (m : Int)] w fun e w' => e = .returned (.int .i64 (Cal.mlen y m : Nat)) ∧ w = w' := by
    intro k hk hk2
    subst hk
    match m, hk2 with
    | 0, _ | 1, _ | 3, _ | 4, _ | 5, _ | 6, _ | 7, _ | 8, _ | 9, _ | 10, _ | 11, _ | 12, _ =>
      go_enter Tryz.func93, Tryz.ntmps93
      go_wp2_with fail
      go_ret
      exact ⟨by rw [hv.out]; try rfl, rfl⟩
    | 2, _ =>
      cases l
      all_goals
        go_enter Tryz.func93, Tryz.ntmps93
        go_wp2_with fail
        refine (leap_x y _ Hy.out).mono ?_
        rintro e w1 ⟨rfl, rfl⟩
        rw [Hl.out]
        go_wp2_with fail
        go_ret
        exact ⟨by rw [hv.out]; try rfl, rfl⟩
  exact key m rfl hm

theorem days_x (y : Nat) (w : World) (hy : y ≤ 1000000) : Calls Tryz.prog 94 #[.int .i64 (y : Int)] w fun e w' => e = .returned (.int .i64 (Cal.ylen y : Nat)) ∧ w = w' := by
  have Hy := Lib.hid hy
  have hv : Hid (Cal.ylen y = if Cal.leap y then 366 else 365) := rfl
  obtain ⟨l, hl⟩ : ∃ l, Cal.leap y = l := ⟨_, rfl⟩
  rw [hl] at hv
  have Hl := Lib.hid hl
  clear hl hy
  cases l
  all_goals
    go_enter Tryz.func94, Tryz.ntmps94
    go_wp2_with fail
    refine (leap_x y _ Hy.out).mono ?_
    rintro e w1 ⟨rfl, rfl⟩
    rw [Hl.out]
    go_wp2_with fail
    go_ret
    exact ⟨by rw [hv.out]; try rfl, rfl⟩

end Go.Proofs.YtcjakgpmompaiaaGreatDoor.Ca

/-
  The reference's Date.
-/
namespace Go.Proofs.YtcjakgpmompaiaaGreatDoor.Ca
open Go.RowKit

/-- the date of a day; its value as a result -/
def date (t : Int) : Int × Int × Int × Int :=
  if valid t then (((2000 + Cal.mon t.toNat / 12 : Nat) : Int), ((Cal.mon t.toNat % 12 + 1 : Nat) : Int), ((Cal.dom t.toNat : Nat) : Int), 0) else (0, 0, 0, 3)
abbrev dv (x : Int × Int × Int × Int) : Value := .tuple #[.int .i64 x.1, .int .i64 x.2.1, .int .i64 x.2.2.1, .int .i64 x.2.2.2]

theorem date_at {T j i R : Nat} (hT : T ≤ 100000) (hi : i < 12) (h1 : Cal.S (12 * j + i) + R = T) (h2 : R < Cal.mlen (2000 + j) (i + 1)) :
    date (T : Int) = (((2000 + j : Nat) : Int), ((i + 1 : Nat) : Int), ((R + 1 : Nat) : Int), 0) := by
  have e : Cal.mon T = 12 * j + i := Cal.mon_eq (by omega) (by rw [Cal.S_succ, Cal.len_at j i hi]; omega)
  unfold date
  rw [if_pos (valid_yes (by omega) (by omega)), Int.toNat_natCast]
  have d : Cal.dom T = R + 1 := by unfold Cal.dom; rw [e]; omega
  rw [d, e, show (12 * j + i) / 12 = j by omega, show (12 * j + i) % 12 = i by omega]

def YRel (T : Nat) (w : World) (y r : Value) (wr : World) : Prop := ∃ j R : Nat, j ≤ 273 ∧ R ≤ 100000 ∧ y = .int .i64 ((2000 + j : Nat) : Int) ∧ r = .int .i64 (R : Int) ∧ Cal.S (12 * j) + R = T ∧ w = wr
def MRel (T j : Nat) (w : World) (m r : Value) (wr : World) : Prop := ∃ i R : Nat, i < 12 ∧ R ≤ 100000 ∧ m = .int .i64 ((i + 1 : Nat) : Int) ∧ r = .int .i64 (R : Int) ∧ Cal.S (12 * j + i) + R = T ∧ w = wr

set_option maxHeartbeats 3200000 in
theorem Date_x (t : Int) (w : World) : Calls Tryz.prog 84 #[.int .i64 t] w fun e w' => e = .returned (dv (date t)) ∧ w = w' := by
  by_cases hb : 0 ≤ t ∧ t ≤ 100000
  case neg =>
    have V : Hid (valid t = false) := valid_no (by omega)
    have hv : Hid (date t = (0, 0, 0, 3)) := by show _ = _; unfold date; rw [V.out]; rfl
    clear hb
    go_enter Tryz.func84, Tryz.ntmps84
    go_wp2_with fail
    refine (Valid_x t _).mono ?_
    rintro e w1 ⟨rfl, rfl⟩
    rw [V.out]
    go_wp2_with fail
    exact bodyPost_ret (v := .tuple #[.int .i64 0, .int .i64 0, .int .i64 0, .int .i64 3]) (by simp [results, Tryz.results84, go_sem]) rfl ⟨by rw [hv.out]; try rfl, rfl⟩
  case pos =>
    obtain ⟨T, rfl⟩ : ∃ T : Nat, t = T := ⟨t.toNat, by omega⟩
    have V : Hid (valid (T : Int) = true) := valid_yes hb.1 hb.2
    have hT : Hid (T ≤ 100000) := by show T ≤ _; omega
    have hT2 : (T : Int) ≤ 100000 := hb.2
    clear hb
    go_enter Tryz.func84, Tryz.ntmps84
    go_wp2_with fail
    refine (Valid_x _ _).mono ?_
    rintro e w1 ⟨rfl, rfl⟩
    rw [V.out]
    clear V
    go_wp2_with fail
    go_loopw [6, 7] (fun y r wr => YRel T w y r wr) (fun _ r _ => (intOf r).toNat)
    case atStart => exact ⟨0, T, by omega, hT.out, rfl, rfl, by simp [Cal.S], rfl⟩
    case round =>
      obtain ⟨j, R, hj, hR, rfl, rfl, hs, rfl⟩ := hrel
      have Hs := Lib.hid hs
      have Hj := Lib.hid hj
      have j0 : (0 : Int) ≤ ((2000 + j : Nat) : Int) := by omega
      have j1 : ((2000 + j : Nat) : Int) ≤ 2273 := by omega
      have r0 : (0 : Int) ≤ (R : Int) := by omega
      have r1 : (R : Int) ≤ 100000 := by omega
      obtain ⟨D, hD⟩ : ∃ D, Cal.ylen (2000 + j) = D := ⟨_, rfl⟩
      have hD1 := Cal.ylen_bounds (2000 + j)
      rw [hD] at hD1
      have HD := Lib.hid hD
      have d0 : (365 : Int) ≤ (D : Int) := by omega
      have d1 : (D : Int) ≤ 366 := by omega
      by_cases c : D ≤ R
      · have c1 : (D : Int) ≤ (R : Int) := by omega
        have hn : Hid (Cal.S (12 * (j + 1)) + (R - D) = T) := by
          show _ = _
          rw [Cal.S_year, hD]; omega
        have hj' : Hid (j + 1 ≤ 273) := by
          have h1 := Cal.S_years (j + 1)
          have h2 := hn.out
          have h3 := hT.out
          show _ ≤ _
          omega
        clear hs hj hR hD hD1
        go_wp2_with fail
        refine (days_x (2000 + j) _ (by have := Hj.out; omega)).mono ?_
        rintro e w1 ⟨rfl, rfl⟩
        rw [HD.out]
        go_wp2_with fail
        refine (days_x (2000 + j) _ (by have := Hj.out; omega)).mono ?_
        rintro e w1 ⟨rfl, rfl⟩
        rw [HD.out]
        go_wp2_with fail
        go_roundw
        case rel => exact ⟨j + 1, R - D, hj'.out, by omega, by congr 1, by congr 1; omega, hn.out, rfl⟩
        case measure => simp [intOf]; omega
      · have c1 : (R : Int) < (D : Int) := by omega
        have hlast : Hid (T < Cal.S (12 * j + 12)) := by
          have := Cal.S_year j
          rw [show 12 * (j + 1) = 12 * j + 12 by omega, hD] at this
          show _ < _
          omega
        clear hs hj hR hD hD1
        go_wp2_with fail
        refine (days_x (2000 + j) _ (by have := Hj.out; omega)).mono ?_
        rintro e w1 ⟨rfl, rfl⟩
        rw [HD.out]
        go_wp2_with fail
        go_loopw [8, 7] (fun m r wr => MRel T j w m r wr) (fun _ r _ => (intOf r).toNat)
        case atStart => exact ⟨0, R, by omega, by omega, rfl, rfl, Hs.out, rfl⟩
        case round =>
          obtain ⟨i, R', hi, hR', rfl, rfl, hs', rfl⟩ := hrel
          have Hs2 := Lib.hid hs'
          have Hi := Lib.hid hi
          obtain ⟨D', hD'⟩ : ∃ D, Cal.mlen (2000 + j) (i + 1) = D := ⟨_, rfl⟩
          have hD2 := Cal.mlen_bounds (2000 + j) (i + 1)
          rw [hD'] at hD2
          have HD2 := Lib.hid hD'
          have i0 : (0 : Int) ≤ ((i + 1 : Nat) : Int) := by omega
          have i1 : ((i + 1 : Nat) : Int) ≤ 12 := by omega
          have r0' : (0 : Int) ≤ (R' : Int) := by omega
          have r1' : (R' : Int) ≤ 100000 := by omega
          have d0' : (28 : Int) ≤ (D' : Int) := by omega
          have d1' : (D' : Int) ≤ 31 := by omega
          by_cases c' : D' ≤ R'
          · have c1' : (D' : Int) ≤ (R' : Int) := by omega
            have hn : Hid (Cal.S (12 * j + (i + 1)) + (R' - D') = T) := by
              show _ = _
              rw [show 12 * j + (i + 1) = 12 * j + i + 1 by omega, Cal.S_succ, Cal.len_at j i hi, hD']; omega
            have hi' : Hid (i + 1 < 12) := by
              show _ < _
              apply Nat.lt_of_not_le
              intro h
              have h1 := hn.out
              have h2 := hlast.out
              rw [show i + 1 = 12 by omega] at h1
              omega
            clear hs' hi hR' hD' hD2
            go_wp2_with fail
            refine (Length_x (2000 + j) (i + 1) _ (by have := Hj.out; omega) (by have := Hi.out; omega)).mono ?_
            rintro e w1 ⟨rfl, rfl⟩
            rw [HD2.out]
            go_wp2_with fail
            refine (Length_x (2000 + j) (i + 1) _ (by have := Hj.out; omega) (by have := Hi.out; omega)).mono ?_
            rintro e w1 ⟨rfl, rfl⟩
            rw [HD2.out]
            go_wp2_with fail
            go_roundw
            case rel => exact ⟨i + 1, R' - D', hi'.out, by omega, by congr 1, by congr 1; omega, hn.out, rfl⟩
            case measure => simp [intOf]; omega
          · have c1' : (R' : Int) < (D' : Int) := by omega
            have hv : Hid (date (T : Int) = (((2000 + j : Nat) : Int), ((i + 1 : Nat) : Int), ((R' + 1 : Nat) : Int), 0)) := date_at hT.out hi hs' (by rw [hD']; omega)
            clear hs' hi hR' hD' hD2
            go_wp2_with fail
            refine (Length_x (2000 + j) (i + 1) _ (by have := Hj.out; omega) (by have := Hi.out; omega)).mono ?_
            rintro e w1 ⟨rfl, rfl⟩
            rw [HD2.out]
            go_wp2_with fail
            exact bodyPost_ret (v := .tuple #[.int .i64 ((2000 + j : Nat) : Int), .int .i64 ((i + 1 : Nat) : Int), .int .i64 ((R' : Int) + 1), .int .i64 0]) (by simp [results, Tryz.results84, go_sem]) rfl ⟨by rw [hv.out]; try rfl, rfl⟩

end Go.Proofs.YtcjakgpmompaiaaGreatDoor.Ca

/-
  The reference's Day, Weekday and AddMonths.
-/
namespace Go.Proofs.YtcjakgpmompaiaaGreatDoor.Ca
open Go.RowKit

/-- is there this date; its day's number; the day of a date -/
def dateOk (y m d : Int) : Bool := decide (2000 ≤ y ∧ 1 ≤ m ∧ m ≤ 12 ∧ 1 ≤ d ∧ d ≤ (Cal.mlen y.toNat m.toNat : Nat))
def dayNo (y m d : Int) : Int := (Cal.S (12 * (y.toNat - 2000) + (m.toNat - 1)) : Nat) + d - 1
def dayOf (y m d : Int) : Int × Int := if dateOk y m d = true ∧ dayNo y m d ≤ 100000 then (dayNo y m d, 0) else (0, 3)
abbrev pv (x : Int × Int) : Value := .tuple #[.int .i64 x.1, .int .i64 x.2]

theorem dayOf_not {y m d : Int} (h : ¬(2000 ≤ y ∧ 1 ≤ m ∧ m ≤ 12 ∧ 1 ≤ d ∧ d ≤ (Cal.mlen y.toNat m.toNat : Nat))) : dayOf y m d = (0, 3) := by
  unfold dayOf
  rw [if_neg]
  rintro ⟨h1, -⟩
  exact h (of_decide_eq_true h1)
theorem dayOf_late {y m d : Int} (h : 2300 < y) : dayOf y m d = (0, 3) := by
  unfold dayOf
  rw [if_neg]
  rintro ⟨h1, h2⟩
  have h3 := of_decide_eq_true h1
  unfold dayNo at h2
  have h4 := Cal.S_mono (show 12 * 301 ≤ 12 * (y.toNat - 2000) + (m.toNat - 1) by omega)
  have h5 := Cal.S_years 301
  omega
theorem dayOf_at {j i : Nat} {d : Int} (hi : i < 12) (h1 : 1 ≤ d) (h2 : d ≤ (Cal.mlen (2000 + j) (i + 1) : Nat)) :
    dayOf (2000 + (j : Int)) ((i : Int) + 1) d = if (Cal.S (12 * j + i) : Int) + d - 1 ≤ 100000 then ((Cal.S (12 * j + i) : Int) + d - 1, 0) else (0, 3) := by
  have e : dayNo (2000 + (j : Int)) ((i : Int) + 1) d = (Cal.S (12 * j + i) : Int) + d - 1 := by
    unfold dayNo
    rw [show (2000 + (j : Int)).toNat - 2000 = j by omega, show ((i : Int) + 1).toNat - 1 = i by omega]
  have o : dateOk (2000 + (j : Int)) ((i : Int) + 1) d = true := decide_eq_true (by rw [show (2000 + (j : Int)).toNat = 2000 + j by omega, show ((i : Int) + 1).toNat = i + 1 by omega]; omega)
  unfold dayOf
  rw [e, o]
  simp only [true_and]

def YRel2 (j : Nat) (d : Int) (w : World) (o y : Value) (wr : World) : Prop := ∃ k : Nat, k ≤ j ∧ o = .int .i64 ((Cal.S (12 * k) : Int) + d - 1) ∧ y = .int .i64 (2000 + (k : Int)) ∧ w = wr
def MRel2 (j i : Nat) (d : Int) (w : World) (o m : Value) (wr : World) : Prop := ∃ k : Nat, k ≤ i ∧ o = .int .i64 ((Cal.S (12 * j + k) : Int) + d - 1) ∧ m = .int .i64 ((k : Int) + 1) ∧ w = wr

set_option maxHeartbeats 6400000 in
set_option maxRecDepth 100000 in
theorem Day_x (y m d : Int) (w : World) : Calls Tryz.prog 60 #[.int .i64 y, .int .i64 m, .int .i64 d] w fun e w' => e = .returned (pv (dayOf y m d)) ∧ w = w' := by
  by_cases c1 : y < 2000
  · have hv : Hid (dayOf y m d = (0, 3)) := dayOf_not (by omega)
    go_enter Tryz.func60, Tryz.ntmps60
    go_wp2_with fail
    go_ret2
    exact ⟨by rw [hv.out]; try rfl, rfl⟩
  by_cases c2 : 2300 < y
  · have hv : Hid (dayOf y m d = (0, 3)) := dayOf_late c2
    go_enter Tryz.func60, Tryz.ntmps60
    go_wp2_with fail
    go_ret2
    exact ⟨by rw [hv.out]; try rfl, rfl⟩
  by_cases c3 : m < 1
  · have hv : Hid (dayOf y m d = (0, 3)) := dayOf_not (by omega)
    go_enter Tryz.func60, Tryz.ntmps60
    go_wp2_with fail
    go_ret2
    exact ⟨by rw [hv.out]; try rfl, rfl⟩
  by_cases c4 : 12 < m
  · have hv : Hid (dayOf y m d = (0, 3)) := dayOf_not (by omega)
    go_enter Tryz.func60, Tryz.ntmps60
    go_wp2_with fail
    go_ret2
    exact ⟨by rw [hv.out]; try rfl, rfl⟩
  by_cases c5 : d < 1
  · have hv : Hid (dayOf y m d = (0, 3)) := dayOf_not (by omega)
    go_enter Tryz.func60, Tryz.ntmps60
    go_wp2_with fail
    go_ret2
    exact ⟨by rw [hv.out]; try rfl, rfl⟩
  obtain ⟨j, rfl⟩ : ∃ j : Nat, y = (2000 + (j : Int)) := ⟨y.toNat - 2000, by omega⟩
  obtain ⟨i, rfl⟩ : ∃ i : Nat, m = ((i : Int) + 1) := ⟨m.toNat - 1, by omega⟩
  have j0 : (2000 : Int) ≤ (2000 + (j : Int)) := by omega
  have j1 : (2000 + (j : Int)) ≤ 2300 := by omega
  have i0 : (1 : Int) ≤ ((i : Int) + 1) := by omega
  have i1 : ((i : Int) + 1) ≤ 12 := by omega
  have d1 : 1 ≤ d := by omega
  have Hj : Hid (2000 + j ≤ 1000000) := by show _ ≤ _; omega
  have Hi : Hid (i + 1 ≤ 12) := by show _ ≤ _; omega
  obtain ⟨L, hL⟩ : ∃ L, Cal.mlen (2000 + j) (i + 1) = L := ⟨_, rfl⟩
  have HL := Lib.hid hL
  have L1 := (Cal.mlen_bounds (2000 + j) (i + 1)).2
  by_cases c6 : (L : Int) < d
  · have hv : Hid (dayOf (2000 + (j : Int)) ((i : Int) + 1) d = (0, 3)) := dayOf_not (by rw [show (2000 + (j : Int)).toNat = 2000 + j by omega, show ((i : Int) + 1).toNat = i + 1 by omega, hL]; omega)
    clear hL L1 c1 c2 c3 c4 c5
    go_enter Tryz.func60, Tryz.ntmps60
    go_wp2_with fail
    refine (Length_x (2000 + j) (i + 1) _ Hj.out Hi.out).mono ?_
    rintro e w1 ⟨rfl, rfl⟩
    rw [HL.out]
    go_wp2_with fail
    go_ret2
    exact ⟨by rw [hv.out]; try rfl, rfl⟩
  · have c7 : d ≤ (L : Int) := by omega
    have d2 : d ≤ 31 := by omega
    have hv := dayOf_at (j := j) (i := i) (d := d) (by omega) d1 (by rw [hL]; exact c7)
    have HD := Lib.hid hv
    clear hv hL L1 c1 c2 c3 c4 c5 c6
    go_enter Tryz.func60, Tryz.ntmps60
    go_wp2_with fail
    refine (Length_x (2000 + j) (i + 1) _ Hj.out Hi.out).mono ?_
    rintro e w1 ⟨rfl, rfl⟩
    rw [HL.out]
    go_wp2_with fail
    go_loopw [8, 9] (fun o y wr => YRel2 j d w o y wr) (fun _ y _ => 2000 + j - (intOf y).toNat)
    case atStart => exact ⟨0, Nat.zero_le _, by simp [Cal.S], rfl, rfl⟩
    case round =>
      obtain ⟨k, hk, rfl, rfl, rfl⟩ := hrel
      have hS := Cal.S_most (12 * k)
      have k0 : (2000 : Int) ≤ (2000 + (k : Int)) := by omega
      have Hk := Lib.hid hk
      by_cases c : k = j
      · subst c
        clear hS
        go_wp2_with fail
        go_loopw [8, 10] (fun o m wr => MRel2 k i d w o m wr) (fun _ m _ => i + 1 - (intOf m).toNat)
        case atStart => exact ⟨0, Nat.zero_le _, rfl, rfl, rfl⟩
        case round =>
          obtain ⟨n, hn, rfl, rfl, rfl⟩ := hrel
          have hS := Cal.S_most (12 * k + n)
          have n0 : (1 : Int) ≤ ((n : Int) + 1) := by omega
          have Hn := Lib.hid hn
          have s0 : (0 : Int) ≤ (Cal.S (12 * k + n) : Int) := by omega
          have s1 : (Cal.S (12 * k + n) : Int) ≤ 120000 := by omega
          by_cases c : n = i
          · subst c
            clear hS hn
            obtain ⟨O, hO⟩ : ∃ O, (Cal.S (12 * k + n) : Int) + d - 1 = O := ⟨_, rfl⟩
            rw [hO] at HD
            rw [hO]
            have o0 : 0 ≤ O := by omega
            by_cases v : O ≤ 100000
            · have V : Hid (valid O = true) := valid_yes o0 v
              have hv : Hid (dayOf (2000 + (k : Int)) ((n : Int) + 1) d = (O, 0)) := by show _ = _; rw [HD.out, if_pos v]
              clear v hO
              go_wp2_with fail
              refine (Valid_x _ _).mono ?_
              rintro e w1 ⟨rfl, rfl⟩
              rw [V.out]
              go_wp2_with fail
              go_ret2
              exact ⟨by rw [hv.out]; try rfl, rfl⟩
            · have V : Hid (valid O = false) := valid_no (by omega)
              have hv : Hid (dayOf (2000 + (k : Int)) ((n : Int) + 1) d = (0, 3)) := by show _ = _; rw [HD.out, if_neg v]
              clear v hO
              go_wp2_with fail
              refine (Valid_x _ _).mono ?_
              rintro e w1 ⟨rfl, rfl⟩
              rw [V.out]
              go_wp2_with fail
              go_ret2
              exact ⟨by rw [hv.out]; try rfl, rfl⟩
          · have c1 : ((n : Int) + 1) < ((i : Int) + 1) := by omega
            obtain ⟨D, hD⟩ : ∃ D, Cal.mlen (2000 + k) (n + 1) = D := ⟨_, rfl⟩
            have hD2 := (Cal.mlen_bounds (2000 + k) (n + 1)).2
            rw [hD] at hD2
            have HD2 := Lib.hid hD
            have D0 : (0 : Int) ≤ (D : Int) := by omega
            have D1 : (D : Int) ≤ 31 := by omega
            have hs : Hid ((Cal.S (12 * k + (n + 1)) : Int) = (Cal.S (12 * k + n) : Int) + (D : Int)) := by
              show _ = _
              rw [show 12 * k + (n + 1) = 12 * k + n + 1 by omega, Cal.S_succ, Cal.len_at k n (by omega), hD]; omega
            have hn' : Hid (n + 1 ≤ i) := by show _ ≤ _; omega
            clear hS hn c hD hD2
            generalize Cal.S (12 * k + n) = Z at *
            go_wp2_with fail
            refine (Length_x (2000 + k) (n + 1) _ Hj.out (by have := hn'.out; have := Hi.out; omega)).mono ?_
            rintro e w1 ⟨rfl, rfl⟩
            rw [HD2.out]
            go_wp2_with fail
            go_roundw
            case rel => exact ⟨n + 1, hn'.out, by congr 1; rw [hs.out]; omega, by congr 1, rfl⟩
            case measure => have := hn'.out; simp [intOf]; omega
      · have c1 : (2000 + (k : Int)) < (2000 + (j : Int)) := by omega
        obtain ⟨D, hD⟩ : ∃ D, Cal.ylen (2000 + k) = D := ⟨_, rfl⟩
        have hD2 := (Cal.ylen_bounds (2000 + k)).2
        rw [hD] at hD2
        have HD2 := Lib.hid hD
        have D0 : (0 : Int) ≤ (D : Int) := by omega
        have D1 : (D : Int) ≤ 366 := by omega
        have s0 : (0 : Int) ≤ (Cal.S (12 * k) : Int) := by omega
        have s1 : (Cal.S (12 * k) : Int) ≤ 120000 := by omega
        have hs : Hid ((Cal.S (12 * (k + 1)) : Int) = (Cal.S (12 * k) : Int) + (D : Int)) := by
          show _ = _
          rw [Cal.S_year, hD]; omega
        have hk' : Hid (k + 1 ≤ j) := by show _ ≤ _; omega
        clear hS hk c hD hD2
        generalize Cal.S (12 * k) = Z at *
        go_wp2_with fail
        refine (days_x (2000 + k) _ (by have := hk'.out; have := Hj.out; omega)).mono ?_
        rintro e w1 ⟨rfl, rfl⟩
        rw [HD2.out]
        go_wp2_with fail
        go_roundw
        case rel => exact ⟨k + 1, hk'.out, by congr 1; rw [hs.out]; omega, by congr 1, rfl⟩
        case measure => have := hk'.out; simp [intOf]; omega

end Go.Proofs.YtcjakgpmompaiaaGreatDoor.Ca

