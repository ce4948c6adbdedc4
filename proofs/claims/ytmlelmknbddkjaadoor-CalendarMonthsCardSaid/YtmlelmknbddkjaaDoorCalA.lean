/-
  The reference's functions of years and months.
-/
import Derived.Test.YtmlelmknbddkjaaDoorCal
import Derived.Test.YtmlelmknbddkjaaDoorProg
import Derived.WalkKit
import Derived.WalkSpells
import Derived.WalkLawsBesides
import Derived.Lib.Hide
import Derived.IntWalk
import Derived.Deep.DeepCutAuto
namespace Go.Proofs.YtmlelmknbddkjaaDoor
open Go.RowKit

def I64 (n : Int) : Prop := -9223372036854775808 ≤ n ∧ n ≤ 9223372036854775807
def valid (t : Int) : Bool := decide (0 ≤ t ∧ t ≤ 100000)
theorem valid_yes {t : Int} (h1 : 0 ≤ t) (h2 : t ≤ 100000) : valid t = true := decide_eq_true ⟨h1, h2⟩
theorem valid_no {t : Int} (h : t < 0 ∨ 100000 < t) : valid t = false := decide_eq_false (by omega)
theorem valid_iff {t : Int} : valid t = true ↔ 0 ≤ t ∧ t ≤ 100000 := decide_eq_true_iff

theorem mod_facts (y m : Nat) : ((y : Int) % (m : Int) == 0) = (y % m == 0) ∧ ((y : Int) % (m : Int) != 0) = (y % m != 0) := by
  have e : (y : Int) % (m : Int) = ((y % m : Nat) : Int) := by simp
  rw [e]
  generalize y % m = r
  by_cases h : r = 0
  · subst h; exact ⟨rfl, rfl⟩
  · have h1 : ((r : Int) == 0) = false := by simp; omega
    have h2 : (r == 0) = false := by simp; omega
    exact ⟨by rw [h1, h2], by unfold bne; rw [h1, h2]⟩

theorem Valid_x (n : Int) (w : World) : Calls Tryd.prog 25 #[.int .i64 n] w fun e w' => e = .returned (.bool (valid n)) ∧ w = w' := by
  by_cases h1 : 0 ≤ n
  · by_cases h2 : n ≤ 100000
    · have hv : Hid (valid n = true) := valid_yes h1 h2
      go_enter Tryd.func25, Tryd.ntmps25
      go_wp2_with fail
      go_ret
      exact ⟨by rw [hv.out]; try rfl, rfl⟩
    · have hv : Hid (valid n = false) := valid_no (by omega)
      go_enter Tryd.func25, Tryd.ntmps25
      go_wp2_with fail
      go_ret
      exact ⟨by rw [hv.out]; try rfl, rfl⟩
  · have hv : Hid (valid n = false) := valid_no (by omega)
    go_enter Tryd.func25, Tryd.ntmps25
    go_wp2_with fail
    go_ret
    exact ⟨by rw [hv.out]; try rfl, rfl⟩

set_option maxHeartbeats 1600000 in
theorem leap_x (y : Nat) (w : World) (hy : y ≤ 1000000) : Calls Tryd.prog 41 #[.int .i64 (y : Int)] w fun e w' => e = .returned (.bool (Cal.leap y)) ∧ w = w' := by
  have a1 : ((y : Int) % 4 == 0) = (y % 4 == 0) := (mod_facts y 4).1
  have b2 : ((y : Int) % 100 != 0) = (y % 100 != 0) := (mod_facts y 100).2
  have c1 : ((y : Int) % 400 == 0) = (y % 400 == 0) := (mod_facts y 400).1
  have y0 : (0 : Int) ≤ (y : Int) := by omega
  have y1 : (y : Int) ≤ 1000000 := by omega
  have hv : Hid (Cal.leap y = ((y % 4 == 0) && ((y % 100 != 0) || (y % 400 == 0)))) := rfl
  generalize (y % 4 == 0) = g4 at *
  generalize (y % 100 != 0) = g1 at *
  generalize (y % 400 == 0) = g0 at *
  clear hy
  cases g4 <;> cases g1 <;> cases g0
  all_goals
    go_enter Tryd.func41, Tryd.ntmps41
    go_wp2_with fail
    go_ret
    exact ⟨by rw [hv.out]; try rfl, rfl⟩

set_option maxHeartbeats 1600000 in
theorem Length_x (y m : Nat) (w : World) (hy : y ≤ 1000000) (hm : m ≤ 12) : Calls Tryd.prog 31 #[.int .i64 (y : Int), .int .i64 (m : Int)] w fun e w' => e = .returned (.int .i64 (Cal.mlen y m : Nat)) ∧ w = w' := by
  have Hy := Lib.hid hy
  have hv : Hid (Cal.mlen y m = if m = 2 then (if Cal.leap y then 29 else 28) else if m = 4 ∨ m = 6 ∨ m = 9 ∨ m = 11 then 30 else 31) := rfl
  obtain ⟨l, hl⟩ : ∃ l, Cal.leap y = l := ⟨_, rfl⟩
  rw [hl] at hv
  have Hl := Lib.hid hl
  clear hl hy
  have key : ∀ k : Nat, m = k → k ≤ 12 → Calls Tryd.prog 31 #[.int .i64 (y : Int), .int .i64 (m : Int)] w fun e w' => e = .returned (.int .i64 (Cal.mlen y m : Nat)) ∧ w = w' := by
    intro k hk hk2
    subst hk
    match m, hk2 with
    | 0, _ | 1, _ | 3, _ | 4, _ | 5, _ | 6, _ | 7, _ | 8, _ | 9, _ | 10, _ | 11, _ | 12, _ =>
      go_enter Tryd.func31, Tryd.ntmps31
      go_wp2_with fail
      go_ret
      exact ⟨by rw [hv.out]; try rfl, rfl⟩
    | 2, _ =>
      cases l
      all_goals
        go_enter Tryd.func31, Tryd.ntmps31
        go_wp2_with fail
        refine (leap_x y _ Hy.out).mono ?_
        rintro e w1 ⟨rfl, rfl⟩
        rw [Hl.out]
        go_wp2_with fail
        go_ret
        exact ⟨by rw [hv.out]; try rfl, rfl⟩
  exact key m rfl hm

theorem days_x (y : Nat) (w : World) (hy : y ≤ 1000000) : Calls Tryd.prog 30 #[.int .i64 (y : Int)] w fun e w' => e = .returned (.int .i64 (Cal.ylen y : Nat)) ∧ w = w' := by
  have Hy := Lib.hid hy
  have hv : Hid (Cal.ylen y = if Cal.leap y then 366 else 365) := rfl
  obtain ⟨l, hl⟩ : ∃ l, Cal.leap y = l := ⟨_, rfl⟩
  rw [hl] at hv
  have Hl := Lib.hid hl
  clear hl hy
  cases l
  all_goals
    go_enter Tryd.func30, Tryd.ntmps30
    go_wp2_with fail
    refine (leap_x y _ Hy.out).mono ?_
    rintro e w1 ⟨rfl, rfl⟩
    rw [Hl.out]
    go_wp2_with fail
    go_ret
    exact ⟨by rw [hv.out]; try rfl, rfl⟩

end Go.Proofs.YtmlelmknbddkjaaDoor
