/-
  The program's functions of months and days at 304115a: isDay, give, weekday, leaps, first, length.
-/
import Derived.Test.YtmlelmknbddkjaaDoorLawA
import Derived.BigQuiet
import Derived.Deep.QuietTactic
namespace Go.Proofs.YtmlelmknbddkjaaDoor
open Go.RowKit

theorem isDay_x (t : Int) (w : World) : Calls Tryd.prog 28 #[.int .i64 t] w fun e w' => e = .returned (.bool (valid t)) ∧ w = w' := by
  by_cases h1 : 0 ≤ t
  · by_cases h2 : t ≤ 100000
    · have hv : Hid (valid t = true) := valid_yes h1 h2
      go_enter Tryd.func28, Tryd.ntmps28
      go_wp2_with fail
      go_ret
      exact ⟨by rw [hv.out]; try rfl, rfl⟩
    · have hv : Hid (valid t = false) := valid_no (by omega)
      go_enter Tryd.func28, Tryd.ntmps28
      go_wp2_with fail
      go_ret
      exact ⟨by rw [hv.out]; try rfl, rfl⟩
  · have hv : Hid (valid t = false) := valid_no (by omega)
    go_enter Tryd.func28, Tryd.ntmps28
    go_wp2_with fail
    go_ret
    exact ⟨by rw [hv.out]; try rfl, rfl⟩

def giveV (t : Int) : Int × Int := if valid t then (t, 0) else (0, 3)
theorem give_x (t : Int) (w : World) : Calls Tryd.prog 33 #[.int .i64 t] w fun e w' => e = .returned (pv (giveV t)) ∧ w = w' := by
  cases V : valid t with
  | true =>
    have V' := Lib.hid V
    have hv : Hid (giveV t = (t, 0)) := by show _ = _; unfold giveV; rw [V]; rfl
    clear V
    go_enter Tryd.func33, Tryd.ntmps33
    go_wp2_with fail
    refine (isDay_x t _).mono ?_
    rintro e w1 ⟨rfl, rfl⟩
    rw [V'.out]
    go_wp2_with fail
    go_ret2
    exact ⟨by rw [hv.out]; try rfl, rfl⟩
  | false =>
    have V' := Lib.hid V
    have hv : Hid (giveV t = (0, 3)) := by show _ = _; unfold giveV; rw [V]; rfl
    clear V
    go_enter Tryd.func33, Tryd.ntmps33
    go_wp2_with fail
    refine (isDay_x t _).mono ?_
    rintro e w1 ⟨rfl, rfl⟩
    rw [V'.out]
    go_wp2_with fail
    go_ret2
    exact ⟨by rw [hv.out]; try rfl, rfl⟩

theorem weekdayP_x (t : Int) (w : World) (h0 : 0 ≤ t) (h1 : t ≤ 100000) : Calls Tryd.prog 35 #[.int .i64 t] w fun e w' => e = .returned (.int .i64 ((t + 5) % 7)) ∧ w = w' := by
  go_enter Tryd.func35, Tryd.ntmps35
  go_wp2_with fail
  go_ret
  exact ⟨rfl, rfl⟩

theorem leaps_x (n : Int) (w : World) (h0 : 0 ≤ n) (h1 : n ≤ 100000) : Calls Tryd.prog 42 #[.int .i64 n] w fun e w' => e = .returned (.int .i64 (Cal.lp n)) ∧ w = w' := by
  obtain ⟨a, ha⟩ : ∃ a, (n + 3) / 4 = a := ⟨_, rfl⟩
  obtain ⟨b, hb⟩ : ∃ b, (n + 99) / 100 = b := ⟨_, rfl⟩
  obtain ⟨c, hc⟩ : ∃ c, (n + 399) / 400 = c := ⟨_, rfl⟩
  have hv : Hid (Cal.lp n = a - b + c) := by show _ = _; unfold Cal.lp; rw [ha, hb, hc]
  have a0 : 0 ≤ a := by omega
  have a1 : a ≤ 30000 := by omega
  have b0 : 0 ≤ b := by omega
  have b1 : b ≤ 30000 := by omega
  have c0 : 0 ≤ c := by omega
  have c1 : c ≤ 30000 := by omega
  go_enter Tryd.func42, Tryd.ntmps42
  go_wp2_with fail
  go_ret
  exact ⟨by rw [hv.out]; try rfl, rfl⟩

/-- the table's cells -/
theorem Bf.cell {w : World} (h : Bf w) {i : Nat} (hi : i < 12) : w.cell? ⟨0, i, none⟩ = some (.int .i64 (Cal.bef.getD i 0)) := by
  obtain ⟨t, fr, h⟩ := h
  rw [cell_of_row w _ i bfC t fr h]
  match i, hi with
  | 0, _ | 1, _ | 2, _ | 3, _ | 4, _ | 5, _ | 6, _ | 7, _ | 8, _ | 9, _ | 10, _ | 11, _ => rfl

end Go.Proofs.YtmlelmknbddkjaaDoor
