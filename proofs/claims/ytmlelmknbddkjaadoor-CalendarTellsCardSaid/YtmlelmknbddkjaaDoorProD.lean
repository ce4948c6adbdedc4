/-
  The program's Date, Day, Weekday and AddMonths.
-/
import Derived.Test.YtmlelmknbddkjaaDoorProC
namespace Go.Proofs.YtmlelmknbddkjaaDoor
open Go.RowKit

theorem dateP_x (t : Int) (w : World) (hbf : Bf w) : Calls Tryd.prog 11 #[.int .i64 t] w fun e w' => e = .returned (dv (date t)) ∧ Below w.heap.size w w' := by
  cases V : valid t with
  | false =>
    have V' := Lib.hid V
    have hv : Hid (date t = (0, 0, 0, 3)) := by show _ = _; unfold date; rw [V]; rfl
    clear V hbf
    go_enter Tryd.func11, Tryd.ntmps11
    go_wp2_with fail
    refine (isDay_x t _).mono ?_
    rintro e w1 ⟨rfl, rfl⟩
    rw [V'.out]
    go_wp2_with fail
    exact bodyPost_ret (v := .tuple #[.int .i64 0, .int .i64 0, .int .i64 0, .int .i64 3]) (by simp [results, Tryd.results11, go_sem]) rfl ⟨by rw [hv.out]; try rfl, Below.refl _ _⟩
  | true =>
    have V' := Lib.hid V
    have hb := valid_iff.1 V
    obtain ⟨T, rfl⟩ : ∃ T : Nat, t = T := ⟨t.toNat, by omega⟩
    have HS := Lib.hid (split_x T w (by omega) hbf)
    obtain ⟨M, hM⟩ : ∃ M, Cal.mon T = M := ⟨_, rfl⟩
    obtain ⟨D, hD⟩ : ∃ D, Cal.dom T = D := ⟨_, rfl⟩
    have hM1 : M < 3288 := by rw [← hM]; exact Cal.mon_small (by omega)
    have hv : Hid (date (T : Int) = (((2000 + M / 12 : Nat) : Int), ((M % 12 + 1 : Nat) : Int), (D : Int), 0)) := by show _ = _; unfold date; rw [V, Int.toNat_natCast, hM, hD]; rfl
    rw [hM, hD] at HS
    have m0 : (0 : Int) ≤ (M : Int) := by omega
    have m1 : (M : Int) ≤ 3288 := by omega
    clear V hbf hM hD hb hM1
    go_enter Tryd.func11, Tryd.ntmps11
    go_wp2_with fail
    refine (isDay_x _ _).mono ?_
    rintro e w1 ⟨rfl, rfl⟩
    rw [V'.out]
    go_wp2_with fail
    refine HS.out.mono ?_
    rintro e w1 ⟨rfl, q, rfl⟩
    go_wp2_with fail
    exact bodyPost_ret (v := .tuple #[.int .i64 (2000 + (M : Int) / 12), .int .i64 (1 + (M : Int) % 12), .int .i64 (D : Int), .int .i64 0]) (by simp [results, Tryd.results11, go_sem]) rfl
      ⟨by rw [hv.out, show ((2000 + M / 12 : Nat) : Int) = 2000 + (M : Int) / 12 by omega, show ((M % 12 + 1 : Nat) : Int) = 1 + (M : Int) % 12 by omega], below_drewN (Below.refl _ _) q⟩

theorem weekdayQ_x (t : Int) (w : World) : Calls Tryd.prog 15 #[.int .i64 t] w fun e w' => e = .returned (pv (weekday t)) ∧ Below w.heap.size w w' := by
  cases V : valid t with
  | false =>
    have V' := Lib.hid V
    have hv : Hid (weekday t = (0, 3)) := by show _ = _; unfold weekday; rw [V]; rfl
    clear V
    go_enter Tryd.func15, Tryd.ntmps15
    go_wp2_with fail
    refine (isDay_x t _).mono ?_
    rintro e w1 ⟨rfl, rfl⟩
    rw [V'.out]
    go_wp2_with fail
    go_ret2
    exact ⟨by rw [hv.out]; try rfl, Below.refl _ _⟩
  | true =>
    have V' := Lib.hid V
    have hb := valid_iff.1 V
    have hv : Hid (weekday t = ((t + 5) % 7, 0)) := by show _ = _; unfold weekday; rw [V]; rfl
    have HW := Lib.hid (weekdayP_x t w hb.1 hb.2)
    clear V hb
    go_enter Tryd.func15, Tryd.ntmps15
    go_wp2_with fail
    refine (isDay_x _ _).mono ?_
    rintro e w1 ⟨rfl, rfl⟩
    rw [V'.out]
    go_wp2_with fail
    refine HW.out.mono ?_
    rintro e w1 ⟨rfl, rfl⟩
    go_wp2_with fail
    go_ret2
    exact ⟨by rw [hv.out]; try rfl, Below.refl _ _⟩

theorem giveV_le {t : Int} (h : 0 ≤ t) : giveV t = if t ≤ 100000 then (t, 0) else (0, 3) := by
  unfold giveV
  by_cases c : t ≤ 100000
  · rw [valid_yes h c, if_pos rfl, if_pos c]
  · rw [valid_no (by omega), if_neg c]; rfl

set_option maxHeartbeats 1600000 in
theorem dayP_x (y m d : Int) (w : World) (hbf : Bf w) (hy : I64 y) : Calls Tryd.prog 13 #[.int .i64 y, .int .i64 m, .int .i64 d] w fun e w' => e = .returned (pv (dayOf y m d)) ∧ Below w.heap.size w w' := by
  by_cases bad : y < 2000 ∨ 2273 < y ∨ m < 1 ∨ 12 < m
  · have hv : Hid (dayOf y m d = (0, 3)) := by
      show _ = _
      unfold dayOf
      rw [if_neg]
      rintro ⟨h1, h2⟩
      have h3 := of_decide_eq_true h1
      unfold dayNo at h2
      have h4 := Cal.S_mono (show 12 * 274 ≤ 12 * (y.toNat - 2000) + (m.toNat - 1) by omega)
      have h5 := Cal.S_years 274
      omega
    clear hbf hy
    by_cases c1 : y < 2000
    · go_enter Tryd.func13, Tryd.ntmps13
      go_wp2_with fail
      go_ret2
      exact ⟨by rw [hv.out]; try rfl, Below.refl _ _⟩
    by_cases c2 : 2273 < y
    · go_enter Tryd.func13, Tryd.ntmps13
      go_wp2_with fail
      go_ret2
      exact ⟨by rw [hv.out]; try rfl, Below.refl _ _⟩
    by_cases c3 : m < 1
    · go_enter Tryd.func13, Tryd.ntmps13
      go_wp2_with fail
      go_ret2
      exact ⟨by rw [hv.out]; try rfl, Below.refl _ _⟩
    · have c4 : 12 < m := by omega
      clear bad
      go_enter Tryd.func13, Tryd.ntmps13
      go_wp2_with fail
      go_ret2
      exact ⟨by rw [hv.out]; try rfl, Below.refl _ _⟩
  · obtain ⟨j, rfl⟩ : ∃ j : Nat, y = 2000 + (j : Int) := ⟨(y - 2000).toNat, by omega⟩
    obtain ⟨i, rfl⟩ : ∃ i : Nat, m = (i : Int) + 1 := ⟨(m - 1).toNat, by omega⟩
    have i1 : i < 12 := by omega
    have j1 : j ≤ 273 := by omega
    obtain ⟨k, hk⟩ : ∃ k, 12 * j + i = k := ⟨_, rfl⟩
    have hL := Cal.len_at j i i1
    have hS := (Cal.S_most k).2
    have hl31 := Cal.len_bounds k
    rw [hk] at hL
    obtain ⟨L, hL2⟩ : ∃ L, Cal.len k = L := ⟨_, rfl⟩
    obtain ⟨S, hS2⟩ : ∃ S, Cal.S k = S := ⟨_, rfl⟩
    have HL : Hid (∀ w, Bf w → Calls Tryd.prog 32 #[.int .i64 (k : Int)] w fun e w' => e = .returned (.int .i64 (L : Nat)) ∧ ∃ q, w' = w.drewN q) := fun w h => by rw [← hL2]; exact length_x k w (by omega) h
    have HF : Hid (∀ q, Calls Tryd.prog 34 #[.int .i64 (k : Int)] (w.drewN q) fun e w' => e = .returned (.int .i64 (S : Nat)) ∧ ∃ m, w' = w.drewN m) := fun q => by rw [← hS2]; exact first_d k q (by omega) hbf
    have HW := Lib.hid hbf
    rw [hL2] at hl31 hL
    rw [hS2] at hS
    have f1 : IntKind.i64.wrap (2000 + (j : Int) - 2000) = (j : Int) := by rw [show 2000 + (j : Int) - 2000 = j by omega]; exact IntWalk.i64_in _ (by omega)
    have f2 : IntKind.i64.wrap (12 * (j : Int) + ((i : Int) + 1)) = 12 * (j : Int) + ((i : Int) + 1) := IntWalk.i64_in _ (by omega)
    have f3 : IntKind.i64.wrap (12 * (j : Int) + ((i : Int) + 1) - 1) = (k : Int) := by rw [show 12 * (j : Int) + ((i : Int) + 1) - 1 = (k : Int) by omega]; exact IntWalk.i64_in _ (by omega)
    have d1 : ¬ 2000 + (j : Int) < 2000 := by omega
    have d2 : ¬ 2273 < 2000 + (j : Int) := by omega
    have d3 : ¬ (i : Int) + 1 < 1 := by omega
    have d4 : ¬ 12 < (i : Int) + 1 := by omega
    by_cases b1 : d < 1
    · have hv : Hid (dayOf (2000 + (j : Int)) ((i : Int) + 1) d = (0, 3)) := by
        show _ = _
        unfold dayOf
        rw [if_neg]
        rintro ⟨h1, h2⟩
        have h3 := of_decide_eq_true h1
        omega
      clear hbf hy bad hL2 hS2 hl31 hL hS hk i1 j1
      go_enter Tryd.func13, Tryd.ntmps13
      go_wp2_with fail
      go_ret2
      exact ⟨by rw [hv.out]; try rfl, Below.refl _ _⟩
    by_cases b2 : (L : Int) < d
    · have hv : Hid (dayOf (2000 + (j : Int)) ((i : Int) + 1) d = (0, 3)) := by
        show _ = _
        apply dayOf_not
        rw [show (2000 + (j : Int)).toNat = 2000 + j by omega, show ((i : Int) + 1).toNat = i + 1 by omega]
        omega
      clear hbf hy bad hL2 hS2 hl31 hL hS hk i1 j1
      go_enter Tryd.func13, Tryd.ntmps13
      go_wp2_with fail
      refine (HL.out _ HW.out).mono ?_
      rintro e w1 ⟨rfl, q, rfl⟩
      go_wp2_with fail
      go_ret2
      exact ⟨by rw [hv.out]; try rfl, below_drewN (Below.refl _ _) q⟩
    · have hg : giveV ((S : Int) + d - 1) = if (S : Int) + d - 1 ≤ 100000 then ((S : Int) + d - 1, 0) else (0, 3) := giveV_le (by omega)
      have hv : Hid (dayOf (2000 + (j : Int)) ((i : Int) + 1) d = giveV ((S : Int) + d - 1)) := by
        show _ = _
        rw [hg, ← hS2, ← hk]
        exact dayOf_at i1 (by omega) (by omega)
      have d5 : ¬ d < 1 := b1
      have d6 : d ≤ 31 := by omega
      have d7 : (S : Int) ≤ 110000 := by omega
      have d8 : (0 : Int) ≤ (S : Int) := by omega
      have d9 : 1 ≤ d := by omega
      clear hbf hy bad hL2 hS2 hl31 hL hS hk i1 j1 hg
      go_enter Tryd.func13, Tryd.ntmps13
      go_wp2_with fail
      refine (HL.out _ HW.out).mono ?_
      rintro e w1 ⟨rfl, q, rfl⟩
      go_wp2_with fail
      refine (HF.out q).mono ?_
      rintro e w1 ⟨rfl, q2, rfl⟩
      go_wp2_with fail
      refine (give_x _ _).mono ?_
      rintro e w1 ⟨rfl, rfl⟩
      simp only [pv]
      go_wp2_with fail
      go_ret2
      exact ⟨by rw [hv.out]; try rfl, below_drewN (Below.refl _ _) q2⟩

end Go.Proofs.YtmlelmknbddkjaaDoor
