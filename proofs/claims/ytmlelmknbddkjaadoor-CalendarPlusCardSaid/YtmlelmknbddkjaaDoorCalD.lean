/-
  The reference's Weekday and AddMonths.
-/
import Derived.Test.YtmlelmknbddkjaaDoorCalC
namespace Go.Proofs.YtmlelmknbddkjaaDoor
open Go.RowKit

def weekday (t : Int) : Int × Int := if valid t then ((t + 5) % 7, 0) else (0, 3)
def addM (t n : Int) : Int × Int := if valid t then (match Cal.shift t.toNat n with | some u => if u ≤ 100000 then ((u : Int), 0) else (0, 3) | none => (0, 3)) else (0, 3)

theorem Weekday_x (t : Int) (w : World) : Calls Tryd.prog 16 #[.int .i64 t] w fun e w' => e = .returned (pv (weekday t)) ∧ w = w' := by
  by_cases hb : 0 ≤ t ∧ t ≤ 100000
  · have V : Hid (valid t = true) := valid_yes hb.1 hb.2
    have hv : Hid (weekday t = ((t + 5) % 7, 0)) := by show _ = _; unfold weekday; rw [V.out]; rfl
    obtain ⟨t0, t1⟩ := hb
    go_enter Tryd.func16, Tryd.ntmps16
    go_wp2_with fail
    refine (Valid_x t _).mono ?_
    rintro e w1 ⟨rfl, rfl⟩
    rw [V.out]
    go_wp2_with fail
    go_ret2
    exact ⟨by rw [hv.out]; try rfl, rfl⟩
  · have V : Hid (valid t = false) := valid_no (by omega)
    have hv : Hid (weekday t = (0, 3)) := by show _ = _; unfold weekday; rw [V.out]; rfl
    clear hb
    go_enter Tryd.func16, Tryd.ntmps16
    go_wp2_with fail
    refine (Valid_x t _).mono ?_
    rintro e w1 ⟨rfl, rfl⟩
    rw [V.out]
    go_wp2_with fail
    go_ret2
    exact ⟨by rw [hv.out]; try rfl, rfl⟩

theorem addM_not {t n : Int} (h : valid t = false) : addM t n = (0, 3) := by unfold addM; rw [h]; rfl
theorem addM_far {t : Nat} {n : Int} (ht : t ≤ 100000) (h : n < -5000 ∨ 5000 < n) : addM (t : Int) n = (0, 3) := by
  unfold addM
  rw [if_pos (valid_yes (by omega) (by omega)), Int.toNat_natCast]
  have hm := Cal.mon_small ht
  cases hs : Cal.shift t n with
  | none => rfl
  | some u =>
    obtain ⟨e1, -, -⟩ := Cal.shift_some hs
    have h1 := (Cal.mon_spec u).1
    have h2 := (Cal.S_most (Cal.mon u)).1
    simp only
    rw [if_neg (by omega)]
theorem addM_early {t : Nat} {n : Int} (h : (Cal.mon t : Int) + n < 0) : addM (t : Int) n = (0, 3) := by
  unfold addM
  split
  · rw [Int.toNat_natCast]
    unfold Cal.shift
    rw [if_pos h]
  · rfl
theorem addM_at {t : Nat} {n : Int} {j i : Nat} (ht : t ≤ 100000) (hi : i < 12) (h : (Cal.mon t : Int) + n = ((12 * j + i : Nat) : Int)) :
    addM (t : Int) n = dayOf (2000 + (j : Int)) ((i : Int) + 1) (min (Cal.dom t : Int) (Cal.mlen (2000 + j) (i + 1) : Int)) := by
  have hd := Cal.dom_spec t
  have hL := Cal.mlen_bounds (2000 + j) (i + 1)
  rw [dayOf_at hi (by omega) (by omega)]
  unfold addM
  rw [if_pos (valid_yes (by omega) (by omega)), Int.toNat_natCast, Cal.shift_of h, Cal.len_at j i hi]
  simp only
  have e : ((Cal.S (12 * j + i) + min (Cal.dom t) (Cal.mlen (2000 + j) (i + 1)) - 1 : Nat) : Int) = (Cal.S (12 * j + i) : Int) + min (Cal.dom t : Int) (Cal.mlen (2000 + j) (i + 1) : Int) - 1 := by omega
  rw [← e]
  by_cases c : Cal.S (12 * j + i) + min (Cal.dom t) (Cal.mlen (2000 + j) (i + 1)) - 1 ≤ 100000
  · rw [if_pos c, if_pos (by omega)]
  · rw [if_neg c, if_neg (by omega)]

set_option maxHeartbeats 3200000 in
set_option maxRecDepth 100000 in
theorem AddMonths_x (t n : Int) (w : World) : Calls Tryd.prog 18 #[.int .i64 t, .int .i64 n] w fun e w' => e = .returned (pv (addM t n)) ∧ w = w' := by
  by_cases hb : 0 ≤ t ∧ t ≤ 100000
  case neg =>
    have V : valid t = false := valid_no (by omega)
    have D : Hid (date t = (0, 0, 0, 3)) := by show _ = _; unfold date; rw [V]; rfl
    have hv : Hid (addM t n = (0, 3)) := addM_not V
    clear hb V
    go_enter Tryd.func18, Tryd.ntmps18
    go_wp2_with fail
    refine (Date_x t _).mono ?_
    rintro e w1 ⟨rfl, rfl⟩
    rw [D.out]
    simp only [dv]
    go_wp2_with fail
    go_ret2
    exact ⟨by rw [hv.out]; try rfl, rfl⟩
  case pos =>
    obtain ⟨T, rfl⟩ : ∃ T : Nat, t = T := ⟨t.toNat, by omega⟩
    have hT : T ≤ 100000 := by omega
    have V : valid (T : Int) = true := valid_yes hb.1 hb.2
    obtain ⟨y, m, d, hD⟩ : ∃ y m d : Int, date (T : Int) = (y, m, d, 0) ∧ 12 * y + m - 1 = 24000 + (Cal.mon T : Int) ∧ 2000 ≤ y ∧ y ≤ 2300 ∧ 1 ≤ m ∧ m ≤ 12 ∧ d = (Cal.dom T : Int) := by
      refine ⟨((2000 + Cal.mon T / 12 : Nat) : Int), ((Cal.mon T % 12 + 1 : Nat) : Int), ((Cal.dom T : Nat) : Int), ?_, ?_, ?_, ?_, ?_, ?_, rfl⟩
      · unfold date; rw [if_pos V, Int.toNat_natCast]
      all_goals (have := Cal.mon_small hT; omega)
    obtain ⟨hD, s1, y0, y1, m0, m1, rfl⟩ := hD
    have D := Lib.hid hD
    have d0 := (Cal.dom_spec T).1
    have d1 : (1 : Int) ≤ (Cal.dom T : Int) := by omega
    clear hb V hD
    by_cases far : n < -5000 ∨ 5000 < n
    · have hv : Hid (addM (T : Int) n = (0, 3)) := addM_far hT far
      clear s1 hT d0 d1
      rcases far with c | c
      · go_enter Tryd.func18, Tryd.ntmps18
        go_wp2_with fail
        refine (Date_x _ _).mono ?_
        rintro e w1 ⟨rfl, rfl⟩
        rw [D.out]
        simp only [dv]
        go_wp2_with fail
        go_ret2
        exact ⟨by rw [hv.out]; try rfl, rfl⟩
      · go_enter Tryd.func18, Tryd.ntmps18
        go_wp2_with fail
        refine (Date_x _ _).mono ?_
        rintro e w1 ⟨rfl, rfl⟩
        rw [D.out]
        simp only [dv]
        have c2 : ¬ n < -5000 := by omega
        go_wp2_with fail
        go_ret2
        exact ⟨by rw [hv.out]; try rfl, rfl⟩
    · have n0 : -5000 ≤ n := by omega
      have n1 : n ≤ 5000 := by omega
      obtain ⟨M, hM⟩ : ∃ M, 12 * y + m - 1 + n = M := ⟨_, rfl⟩
      have w1 : IntKind.i64.wrap (12 * y + m - 1 + n) = M := by rw [hM]; exact IntWalk.i64_in _ (by omega)
      by_cases c : M < 24000
      · have hv : Hid (addM (T : Int) n = (0, 3)) := addM_early (by omega)
        clear s1 hT d0 d1 far
        go_enter Tryd.func18, Tryd.ntmps18
        go_wp2_with fail
        refine (Date_x _ _).mono ?_
        rintro e w1 ⟨rfl, rfl⟩
        rw [D.out]
        simp only [dv]
        go_wp2_with fail
        go_ret2
        exact ⟨by rw [hv.out]; try rfl, rfl⟩
      · obtain ⟨K, hK⟩ : ∃ K : Nat, M = 24000 + (K : Int) := ⟨(M - 24000).toNat, by omega⟩
        have hK2 : K ≤ 100000 := by omega
        have e1 : M / 12 = 2000 + ((K / 12 : Nat) : Int) := by omega
        have e2 : M % 12 = ((K % 12 : Nat) : Int) := by omega
        have hv := addM_at (t := T) (n := n) (j := K / 12) (i := K % 12) hT (by omega) (by omega)
        obtain ⟨j, hj⟩ : ∃ j, j = K / 12 := ⟨_, rfl⟩
        obtain ⟨i, hi⟩ : ∃ i, i = K % 12 := ⟨_, rfl⟩
        rw [← hj] at e1
        rw [← hi] at e2
        rw [← hj, ← hi] at hv
        have Hj : Hid (2000 + j ≤ 1000000) := by show _ ≤ _; omega
        have Hi : Hid (i + 1 ≤ 12) := by show _ ≤ _; omega
        have M0 : 24000 ≤ M := by omega
        have M1 : M ≤ 100000 + 24000 := by omega
        have j0 : (0 : Int) ≤ (j : Int) := by omega
        have j1 : (j : Int) ≤ 100000 := by omega
        have i0 : (0 : Int) ≤ (i : Int) := by omega
        have i1 : (i : Int) ≤ 11 := by omega
        have f1 : IntKind.i64.wrap (M / 12) = 2000 + (j : Int) := by rw [e1]; exact IntWalk.i64_in _ (by omega)
        obtain ⟨L, hL⟩ : ∃ L, Cal.mlen (2000 + j) (i + 1) = L := ⟨_, rfl⟩
        rw [hL] at hv
        have HL := Lib.hid hL
        obtain ⟨q, hq⟩ : ∃ q, q = Cal.dom T := ⟨_, rfl⟩
        rw [← hq] at hv d0 d1 D
        clear hj hi hK hK2 c s1 hT far hL hq
        by_cases c : (L : Int) < (q : Int)
        · have Hv : Hid (addM (T : Int) n = dayOf (2000 + (j : Int)) ((i : Int) + 1) (L : Int)) := by show _ = _; rw [hv]; congr 1; omega
          clear hv d0
          go_enter Tryd.func18, Tryd.ntmps18
          go_wp2_with fail
          refine (Date_x _ _).mono ?_
          rintro e w1 ⟨rfl, rfl⟩
          rw [D.out]
          simp only [dv]
          go_wp2_with fail
          refine (Length_x (2000 + j) (i + 1) _ Hj.out Hi.out).mono ?_
          rintro e w1 ⟨rfl, rfl⟩
          rw [HL.out]
          go_wp2_with fail
          refine (Day_x _ _ _ _).mono ?_
          rintro e w1 ⟨rfl, rfl⟩
          rw [← Hv.out]
          go_wp2_with fail
          go_ret2
          exact ⟨by try rfl, rfl⟩
        · have Hv : Hid (addM (T : Int) n = dayOf (2000 + (j : Int)) ((i : Int) + 1) (q : Int)) := by show _ = _; rw [hv]; congr 1; omega
          clear hv d0
          go_enter Tryd.func18, Tryd.ntmps18
          go_wp2_with fail
          refine (Date_x _ _).mono ?_
          rintro e w1 ⟨rfl, rfl⟩
          rw [D.out]
          simp only [dv]
          go_wp2_with fail
          refine (Length_x (2000 + j) (i + 1) _ Hj.out Hi.out).mono ?_
          rintro e w1 ⟨rfl, rfl⟩
          rw [HL.out]
          go_wp2_with fail
          refine (Day_x _ _ _ _).mono ?_
          rintro e w1 ⟨rfl, rfl⟩
          rw [← Hv.out]
          go_wp2_with fail
          go_ret2
          exact ⟨by try rfl, rfl⟩

end Go.Proofs.YtmlelmknbddkjaaDoor
