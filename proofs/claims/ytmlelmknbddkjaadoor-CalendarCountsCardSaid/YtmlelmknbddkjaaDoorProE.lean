/-
  The program's AddMonths.
-/
import Derived.Test.YtmlelmknbddkjaaDoorProD
namespace Go.Proofs.YtmlelmknbddkjaaDoor
open Go.RowKit

theorem addM_give {T k : Nat} {n : Int} (hT : T ≤ 100000) (h : (Cal.mon T : Int) + n = k) : addM (T : Int) n = giveV ((Cal.S k : Int) + (min (Cal.dom T) (Cal.len k) : Nat) - 1) := by
  have hd := (Cal.dom_spec T).1
  have hL := Cal.len_28 k
  rw [giveV_le (by omega)]
  unfold addM
  rw [if_pos (valid_yes (by omega) (by omega)), Int.toNat_natCast, Cal.shift_of h]
  simp only
  have e : ((Cal.S k + min (Cal.dom T) (Cal.len k) - 1 : Nat) : Int) = (Cal.S k : Int) + (min (Cal.dom T) (Cal.len k) : Nat) - 1 := by omega
  rw [← e]
  by_cases c : Cal.S k + min (Cal.dom T) (Cal.len k) - 1 ≤ 100000
  · rw [if_pos c, if_pos (by omega)]
  · rw [if_neg c, if_neg (by omega)]
theorem addM_early2 {t : Nat} {n : Int} (h : (Cal.mon t : Int) + n < 0) : addM (t : Int) n = (0, 3) := addM_early h

set_option maxHeartbeats 1600000 in
theorem addMP_x (t n : Int) (w : World) (hbf : Bf w) (hn : I64 n) : Calls Tryd.prog 17 #[.int .i64 t, .int .i64 n] w fun e w' => e = .returned (pv (addM t n)) ∧ Below w.heap.size w w' := by
  cases V : valid t with
  | false =>
    have V' := Lib.hid V
    have hv : Hid (addM t n = (0, 3)) := addM_not V
    clear V hbf hn
    go_enter Tryd.func17, Tryd.ntmps17
    go_wp2_with fail
    refine (isDay_x t _).mono ?_
    rintro e w1 ⟨rfl, rfl⟩
    rw [V'.out]
    go_wp2_with fail
    go_ret2
    exact ⟨by rw [hv.out]; try rfl, Below.refl _ _⟩
  | true =>
    have V' := Lib.hid V
    have hb := valid_iff.1 V
    obtain ⟨T, rfl⟩ : ∃ T : Nat, t = T := ⟨t.toNat, by omega⟩
    have hT : T ≤ 100000 := by omega
    by_cases c : 100000 < n
    · have hv : Hid (addM (T : Int) n = (0, 3)) := addM_far hT (by omega)
      clear V hbf hn hb hT
      go_enter Tryd.func17, Tryd.ntmps17
      go_wp2_with fail
      refine (isDay_x _ _).mono ?_
      rintro e w1 ⟨rfl, rfl⟩
      rw [V'.out]
      go_wp2_with fail
      go_ret2
      exact ⟨by rw [hv.out]; try rfl, Below.refl _ _⟩
    have HS := Lib.hid (split_x T w hT hbf)
    have hM1 := Cal.mon_small hT
    have hD := (Cal.dom_spec T)
    have hDl := Cal.len_bounds (Cal.mon T)
    by_cases c2 : (Cal.mon T : Int) + n < 0
    · have hv : Hid (addM (T : Int) n = (0, 3)) := addM_early c2
      obtain ⟨M, hM⟩ : ∃ M, Cal.mon T = M := ⟨_, rfl⟩
      obtain ⟨D, hD2⟩ : ∃ D, Cal.dom T = D := ⟨_, rfl⟩
      rw [hM] at hM1 c2
      rw [hM, hD2] at HS
      have n0 : -9223372036854775808 ≤ n := hn.1
      have c1 : n ≤ 100000 := by omega
      have m0 : (0 : Int) ≤ (M : Int) := by omega
      have m1 : (M : Int) ≤ 3288 := by omega
      clear V hbf hn hb hT hD hDl hM hM1 hD2 c
      go_enter Tryd.func17, Tryd.ntmps17
      go_wp2_with fail
      refine (isDay_x _ _).mono ?_
      rintro e w1 ⟨rfl, rfl⟩
      rw [V'.out]
      go_wp2_with fail
      refine HS.out.mono ?_
      rintro e w1 ⟨rfl, q, rfl⟩
      go_wp2_with fail
      go_ret2
      exact ⟨by rw [hv.out]; try rfl, below_drewN (Below.refl _ _) q⟩
    · obtain ⟨k, hk⟩ : ∃ k : Nat, (Cal.mon T : Int) + n = k := ⟨((Cal.mon T : Int) + n).toNat, by omega⟩
      have hv := addM_give hT hk
      have hk1 : k ≤ 103300 := by omega
      have hl31 := Cal.len_bounds k
      have hS := (Cal.S_most k).2
      obtain ⟨M, hM⟩ : ∃ M, Cal.mon T = M := ⟨_, rfl⟩
      obtain ⟨D, hD2⟩ : ∃ D, Cal.dom T = D := ⟨_, rfl⟩
      obtain ⟨L, hL2⟩ : ∃ L, Cal.len k = L := ⟨_, rfl⟩
      obtain ⟨S, hS2⟩ : ∃ S, Cal.S k = S := ⟨_, rfl⟩
      have HL : Hid (∀ q, Calls Tryd.prog 32 #[.int .i64 (k : Int)] (w.drewN q) fun e w' => e = .returned (.int .i64 (L : Nat)) ∧ ∃ m, w' = w.drewN m) := fun q => by
        rw [← hL2]
        exact (length_x k _ (by omega) (bf_drew hbf q)).mono fun _ _ ⟨h, m, e⟩ => ⟨h, q + m, by rw [e, World.drewN_drewN]⟩
      have HF : Hid (∀ q, Calls Tryd.prog 34 #[.int .i64 (k : Int)] (w.drewN q) fun e w' => e = .returned (.int .i64 (S : Nat)) ∧ ∃ m, w' = w.drewN m) := fun q => by rw [← hS2]; exact first_d k q (by omega) hbf
      rw [hM] at hM1 hk hDl hD
      rw [hM, hD2] at HS
      rw [hD2] at hD
      rw [hD2, hL2, hS2] at hv
      rw [hL2] at hl31
      rw [hS2] at hS
      have n0 : -9223372036854775808 ≤ n := hn.1
      have m0 : (0 : Int) ≤ (M : Int) := by omega
      have m1 : (M : Int) ≤ 3288 := by omega
      have c1 : n ≤ 100000 := by omega
      have f1 : IntKind.i64.wrap ((M : Int) + n) = (k : Int) := by rw [hk]; exact IntWalk.i64_in _ (by omega)
      have k0 : (0 : Int) ≤ (k : Int) := by omega
      have k1 : (k : Int) ≤ 103300 := by omega
      have s0 : (0 : Int) ≤ (S : Int) := by omega
      have s1 : (S : Int) ≤ 3300000 := by omega
      have l0 : (28 : Int) ≤ (L : Int) := by omega
      have l1 : (L : Int) ≤ 31 := by omega
      have d0 : (1 : Int) ≤ (D : Int) := by omega
      have d1 : (D : Int) ≤ 31 := by omega
      by_cases b : L < D
      · have hv2 : Hid (addM (T : Int) n = giveV ((S : Int) + (L : Int) - 1)) := by show _ = _; rw [hv, show min D L = L by omega]
        have b1 : (L : Int) < (D : Int) := by omega
        clear V hbf hn hb hT hD hDl hM hM1 hD2 hL2 hS2 c c2 hk hk1 hl31 hS hv b
        go_enter Tryd.func17, Tryd.ntmps17
        go_wp2_with fail
        refine (isDay_x _ _).mono ?_
        rintro e w1 ⟨rfl, rfl⟩
        rw [V'.out]
        go_wp2_with fail
        refine HS.out.mono ?_
        rintro e w1 ⟨rfl, q, rfl⟩
        go_wp2_with fail
        refine (HF.out q).mono ?_
        rintro e w1 ⟨rfl, q2, rfl⟩
        go_wp2_with fail
        refine (HL.out q2).mono ?_
        rintro e w1 ⟨rfl, q3, rfl⟩
        go_wp2_with fail
        refine (give_x _ _).mono ?_
        rintro e w1 ⟨rfl, rfl⟩
        simp only [pv]
        go_wp2_with fail
        go_ret2
        exact ⟨by rw [hv2.out]; try rfl, below_drewN (Below.refl _ _) q3⟩
      · have hv2 : Hid (addM (T : Int) n = giveV ((S : Int) + (D : Int) - 1)) := by show _ = _; rw [hv, show min D L = D by omega]
        have b1 : ¬ (L : Int) < (D : Int) := by omega
        clear V hbf hn hb hT hD hDl hM hM1 hD2 hL2 hS2 c c2 hk hk1 hl31 hS hv b
        go_enter Tryd.func17, Tryd.ntmps17
        go_wp2_with fail
        refine (isDay_x _ _).mono ?_
        rintro e w1 ⟨rfl, rfl⟩
        rw [V'.out]
        go_wp2_with fail
        refine HS.out.mono ?_
        rintro e w1 ⟨rfl, q, rfl⟩
        go_wp2_with fail
        refine (HF.out q).mono ?_
        rintro e w1 ⟨rfl, q2, rfl⟩
        go_wp2_with fail
        refine (HL.out q2).mono ?_
        rintro e w1 ⟨rfl, q3, rfl⟩
        go_wp2_with fail
        refine (give_x _ _).mono ?_
        rintro e w1 ⟨rfl, rfl⟩
        simp only [pv]
        go_wp2_with fail
        go_ret2
        exact ⟨by rw [hv2.out]; try rfl, below_drewN (Below.refl _ _) q3⟩

end Go.Proofs.YtmlelmknbddkjaaDoor
