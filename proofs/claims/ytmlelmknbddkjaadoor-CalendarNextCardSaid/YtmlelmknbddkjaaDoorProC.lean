/-
  The program's split: the month and the day of the month of a day.
-/
import Derived.Test.YtmlelmknbddkjaaDoorProB
namespace Go.Proofs.YtmlelmknbddkjaaDoor
open Go.RowKit

theorem bf_drew {w : World} (h : Bf w) (q : Nat) : Bf (w.drewN q) := bf_of h (below_drewN (Below.refl _ _) q)
theorem first_d {w : World} (k q : Nat) (hk : k ≤ 110000) (hbf : Bf w) : Calls Tryd.prog 34 #[.int .i64 (k : Int)] (w.drewN q) fun e w' => e = .returned (.int .i64 (Cal.S k : Nat)) ∧ ∃ m, w' = w.drewN m :=
  (first_x k _ hk (bf_drew hbf q)).mono fun _ _ ⟨h, m, e⟩ => ⟨h, q + m, by rw [e, World.drewN_drewN]⟩
theorem first_d1 {w : World} (k q : Nat) (hk : k + 1 ≤ 110000) (hbf : Bf w) : Calls Tryd.prog 34 #[.int .i64 ((k : Int) + 1)] (w.drewN q) fun e w' => e = .returned (.int .i64 (Cal.S (k + 1) : Nat)) ∧ ∃ m, w' = w.drewN m :=
  first_d (k + 1) q hk hbf

set_option maxHeartbeats 3200000 in
theorem split_x (t : Nat) (w : World) (ht : t ≤ 100000) (hbf : Bf w) : Calls Tryd.prog 29 #[.int .i64 (t : Int)] w fun e w' => e = .returned (.tuple #[.int .i64 (Cal.mon t : Nat), .int .i64 (Cal.dom t : Nat)]) ∧ ∃ q, w' = w.drewN q := by
  have HW := Lib.hid hbf
  clear hbf
  have t0 : (0 : Int) ≤ (t : Int) := by omega
  have t1 : (t : Int) ≤ 100000 := by omega
  obtain ⟨g, hg⟩ : ∃ g : Nat, t * 4800 / 146097 = g := ⟨_, rfl⟩
  have g1 : g ≤ 3288 := by omega
  have hg2 : Hid ((t : Int) * 4800 / 146097 = (g : Int)) := show _ = _ by omega
  obtain ⟨M, hM⟩ : ∃ M, Cal.mon t = M := ⟨_, rfl⟩
  have hM1 : M < 3288 := by rw [← hM]; exact Cal.mon_small ht
  have hup : Hid (∀ k, Cal.S k ≤ t → k ≤ M) := by
    intro k hk
    have h2 := (Cal.mon_spec t).2
    rw [hM] at h2
    apply Nat.le_of_not_lt
    intro c
    have := Cal.S_mono (show M + 1 ≤ k from c)
    omega
  have hdn : Hid (∀ k, t < Cal.S (k + 1) → M ≤ k) := by
    intro k hk
    have h2 := (Cal.mon_spec t).1
    rw [hM] at h2
    apply Nat.le_of_not_lt
    intro c
    have := Cal.S_mono (show k + 1 ≤ M from c)
    omega
  have hlo : Hid (Cal.S M ≤ t) := by show _ ≤ _; rw [← hM]; exact (Cal.mon_spec t).1
  have hd : Hid (((Cal.dom t : Nat) : Int) = (t : Int) - ((Cal.S M : Nat) : Int) + 1) := by
    show _ = _
    have := Cal.dom_spec t
    rw [hM] at this
    omega
  have hS : Hid (∀ k, k ≤ 5000 → ((Cal.S k : Nat) : Int) ≤ 200000) := by
    intro k hk
    have := (Cal.S_most k).2
    omega
  rw [hM]
  clear hM hg ht
  go_enter Tryd.func29, Tryd.ntmps29
  go_wp2_with fail
  go_loopw [2] (fun v wr => ∃ k q : Nat, v = .int .i64 (k : Int) ∧ k ≤ 3288 ∧ wr = w.drewN q) (fun v _ => 3288 - (intOf v).toNat)
  case atStart => exact ⟨g, 0, by rw [hg2.out], g1, rfl⟩
  case round =>
    obtain ⟨k, q, rfl, hk, rfl⟩ := hrel
    have k0 : (0 : Int) ≤ (k : Int) := by omega
    have k1 : (k : Int) ≤ 3288 := by omega
    have hk1 : Hid (k + 1 ≤ 110000) := show _ ≤ _ by omega
    obtain ⟨s, hs⟩ : ∃ s, Cal.S (k + 1) = s := ⟨_, rfl⟩
    have HS := Lib.hid hs
    by_cases c : s ≤ t
    · have c1 : (s : Int) ≤ (t : Int) := by omega
      have hm : Hid (k + 1 ≤ 3288) := by
        show _ ≤ _
        have := hup.out (k + 1) (by omega)
        omega
      clear hs hk c
      go_wp2_with fail
      refine (first_d1 k q hk1.out HW.out).mono ?_
      rintro e w1 ⟨rfl, m, rfl⟩
      rw [HS.out]
      go_wp2_with fail
      go_roundw
      case rel => exact ⟨k + 1, m, by congr 1, hm.out, rfl⟩
      case measure => have := hm.out; simp [intOf]; omega
    · have c1 : ¬ (s : Int) ≤ (t : Int) := by omega
      have hm : Hid (M ≤ k) := hdn.out k (by omega)
      have c2 : decide (s ≤ t) = false := decide_eq_false c
      clear hs c
      go_wp2_with fail
      refine (first_d1 k q hk1.out HW.out).mono ?_
      rintro e w1 ⟨rfl, m, rfl⟩
      rw [HS.out]
      go_wp2_with fail
      clear c1 HS hk1
      go_loopw [2] (fun v wr => ∃ k q : Nat, v = .int .i64 (k : Int) ∧ k ≤ 3288 ∧ Hid (M ≤ k) ∧ wr = w.drewN q) (fun v _ => (intOf v).toNat)
      case atStart => exact ⟨k, m, rfl, hk, hm, rfl⟩
      case round =>
        clear hk k0 k1 hm
        obtain ⟨k, q, rfl, hk, hm, rfl⟩ := hrel
        have k0 : (0 : Int) ≤ (k : Int) := by omega
        have k1 : (k : Int) ≤ 3288 := by omega
        have hk1 : Hid (k ≤ 110000) := show _ ≤ _ by omega
        obtain ⟨s, hs⟩ : ∃ s, Cal.S k = s := ⟨_, rfl⟩
        have HS := Lib.hid hs
        by_cases c : t < s
        · have c1 : (t : Int) < (s : Int) := by omega
          have hm2 : Hid (M + 1 ≤ k) := by
            show _ ≤ _
            have h1 := hm.out
            apply Nat.lt_of_le_of_ne h1
            intro e
            have h4 := hlo.out
            rw [e, hs] at h4
            omega
          clear hs c hm
          obtain ⟨k', rfl⟩ : ∃ k', k = k' + 1 := ⟨k - 1, by have := hm2.out; omega⟩
          go_wp2_with fail
          refine (first_d _ q hk1.out HW.out).mono ?_
          rintro e w1 ⟨rfl, m, rfl⟩
          rw [HS.out]
          go_wp2_with fail
          go_roundw
          case rel => exact ⟨k', m, by congr 1, by omega, by have := hm2.out; show _ ≤ _; omega, rfl⟩
          case measure => simp [intOf]
        · have c1 : ¬ (t : Int) < (s : Int) := by omega
          obtain rfl : k = M := Nat.le_antisymm (hup.out k (by omega)) hm.out
          have hd2 : Hid (((Cal.dom t : Nat) : Int) = (t : Int) - (s : Int) + 1) := by show _ = _; rw [hd.out, hs]
          clear hs c hm
          have s2 : (s : Int) ≤ (t : Int) := by omega
          have s3 : (0 : Int) ≤ (s : Int) := by omega
          go_wp2_with fail
          refine (first_d _ q hk1.out HW.out).mono ?_
          rintro e w1 ⟨rfl, m, rfl⟩
          rw [HS.out]
          go_wp2_with fail
          refine (first_d _ m hk1.out HW.out).mono ?_
          rintro e w1 ⟨rfl, m2, rfl⟩
          rw [HS.out]
          go_wp2_with fail
          go_ret2
          exact ⟨by rw [hd2.out]; try rfl, _, rfl⟩

end Go.Proofs.YtmlelmknbddkjaaDoor
