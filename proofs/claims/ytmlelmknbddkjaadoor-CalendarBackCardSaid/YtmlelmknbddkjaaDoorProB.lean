/-
  The program's first and length: the first day of a month, and how many it has.
-/
import Derived.Test.YtmlelmknbddkjaaDoorProA
namespace Go.Proofs.YtmlelmknbddkjaaDoor
open Go.RowKit

set_option maxHeartbeats 3200000 in
theorem first_x (k : Nat) (w : World) (hk : k ≤ 110000) (hbf : Bf w) : Calls Tryd.prog 34 #[.int .i64 (k : Int)] w fun e w' => e = .returned (.int .i64 (Cal.S k : Nat)) ∧ ∃ q, w' = w.drewN q := by
  obtain ⟨j, hj⟩ : ∃ j : Nat, k / 12 = j := ⟨_, rfl⟩
  obtain ⟨i, hi⟩ : ∃ i : Nat, k % 12 = i := ⟨_, rfl⟩
  have i12 : i < 12 := by omega
  have e1 : ((k : Int) / 12) = (j : Int) := by omega
  have e2 : ((k : Int) % 12) = (i : Int) := by omega
  obtain ⟨s, hs⟩ : ∃ s, ((k : Int) + 10) / 12 = s := ⟨_, rfl⟩
  have s0 : 0 ≤ s := by omega
  have s1 : s ≤ 100000 := by omega
  obtain ⟨b, hb⟩ : ∃ b, Cal.bef.getD i 0 = b := ⟨_, rfl⟩
  have hc := hbf.cell i12
  rw [hb] at hc
  have b0 : 0 ≤ b ∧ b ≤ 334 := by
    rw [← hb]
    match i, i12 with
    | 0, _ | 1, _ | 2, _ | 3, _ | 4, _ | 5, _ | 6, _ | 7, _ | 8, _ | 9, _ | 10, _ | 11, _ => simp [Cal.bef]
  obtain ⟨b1, b2⟩ := b0
  obtain ⟨l, hl⟩ : ∃ l, Cal.lp s = l := ⟨_, rfl⟩
  have l0 : 0 ≤ l ∧ l ≤ 30000 := by
    rw [← hl]
    unfold Cal.lp
    omega
  obtain ⟨l1, l2⟩ := l0
  have hv : Hid (((Cal.S k : Nat) : Int) = 365 * (j : Int) + b + l) := by
    show _ = _
    rw [← Cal.fst_eq]
    unfold Cal.fst
    rw [e1, hs, hl, e2, Int.toNat_natCast, hb]
  have hl2 : Hid (∀ w : World, Calls Tryd.prog 42 #[.int .i64 s] w fun e w' => e = .returned (.int .i64 l) ∧ w' = w) := fun w => by rw [← hl]; exact (leaps_x s w s0 s1).mono (fun _ _ h => ⟨h.1, h.2.symm⟩)
  have j0 : (0 : Int) ≤ (j : Int) := by omega
  have j1 : (j : Int) ≤ 9200 := by omega
  have i0 : (0 : Int) ≤ (i : Int) := by omega
  have i1 : (i : Int) < 12 := by omega
  have k0 : (0 : Int) ≤ (k : Int) := by omega
  have k1 : (k : Int) ≤ 110000 := by omega
  have f1 : (k : Int).tmod 12 = (i : Int) := by rw [Int.tmod_eq_emod_of_nonneg k0]; exact e2
  have f2 : (k : Int).tdiv 12 = (j : Int) := by rw [Int.tdiv_eq_ediv_of_nonneg k0]; exact e1
  have f3 : IntKind.i64.wrap (j : Int) = (j : Int) := IntWalk.i64_in _ (by omega)
  have f4 : IntKind.i64.wrap (365 * (j : Int)) = 365 * (j : Int) := IntWalk.i64_in _ (by omega)
  have f5 : IntKind.i64.wrap (365 * (j : Int) + b) = 365 * (j : Int) + b := IntWalk.i64_in _ (by omega)
  have f6 : IntKind.i64.wrap ((k : Int) + 10) = (k : Int) + 10 := IntWalk.i64_in _ (by omega)
  have f7 : ((k : Int) + 10).tdiv 12 = s := by rw [Int.tdiv_eq_ediv_of_nonneg (by omega)]; exact hs
  have f8 : IntKind.i64.wrap s = s := IntWalk.i64_in _ (by omega)
  have f9 : IntKind.i64.wrap (365 * (j : Int) + b + l) = 365 * (j : Int) + b + l := IntWalk.i64_in _ (by omega)
  clear hbf hj hi hk hl hb
  go_enter Tryd.func34, Tryd.ntmps34
  go_wp2_with fail
  go_quiet (first | (go_at_call 42; refine Calls.quiet_of_same (hl2.out _)))
  go_wp2_with fail
  go_ret
  exact ⟨by rw [hv.out]; try rfl, _, rfl⟩

/-- the number of days of a month -/
theorem length_x (k : Nat) (w : World) (hk : k ≤ 109999) (hbf : Bf w) : Calls Tryd.prog 32 #[.int .i64 (k : Int)] w fun e w' => e = .returned (.int .i64 (Cal.len k : Nat)) ∧ ∃ q, w' = w.drewN q := by
  have k1 : (k : Int) ≤ 109999 := by omega
  have k0 : (0 : Int) ≤ (k : Int) := by omega
  have hs : Hid (((Cal.S (k + 1) : Nat) : Int) - ((Cal.S k : Nat) : Int) = ((Cal.len k : Nat) : Int)) := by show _ = _; rw [Cal.S_succ]; omega
  have hm := (Cal.S_most (k + 1)).2
  have hm2 := (Cal.S_most k).2
  obtain ⟨a, ha⟩ : ∃ a, Cal.S (k + 1) = a := ⟨_, rfl⟩
  obtain ⟨b, hb⟩ : ∃ b, Cal.S k = b := ⟨_, rfl⟩
  rw [ha, hb] at hs
  have h1 : Hid (∀ q, Calls Tryd.prog 34 #[.int .i64 ((k : Int) + 1)] (w.drewN q) fun e w' => e = .returned (.int .i64 (a : Nat)) ∧ ∃ m, w' = (w.drewN q).drewN m) := fun q => by rw [← ha]; exact first_x (k + 1) _ (by omega) (bf_of hbf (below_drewN (Below.refl _ _) q))
  have h2 : Hid (∀ q, Calls Tryd.prog 34 #[.int .i64 (k : Int)] (w.drewN q) fun e w' => e = .returned (.int .i64 (b : Nat)) ∧ ∃ m, w' = (w.drewN q).drewN m) := fun q => by rw [← hb]; exact first_x k _ (by omega) (bf_of hbf (below_drewN (Below.refl _ _) q))
  have a0 : (0 : Int) ≤ (a : Int) := by omega
  have a1 : (a : Int) ≤ 3500000 := by omega
  have b0 : (0 : Int) ≤ (b : Int) := by omega
  have b1 : (b : Int) ≤ 3500000 := by omega
  clear hbf ha hb hm hm2 hk
  go_enter Tryd.func32, Tryd.ntmps32
  go_wp2_with fail
  have h10 := h1.out 0
  refine h10.mono ?_
  rintro e w1 ⟨rfl, q, rfl⟩
  go_wp2_with fail
  refine (h2.out _).mono ?_
  rintro e w2 ⟨rfl, m, rfl⟩
  go_wp2_with fail
  go_ret
  exact ⟨by rw [← hs.out]; try rfl, _, rfl⟩

end Go.Proofs.YtmlelmknbddkjaaDoor
