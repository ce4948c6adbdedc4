/-
  The program's open: whether a day is open, by its offices.
-/
import Derived.Test.YtmlelmknbddkjaaDoorProI
namespace Go.Proofs.YtmlelmknbddkjaaDoor
open Go.RowKit

/-- the offices of a city in a block -/
structure OfAt (w : World) (b : Nat) (C : Lists) : Prop where
  ex : ∃ sl, Ofc w b (feastF C C.f) sl ∧ Ints w sl (srt C.s)
  ls : C.s.length ≤ 1099511627776
theorem OfAt.lt {w : World} {b : Nat} {C : Lists} (h : OfAt w b C) : b < w.heap.size := by obtain ⟨⟨sl, h1, h2⟩, -⟩ := h; exact h1.lt
theorem OfAt.next {w w' : World} {b : Nat} {C : Lists} (h : OfAt w b C) (hb : Below w.heap.size w w') : OfAt w' b C := by
  obtain ⟨⟨sl, h1, h2⟩, h3⟩ := h
  exact ⟨⟨sl, h1.next hb, h2.below hb⟩, h3⟩

theorem isOpen_at {C : Lists} {T : Nat} (h : T ≤ 100000) : isOpen C (T : Int) = (!hasB C.r (((T + 5) % 7 : Nat) : Int) && (!feastF C C.f (7 + (Cal.mon T % 12) * 32 + Cal.dom T) && !hasB (srt C.s) (T : Int))) := by
  have hd := Cal.dom_spec T
  have hl := Cal.len_bounds (Cal.mon T)
  have V : valid (T : Int) = true := valid_yes (by omega) (by omega)
  have e1 : date (T : Int) = (((2000 + Cal.mon T / 12 : Nat) : Int), ((Cal.mon T % 12 + 1 : Nat) : Int), (Cal.dom T : Int), 0) := by unfold date; rw [if_pos V, Int.toNat_natCast]
  have e2 : feastF C C.f (7 + (Cal.mon T % 12) * 32 + Cal.dom T) = hasB C.f (100 * ((Cal.mon T % 12 + 1 : Nat) : Int) + (Cal.dom T : Int)) := by
    unfold feastF
    rw [if_neg (by omega), show (7 + (Cal.mon T % 12) * 32 + Cal.dom T - 7) / 32 = Cal.mon T % 12 by omega, show (7 + (Cal.mon T % 12) * 32 + Cal.dom T - 7) % 32 = Cal.dom T by omega]
    congr 1
  unfold isOpen
  rw [V, srt_has, e1, e2, show (((T : Int) + 5) % 7) = (((T + 5) % 7 : Nat) : Int) by omega]
  simp only [Bool.true_and, Bool.and_assoc]

set_option maxHeartbeats 1600000 in
theorem open_x (b T : Nat) (C : Lists) (w : World) (h : OfAt w b C) (hbf : Bf w) (hT : T ≤ 100000) :
    Calls Tryd.prog 37 #[.pointer (some ⟨b, 0, none⟩), .int .i64 (T : Int)] w fun e w' => e = .returned (.bool (isOpen C T)) ∧ ∃ q, w' = w.drewN q := by
  obtain ⟨⟨sl, hO, hI⟩, hls⟩ := h
  have t0 : (0 : Int) ≤ (T : Int) := by omega
  have t1 : (T : Int) ≤ 100000 := by omega
  have hd := Cal.dom_spec T
  have hl := Cal.len_bounds (Cal.mon T)
  have hM1 := Cal.mon_small hT
  have hv := isOpen_at (C := C) hT
  obtain ⟨r, hr⟩ : ∃ r : Nat, (T + 5) % 7 = r := ⟨_, rfl⟩
  obtain ⟨M, hM⟩ : ∃ M, Cal.mon T = M := ⟨_, rfl⟩
  obtain ⟨D, hD⟩ : ∃ D, Cal.dom T = D := ⟨_, rfl⟩
  rw [hM] at hM1 hl
  rw [hD, hM] at hd
  obtain ⟨i, hi⟩ : ∃ i : Nat, M % 12 = i := ⟨_, rfl⟩
  rw [hr, hM, hD, hi] at hv
  have r7 : r < 7 := by omega
  have i12 : i < 12 := by omega
  have D31 : D ≤ 31 := by omega
  have c1 := hO.cell r (by omega)
  have e1 : feastF C C.f r = hasB C.r (r : Int) := by unfold feastF; rw [if_pos r7]
  rw [e1] at c1
  obtain ⟨g1, hg1⟩ : ∃ g, hasB C.r (r : Int) = g := ⟨_, rfl⟩
  obtain ⟨g2, hg2⟩ : ∃ g, feastF C C.f (7 + i * 32 + D) = g := ⟨_, rfl⟩
  obtain ⟨g3, hg3⟩ : ∃ g, hasB (srt C.s) (T : Int) = g := ⟨_, rfl⟩
  rw [hg1, hg2, hg3] at hv
  rw [hg1] at c1
  have HV := Lib.hid hv
  have HW : Hid (∀ w, Calls Tryd.prog 35 #[.int .i64 (T : Int)] w fun e w' => e = .returned (.int .i64 (r : Int)) ∧ w' = w) := fun w => by
    refine (weekdayP_x (T : Int) w t0 t1).mono ?_
    rintro e w' ⟨rfl, rfl⟩
    exact ⟨by rw [show ((T : Int) + 5) % 7 = (r : Int) by omega], rfl⟩
  have HS : Hid (∀ q, Calls Tryd.prog 29 #[.int .i64 (T : Int)] (w.drewN q) fun e w' => e = .returned (.tuple #[.int .i64 (M : Nat), .int .i64 (D : Nat)]) ∧ ∃ m, w' = w.drewN m) := fun q => by
    refine (split_x T _ hT (bf_drew hbf q)).mono ?_
    rintro e w' ⟨rfl, m, rfl⟩
    exact ⟨by rw [hM, hD], _, by rw [World.drewN_drewN]⟩
  have C2 : Hid (∀ q, (w.drewN q).cell? ⟨b, 7 + i * 32 + D, none⟩ = some (.bool g2)) := fun q => by
    rw [← hg2]
    exact (hO.next (below_drewN (Below.refl _ _) q)).cell _ (by omega)
  have C3 : Hid (∀ q, (w.drewN q).cell? ⟨b, 391, none⟩ = some sl) := fun q => (hO.next (below_drewN (Below.refl _ _) q)).last
  have HB : Hid (∀ q, Calls Tryd.prog 45 #[sl, .int .i64 (T : Int)] (w.drewN q) fun e w' => ∃ n : Int, e = .returned (.tuple #[.int .i64 n, .bool g3]) ∧ ∃ m, w' = w.drewN m) := fun q => by
    refine (search_x sl (srt C.s) (T : Int) _ (hI.below (below_drewN (Below.refl _ _) q)) (by rw [srt_length]; exact hls) (srt_sorted _)).mono ?_
    rintro e w' ⟨n, rfl, m, rfl⟩
    exact ⟨n, by rw [hg3], _, by rw [World.drewN_drewN]⟩
  obtain ⟨a5, p5, rfl, -⟩ := hI
  have r0 : (0 : Int) ≤ (r : Int) := by omega
  have r1 : (r : Int) < 7 := by omega
  have i0 : (0 : Int) ≤ (i : Int) := by omega
  have i1 : (i : Int) < 12 := by omega
  have d0 : (0 : Int) ≤ (D : Int) := by omega
  have d1 : (D : Int) < 32 := by omega
  have f1 : (M : Int).tmod 12 = (i : Int) := by rw [Int.tmod_eq_emod_of_nonneg (by omega)]; omega
  have f2 : IntKind.i64.wrap (i : Int) = (i : Int) := IntWalk.i64_in _ (by omega)
  clear hbf hT hd hl hM1 hv hr hM hD hi r7 i12 D31 e1 hg1 hg2 hg3 hO hls
  cases g1 with
  | true =>
    go_enter Tryd.func37, Tryd.ntmps37
    go_wp2_with fail
    go_quiet (first | (go_at_call 35; refine Calls.quiet_of_same (HW.out _)))
    go_wp2_with fail
    go_ret
    exact ⟨by rw [HV.out]; try rfl, _, rfl⟩
  | false =>
    go_enter Tryd.func37, Tryd.ntmps37
    go_wp2_with fail
    go_quiet (first | (go_at_call 35; refine Calls.quiet_of_same (HW.out _)))
    go_wp2_with fail
    refine (HS.out _).mono ?_
    rintro e w1 ⟨rfl, m, rfl⟩
    have c2 := C2.out m
    have c3 := C3.out m
    cases g2 with
    | true =>
      go_wp2_with fail
      go_ret
      exact ⟨by rw [HV.out]; try rfl, _, rfl⟩
    | false =>
      go_wp2_with fail
      refine (HB.out _).mono ?_
      rintro e w1 ⟨n, rfl, m2, rfl⟩
      go_wp2_with fail
      go_ret
      exact ⟨by rw [HV.out]; cases g3 <;> rfl, _, rfl⟩

end Go.Proofs.YtmlelmknbddkjaaDoor
