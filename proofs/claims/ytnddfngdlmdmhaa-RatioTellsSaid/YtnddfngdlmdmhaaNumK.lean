/-
  The reference's Make.
-/
import Derived.Test.YtnddfngdlmdmhaaNumG
namespace Go.Proofs.Ytnddfngdlmdmhaa
open Go.RowKit

/-- the result's block, the first new one -/
structure Res1 (w W : World) : Prop where
  below : Below w.heap.size w W
  size : w.heap.size < W.heap.size
  r0 : W.cell? ⟨w.heap.size, 0, none⟩ = some (.int .i64 0)
  r1 : W.cell? ⟨w.heap.size, 1, none⟩ = some (.int .i64 0)
  f : ∀ o, W.frozen? ⟨w.heap.size, o, none⟩ = false
theorem Res1.next {w W W' : World} (h : Res1 w W) (hb : Below W.heap.size W W') : Res1 w W' := by
  have s := h.size
  refine ⟨chain h.below hb, by have := hb.size; omega, ?_, ?_, fun o => ?_⟩
  · rw [hb.cell (p := ⟨w.heap.size, 0, none⟩) s]; exact h.r0
  · rw [hb.cell (p := ⟨w.heap.size, 1, none⟩) s]; exact h.r1
  · rw [hb.frozen (p := ⟨w.heap.size, o, none⟩) s]; exact h.f o
theorem Res1.start (w : World) (T : TypeId) : Res1 w (w.alloc (.cells #[.int .i64 0, .int .i64 0] T)) := by
  obtain ⟨r0, r1, r2⟩ := At.new w ⟨0, 0⟩ T w.heap.size rfl
  exact ⟨(Below.refl _ _).alloc (Nat.le_refl _) _, r0, r1, r2, fun o => World.frozen?_alloc_at _ _ _ _ (by simp)⟩

set_option maxHeartbeats 6400000 in
set_option maxRecDepth 100000 in
theorem MakeR_x (p q : Int) (w : World) (hp : I64 p) (hq : I64 q) : Calls Try.prog 10 #[.int .i64 p, .int .i64 q] w fun e w' => e = .returned (rok (Rt.make p q)) ∧ Below w.heap.size w w' := by
  have hP := Lib.hid hp
  have hQ := Lib.hid hq
  by_cases k0 : q = 0
  · have hv : Hid (Rt.make p q = (⟨0, 0⟩, 1)) := by show _ = _; unfold Rt.make; rw [if_pos k0]
    have k1 : (q == 0) = true := by simp [k0]
    clear k0 hp hq
    go_enter Try.func10, Try.ntmps10
    go_wp2_with fail
    have t1 := Res1.start w 23
    have y6 := t1.r0
    have y7 := t1.r1
    have c1 := t1.below
    exact bodyPost_ret (v := .tuple #[.agg #[.int .i64 0, .int .i64 0], .int .i64 1]) (by simp [results, Try.results10, go_sem]) rfl ⟨by rw [hv.out], by repeat (first | exact c1 | refine below_drewN ?_ _ | refine Below.drew ?_ | refine Below.setCell ?_ (by simp) _)⟩
  have k1 : (q == 0) = false := by simp [k0]
  have hN1 : Hid (p.natAbs < 2 ^ 140) := by show _ < _; unfold I64 at hp; omega
  have hD0 : Hid (0 < q.natAbs) := by show _ < _; omega
  have hD1 : Hid (q.natAbs < 2 ^ 140) := by show _ < _; unfold I64 at hq; omega
  obtain ⟨⟨⟨n0, d0⟩, e0⟩, HR⟩ : ∃ R, R = Rt.make p q := ⟨_, rfl⟩
  have hR := Lib.hid HR
  have hgo : Hid (∀ neg : Bool, neg = (decide (p ≠ 0) && (decide (p < 0) != decide (q < 0))) → gv neg p.natAbs q.natAbs = (⟨n0, d0⟩, e0)) := by
    intro neg hneg
    rw [hneg, natAbs_sgn k0, HR]
    unfold Rt.make
    rw [if_neg k0]
  by_cases m0 : p = 0
  · have hgv : Hid (gv false p.natAbs q.natAbs = (⟨n0, d0⟩, e0)) := hgo.out _ (by rw [m0]; simp)
    have f1 : (p == 0) = true := by simp [m0]
    have f2 : (p != 0) = false := by simp [m0]
    clear m0 k0 hp hq HR hgo
    go_enter Try.func10, Try.ntmps10
    go_wp2_with fail
    refine (Of_x p _ hP.out).mono ?_
    rintro e w1 ⟨v1, rfl, n1, l1, b1⟩
    have t1 := (Res1.start w 23).next b1
    clear b1
    have y1 := t1.size
    have y2 := t1.r0
    have y3 := t1.r1
    go_wp2_with fail
    refine (Of_x q _ hQ.out).mono ?_
    rintro e w2 ⟨v2, rfl, n2, l2, b2⟩
    have t2 := t1.next b2
    have m1 := n1.below b2
    clear b2 y1 y2 y3 n1 l1 l2 t1
    have y1 := t2.size
    have y2 := t2.r0
    have y3 := t2.r1
    go_wp2_with fail
    refine (Give_x _ v1 v2 p.natAbs q.natAbs _ m1 n2 hD0.out hN1.out hD1.out).mono ?_
    rintro e w3 ⟨rfl, b3⟩
    rw [hgv.out]
    simp only [rok]
    have t3 := t2.next b3
    clear b3 y1 y2 y3 m1 n2 t2
    have y1 := t3.size
    have y6 := t3.r0
    have y7 := t3.r1
    have y8 := t3.f 0
    have y9 := t3.f 1
    have c3 := t3.below
    go_wp2_with fail
    exact bodyPost_ret (v := .tuple #[.agg #[.int .i64 n0, .int .i64 d0], .int .i64 e0]) (by simp [results, Try.results10, go_sem, y6, y7]) rfl ⟨by rw [← hR.out], by repeat (first | exact c3 | refine below_drewN ?_ _ | refine Below.drew ?_ | refine Below.setCell ?_ (by simp; try omega) _)⟩
  have f1 : (p == 0) = false := by simp [m0]
  have f2 : (p != 0) = true := by simp [m0]
  obtain ⟨g1, hg1⟩ : ∃ f1, decide (p < 0) = f1 := ⟨_, rfl⟩
  obtain ⟨g2, hg2⟩ : ∃ f2, decide (q < 0) = f2 := ⟨_, rfl⟩
  have hgv : Hid (gv (g1 != g2) p.natAbs q.natAbs = (⟨n0, d0⟩, e0)) := hgo.out _ (by rw [hg1, hg2, decide_eq_true m0]; simp)
  clear m0 k0 hp hq HR hgo
  cases g1 <;> cases g2
  all_goals
    try simp only [bne_self_eq_false, Bool.bne_true, Bool.bne_false, Bool.not_false] at hgv
    go_enter Try.func10, Try.ntmps10
    go_wp2_with fail
    refine (Of_x p _ hP.out).mono ?_
    rintro e w1 ⟨v1, rfl, n1, l1, b1⟩
    have t1 := (Res1.start w 23).next b1
    clear b1
    have y1 := t1.size
    have y2 := t1.r0
    have y3 := t1.r1
    go_wp2_with fail
    refine (Of_x q _ hQ.out).mono ?_
    rintro e w2 ⟨v2, rfl, n2, l2, b2⟩
    have t2 := t1.next b2
    have m1 := n1.below b2
    clear b2 y1 y2 y3 n1 l1 l2 t1
    have y1 := t2.size
    have y2 := t2.r0
    have y3 := t2.r1
    go_wp2_with fail
    refine (Give_x _ v1 v2 p.natAbs q.natAbs _ m1 n2 hD0.out hN1.out hD1.out).mono ?_
    rintro e w3 ⟨rfl, b3⟩
    rw [hgv.out]
    simp only [rok]
    have t3 := t2.next b3
    clear b3 y1 y2 y3 m1 n2 t2
    have y1 := t3.size
    have y6 := t3.r0
    have y7 := t3.r1
    have y8 := t3.f 0
    have y9 := t3.f 1
    have c3 := t3.below
    go_wp2_with fail
    exact bodyPost_ret (v := .tuple #[.agg #[.int .i64 n0, .int .i64 d0], .int .i64 e0]) (by simp [results, Try.results10, go_sem, y6, y7]) rfl ⟨by rw [← hR.out], by repeat (first | exact c3 | refine below_drewN ?_ _ | refine Below.drew ?_ | refine Below.setCell ?_ (by simp; try omega) _)⟩

end Go.Proofs.Ytnddfngdlmdmhaa
