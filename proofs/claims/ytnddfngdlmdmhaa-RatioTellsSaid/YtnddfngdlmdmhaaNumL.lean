/-
  The reference's Compare.
-/
import Derived.Test.YtnddfngdlmdmhaaNumG
namespace Go.Proofs.Ytnddfngdlmdmhaa
open Go.RowKit

/-- the blocks of two operands -/
structure Two (w : World) (a b : Rt.R) (W : World) : Prop where
  below : Below w.heap.size w W
  size : w.heap.size + 1 < W.heap.size
  a0 : W.cell? ⟨w.heap.size, 0, none⟩ = some (.int .i64 a.n)
  a1 : W.cell? ⟨w.heap.size, 1, none⟩ = some (.int .i64 a.d)
  b0 : W.cell? ⟨w.heap.size + 1, 0, none⟩ = some (.int .i64 b.n)
  b1 : W.cell? ⟨w.heap.size + 1, 1, none⟩ = some (.int .i64 b.d)
theorem Two.next {w : World} {a b : Rt.R} {W W' : World} (h : Two w a b W) (hb : Below W.heap.size W W') : Two w a b W' := by
  have s := h.size
  refine ⟨chain h.below hb, by have := hb.size; omega, ?_, ?_, ?_, ?_⟩
  · rw [hb.cell (p := ⟨w.heap.size, 0, none⟩) (by show w.heap.size < _; omega)]; exact h.a0
  · rw [hb.cell (p := ⟨w.heap.size, 1, none⟩) (by show w.heap.size < _; omega)]; exact h.a1
  · rw [hb.cell (p := ⟨w.heap.size + 1, 0, none⟩) (by show w.heap.size + 1 < _; omega)]; exact h.b0
  · rw [hb.cell (p := ⟨w.heap.size + 1, 1, none⟩) (by show w.heap.size + 1 < _; omega)]; exact h.b1
theorem Two.drew {w : World} {a b : Rt.R} {W : World} (h : Two w a b W) : Two w a b W.drew := h.next (Below.drew (Below.refl _ _))
theorem Two.start (w : World) (a b : Rt.R) (T : TypeId) : Two w a b ((w.alloc (.cells #[.int .i64 a.n, .int .i64 a.d] T)).alloc (.cells #[.int .i64 b.n, .int .i64 b.d] T)) := by
  obtain ⟨_, p1, p2⟩ := (At.new w a T _ rfl).alloc (.cells #[.int .i64 b.n, .int .i64 b.d] T)
  obtain ⟨_, q1, q2⟩ := At.new (w.alloc (.cells #[.int .i64 a.n, .int .i64 a.d] T)) b T (w.heap.size + 1) (by simp)
  exact ⟨((Below.refl _ _).alloc (Nat.le_refl _) _).alloc (by simp) _, by simp, p1, p2, q1, q2⟩
structure Tw (w : World) (a b : Rt.R) (W : World) : Prop where
  out : Two w a b W
theorem Tw.next {w : World} {a b : Rt.R} {W W' : World} (k : Tw w a b W) (hb : Below W.heap.size W W') : Tw w a b W' := ⟨k.out.next hb⟩
theorem sk_two {w : World} {a b : Rt.R} {w' : World} (k : Tw w a b w') : w.heap.size + 1 < w'.heap.size ∧ w'.cell? ⟨w.heap.size, 0, none⟩ = some (.int .i64 a.n) ∧ w'.cell? ⟨w.heap.size, 1, none⟩ = some (.int .i64 a.d) ∧ w'.cell? ⟨w.heap.size + 1, 0, none⟩ = some (.int .i64 b.n) ∧ w'.cell? ⟨w.heap.size + 1, 1, none⟩ = some (.int .i64 b.d) :=
  have t := k.out; ⟨t.size, t.a0, t.a1, t.b0, t.b1⟩

set_option maxHeartbeats 6400000 in
set_option maxRecDepth 100000 in
theorem CompareR_x (a b : Rt.R) (w : World) (ha : In a) (hb : In b) : Calls Try.prog 22 #[rv a, rv b] w fun e w' => e = .returned (.int .i64 (Rt.cmp a b)) ∧ Below w.heap.size w w' := by
  have hA := Lib.hid ha
  have hB := Lib.hid hb
  clear ha hb
  cases ra : Rt.right a with
  | false =>
    have hv : Hid (Rt.cmp a b = 0) := by show _ = _; unfold Rt.cmp; rw [ra]; rfl
    have Ra := Lib.hid ra
    clear ra
    go_enter Try.func22, Try.ntmps22
    go_wp2_with fail
    refine (RightR_x a _ hA.out).mono ?_
    rintro e w1 ⟨rfl, b1⟩
    have t1 := (Two.start w a b 23).next b1
    clear b1
    rw [Ra.out]
    have y1 := t1.size
    have y2 := t1.a0
    have y3 := t1.a1
    have y4 := t1.b0
    have y5 := t1.b1
    go_wp2_with fail
    go_ret
    exact ⟨by rw [hv.out]; try rfl, by repeat (first | exact t1.below | refine below_drewN ?_ _ | refine Below.drew ?_)⟩
  | true =>
    have Ra := Lib.hid ra
    cases rb : Rt.right b with
    | false =>
      have hv : Hid (Rt.cmp a b = 0) := by show _ = _; unfold Rt.cmp; rw [ra, rb]; rfl
      have Rb := Lib.hid rb
      clear ra rb
      go_enter Try.func22, Try.ntmps22
      go_wp2_with fail
      refine (RightR_x a _ hA.out).mono ?_
      rintro e w1 ⟨rfl, b1⟩
      have t1 := (Two.start w a b 23).next b1
      clear b1
      rw [Ra.out]
      have y1 := t1.size
      have y2 := t1.a0
      have y3 := t1.a1
      have y4 := t1.b0
      have y5 := t1.b1
      go_wp2_with fail
      refine (RightR_x b _ hB.out).mono ?_
      rintro e w2 ⟨rfl, b2⟩
      have t2 := t1.next b2
      clear b2 t1
      clear y1 y2 y3 y4 y5
      rw [Rb.out]
      have y1 := t2.size
      have y2 := t2.a0
      have y3 := t2.a1
      have y4 := t2.b0
      have y5 := t2.b1
      go_wp2_with fail
      go_ret
      exact ⟨by rw [hv.out]; try rfl, by repeat (first | exact t2.below | refine below_drewN ?_ _ | refine Below.drew ?_)⟩
    | true =>
      have Rb := Lib.hid rb
      have iA : Hid (I64 a.n ∧ I64 a.d) := hA.out
      have iB : Hid (I64 b.n ∧ I64 b.d) := hB.out
      obtain ⟨a1, a2, a3⟩ := right_small ra
      obtain ⟨b1, b2, b3⟩ := right_small rb
      obtain ⟨V, hV⟩ : ∃ V : Int, V = (a.n * b.d) + (-(b.n * a.d)) := ⟨_, rfl⟩
      have hx1 : Hid (a.n * b.d = if decide (a.n < 0) = true then -((a.n.natAbs * b.d.natAbs : Nat) : Int) else ((a.n.natAbs * b.d.natAbs : Nat) : Int)) := sgn_if a.n b.d (by omega)
      have hy1 : Hid ((-(b.n * a.d)) = if decide (0 ≤ b.n) = true then -((b.n.natAbs * a.d.natAbs : Nat) : Int) else ((b.n.natAbs * a.d.natAbs : Nat) : Int)) := sgn_if' b.n a.d (by omega)
      have hX5 : Hid (a.n.natAbs * b.d.natAbs < Dg.pw 5) := lt_pw (prod_lt a1 b2).1
      have hY5 : Hid (b.n.natAbs * a.d.natAbs < Dg.pw 5) := lt_pw (prod_lt b1 a2).1
      have hN1 : V.natAbs < 2 ^ 140 := sum_lt hV (Int.natAbs_mul _ _) (by rw [Int.natAbs_neg]; exact Int.natAbs_mul _ _) (prod_lt a1 b2).2 (prod_lt b1 a2).2
      have hlv : Hid (V.natAbs < Dg.pw 5) := lt_pw hN1
      have hc : Hid (Rt.cmp a b = if V < 0 then -1 else if 0 < V then 1 else 0) := by
        show _ = _
        unfold Rt.cmp
        rw [ra, rb, hV]
        simp only [Bool.and_self, if_true]
        have e1 : (a.n * b.d + -(b.n * a.d) < 0) = (a.n * b.d < b.n * a.d) := by rw [eq_iff_iff]; omega
        have e2 : (0 < a.n * b.d + -(b.n * a.d)) = (b.n * a.d < a.n * b.d) := by rw [eq_iff_iff]; omega
        simp only [e1, e2]
      have HV := Lib.hid hV
      clear ra rb a1 a2 a3 b1 b2 b3 hV hN1
      go_enter Try.func22, Try.ntmps22
      go_wp2_with fail
      refine (RightR_x a _ hA.out).mono ?_
      rintro e w1 ⟨rfl, b1⟩
      have t1 := (Two.start w a b 23).next b1
      clear b1
      rw [Ra.out]
      have y1 := t1.size
      have y2 := t1.a0
      have y3 := t1.a1
      have y4 := t1.b0
      have y5 := t1.b1
      go_wp2_with fail
      refine (RightR_x b _ hB.out).mono ?_
      rintro e w2 ⟨rfl, b2⟩
      have t2 := t1.next b2
      clear b2 t1
      clear y1 y2 y3 y4 y5
      rw [Rb.out]
      have y1 := t2.size
      have y2 := t2.a0
      have y3 := t2.a1
      have y4 := t2.b0
      have y5 := t2.b1
      go_wp2_with fail
      clear y1 y2 y3 y4 y5
      have y1 := t2.size
      have y2 := t2.a0
      have y3 := t2.a1
      have y4 := t2.b0
      have y5 := t2.b1
      have hT : Tw w a b _ := ⟨t2⟩
      have hT' : Tw w a b _ := ⟨t2.drew⟩
      go_region_held3 (fun w' => w.heap.size + 1 < w'.heap.size ∧ w'.cell? ⟨w.heap.size, 0, none⟩ = some (.int .i64 a.n) ∧ w'.cell? ⟨w.heap.size, 1, none⟩ = some (.int .i64 a.d) ∧ w'.cell? ⟨w.heap.size + 1, 0, none⟩ = some (.int .i64 b.n) ∧ w'.cell? ⟨w.heap.size + 1, 1, none⟩ = some (.int .i64 b.d))
        (first
          | exact sk_two hT
          | exact sk_two hT'
          | exact sk_two (by assumption))
        (first
          | (go_at_call 36; refine (Of_x _ _ (by first | exact iA.out.1 | exact iA.out.2 | exact iB.out.1 | exact iB.out.2)).mono ?_; rintro e w' ⟨v, rfl, hn, hl, hb⟩; have hx : Nxt _ w' := ⟨hb⟩; have hk : Tw w a b w' := Tw.next (by assumption) hb; have hm : Nm w' v _ := ⟨hn⟩; have hy : Lt5 _ := ⟨hl⟩; clear hn hl)
          | (go_at_call 48; first
              | (refine (Times_x _ _ a.n.natAbs b.d.natAbs _ ?_ ?_ ?_).mono ?_; (focus (refine Nm.out ?_; (repeat (first | assumption | apply Nm.drew | (apply Nm.nxt2; assumption))); done)); (focus (refine Nm.out ?_; (repeat (first | assumption | apply Nm.drew | (apply Nm.nxt2; assumption))); done)); (focus (refine Lt5.out ?_; assumption)))
              | (refine (Times_x _ _ b.n.natAbs a.d.natAbs _ ?_ ?_ ?_).mono ?_; (focus (refine Nm.out ?_; (repeat (first | assumption | apply Nm.drew | (apply Nm.nxt2; assumption))); done)); (focus (refine Nm.out ?_; (repeat (first | assumption | apply Nm.drew | (apply Nm.nxt2; assumption))); done)); (focus (refine Lt5.out ?_; assumption)))
             rintro e w' ⟨v, rfl, hn, hb⟩; have hx : Nxt _ w' := ⟨hb⟩; have hk : Tw w a b w' := Tw.next (by assumption) hb; have hm : Nm w' v _ := ⟨hn⟩; clear hn)
          | (go_at_call 47; refine (Sum_x _ _ (a.n.natAbs * b.d.natAbs) (b.n.natAbs * a.d.natAbs) _ _ (a.n * b.d) (-(b.n * a.d)) _ hx1.out hy1.out ?_ ?_ hX5.out hY5.out).mono ?_; (focus (refine Nm.out ?_; (repeat (first | assumption | apply Nm.drew | (apply Nm.nxt2; assumption))); done)); (focus (refine Nm.out ?_; (repeat (first | assumption | apply Nm.drew | (apply Nm.nxt2; assumption))); done)); rintro e w' ⟨u, f, rfl, hn, hf1, hf2, hb⟩; have hx : Nxt _ w' := ⟨hb⟩; have hk : Tw w a b w' := Tw.next (by assumption) hb; have hm : Nm w' u _ := ⟨hn⟩; have hF1 := Lib.hid hf1; have hF2 := Lib.hid hf2; clear hn hf1 hf2))
      rename_i hHeld
      have t3 : Two w a b w' := hk.out
      have hu : Nm w' u ((a.n * b.d) + (-(b.n * a.d))).natAbs := by assumption
      have F1 := Lib.hid hF1.out
      have F2 := Lib.hid hF2.out
      obtain ⟨w3, hw⟩ : ∃ x, x = w' := ⟨w', rfl⟩
      subst hw
      clear hHeld hT hT' hk hx hb hF1 hF2
      clear y1 y2 y3 y4 y5
      have hu2 : Nm w3 u V.natAbs := by rw [HV.out]; exact hu
      have G1 : f = true → V ≤ 0 := by rw [HV.out]; exact F1.out
      have G2 : f = false → 0 ≤ V := by rw [HV.out]; exact F2.out
      clear hm hu F1 F2 HV hx1 hy1
      by_cases z0 : V = 0
      · have hv : Hid (Rt.cmp a b = 0) := by show _ = _; rw [hc.out, z0]; rfl
        have hz : Hid (decide (V.natAbs = 0) = true) := by show _ = _; rw [z0]; rfl
        clear z0 G1 G2 hc
        go_wp2_with fail
        refine (Zero_x _ _ _ hu2.out hlv.out).mono ?_
        rintro e w4 ⟨rfl, b4⟩
        have t4 := t3.next b4
        clear b4 t3
        rw [hz.out]
        go_wp2_with fail
        go_ret
        exact ⟨by rw [hv.out]; try rfl, by repeat (first | exact t4.below | refine below_drewN ?_ _ | refine Below.drew ?_)⟩
      have hz : Hid (decide (V.natAbs = 0) = false) := decide_eq_false (by omega)
      cases f with
      | true =>
        have hv : Hid (Rt.cmp a b = -1) := by
          have := G1 rfl
          show _ = _
          rw [hc.out, if_pos (by omega)]
        clear z0 G1 G2 hc
        go_wp2_with fail
        refine (Zero_x _ _ _ hu2.out hlv.out).mono ?_
        rintro e w4 ⟨rfl, b4⟩
        have t4 := t3.next b4
        clear b4 t3
        rw [hz.out]
        go_wp2_with fail
        go_ret
        exact ⟨by rw [hv.out]; try rfl, by repeat (first | exact t4.below | refine below_drewN ?_ _ | refine Below.drew ?_)⟩
      | false =>
        have hv : Hid (Rt.cmp a b = 1) := by
          have := G2 rfl
          show _ = _
          rw [hc.out, if_neg (by omega), if_pos (by omega)]
        clear z0 G1 G2 hc
        go_wp2_with fail
        refine (Zero_x _ _ _ hu2.out hlv.out).mono ?_
        rintro e w4 ⟨rfl, b4⟩
        have t4 := t3.next b4
        clear b4 t3
        rw [hz.out]
        go_wp2_with fail
        go_ret
        exact ⟨by rw [hv.out]; try rfl, by repeat (first | exact t4.below | refine below_drewN ?_ _ | refine Below.drew ?_)⟩

end Go.Proofs.Ytnddfngdlmdmhaa
