/-
  The reference's Div.
-/
import Derived.Test.YtnddfngdlmdmhaaNumI
namespace Go.Proofs.Ytnddfngdlmdmhaa
open Go.RowKit

set_option maxHeartbeats 6400000 in
set_option maxRecDepth 100000 in
theorem DivR_x (a b : Rt.R) (w : World) (ha : In a) (hb : In b) : Calls Try.prog 20 #[rv a, rv b] w fun e w' => e = .returned (rok (Rt.div a b)) ∧ Below w.heap.size w w' := by
  have hA := Lib.hid ha
  have hB := Lib.hid hb
  clear ha hb
  cases ra : Rt.right a with
  | false =>
    have hv : Hid (Rt.div a b = (⟨0, 0⟩, 1)) := by unfold Rt.div; split <;> first | rfl | exact Rt.two_not (by rw [ra]; simp) _ _
    have Ra := Lib.hid ra
    clear ra
    go_enter Try.func20, Try.ntmps20
    go_wp2_with fail
    refine (RightR_x a _ hA.out).mono ?_
    rintro e w1 ⟨rfl, b1⟩
    have t1 := (Three.start w a b 23).next b1
    clear b1
    rw [Ra.out]
    have y1 := t1.size
    have y2 := t1.a0
    have y3 := t1.a1
    have y4 := t1.b0
    have y5 := t1.b1
    have y6 := t1.r0
    have y7 := t1.r1
    have y8 := t1.f 0
    have y9 := t1.f 1
    go_wp2_with fail
    exact bodyPost_ret (v := .tuple #[.agg #[.int .i64 0, .int .i64 0], .int .i64 1]) (by simp [results, Try.results20, go_sem, y6, y7]) rfl ⟨by rw [hv.out]; try rfl, by repeat (first | exact t1.below | refine below_drewN ?_ _ | refine Below.drew ?_ | refine Below.setCell ?_ (by simp; omega) _)⟩
  | true =>
    have Ra := Lib.hid ra
    cases rb : Rt.right b with
    | false =>
      have hv : Hid (Rt.div a b = (⟨0, 0⟩, 1)) := by unfold Rt.div; split <;> first | rfl | exact Rt.two_not (by rw [rb]; simp) _ _
      have Rb := Lib.hid rb
      clear ra rb
      go_enter Try.func20, Try.ntmps20
      go_wp2_with fail
      refine (RightR_x a _ hA.out).mono ?_
      rintro e w1 ⟨rfl, b1⟩
      have t1 := (Three.start w a b 23).next b1
      clear b1
      rw [Ra.out]
      have y1 := t1.size
      have y2 := t1.a0
      have y3 := t1.a1
      have y4 := t1.b0
      have y5 := t1.b1
      have y6 := t1.r0
      have y7 := t1.r1
      have y8 := t1.f 0
      have y9 := t1.f 1
      go_wp2_with fail
      refine (RightR_x b _ hB.out).mono ?_
      rintro e w2 ⟨rfl, b2⟩
      have t2 := t1.next b2
      clear b2 t1
      clear y1 y2 y3 y4 y5 y6 y7 y8 y9
      rw [Rb.out]
      have y1 := t2.size
      have y2 := t2.a0
      have y3 := t2.a1
      have y4 := t2.b0
      have y5 := t2.b1
      have y6 := t2.r0
      have y7 := t2.r1
      have y8 := t2.f 0
      have y9 := t2.f 1
      go_wp2_with fail
      exact bodyPost_ret (v := .tuple #[.agg #[.int .i64 0, .int .i64 0], .int .i64 1]) (by simp [results, Try.results20, go_sem, y6, y7]) rfl ⟨by rw [hv.out]; try rfl, by repeat (first | exact t2.below | refine below_drewN ?_ _ | refine Below.drew ?_ | refine Below.setCell ?_ (by simp; omega) _)⟩
    | true =>
      have Rb := Lib.hid rb
      have iA : Hid (I64 a.n ∧ I64 a.d) := hA.out
      have iB : Hid (I64 b.n ∧ I64 b.d) := hB.out
      obtain ⟨a1, a2, a3⟩ := right_small ra
      obtain ⟨b1, b2, b3⟩ := right_small rb
      by_cases k0 : b.n = 0
      · have hv : Hid (Rt.div a b = (⟨0, 0⟩, 1)) := by show _ = _; unfold Rt.div; rw [if_pos k0]
        have k1 : (b.n == 0) = true := by simp [k0]
        clear ra rb a1 a2 a3 b1 b2 b3 iA iB k0
        go_enter Try.func20, Try.ntmps20
        go_wp2_with fail
        refine (RightR_x a _ hA.out).mono ?_
        rintro e w1 ⟨rfl, b1⟩
        have t1 := (Three.start w a b 23).next b1
        clear b1
        rw [Ra.out]
        have y1 := t1.size
        have y2 := t1.a0
        have y3 := t1.a1
        have y4 := t1.b0
        have y5 := t1.b1
        have y6 := t1.r0
        have y7 := t1.r1
        have y8 := t1.f 0
        have y9 := t1.f 1
        go_wp2_with fail
        refine (RightR_x b _ hB.out).mono ?_
        rintro e w2 ⟨rfl, b2⟩
        have t2 := t1.next b2
        clear b2 t1
        clear y1 y2 y3 y4 y5 y6 y7 y8 y9
        rw [Rb.out]
        have y1 := t2.size
        have y2 := t2.a0
        have y3 := t2.a1
        have y4 := t2.b0
        have y5 := t2.b1
        have y6 := t2.r0
        have y7 := t2.r1
        have y8 := t2.f 0
        have y9 := t2.f 1
        go_wp2_with fail
        exact bodyPost_ret (v := .tuple #[.agg #[.int .i64 0, .int .i64 0], .int .i64 1]) (by simp [results, Try.results20, go_sem, y6, y7]) rfl ⟨by rw [hv.out]; try rfl, by repeat (first | exact t2.below | refine below_drewN ?_ _ | refine Below.drew ?_ | refine Below.setCell ?_ (by simp; omega) _)⟩
      have k1 : (b.n == 0) = false := by simp [k0]
      have hN1 : Hid (a.n.natAbs * b.d.natAbs < 2 ^ 140) := (prod_lt a1 b2).1
      have hD0 : Hid (0 < a.d.natAbs * b.n.natAbs) := Nat.mul_pos (by omega) (by omega)
      have hD1 : Hid (a.d.natAbs * b.n.natAbs < 2 ^ 140) := (prod_lt a2 b1).1
      obtain ⟨⟨⟨n0, d0⟩, e0⟩, HR⟩ : ∃ R, R = Rt.div a b := ⟨_, rfl⟩
      have hR := Lib.hid HR
      have hgo : Hid (∀ neg : Bool, neg = (decide ((a.n * b.d) ≠ 0) && (decide ((a.n * b.d) < 0) != decide ((a.d * b.n) < 0))) → gv neg (a.n.natAbs * b.d.natAbs) (a.d.natAbs * b.n.natAbs) = (⟨n0, d0⟩, e0)) := by
        intro neg hneg
        rw [hneg, ← Int.natAbs_mul, ← Int.natAbs_mul, natAbs_sgn (by exact (sg_two (by omega) k0).2), HR]
        unfold Rt.div
        rw [if_neg k0, Rt.two_right ra rb]
      have s1 := (sg_pos (x := a.n) (show 0 < b.d by omega)).1
      have s2 := (sg_pos (x := a.n) (show 0 < b.d by omega)).2
      have s3 : decide (a.d * b.n < 0) = decide (b.n < 0) := by rw [Int.mul_comm]; exact (sg_pos (x := b.n) (show 0 < a.d by omega)).1
      by_cases m0 : a.n = 0
      · have hgv : Hid (gv false (a.n.natAbs * b.d.natAbs) (a.d.natAbs * b.n.natAbs) = (⟨n0, d0⟩, e0)) := hgo.out _ (by rw [s2, m0]; simp)
        have m1 : (a.n == 0) = true := by simp [m0]
        have m2 : (a.n != 0) = false := by simp [m0]
        clear s1 s2 s3 m0 k0
        clear ra rb a1 a2 a3 b1 b2 b3 HR hgo
        go_enter Try.func20, Try.ntmps20
        go_wp2_with fail
        refine (RightR_x a _ hA.out).mono ?_
        rintro e w1 ⟨rfl, b1⟩
        have t1 := (Three.start w a b 23).next b1
        clear b1
        rw [Ra.out]
        have y1 := t1.size
        have y2 := t1.a0
        have y3 := t1.a1
        have y4 := t1.b0
        have y5 := t1.b1
        have y6 := t1.r0
        have y7 := t1.r1
        have y8 := t1.f 0
        have y9 := t1.f 1
        go_wp2_with fail
        refine (RightR_x b _ hB.out).mono ?_
        rintro e w2 ⟨rfl, b2⟩
        have t2 := t1.next b2
        clear b2 t1
        clear y1 y2 y3 y4 y5 y6 y7 y8 y9
        rw [Rb.out]
        have y1 := t2.size
        have y2 := t2.a0
        have y3 := t2.a1
        have y4 := t2.b0
        have y5 := t2.b1
        have y6 := t2.r0
        have y7 := t2.r1
        have y8 := t2.f 0
        have y9 := t2.f 1
        go_wp2_with fail
        clear y1 y2 y3 y4 y5 y6 y7 y8 y9
        have y1 := t2.size
        have y2 := t2.a0
        have y3 := t2.a1
        have y4 := t2.b0
        have y5 := t2.b1
        have y6 := t2.r0
        have y7 := t2.r1
        have y8 := t2.f 0
        have y9 := t2.f 1
        have hT : Tk w a b _ := ⟨t2⟩
        have hT' : Tk w a b _ := ⟨t2.drew⟩
        refine wp_region_held_drew (S := fun w' => w.heap.size + 1 + 1 < w'.heap.size ∧ w'.cell? ⟨w.heap.size, 0, none⟩ = some (.int .i64 a.n) ∧ w'.cell? ⟨w.heap.size, 1, none⟩ = some (.int .i64 a.d) ∧ w'.cell? ⟨w.heap.size + 1, 0, none⟩ = some (.int .i64 b.n) ∧ w'.cell? ⟨w.heap.size + 1, 1, none⟩ = some (.int .i64 b.d)) (by kernel_rfl) ?_ (fun hHeld => ?_)
        · (first
            | exact sk_all hT
            | exact sk_all hT'
            | exact sk_all (by assumption)
            | exact sk_set (sk_set (sk_all (by assumption))))
        refine takeN0 (v := ?_) (by kernel_rfl) (by kernel_rfl) (by kernel_rfl) (fun _ _ _ h => h) (by rfl) ?_ (by assumption) ?_
        rotate_left
        · intro w hSw
          try dsimp only at hSw
          go_simp
          try with_reducible rfl
        try simp only [Act.put, List.setIfInBounds_toArray, List.set_cons_zero, List.set_cons_succ]
        refine takeN1 (v := ?_) (by kernel_rfl) (by kernel_rfl) (by kernel_rfl) (fun _ _ _ h => h) (by rfl) ?_ (by assumption) ?_
        rotate_left
        · intro w hSw
          try dsimp only at hSw
          go_simp
          try with_reducible rfl
        try simp only [Act.put, List.setIfInBounds_toArray, List.set_cons_zero, List.set_cons_succ]
        refine takeN2 (v := ?_) (by kernel_rfl) (by kernel_rfl) (by kernel_rfl) (fun _ _ _ h => h) (by rfl) ?_ (by assumption) ?_
        rotate_left
        · intro w hSw
          try dsimp only at hSw
          go_simp
          try with_reducible rfl
        try simp only [Act.put, List.setIfInBounds_toArray, List.set_cons_zero, List.set_cons_succ]
        refine takeN3 (v := ?_) (by kernel_rfl) (by kernel_rfl) (by kernel_rfl) (fun _ _ _ h => h) (by rfl) ?_ (by assumption) ?_
        rotate_left
        · intro w hSw
          try dsimp only at hSw
          go_simp
          try with_reducible rfl
        try simp only [Act.put, List.setIfInBounds_toArray, List.set_cons_zero, List.set_cons_succ]
        refine passN4 (by kernel_rfl) (by kernel_rfl) (by kernel_rfl) (fun _ _ _ h => h) (by rfl) (by assumption) ?_
        try simp only [Act.put, List.setIfInBounds_toArray, List.set_cons_zero, List.set_cons_succ]
        refine passN5 (by kernel_rfl) (by kernel_rfl) (by kernel_rfl) (fun _ _ _ h => h) (by rfl) (by assumption) ?_
        try simp only [Act.put, List.setIfInBounds_toArray, List.set_cons_zero, List.set_cons_succ]
        refine passN6 (by kernel_rfl) (by kernel_rfl) (by kernel_rfl) (fun _ _ _ h => h) (by rfl) (by assumption) ?_
        try simp only [Act.put, List.setIfInBounds_toArray, List.set_cons_zero, List.set_cons_succ]
        refine passN7 (by kernel_rfl) (by kernel_rfl) (by kernel_rfl) (fun _ _ _ h => h) (by rfl) (by assumption) ?_
        try simp only [Act.put, List.setIfInBounds_toArray, List.set_cons_zero, List.set_cons_succ]
        refine passN8 (by kernel_rfl) (by kernel_rfl) (by kernel_rfl) (fun _ _ _ h => h) (by rfl) (by assumption) ?_
        try simp only [Act.put, List.setIfInBounds_toArray, List.set_cons_zero, List.set_cons_succ]
        refine passN9 (by kernel_rfl) (by kernel_rfl) (by kernel_rfl) (fun _ _ _ h => h) (by rfl) (by assumption) ?_
        try simp only [Act.put, List.setIfInBounds_toArray, List.set_cons_zero, List.set_cons_succ]
        refine passN10 (by kernel_rfl) (by kernel_rfl) (by kernel_rfl) (fun _ _ _ h => h) (by rfl) (by assumption) ?_
        try simp only [Act.put, List.setIfInBounds_toArray, List.set_cons_zero, List.set_cons_succ]
        refine takeN11 (v := ?_) (by kernel_rfl) (by kernel_rfl) (by kernel_rfl) (fun _ _ _ h => h) (by rfl) ?_ (by assumption) ?_
        rotate_left
        · intro w hSw
          try dsimp only at hSw
          go_simp
          try with_reducible rfl
        try simp only [Act.put, List.setIfInBounds_toArray, List.set_cons_zero, List.set_cons_succ]
        refine takeN12 (v := ?_) (by kernel_rfl) (by kernel_rfl) (by kernel_rfl) (fun _ _ _ h => h) (by rfl) ?_ (by assumption) ?_
        rotate_left
        · intro w hSw
          try dsimp only at hSw
          go_simp
          try with_reducible rfl
        try simp only [Act.put, List.setIfInBounds_toArray, List.set_cons_zero, List.set_cons_succ]
        refine takeN13 (v := ?_) (by kernel_rfl) (by kernel_rfl) (by kernel_rfl) (fun _ _ _ h => h) (by rfl) ?_ (by assumption) ?_
        rotate_left
        · intro w hSw
          try dsimp only at hSw
          go_simp
          try with_reducible rfl
        try simp only [Act.put, List.setIfInBounds_toArray, List.set_cons_zero, List.set_cons_succ]
        refine takeN15 (v := ?_) (by kernel_rfl) (by kernel_rfl) (by kernel_rfl) (fun _ _ _ h => h) (by rfl) ?_ (by assumption) ?_
        rotate_left
        · intro w hSw
          try dsimp only at hSw
          go_simp
          try with_reducible rfl
        try simp only [Act.put, List.setIfInBounds_toArray, List.set_cons_zero, List.set_cons_succ]
        refine takeN16 (v := ?_) (by kernel_rfl) (by kernel_rfl) (by kernel_rfl) (fun _ _ _ h => h) (by rfl) ?_ (by assumption) ?_
        rotate_left
        · intro w hSw
          try dsimp only at hSw
          go_simp
          try with_reducible rfl
        try simp only [Act.put, List.setIfInBounds_toArray, List.set_cons_zero, List.set_cons_succ]
        refine takeN19 (v := ?_) (by kernel_rfl) (by kernel_rfl) (by kernel_rfl) (fun _ _ _ h => h) (by rfl) ?_ (by assumption) ?_
        rotate_left
        · intro w hSw
          try dsimp only at hSw
          go_simp
          try with_reducible rfl
        try simp only [Act.put, List.setIfInBounds_toArray, List.set_cons_zero, List.set_cons_succ]
        refine takeN20 (v := ?_) (by kernel_rfl) (by kernel_rfl) (by kernel_rfl) (fun _ _ _ h => h) (by rfl) ?_ (by assumption) ?_
        rotate_left
        · intro w hSw
          try dsimp only at hSw
          go_simp
          try with_reducible rfl
        try simp only [Act.put, List.setIfInBounds_toArray, List.set_cons_zero, List.set_cons_succ]
        refine takeN22 (v := ?_) (by kernel_rfl) (by kernel_rfl) (by kernel_rfl) (fun _ _ _ h => h) (by rfl) ?_ (by assumption) ?_
        rotate_left
        · intro w hSw
          try dsimp only at hSw
          go_simp
          try with_reducible rfl
        try simp only [Act.put, List.setIfInBounds_toArray, List.set_cons_zero, List.set_cons_succ]
        refine takeN23 (v := ?_) (by kernel_rfl) (by kernel_rfl) (by kernel_rfl) (fun _ _ _ h => h) (by rfl) ?_ (by assumption) ?_
        rotate_left
        · intro w hSw
          try dsimp only at hSw
          go_simp
          try with_reducible rfl
        try simp only [Act.put, List.setIfInBounds_toArray, List.set_cons_zero, List.set_cons_succ]
        refine comeN14 (by kernel_rfl) (by rfl) (fun K hK => ?_)
        go_simp
        first
            | (go_at_call 36; refine (Of_x _ _ (by first | exact iA.out.1 | exact iA.out.2 | exact iB.out.1 | exact iB.out.2)).mono ?_; rintro e w' ⟨v, rfl, hn, hl, hb⟩; have hx : Nxt _ w' := ⟨hb⟩; have hk : Tk w a b w' := Tk.next (by assumption) hb; have hm : Nm w' v _ := ⟨hn⟩; have hy : Lt5 _ := ⟨hl⟩; clear hn hl)
            | (go_at_call 48; first
                | (refine (Times_x _ _ a.n.natAbs b.d.natAbs _ ?_ ?_ ?_).mono ?_; (focus (refine Nm.out ?_; (repeat (first | assumption | apply Nm.drew | (apply Nm.nxt2; assumption))); done)); (focus (refine Nm.out ?_; (repeat (first | assumption | apply Nm.drew | (apply Nm.nxt2; assumption))); done)); (focus (refine Lt5.out ?_; assumption)))
                | (refine (Times_x _ _ a.d.natAbs b.n.natAbs _ ?_ ?_ ?_).mono ?_; (focus (refine Nm.out ?_; (repeat (first | assumption | apply Nm.drew | (apply Nm.nxt2; assumption))); done)); (focus (refine Nm.out ?_; (repeat (first | assumption | apply Nm.drew | (apply Nm.nxt2; assumption))); done)); (focus (refine Lt5.out ?_; assumption)))
               rintro e w' ⟨v, rfl, hn, hb⟩; have hx : Nxt _ w' := ⟨hb⟩; have hk : Tk w a b w' := Tk.next (by assumption) hb; have hm : Nm w' v _ := ⟨hn⟩; clear hn)
            | (go_at_call 35; refine (Give_x _ _ _ (a.n.natAbs * b.d.natAbs) (a.d.natAbs * b.n.natAbs) _ ?_ ?_ hD0.out hN1.out hD1.out).mono ?_; (focus (refine Nm.out ?_; (repeat (first | assumption | apply Nm.drew | (apply Nm.nxt2; assumption))); done)); (focus (refine Nm.out ?_; (repeat (first | assumption | apply Nm.drew | (apply Nm.nxt2; assumption))); done)); rintro e w' ⟨rfl, hb⟩; have hx : Nxt _ w' := ⟨hb⟩; have hk : Tk w a b w' := Tk.next (by assumption) hb; rw [hgv.out]; simp only [rok]; have z0 := hk.out.r0; have z1 := hk.out.r1; have z2 := hk.out.f 0; have z3 := hk.out.f 1)
        try go_wp2_with fail
        refine hK.out _ _ ?_ (fun hHeld => ?_)
        · (first
            | exact sk_all hT
            | exact sk_all hT'
            | exact sk_all (by assumption)
            | exact sk_set (sk_set (sk_all (by assumption))))
        clear hK K
        try simp only [Act.put, List.setIfInBounds_toArray, List.set_cons_zero, List.set_cons_succ]
        refine comeN17 (by kernel_rfl) (by rfl) (fun K hK => ?_)
        go_simp
        first
            | (go_at_call 36; refine (Of_x _ _ (by first | exact iA.out.1 | exact iA.out.2 | exact iB.out.1 | exact iB.out.2)).mono ?_; rintro e w' ⟨v, rfl, hn, hl, hb⟩; have hx : Nxt _ w' := ⟨hb⟩; have hk : Tk w a b w' := Tk.next (by assumption) hb; have hm : Nm w' v _ := ⟨hn⟩; have hy : Lt5 _ := ⟨hl⟩; clear hn hl)
            | (go_at_call 48; first
                | (refine (Times_x _ _ a.n.natAbs b.d.natAbs _ ?_ ?_ ?_).mono ?_; (focus (refine Nm.out ?_; (repeat (first | assumption | apply Nm.drew | (apply Nm.nxt2; assumption))); done)); (focus (refine Nm.out ?_; (repeat (first | assumption | apply Nm.drew | (apply Nm.nxt2; assumption))); done)); (focus (refine Lt5.out ?_; assumption)))
                | (refine (Times_x _ _ a.d.natAbs b.n.natAbs _ ?_ ?_ ?_).mono ?_; (focus (refine Nm.out ?_; (repeat (first | assumption | apply Nm.drew | (apply Nm.nxt2; assumption))); done)); (focus (refine Nm.out ?_; (repeat (first | assumption | apply Nm.drew | (apply Nm.nxt2; assumption))); done)); (focus (refine Lt5.out ?_; assumption)))
               rintro e w' ⟨v, rfl, hn, hb⟩; have hx : Nxt _ w' := ⟨hb⟩; have hk : Tk w a b w' := Tk.next (by assumption) hb; have hm : Nm w' v _ := ⟨hn⟩; clear hn)
            | (go_at_call 35; refine (Give_x _ _ _ (a.n.natAbs * b.d.natAbs) (a.d.natAbs * b.n.natAbs) _ ?_ ?_ hD0.out hN1.out hD1.out).mono ?_; (focus (refine Nm.out ?_; (repeat (first | assumption | apply Nm.drew | (apply Nm.nxt2; assumption))); done)); (focus (refine Nm.out ?_; (repeat (first | assumption | apply Nm.drew | (apply Nm.nxt2; assumption))); done)); rintro e w' ⟨rfl, hb⟩; have hx : Nxt _ w' := ⟨hb⟩; have hk : Tk w a b w' := Tk.next (by assumption) hb; rw [hgv.out]; simp only [rok]; have z0 := hk.out.r0; have z1 := hk.out.r1; have z2 := hk.out.f 0; have z3 := hk.out.f 1)
        try go_wp2_with fail
        refine hK.out _ _ ?_ (fun hHeld => ?_)
        · (first
            | exact sk_all hT
            | exact sk_all hT'
            | exact sk_all (by assumption)
            | exact sk_set (sk_set (sk_all (by assumption))))
        clear hK K
        try simp only [Act.put, List.setIfInBounds_toArray, List.set_cons_zero, List.set_cons_succ]
        refine comeN18 (by kernel_rfl) (by rfl) (fun K hK => ?_)
        go_simp
        first
            | (go_at_call 36; refine (Of_x _ _ (by first | exact iA.out.1 | exact iA.out.2 | exact iB.out.1 | exact iB.out.2)).mono ?_; rintro e w' ⟨v, rfl, hn, hl, hb⟩; have hx : Nxt _ w' := ⟨hb⟩; have hk : Tk w a b w' := Tk.next (by assumption) hb; have hm : Nm w' v _ := ⟨hn⟩; have hy : Lt5 _ := ⟨hl⟩; clear hn hl)
            | (go_at_call 48; first
                | (refine (Times_x _ _ a.n.natAbs b.d.natAbs _ ?_ ?_ ?_).mono ?_; (focus (refine Nm.out ?_; (repeat (first | assumption | apply Nm.drew | (apply Nm.nxt2; assumption))); done)); (focus (refine Nm.out ?_; (repeat (first | assumption | apply Nm.drew | (apply Nm.nxt2; assumption))); done)); (focus (refine Lt5.out ?_; assumption)))
                | (refine (Times_x _ _ a.d.natAbs b.n.natAbs _ ?_ ?_ ?_).mono ?_; (focus (refine Nm.out ?_; (repeat (first | assumption | apply Nm.drew | (apply Nm.nxt2; assumption))); done)); (focus (refine Nm.out ?_; (repeat (first | assumption | apply Nm.drew | (apply Nm.nxt2; assumption))); done)); (focus (refine Lt5.out ?_; assumption)))
               rintro e w' ⟨v, rfl, hn, hb⟩; have hx : Nxt _ w' := ⟨hb⟩; have hk : Tk w a b w' := Tk.next (by assumption) hb; have hm : Nm w' v _ := ⟨hn⟩; clear hn)
            | (go_at_call 35; refine (Give_x _ _ _ (a.n.natAbs * b.d.natAbs) (a.d.natAbs * b.n.natAbs) _ ?_ ?_ hD0.out hN1.out hD1.out).mono ?_; (focus (refine Nm.out ?_; (repeat (first | assumption | apply Nm.drew | (apply Nm.nxt2; assumption))); done)); (focus (refine Nm.out ?_; (repeat (first | assumption | apply Nm.drew | (apply Nm.nxt2; assumption))); done)); rintro e w' ⟨rfl, hb⟩; have hx : Nxt _ w' := ⟨hb⟩; have hk : Tk w a b w' := Tk.next (by assumption) hb; rw [hgv.out]; simp only [rok]; have z0 := hk.out.r0; have z1 := hk.out.r1; have z2 := hk.out.f 0; have z3 := hk.out.f 1)
        try go_wp2_with fail
        refine hK.out _ _ ?_ (fun hHeld => ?_)
        · (first
            | exact sk_all hT
            | exact sk_all hT'
            | exact sk_all (by assumption)
            | exact sk_set (sk_set (sk_all (by assumption))))
        clear hK K
        try simp only [Act.put, List.setIfInBounds_toArray, List.set_cons_zero, List.set_cons_succ]
        refine comeN21 (by kernel_rfl) (by rfl) (fun K hK => ?_)
        go_simp
        first
            | (go_at_call 36; refine (Of_x _ _ (by first | exact iA.out.1 | exact iA.out.2 | exact iB.out.1 | exact iB.out.2)).mono ?_; rintro e w' ⟨v, rfl, hn, hl, hb⟩; have hx : Nxt _ w' := ⟨hb⟩; have hk : Tk w a b w' := Tk.next (by assumption) hb; have hm : Nm w' v _ := ⟨hn⟩; have hy : Lt5 _ := ⟨hl⟩; clear hn hl)
            | (go_at_call 48; first
                | (refine (Times_x _ _ a.n.natAbs b.d.natAbs _ ?_ ?_ ?_).mono ?_; (focus (refine Nm.out ?_; (repeat (first | assumption | apply Nm.drew | (apply Nm.nxt2; assumption))); done)); (focus (refine Nm.out ?_; (repeat (first | assumption | apply Nm.drew | (apply Nm.nxt2; assumption))); done)); (focus (refine Lt5.out ?_; assumption)))
                | (refine (Times_x _ _ a.d.natAbs b.n.natAbs _ ?_ ?_ ?_).mono ?_; (focus (refine Nm.out ?_; (repeat (first | assumption | apply Nm.drew | (apply Nm.nxt2; assumption))); done)); (focus (refine Nm.out ?_; (repeat (first | assumption | apply Nm.drew | (apply Nm.nxt2; assumption))); done)); (focus (refine Lt5.out ?_; assumption)))
               rintro e w' ⟨v, rfl, hn, hb⟩; have hx : Nxt _ w' := ⟨hb⟩; have hk : Tk w a b w' := Tk.next (by assumption) hb; have hm : Nm w' v _ := ⟨hn⟩; clear hn)
            | (go_at_call 35; refine (Give_x _ _ _ (a.n.natAbs * b.d.natAbs) (a.d.natAbs * b.n.natAbs) _ ?_ ?_ hD0.out hN1.out hD1.out).mono ?_; (focus (refine Nm.out ?_; (repeat (first | assumption | apply Nm.drew | (apply Nm.nxt2; assumption))); done)); (focus (refine Nm.out ?_; (repeat (first | assumption | apply Nm.drew | (apply Nm.nxt2; assumption))); done)); rintro e w' ⟨rfl, hb⟩; have hx : Nxt _ w' := ⟨hb⟩; have hk : Tk w a b w' := Tk.next (by assumption) hb; rw [hgv.out]; simp only [rok]; have z0 := hk.out.r0; have z1 := hk.out.r1; have z2 := hk.out.f 0; have z3 := hk.out.f 1)
        try go_wp2_with fail
        refine hK.out _ _ ?_ (fun hHeld => ?_)
        · (first
            | exact sk_all hT
            | exact sk_all hT'
            | exact sk_all (by assumption)
            | exact sk_set (sk_set (sk_all (by assumption))))
        clear hK K
        try simp only [Act.put, List.setIfInBounds_toArray, List.set_cons_zero, List.set_cons_succ]
        refine comeN24 (by kernel_rfl) (by rfl) (fun K hK => ?_)
        go_simp
        first
            | (go_at_call 36; refine (Of_x _ _ (by first | exact iA.out.1 | exact iA.out.2 | exact iB.out.1 | exact iB.out.2)).mono ?_; rintro e w' ⟨v, rfl, hn, hl, hb⟩; have hx : Nxt _ w' := ⟨hb⟩; have hk : Tk w a b w' := Tk.next (by assumption) hb; have hm : Nm w' v _ := ⟨hn⟩; have hy : Lt5 _ := ⟨hl⟩; clear hn hl)
            | (go_at_call 48; first
                | (refine (Times_x _ _ a.n.natAbs b.d.natAbs _ ?_ ?_ ?_).mono ?_; (focus (refine Nm.out ?_; (repeat (first | assumption | apply Nm.drew | (apply Nm.nxt2; assumption))); done)); (focus (refine Nm.out ?_; (repeat (first | assumption | apply Nm.drew | (apply Nm.nxt2; assumption))); done)); (focus (refine Lt5.out ?_; assumption)))
                | (refine (Times_x _ _ a.d.natAbs b.n.natAbs _ ?_ ?_ ?_).mono ?_; (focus (refine Nm.out ?_; (repeat (first | assumption | apply Nm.drew | (apply Nm.nxt2; assumption))); done)); (focus (refine Nm.out ?_; (repeat (first | assumption | apply Nm.drew | (apply Nm.nxt2; assumption))); done)); (focus (refine Lt5.out ?_; assumption)))
               rintro e w' ⟨v, rfl, hn, hb⟩; have hx : Nxt _ w' := ⟨hb⟩; have hk : Tk w a b w' := Tk.next (by assumption) hb; have hm : Nm w' v _ := ⟨hn⟩; clear hn)
            | (go_at_call 35; refine (Give_x _ _ _ (a.n.natAbs * b.d.natAbs) (a.d.natAbs * b.n.natAbs) _ ?_ ?_ hD0.out hN1.out hD1.out).mono ?_; (focus (refine Nm.out ?_; (repeat (first | assumption | apply Nm.drew | (apply Nm.nxt2; assumption))); done)); (focus (refine Nm.out ?_; (repeat (first | assumption | apply Nm.drew | (apply Nm.nxt2; assumption))); done)); rintro e w' ⟨rfl, hb⟩; have hx : Nxt _ w' := ⟨hb⟩; have hk : Tk w a b w' := Tk.next (by assumption) hb; rw [hgv.out]; simp only [rok]; have z0 := hk.out.r0; have z1 := hk.out.r1; have z2 := hk.out.f 0; have z3 := hk.out.f 1)
        try go_wp2_with fail
        refine hK.out _ _ ?_ (fun hHeld => ?_)
        · (first
            | exact sk_all hT
            | exact sk_all hT'
            | exact sk_all (by assumption)
            | exact sk_set (sk_set (sk_all (by assumption))))
        clear hK K
        try simp only [Act.put, List.setIfInBounds_toArray, List.set_cons_zero, List.set_cons_succ]
        refine comeN25 (by kernel_rfl) (by rfl) (fun K hK => ?_)
        go_simp
        first
            | (go_at_call 36; refine (Of_x _ _ (by first | exact iA.out.1 | exact iA.out.2 | exact iB.out.1 | exact iB.out.2)).mono ?_; rintro e w' ⟨v, rfl, hn, hl, hb⟩; have hx : Nxt _ w' := ⟨hb⟩; have hk : Tk w a b w' := Tk.next (by assumption) hb; have hm : Nm w' v _ := ⟨hn⟩; have hy : Lt5 _ := ⟨hl⟩; clear hn hl)
            | (go_at_call 48; first
                | (refine (Times_x _ _ a.n.natAbs b.d.natAbs _ ?_ ?_ ?_).mono ?_; (focus (refine Nm.out ?_; (repeat (first | assumption | apply Nm.drew | (apply Nm.nxt2; assumption))); done)); (focus (refine Nm.out ?_; (repeat (first | assumption | apply Nm.drew | (apply Nm.nxt2; assumption))); done)); (focus (refine Lt5.out ?_; assumption)))
                | (refine (Times_x _ _ a.d.natAbs b.n.natAbs _ ?_ ?_ ?_).mono ?_; (focus (refine Nm.out ?_; (repeat (first | assumption | apply Nm.drew | (apply Nm.nxt2; assumption))); done)); (focus (refine Nm.out ?_; (repeat (first | assumption | apply Nm.drew | (apply Nm.nxt2; assumption))); done)); (focus (refine Lt5.out ?_; assumption)))
               rintro e w' ⟨v, rfl, hn, hb⟩; have hx : Nxt _ w' := ⟨hb⟩; have hk : Tk w a b w' := Tk.next (by assumption) hb; have hm : Nm w' v _ := ⟨hn⟩; clear hn)
            | (go_at_call 35; refine (Give_x _ _ _ (a.n.natAbs * b.d.natAbs) (a.d.natAbs * b.n.natAbs) _ ?_ ?_ hD0.out hN1.out hD1.out).mono ?_; (focus (refine Nm.out ?_; (repeat (first | assumption | apply Nm.drew | (apply Nm.nxt2; assumption))); done)); (focus (refine Nm.out ?_; (repeat (first | assumption | apply Nm.drew | (apply Nm.nxt2; assumption))); done)); rintro e w' ⟨rfl, hb⟩; have hx : Nxt _ w' := ⟨hb⟩; have hk : Tk w a b w' := Tk.next (by assumption) hb; rw [hgv.out]; simp only [rok]; have z0 := hk.out.r0; have z1 := hk.out.r1; have z2 := hk.out.f 0; have z3 := hk.out.f 1)
        try go_wp2_with fail
        refine hK.out _ _ ?_ (fun hHeld => ?_)
        · (first
            | exact sk_all hT
            | exact sk_all hT'
            | exact sk_all (by assumption)
            | exact sk_set (sk_set (sk_all (by assumption))))
        clear hK K
        try simp only [Act.put, List.setIfInBounds_toArray, List.set_cons_zero, List.set_cons_succ]
        refine comeN26 (by kernel_rfl) (by rfl) (fun K hK => ?_)
        go_simp
        first
            | (go_at_call 36; refine (Of_x _ _ (by first | exact iA.out.1 | exact iA.out.2 | exact iB.out.1 | exact iB.out.2)).mono ?_; rintro e w' ⟨v, rfl, hn, hl, hb⟩; have hx : Nxt _ w' := ⟨hb⟩; have hk : Tk w a b w' := Tk.next (by assumption) hb; have hm : Nm w' v _ := ⟨hn⟩; have hy : Lt5 _ := ⟨hl⟩; clear hn hl)
            | (go_at_call 48; first
                | (refine (Times_x _ _ a.n.natAbs b.d.natAbs _ ?_ ?_ ?_).mono ?_; (focus (refine Nm.out ?_; (repeat (first | assumption | apply Nm.drew | (apply Nm.nxt2; assumption))); done)); (focus (refine Nm.out ?_; (repeat (first | assumption | apply Nm.drew | (apply Nm.nxt2; assumption))); done)); (focus (refine Lt5.out ?_; assumption)))
                | (refine (Times_x _ _ a.d.natAbs b.n.natAbs _ ?_ ?_ ?_).mono ?_; (focus (refine Nm.out ?_; (repeat (first | assumption | apply Nm.drew | (apply Nm.nxt2; assumption))); done)); (focus (refine Nm.out ?_; (repeat (first | assumption | apply Nm.drew | (apply Nm.nxt2; assumption))); done)); (focus (refine Lt5.out ?_; assumption)))
               rintro e w' ⟨v, rfl, hn, hb⟩; have hx : Nxt _ w' := ⟨hb⟩; have hk : Tk w a b w' := Tk.next (by assumption) hb; have hm : Nm w' v _ := ⟨hn⟩; clear hn)
            | (go_at_call 35; refine (Give_x _ _ _ (a.n.natAbs * b.d.natAbs) (a.d.natAbs * b.n.natAbs) _ ?_ ?_ hD0.out hN1.out hD1.out).mono ?_; (focus (refine Nm.out ?_; (repeat (first | assumption | apply Nm.drew | (apply Nm.nxt2; assumption))); done)); (focus (refine Nm.out ?_; (repeat (first | assumption | apply Nm.drew | (apply Nm.nxt2; assumption))); done)); rintro e w' ⟨rfl, hb⟩; have hx : Nxt _ w' := ⟨hb⟩; have hk : Tk w a b w' := Tk.next (by assumption) hb; rw [hgv.out]; simp only [rok]; have z0 := hk.out.r0; have z1 := hk.out.r1; have z2 := hk.out.f 0; have z3 := hk.out.f 1)
        try go_wp2_with fail
        refine hK.out _ _ ?_ (fun hHeld => ?_)
        · (first
            | exact sk_all hT
            | exact sk_all hT'
            | exact sk_all (by assumption)
            | exact sk_set (sk_set (sk_all (by assumption))))
        clear hK K
        try simp only [Act.put, List.setIfInBounds_toArray, List.set_cons_zero, List.set_cons_succ]
        refine takeN27 (v := ?_) (by kernel_rfl) (by kernel_rfl) (by kernel_rfl) (fun _ _ _ h => h) (by rfl) ?_ (by assumption) ?_
        rotate_left
        · intro w hSw
          try dsimp only at hSw
          go_simp
          try with_reducible rfl
        try simp only [Act.put, List.setIfInBounds_toArray, List.set_cons_zero, List.set_cons_succ]
        refine takeN28 (v := ?_) (by kernel_rfl) (by kernel_rfl) (by kernel_rfl) (fun _ _ _ h => h) (by rfl) ?_ (by assumption) ?_
        rotate_left
        · intro w hSw
          try dsimp only at hSw
          go_simp
          try with_reducible rfl
        try simp only [Act.put, List.setIfInBounds_toArray, List.set_cons_zero, List.set_cons_succ]
        refine comeN29 (by kernel_rfl) (by rfl) (fun K hK => ?_)
        go_simp
        refine hK.out _ _ ?_ (fun hHeld => ?_)
        · (first
            | exact sk_all hT
            | exact sk_all hT'
            | exact sk_all (by assumption)
            | exact sk_set (sk_set (sk_all (by assumption))))
        clear hK K
        try simp only [Act.put, List.setIfInBounds_toArray, List.set_cons_zero, List.set_cons_succ]
        refine takeN30 (v := ?_) (by kernel_rfl) (by kernel_rfl) (by kernel_rfl) (fun _ _ _ h => h) (by rfl) ?_ (by assumption) ?_
        rotate_left
        · intro w hSw
          try dsimp only at hSw
          go_simp
          try with_reducible rfl
        try simp only [Act.put, List.setIfInBounds_toArray, List.set_cons_zero, List.set_cons_succ]
        refine wpAnyH_done (by kernel_rfl) ?_ _
        clear y1 y2 y3 y4 y5 y6 y7 y8 y9
        have t4 : Three w a b w' := hk.out
        have y6 := t4.r0
        have y7 := t4.r1
        go_wp2_with fail
        exact bodyPost_ret (v := .tuple #[.agg #[.int .i64 n0, .int .i64 d0], .int .i64 e0]) (by simp [results, Try.results20, go_sem, y6, y7]) rfl ⟨by rw [← hR.out]; try rfl, by repeat (first | exact t4.below | refine below_drewN ?_ _ | refine Below.drew ?_ | refine Below.setCell ?_ (by simp; omega) _)⟩
      have m1 : (a.n == 0) = false := by simp [m0]
      have m2 : (a.n != 0) = true := by simp [m0]
      obtain ⟨f1, hf1⟩ : ∃ f1, decide (a.n < 0) = f1 := ⟨_, rfl⟩
      obtain ⟨f2, hf2⟩ : ∃ f2, decide (b.n < 0) = f2 := ⟨_, rfl⟩
      have hgv : Hid (gv (f1 != f2) (a.n.natAbs * b.d.natAbs) (a.d.natAbs * b.n.natAbs) = (⟨n0, d0⟩, e0)) := hgo.out _ (by rw [s1, s2, s3, hf1, hf2, decide_eq_true m0]; simp)
      clear s1 s2 s3 m0 k0
      clear ra rb a1 a2 a3 b1 b2 b3 HR hgo
      cases f1 <;> cases f2
      all_goals
        try simp only [bne_self_eq_false, Bool.bne_true, Bool.bne_false, Bool.not_false] at hgv
        go_enter Try.func20, Try.ntmps20
        go_wp2_with fail
        refine (RightR_x a _ hA.out).mono ?_
        rintro e w1 ⟨rfl, b1⟩
        have t1 := (Three.start w a b 23).next b1
        clear b1
        rw [Ra.out]
        have y1 := t1.size
        have y2 := t1.a0
        have y3 := t1.a1
        have y4 := t1.b0
        have y5 := t1.b1
        have y6 := t1.r0
        have y7 := t1.r1
        have y8 := t1.f 0
        have y9 := t1.f 1
        go_wp2_with fail
        refine (RightR_x b _ hB.out).mono ?_
        rintro e w2 ⟨rfl, b2⟩
        have t2 := t1.next b2
        clear b2 t1
        clear y1 y2 y3 y4 y5 y6 y7 y8 y9
        rw [Rb.out]
        have y1 := t2.size
        have y2 := t2.a0
        have y3 := t2.a1
        have y4 := t2.b0
        have y5 := t2.b1
        have y6 := t2.r0
        have y7 := t2.r1
        have y8 := t2.f 0
        have y9 := t2.f 1
        go_wp2_with fail
        clear y1 y2 y3 y4 y5 y6 y7 y8 y9
        have y1 := t2.size
        have y2 := t2.a0
        have y3 := t2.a1
        have y4 := t2.b0
        have y5 := t2.b1
        have y6 := t2.r0
        have y7 := t2.r1
        have y8 := t2.f 0
        have y9 := t2.f 1
        have hT : Tk w a b _ := ⟨t2⟩
        have hT' : Tk w a b _ := ⟨t2.drew⟩
        refine wp_region_held_drew (S := fun w' => w.heap.size + 1 + 1 < w'.heap.size ∧ w'.cell? ⟨w.heap.size, 0, none⟩ = some (.int .i64 a.n) ∧ w'.cell? ⟨w.heap.size, 1, none⟩ = some (.int .i64 a.d) ∧ w'.cell? ⟨w.heap.size + 1, 0, none⟩ = some (.int .i64 b.n) ∧ w'.cell? ⟨w.heap.size + 1, 1, none⟩ = some (.int .i64 b.d)) (by kernel_rfl) ?_ (fun hHeld => ?_)
        · (first
            | exact sk_all hT
            | exact sk_all hT'
            | exact sk_all (by assumption)
            | exact sk_set (sk_set (sk_all (by assumption))))
        refine takeN0 (v := ?_) (by kernel_rfl) (by kernel_rfl) (by kernel_rfl) (fun _ _ _ h => h) (by rfl) ?_ (by assumption) ?_
        rotate_left
        · intro w hSw
          try dsimp only at hSw
          go_simp
          try with_reducible rfl
        try simp only [Act.put, List.setIfInBounds_toArray, List.set_cons_zero, List.set_cons_succ]
        refine takeN1 (v := ?_) (by kernel_rfl) (by kernel_rfl) (by kernel_rfl) (fun _ _ _ h => h) (by rfl) ?_ (by assumption) ?_
        rotate_left
        · intro w hSw
          try dsimp only at hSw
          go_simp
          try with_reducible rfl
        try simp only [Act.put, List.setIfInBounds_toArray, List.set_cons_zero, List.set_cons_succ]
        refine takeN2 (v := ?_) (by kernel_rfl) (by kernel_rfl) (by kernel_rfl) (fun _ _ _ h => h) (by rfl) ?_ (by assumption) ?_
        rotate_left
        · intro w hSw
          try dsimp only at hSw
          go_simp
          try with_reducible rfl
        try simp only [Act.put, List.setIfInBounds_toArray, List.set_cons_zero, List.set_cons_succ]
        refine takeN3 (v := ?_) (by kernel_rfl) (by kernel_rfl) (by kernel_rfl) (fun _ _ _ h => h) (by rfl) ?_ (by assumption) ?_
        rotate_left
        · intro w hSw
          try dsimp only at hSw
          go_simp
          try with_reducible rfl
        try simp only [Act.put, List.setIfInBounds_toArray, List.set_cons_zero, List.set_cons_succ]
        refine takeN4 (v := ?_) (by kernel_rfl) (by kernel_rfl) (by kernel_rfl) (fun _ _ _ h => h) (by rfl) ?_ (by assumption) ?_
        rotate_left
        · intro w hSw
          try dsimp only at hSw
          go_simp
          try with_reducible rfl
        try simp only [Act.put, List.setIfInBounds_toArray, List.set_cons_zero, List.set_cons_succ]
        refine takeN5 (v := ?_) (by kernel_rfl) (by kernel_rfl) (by kernel_rfl) (fun _ _ _ h => h) (by rfl) ?_ (by assumption) ?_
        rotate_left
        · intro w hSw
          try dsimp only at hSw
          go_simp
          try with_reducible rfl
        try simp only [Act.put, List.setIfInBounds_toArray, List.set_cons_zero, List.set_cons_succ]
        refine takeN6 (v := ?_) (by kernel_rfl) (by kernel_rfl) (by kernel_rfl) (fun _ _ _ h => h) (by rfl) ?_ (by assumption) ?_
        rotate_left
        · intro w hSw
          try dsimp only at hSw
          go_simp
          try with_reducible rfl
        try simp only [Act.put, List.setIfInBounds_toArray, List.set_cons_zero, List.set_cons_succ]
        refine takeN7 (v := ?_) (by kernel_rfl) (by kernel_rfl) (by kernel_rfl) (fun _ _ _ h => h) (by rfl) ?_ (by assumption) ?_
        rotate_left
        · intro w hSw
          try dsimp only at hSw
          go_simp
          try with_reducible rfl
        try simp only [Act.put, List.setIfInBounds_toArray, List.set_cons_zero, List.set_cons_succ]
        refine takeN8 (v := ?_) (by kernel_rfl) (by kernel_rfl) (by kernel_rfl) (fun _ _ _ h => h) (by rfl) ?_ (by assumption) ?_
        rotate_left
        · intro w hSw
          try dsimp only at hSw
          go_simp
          try with_reducible rfl
        try simp only [Act.put, List.setIfInBounds_toArray, List.set_cons_zero, List.set_cons_succ]
        refine takeN9 (v := ?_) (by kernel_rfl) (by kernel_rfl) (by kernel_rfl) (fun _ _ _ h => h) (by rfl) ?_ (by assumption) ?_
        rotate_left
        · intro w hSw
          try dsimp only at hSw
          go_simp
          try with_reducible rfl
        try simp only [Act.put, List.setIfInBounds_toArray, List.set_cons_zero, List.set_cons_succ]
        refine takeN10 (v := ?_) (by kernel_rfl) (by kernel_rfl) (by kernel_rfl) (fun _ _ _ h => h) (by rfl) ?_ (by assumption) ?_
        rotate_left
        · intro w hSw
          try dsimp only at hSw
          go_simp
          try with_reducible rfl
        try simp only [Act.put, List.setIfInBounds_toArray, List.set_cons_zero, List.set_cons_succ]
        refine takeN11 (v := ?_) (by kernel_rfl) (by kernel_rfl) (by kernel_rfl) (fun _ _ _ h => h) (by rfl) ?_ (by assumption) ?_
        rotate_left
        · intro w hSw
          try dsimp only at hSw
          go_simp
          try with_reducible rfl
        try simp only [Act.put, List.setIfInBounds_toArray, List.set_cons_zero, List.set_cons_succ]
        refine takeN12 (v := ?_) (by kernel_rfl) (by kernel_rfl) (by kernel_rfl) (fun _ _ _ h => h) (by rfl) ?_ (by assumption) ?_
        rotate_left
        · intro w hSw
          try dsimp only at hSw
          go_simp
          try with_reducible rfl
        try simp only [Act.put, List.setIfInBounds_toArray, List.set_cons_zero, List.set_cons_succ]
        refine takeN13 (v := ?_) (by kernel_rfl) (by kernel_rfl) (by kernel_rfl) (fun _ _ _ h => h) (by rfl) ?_ (by assumption) ?_
        rotate_left
        · intro w hSw
          try dsimp only at hSw
          go_simp
          try with_reducible rfl
        try simp only [Act.put, List.setIfInBounds_toArray, List.set_cons_zero, List.set_cons_succ]
        refine takeN15 (v := ?_) (by kernel_rfl) (by kernel_rfl) (by kernel_rfl) (fun _ _ _ h => h) (by rfl) ?_ (by assumption) ?_
        rotate_left
        · intro w hSw
          try dsimp only at hSw
          go_simp
          try with_reducible rfl
        try simp only [Act.put, List.setIfInBounds_toArray, List.set_cons_zero, List.set_cons_succ]
        refine takeN16 (v := ?_) (by kernel_rfl) (by kernel_rfl) (by kernel_rfl) (fun _ _ _ h => h) (by rfl) ?_ (by assumption) ?_
        rotate_left
        · intro w hSw
          try dsimp only at hSw
          go_simp
          try with_reducible rfl
        try simp only [Act.put, List.setIfInBounds_toArray, List.set_cons_zero, List.set_cons_succ]
        refine takeN19 (v := ?_) (by kernel_rfl) (by kernel_rfl) (by kernel_rfl) (fun _ _ _ h => h) (by rfl) ?_ (by assumption) ?_
        rotate_left
        · intro w hSw
          try dsimp only at hSw
          go_simp
          try with_reducible rfl
        try simp only [Act.put, List.setIfInBounds_toArray, List.set_cons_zero, List.set_cons_succ]
        refine takeN20 (v := ?_) (by kernel_rfl) (by kernel_rfl) (by kernel_rfl) (fun _ _ _ h => h) (by rfl) ?_ (by assumption) ?_
        rotate_left
        · intro w hSw
          try dsimp only at hSw
          go_simp
          try with_reducible rfl
        try simp only [Act.put, List.setIfInBounds_toArray, List.set_cons_zero, List.set_cons_succ]
        refine takeN22 (v := ?_) (by kernel_rfl) (by kernel_rfl) (by kernel_rfl) (fun _ _ _ h => h) (by rfl) ?_ (by assumption) ?_
        rotate_left
        · intro w hSw
          try dsimp only at hSw
          go_simp
          try with_reducible rfl
        try simp only [Act.put, List.setIfInBounds_toArray, List.set_cons_zero, List.set_cons_succ]
        refine takeN23 (v := ?_) (by kernel_rfl) (by kernel_rfl) (by kernel_rfl) (fun _ _ _ h => h) (by rfl) ?_ (by assumption) ?_
        rotate_left
        · intro w hSw
          try dsimp only at hSw
          go_simp
          try with_reducible rfl
        try simp only [Act.put, List.setIfInBounds_toArray, List.set_cons_zero, List.set_cons_succ]
        refine comeN14 (by kernel_rfl) (by rfl) (fun K hK => ?_)
        go_simp
        first
            | (go_at_call 36; refine (Of_x _ _ (by first | exact iA.out.1 | exact iA.out.2 | exact iB.out.1 | exact iB.out.2)).mono ?_; rintro e w' ⟨v, rfl, hn, hl, hb⟩; have hx : Nxt _ w' := ⟨hb⟩; have hk : Tk w a b w' := Tk.next (by assumption) hb; have hm : Nm w' v _ := ⟨hn⟩; have hy : Lt5 _ := ⟨hl⟩; clear hn hl)
            | (go_at_call 48; first
                | (refine (Times_x _ _ a.n.natAbs b.d.natAbs _ ?_ ?_ ?_).mono ?_; (focus (refine Nm.out ?_; (repeat (first | assumption | apply Nm.drew | (apply Nm.nxt2; assumption))); done)); (focus (refine Nm.out ?_; (repeat (first | assumption | apply Nm.drew | (apply Nm.nxt2; assumption))); done)); (focus (refine Lt5.out ?_; assumption)))
                | (refine (Times_x _ _ a.d.natAbs b.n.natAbs _ ?_ ?_ ?_).mono ?_; (focus (refine Nm.out ?_; (repeat (first | assumption | apply Nm.drew | (apply Nm.nxt2; assumption))); done)); (focus (refine Nm.out ?_; (repeat (first | assumption | apply Nm.drew | (apply Nm.nxt2; assumption))); done)); (focus (refine Lt5.out ?_; assumption)))
               rintro e w' ⟨v, rfl, hn, hb⟩; have hx : Nxt _ w' := ⟨hb⟩; have hk : Tk w a b w' := Tk.next (by assumption) hb; have hm : Nm w' v _ := ⟨hn⟩; clear hn)
            | (go_at_call 35; refine (Give_x _ _ _ (a.n.natAbs * b.d.natAbs) (a.d.natAbs * b.n.natAbs) _ ?_ ?_ hD0.out hN1.out hD1.out).mono ?_; (focus (refine Nm.out ?_; (repeat (first | assumption | apply Nm.drew | (apply Nm.nxt2; assumption))); done)); (focus (refine Nm.out ?_; (repeat (first | assumption | apply Nm.drew | (apply Nm.nxt2; assumption))); done)); rintro e w' ⟨rfl, hb⟩; have hx : Nxt _ w' := ⟨hb⟩; have hk : Tk w a b w' := Tk.next (by assumption) hb; rw [hgv.out]; simp only [rok]; have z0 := hk.out.r0; have z1 := hk.out.r1; have z2 := hk.out.f 0; have z3 := hk.out.f 1)
        try go_wp2_with fail
        refine hK.out _ _ ?_ (fun hHeld => ?_)
        · (first
            | exact sk_all hT
            | exact sk_all hT'
            | exact sk_all (by assumption)
            | exact sk_set (sk_set (sk_all (by assumption))))
        clear hK K
        try simp only [Act.put, List.setIfInBounds_toArray, List.set_cons_zero, List.set_cons_succ]
        refine comeN17 (by kernel_rfl) (by rfl) (fun K hK => ?_)
        go_simp
        first
            | (go_at_call 36; refine (Of_x _ _ (by first | exact iA.out.1 | exact iA.out.2 | exact iB.out.1 | exact iB.out.2)).mono ?_; rintro e w' ⟨v, rfl, hn, hl, hb⟩; have hx : Nxt _ w' := ⟨hb⟩; have hk : Tk w a b w' := Tk.next (by assumption) hb; have hm : Nm w' v _ := ⟨hn⟩; have hy : Lt5 _ := ⟨hl⟩; clear hn hl)
            | (go_at_call 48; first
                | (refine (Times_x _ _ a.n.natAbs b.d.natAbs _ ?_ ?_ ?_).mono ?_; (focus (refine Nm.out ?_; (repeat (first | assumption | apply Nm.drew | (apply Nm.nxt2; assumption))); done)); (focus (refine Nm.out ?_; (repeat (first | assumption | apply Nm.drew | (apply Nm.nxt2; assumption))); done)); (focus (refine Lt5.out ?_; assumption)))
                | (refine (Times_x _ _ a.d.natAbs b.n.natAbs _ ?_ ?_ ?_).mono ?_; (focus (refine Nm.out ?_; (repeat (first | assumption | apply Nm.drew | (apply Nm.nxt2; assumption))); done)); (focus (refine Nm.out ?_; (repeat (first | assumption | apply Nm.drew | (apply Nm.nxt2; assumption))); done)); (focus (refine Lt5.out ?_; assumption)))
               rintro e w' ⟨v, rfl, hn, hb⟩; have hx : Nxt _ w' := ⟨hb⟩; have hk : Tk w a b w' := Tk.next (by assumption) hb; have hm : Nm w' v _ := ⟨hn⟩; clear hn)
            | (go_at_call 35; refine (Give_x _ _ _ (a.n.natAbs * b.d.natAbs) (a.d.natAbs * b.n.natAbs) _ ?_ ?_ hD0.out hN1.out hD1.out).mono ?_; (focus (refine Nm.out ?_; (repeat (first | assumption | apply Nm.drew | (apply Nm.nxt2; assumption))); done)); (focus (refine Nm.out ?_; (repeat (first | assumption | apply Nm.drew | (apply Nm.nxt2; assumption))); done)); rintro e w' ⟨rfl, hb⟩; have hx : Nxt _ w' := ⟨hb⟩; have hk : Tk w a b w' := Tk.next (by assumption) hb; rw [hgv.out]; simp only [rok]; have z0 := hk.out.r0; have z1 := hk.out.r1; have z2 := hk.out.f 0; have z3 := hk.out.f 1)
        try go_wp2_with fail
        refine hK.out _ _ ?_ (fun hHeld => ?_)
        · (first
            | exact sk_all hT
            | exact sk_all hT'
            | exact sk_all (by assumption)
            | exact sk_set (sk_set (sk_all (by assumption))))
        clear hK K
        try simp only [Act.put, List.setIfInBounds_toArray, List.set_cons_zero, List.set_cons_succ]
        refine comeN18 (by kernel_rfl) (by rfl) (fun K hK => ?_)
        go_simp
        first
            | (go_at_call 36; refine (Of_x _ _ (by first | exact iA.out.1 | exact iA.out.2 | exact iB.out.1 | exact iB.out.2)).mono ?_; rintro e w' ⟨v, rfl, hn, hl, hb⟩; have hx : Nxt _ w' := ⟨hb⟩; have hk : Tk w a b w' := Tk.next (by assumption) hb; have hm : Nm w' v _ := ⟨hn⟩; have hy : Lt5 _ := ⟨hl⟩; clear hn hl)
            | (go_at_call 48; first
                | (refine (Times_x _ _ a.n.natAbs b.d.natAbs _ ?_ ?_ ?_).mono ?_; (focus (refine Nm.out ?_; (repeat (first | assumption | apply Nm.drew | (apply Nm.nxt2; assumption))); done)); (focus (refine Nm.out ?_; (repeat (first | assumption | apply Nm.drew | (apply Nm.nxt2; assumption))); done)); (focus (refine Lt5.out ?_; assumption)))
                | (refine (Times_x _ _ a.d.natAbs b.n.natAbs _ ?_ ?_ ?_).mono ?_; (focus (refine Nm.out ?_; (repeat (first | assumption | apply Nm.drew | (apply Nm.nxt2; assumption))); done)); (focus (refine Nm.out ?_; (repeat (first | assumption | apply Nm.drew | (apply Nm.nxt2; assumption))); done)); (focus (refine Lt5.out ?_; assumption)))
               rintro e w' ⟨v, rfl, hn, hb⟩; have hx : Nxt _ w' := ⟨hb⟩; have hk : Tk w a b w' := Tk.next (by assumption) hb; have hm : Nm w' v _ := ⟨hn⟩; clear hn)
            | (go_at_call 35; refine (Give_x _ _ _ (a.n.natAbs * b.d.natAbs) (a.d.natAbs * b.n.natAbs) _ ?_ ?_ hD0.out hN1.out hD1.out).mono ?_; (focus (refine Nm.out ?_; (repeat (first | assumption | apply Nm.drew | (apply Nm.nxt2; assumption))); done)); (focus (refine Nm.out ?_; (repeat (first | assumption | apply Nm.drew | (apply Nm.nxt2; assumption))); done)); rintro e w' ⟨rfl, hb⟩; have hx : Nxt _ w' := ⟨hb⟩; have hk : Tk w a b w' := Tk.next (by assumption) hb; rw [hgv.out]; simp only [rok]; have z0 := hk.out.r0; have z1 := hk.out.r1; have z2 := hk.out.f 0; have z3 := hk.out.f 1)
        try go_wp2_with fail
        refine hK.out _ _ ?_ (fun hHeld => ?_)
        · (first
            | exact sk_all hT
            | exact sk_all hT'
            | exact sk_all (by assumption)
            | exact sk_set (sk_set (sk_all (by assumption))))
        clear hK K
        try simp only [Act.put, List.setIfInBounds_toArray, List.set_cons_zero, List.set_cons_succ]
        refine comeN21 (by kernel_rfl) (by rfl) (fun K hK => ?_)
        go_simp
        first
            | (go_at_call 36; refine (Of_x _ _ (by first | exact iA.out.1 | exact iA.out.2 | exact iB.out.1 | exact iB.out.2)).mono ?_; rintro e w' ⟨v, rfl, hn, hl, hb⟩; have hx : Nxt _ w' := ⟨hb⟩; have hk : Tk w a b w' := Tk.next (by assumption) hb; have hm : Nm w' v _ := ⟨hn⟩; have hy : Lt5 _ := ⟨hl⟩; clear hn hl)
            | (go_at_call 48; first
                | (refine (Times_x _ _ a.n.natAbs b.d.natAbs _ ?_ ?_ ?_).mono ?_; (focus (refine Nm.out ?_; (repeat (first | assumption | apply Nm.drew | (apply Nm.nxt2; assumption))); done)); (focus (refine Nm.out ?_; (repeat (first | assumption | apply Nm.drew | (apply Nm.nxt2; assumption))); done)); (focus (refine Lt5.out ?_; assumption)))
                | (refine (Times_x _ _ a.d.natAbs b.n.natAbs _ ?_ ?_ ?_).mono ?_; (focus (refine Nm.out ?_; (repeat (first | assumption | apply Nm.drew | (apply Nm.nxt2; assumption))); done)); (focus (refine Nm.out ?_; (repeat (first | assumption | apply Nm.drew | (apply Nm.nxt2; assumption))); done)); (focus (refine Lt5.out ?_; assumption)))
               rintro e w' ⟨v, rfl, hn, hb⟩; have hx : Nxt _ w' := ⟨hb⟩; have hk : Tk w a b w' := Tk.next (by assumption) hb; have hm : Nm w' v _ := ⟨hn⟩; clear hn)
            | (go_at_call 35; refine (Give_x _ _ _ (a.n.natAbs * b.d.natAbs) (a.d.natAbs * b.n.natAbs) _ ?_ ?_ hD0.out hN1.out hD1.out).mono ?_; (focus (refine Nm.out ?_; (repeat (first | assumption | apply Nm.drew | (apply Nm.nxt2; assumption))); done)); (focus (refine Nm.out ?_; (repeat (first | assumption | apply Nm.drew | (apply Nm.nxt2; assumption))); done)); rintro e w' ⟨rfl, hb⟩; have hx : Nxt _ w' := ⟨hb⟩; have hk : Tk w a b w' := Tk.next (by assumption) hb; rw [hgv.out]; simp only [rok]; have z0 := hk.out.r0; have z1 := hk.out.r1; have z2 := hk.out.f 0; have z3 := hk.out.f 1)
        try go_wp2_with fail
        refine hK.out _ _ ?_ (fun hHeld => ?_)
        · (first
            | exact sk_all hT
            | exact sk_all hT'
            | exact sk_all (by assumption)
            | exact sk_set (sk_set (sk_all (by assumption))))
        clear hK K
        try simp only [Act.put, List.setIfInBounds_toArray, List.set_cons_zero, List.set_cons_succ]
        refine comeN24 (by kernel_rfl) (by rfl) (fun K hK => ?_)
        go_simp
        first
            | (go_at_call 36; refine (Of_x _ _ (by first | exact iA.out.1 | exact iA.out.2 | exact iB.out.1 | exact iB.out.2)).mono ?_; rintro e w' ⟨v, rfl, hn, hl, hb⟩; have hx : Nxt _ w' := ⟨hb⟩; have hk : Tk w a b w' := Tk.next (by assumption) hb; have hm : Nm w' v _ := ⟨hn⟩; have hy : Lt5 _ := ⟨hl⟩; clear hn hl)
            | (go_at_call 48; first
                | (refine (Times_x _ _ a.n.natAbs b.d.natAbs _ ?_ ?_ ?_).mono ?_; (focus (refine Nm.out ?_; (repeat (first | assumption | apply Nm.drew | (apply Nm.nxt2; assumption))); done)); (focus (refine Nm.out ?_; (repeat (first | assumption | apply Nm.drew | (apply Nm.nxt2; assumption))); done)); (focus (refine Lt5.out ?_; assumption)))
                | (refine (Times_x _ _ a.d.natAbs b.n.natAbs _ ?_ ?_ ?_).mono ?_; (focus (refine Nm.out ?_; (repeat (first | assumption | apply Nm.drew | (apply Nm.nxt2; assumption))); done)); (focus (refine Nm.out ?_; (repeat (first | assumption | apply Nm.drew | (apply Nm.nxt2; assumption))); done)); (focus (refine Lt5.out ?_; assumption)))
               rintro e w' ⟨v, rfl, hn, hb⟩; have hx : Nxt _ w' := ⟨hb⟩; have hk : Tk w a b w' := Tk.next (by assumption) hb; have hm : Nm w' v _ := ⟨hn⟩; clear hn)
            | (go_at_call 35; refine (Give_x _ _ _ (a.n.natAbs * b.d.natAbs) (a.d.natAbs * b.n.natAbs) _ ?_ ?_ hD0.out hN1.out hD1.out).mono ?_; (focus (refine Nm.out ?_; (repeat (first | assumption | apply Nm.drew | (apply Nm.nxt2; assumption))); done)); (focus (refine Nm.out ?_; (repeat (first | assumption | apply Nm.drew | (apply Nm.nxt2; assumption))); done)); rintro e w' ⟨rfl, hb⟩; have hx : Nxt _ w' := ⟨hb⟩; have hk : Tk w a b w' := Tk.next (by assumption) hb; rw [hgv.out]; simp only [rok]; have z0 := hk.out.r0; have z1 := hk.out.r1; have z2 := hk.out.f 0; have z3 := hk.out.f 1)
        try go_wp2_with fail
        refine hK.out _ _ ?_ (fun hHeld => ?_)
        · (first
            | exact sk_all hT
            | exact sk_all hT'
            | exact sk_all (by assumption)
            | exact sk_set (sk_set (sk_all (by assumption))))
        clear hK K
        try simp only [Act.put, List.setIfInBounds_toArray, List.set_cons_zero, List.set_cons_succ]
        refine comeN25 (by kernel_rfl) (by rfl) (fun K hK => ?_)
        go_simp
        first
            | (go_at_call 36; refine (Of_x _ _ (by first | exact iA.out.1 | exact iA.out.2 | exact iB.out.1 | exact iB.out.2)).mono ?_; rintro e w' ⟨v, rfl, hn, hl, hb⟩; have hx : Nxt _ w' := ⟨hb⟩; have hk : Tk w a b w' := Tk.next (by assumption) hb; have hm : Nm w' v _ := ⟨hn⟩; have hy : Lt5 _ := ⟨hl⟩; clear hn hl)
            | (go_at_call 48; first
                | (refine (Times_x _ _ a.n.natAbs b.d.natAbs _ ?_ ?_ ?_).mono ?_; (focus (refine Nm.out ?_; (repeat (first | assumption | apply Nm.drew | (apply Nm.nxt2; assumption))); done)); (focus (refine Nm.out ?_; (repeat (first | assumption | apply Nm.drew | (apply Nm.nxt2; assumption))); done)); (focus (refine Lt5.out ?_; assumption)))
                | (refine (Times_x _ _ a.d.natAbs b.n.natAbs _ ?_ ?_ ?_).mono ?_; (focus (refine Nm.out ?_; (repeat (first | assumption | apply Nm.drew | (apply Nm.nxt2; assumption))); done)); (focus (refine Nm.out ?_; (repeat (first | assumption | apply Nm.drew | (apply Nm.nxt2; assumption))); done)); (focus (refine Lt5.out ?_; assumption)))
               rintro e w' ⟨v, rfl, hn, hb⟩; have hx : Nxt _ w' := ⟨hb⟩; have hk : Tk w a b w' := Tk.next (by assumption) hb; have hm : Nm w' v _ := ⟨hn⟩; clear hn)
            | (go_at_call 35; refine (Give_x _ _ _ (a.n.natAbs * b.d.natAbs) (a.d.natAbs * b.n.natAbs) _ ?_ ?_ hD0.out hN1.out hD1.out).mono ?_; (focus (refine Nm.out ?_; (repeat (first | assumption | apply Nm.drew | (apply Nm.nxt2; assumption))); done)); (focus (refine Nm.out ?_; (repeat (first | assumption | apply Nm.drew | (apply Nm.nxt2; assumption))); done)); rintro e w' ⟨rfl, hb⟩; have hx : Nxt _ w' := ⟨hb⟩; have hk : Tk w a b w' := Tk.next (by assumption) hb; rw [hgv.out]; simp only [rok]; have z0 := hk.out.r0; have z1 := hk.out.r1; have z2 := hk.out.f 0; have z3 := hk.out.f 1)
        try go_wp2_with fail
        refine hK.out _ _ ?_ (fun hHeld => ?_)
        · (first
            | exact sk_all hT
            | exact sk_all hT'
            | exact sk_all (by assumption)
            | exact sk_set (sk_set (sk_all (by assumption))))
        clear hK K
        try simp only [Act.put, List.setIfInBounds_toArray, List.set_cons_zero, List.set_cons_succ]
        refine comeN26 (by kernel_rfl) (by rfl) (fun K hK => ?_)
        go_simp
        first
            | (go_at_call 36; refine (Of_x _ _ (by first | exact iA.out.1 | exact iA.out.2 | exact iB.out.1 | exact iB.out.2)).mono ?_; rintro e w' ⟨v, rfl, hn, hl, hb⟩; have hx : Nxt _ w' := ⟨hb⟩; have hk : Tk w a b w' := Tk.next (by assumption) hb; have hm : Nm w' v _ := ⟨hn⟩; have hy : Lt5 _ := ⟨hl⟩; clear hn hl)
            | (go_at_call 48; first
                | (refine (Times_x _ _ a.n.natAbs b.d.natAbs _ ?_ ?_ ?_).mono ?_; (focus (refine Nm.out ?_; (repeat (first | assumption | apply Nm.drew | (apply Nm.nxt2; assumption))); done)); (focus (refine Nm.out ?_; (repeat (first | assumption | apply Nm.drew | (apply Nm.nxt2; assumption))); done)); (focus (refine Lt5.out ?_; assumption)))
                | (refine (Times_x _ _ a.d.natAbs b.n.natAbs _ ?_ ?_ ?_).mono ?_; (focus (refine Nm.out ?_; (repeat (first | assumption | apply Nm.drew | (apply Nm.nxt2; assumption))); done)); (focus (refine Nm.out ?_; (repeat (first | assumption | apply Nm.drew | (apply Nm.nxt2; assumption))); done)); (focus (refine Lt5.out ?_; assumption)))
               rintro e w' ⟨v, rfl, hn, hb⟩; have hx : Nxt _ w' := ⟨hb⟩; have hk : Tk w a b w' := Tk.next (by assumption) hb; have hm : Nm w' v _ := ⟨hn⟩; clear hn)
            | (go_at_call 35; refine (Give_x _ _ _ (a.n.natAbs * b.d.natAbs) (a.d.natAbs * b.n.natAbs) _ ?_ ?_ hD0.out hN1.out hD1.out).mono ?_; (focus (refine Nm.out ?_; (repeat (first | assumption | apply Nm.drew | (apply Nm.nxt2; assumption))); done)); (focus (refine Nm.out ?_; (repeat (first | assumption | apply Nm.drew | (apply Nm.nxt2; assumption))); done)); rintro e w' ⟨rfl, hb⟩; have hx : Nxt _ w' := ⟨hb⟩; have hk : Tk w a b w' := Tk.next (by assumption) hb; rw [hgv.out]; simp only [rok]; have z0 := hk.out.r0; have z1 := hk.out.r1; have z2 := hk.out.f 0; have z3 := hk.out.f 1)
        try go_wp2_with fail
        refine hK.out _ _ ?_ (fun hHeld => ?_)
        · (first
            | exact sk_all hT
            | exact sk_all hT'
            | exact sk_all (by assumption)
            | exact sk_set (sk_set (sk_all (by assumption))))
        clear hK K
        try simp only [Act.put, List.setIfInBounds_toArray, List.set_cons_zero, List.set_cons_succ]
        refine takeN27 (v := ?_) (by kernel_rfl) (by kernel_rfl) (by kernel_rfl) (fun _ _ _ h => h) (by rfl) ?_ (by assumption) ?_
        rotate_left
        · intro w hSw
          try dsimp only at hSw
          go_simp
          try with_reducible rfl
        try simp only [Act.put, List.setIfInBounds_toArray, List.set_cons_zero, List.set_cons_succ]
        refine takeN28 (v := ?_) (by kernel_rfl) (by kernel_rfl) (by kernel_rfl) (fun _ _ _ h => h) (by rfl) ?_ (by assumption) ?_
        rotate_left
        · intro w hSw
          try dsimp only at hSw
          go_simp
          try with_reducible rfl
        try simp only [Act.put, List.setIfInBounds_toArray, List.set_cons_zero, List.set_cons_succ]
        refine comeN29 (by kernel_rfl) (by rfl) (fun K hK => ?_)
        go_simp
        refine hK.out _ _ ?_ (fun hHeld => ?_)
        · (first
            | exact sk_all hT
            | exact sk_all hT'
            | exact sk_all (by assumption)
            | exact sk_set (sk_set (sk_all (by assumption))))
        clear hK K
        try simp only [Act.put, List.setIfInBounds_toArray, List.set_cons_zero, List.set_cons_succ]
        refine takeN30 (v := ?_) (by kernel_rfl) (by kernel_rfl) (by kernel_rfl) (fun _ _ _ h => h) (by rfl) ?_ (by assumption) ?_
        rotate_left
        · intro w hSw
          try dsimp only at hSw
          go_simp
          try with_reducible rfl
        try simp only [Act.put, List.setIfInBounds_toArray, List.set_cons_zero, List.set_cons_succ]
        refine wpAnyH_done (by kernel_rfl) ?_ _
        clear y1 y2 y3 y4 y5 y6 y7 y8 y9
        have t4 : Three w a b w' := hk.out
        have y6 := t4.r0
        have y7 := t4.r1
        go_wp2_with fail
        exact bodyPost_ret (v := .tuple #[.agg #[.int .i64 n0, .int .i64 d0], .int .i64 e0]) (by simp [results, Try.results20, go_sem, y6, y7]) rfl ⟨by rw [← hR.out]; try rfl, by repeat (first | exact t4.below | refine below_drewN ?_ _ | refine Below.drew ?_ | refine Below.setCell ?_ (by simp; omega) _)⟩

end Go.Proofs.Ytnddfngdlmdmhaa
