/-
  The reference's Sub.
-/
import Derived.Test.YtnddfngdlmdmhaaNumG
namespace Go.Proofs.Ytnddfngdlmdmhaa
open Go.RowKit

set_option maxHeartbeats 6400000 in
set_option maxRecDepth 100000 in
theorem SubR_x (a b : Rt.R) (w : World) (ha : In a) (hb : In b) : Calls Try.prog 16 #[rv a, rv b] w fun e w' => e = .returned (rok (Rt.sub a b)) ∧ Below w.heap.size w w' := by
  have hA := Lib.hid ha
  have hB := Lib.hid hb
  clear ha hb
  cases ra : Rt.right a with
  | false =>
    have hv : Hid (Rt.sub a b = (⟨0, 0⟩, 1)) := Rt.two_not (by rw [ra]; simp) _ _
    have Ra := Lib.hid ra
    clear ra
    go_enter Try.func16, Try.ntmps16
    go_wp2_with fail
    refine (RightR_x a _ hA.out).mono ?_
    rintro e w1 ⟨rfl, b1⟩
    have t1 := (Three.start w a b 23).next b1
    clear b1
    rw [Ra.out]
    have y1 := t1.size
    have y2 := t1.a0
    have y3 := t1.a1
    have y4 := t1.b0
    have y5 := t1.b1
    have y6 := t1.r0
    have y7 := t1.r1
    have y8 := t1.f 0
    have y9 := t1.f 1
    go_wp2_with fail
    exact bodyPost_ret (v := .tuple #[.agg #[.int .i64 0, .int .i64 0], .int .i64 1]) (by simp [results, Try.results16, go_sem, y6, y7]) rfl ⟨by rw [hv.out]; try rfl, by repeat (first | exact t1.below | refine below_drewN ?_ _ | refine Below.drew ?_ | refine Below.setCell ?_ (by simp; omega) _)⟩
  | true =>
    have Ra := Lib.hid ra
    cases rb : Rt.right b with
    | false =>
      have hv : Hid (Rt.sub a b = (⟨0, 0⟩, 1)) := Rt.two_not (by rw [rb]; simp) _ _
      have Rb := Lib.hid rb
      clear ra rb
      go_enter Try.func16, Try.ntmps16
      go_wp2_with fail
      refine (RightR_x a _ hA.out).mono ?_
      rintro e w1 ⟨rfl, b1⟩
      have t1 := (Three.start w a b 23).next b1
      clear b1
      rw [Ra.out]
      have y1 := t1.size
      have y2 := t1.a0
      have y3 := t1.a1
      have y4 := t1.b0
      have y5 := t1.b1
      have y6 := t1.r0
      have y7 := t1.r1
      have y8 := t1.f 0
      have y9 := t1.f 1
      go_wp2_with fail
      refine (RightR_x b _ hB.out).mono ?_
      rintro e w2 ⟨rfl, b2⟩
      have t2 := t1.next b2
      clear b2 t1
      clear y1 y2 y3 y4 y5 y6 y7 y8 y9
      rw [Rb.out]
      have y1 := t2.size
      have y2 := t2.a0
      have y3 := t2.a1
      have y4 := t2.b0
      have y5 := t2.b1
      have y6 := t2.r0
      have y7 := t2.r1
      have y8 := t2.f 0
      have y9 := t2.f 1
      go_wp2_with fail
      exact bodyPost_ret (v := .tuple #[.agg #[.int .i64 0, .int .i64 0], .int .i64 1]) (by simp [results, Try.results16, go_sem, y6, y7]) rfl ⟨by rw [hv.out]; try rfl, by repeat (first | exact t2.below | refine below_drewN ?_ _ | refine Below.drew ?_ | refine Below.setCell ?_ (by simp; omega) _)⟩
    | true =>
      have Rb := Lib.hid rb
      have iA : Hid (I64 a.n ∧ I64 a.d) := hA.out
      have iB : Hid (I64 b.n ∧ I64 b.d) := hB.out
      obtain ⟨a1, a2, a3⟩ := right_small ra
      obtain ⟨b1, b2, b3⟩ := right_small rb
      obtain ⟨V, hV⟩ : ∃ V : Int, V = (a.n * b.d) + (-(b.n * a.d)) := ⟨_, rfl⟩
      have hV2 : V = (a.n * b.d - b.n * a.d) := by rw [hV]; try omega
      have hx1 : Hid (a.n * b.d = if decide (a.n < 0) = true then -((a.n.natAbs * b.d.natAbs : Nat) : Int) else ((a.n.natAbs * b.d.natAbs : Nat) : Int)) := sgn_if a.n b.d (by omega)
      have hy1 : Hid ((-(b.n * a.d)) = if decide (0 ≤ b.n) = true then -((b.n.natAbs * a.d.natAbs : Nat) : Int) else ((b.n.natAbs * a.d.natAbs : Nat) : Int)) := sgn_if' b.n a.d (by omega)
      have hX5 : Hid (a.n.natAbs * b.d.natAbs < Dg.pw 5) := lt_pw (prod_lt a1 b2).1
      have hY5 : Hid (b.n.natAbs * a.d.natAbs < Dg.pw 5) := lt_pw (prod_lt b1 a2).1
      have hN1 : Hid (V.natAbs < 2 ^ 140) := sum_lt hV (Int.natAbs_mul _ _) (by rw [Int.natAbs_neg]; exact Int.natAbs_mul _ _) (prod_lt a1 b2).2 (prod_lt b1 a2).2
      have hlv : Hid (V.natAbs < Dg.pw 5) := lt_pw hN1.out
      have hD0 : Hid (0 < a.d.natAbs * b.d.natAbs) := Nat.mul_pos (by omega) (by omega)
      have hD1 : Hid (a.d.natAbs * b.d.natAbs < 2 ^ 140) := (prod_lt a2 b2).1
      have hres : Hid (rok (gv (decide (V < 0)) V.natAbs (a.d.natAbs * b.d.natAbs)) = rok (Rt.sub a b)) := by
        show _ = _
        have e : ((a.d.natAbs * b.d.natAbs : Nat) : Int) = a.d * b.d := by rw [Int.natCast_mul]; congr 1 <;> omega
        rw [gv_pos hD0.out, e, hV2]
        unfold Rt.sub
        rw [Rt.two_right ra rb]
      have HV := Lib.hid hV
      clear ra rb hV2 a1 a2 a3 b1 b2 b3 hV
      go_enter Try.func16, Try.ntmps16
      go_wp2_with fail
      refine (RightR_x a _ hA.out).mono ?_
      rintro e w1 ⟨rfl, b1⟩
      have t1 := (Three.start w a b 23).next b1
      clear b1
      rw [Ra.out]
      have y1 := t1.size
      have y2 := t1.a0
      have y3 := t1.a1
      have y4 := t1.b0
      have y5 := t1.b1
      have y6 := t1.r0
      have y7 := t1.r1
      have y8 := t1.f 0
      have y9 := t1.f 1
      go_wp2_with fail
      refine (RightR_x b _ hB.out).mono ?_
      rintro e w2 ⟨rfl, b2⟩
      have t2 := t1.next b2
      clear b2 t1
      clear y1 y2 y3 y4 y5 y6 y7 y8 y9
      rw [Rb.out]
      have y1 := t2.size
      have y2 := t2.a0
      have y3 := t2.a1
      have y4 := t2.b0
      have y5 := t2.b1
      have y6 := t2.r0
      have y7 := t2.r1
      have y8 := t2.f 0
      have y9 := t2.f 1
      go_wp2_with fail
      clear y1 y2 y3 y4 y5 y6 y7 y8 y9
      have y1 := t2.size
      have y2 := t2.a0
      have y3 := t2.a1
      have y4 := t2.b0
      have y5 := t2.b1
      have y6 := t2.r0
      have y7 := t2.r1
      have y8 := t2.f 0
      have y9 := t2.f 1
      have hT : Tk w a b _ := ⟨t2⟩
      have hT' : Tk w a b _ := ⟨t2.drew⟩
      go_region_held3 (fun w' => w.heap.size + 1 + 1 < w'.heap.size ∧ w'.cell? ⟨w.heap.size, 0, none⟩ = some (.int .i64 a.n) ∧ w'.cell? ⟨w.heap.size, 1, none⟩ = some (.int .i64 a.d) ∧ w'.cell? ⟨w.heap.size + 1, 0, none⟩ = some (.int .i64 b.n) ∧ w'.cell? ⟨w.heap.size + 1, 1, none⟩ = some (.int .i64 b.d))
        (first
          | exact sk_all hT
          | exact sk_all hT'
          | exact sk_all (by assumption)
          | exact sk_set (sk_set (sk_all (by assumption))))
        (first
          | (go_at_call 36; refine (Of_x _ _ (by first | exact iA.out.1 | exact iA.out.2 | exact iB.out.1 | exact iB.out.2)).mono ?_; rintro e w' ⟨v, rfl, hn, hl, hb⟩; have hx : Nxt _ w' := ⟨hb⟩; have hk : Tk w a b w' := Tk.next (by assumption) hb; have hm : Nm w' v _ := ⟨hn⟩; have hy : Lt5 _ := ⟨hl⟩; clear hn hl)
          | (go_at_call 48; first
              | (refine (Times_x _ _ a.n.natAbs b.d.natAbs _ ?_ ?_ ?_).mono ?_; (focus (refine Nm.out ?_; (repeat (first | assumption | apply Nm.drew | (apply Nm.nxt2; assumption))); done)); (focus (refine Nm.out ?_; (repeat (first | assumption | apply Nm.drew | (apply Nm.nxt2; assumption))); done)); (focus (refine Lt5.out ?_; assumption)))
              | (refine (Times_x _ _ b.n.natAbs a.d.natAbs _ ?_ ?_ ?_).mono ?_; (focus (refine Nm.out ?_; (repeat (first | assumption | apply Nm.drew | (apply Nm.nxt2; assumption))); done)); (focus (refine Nm.out ?_; (repeat (first | assumption | apply Nm.drew | (apply Nm.nxt2; assumption))); done)); (focus (refine Lt5.out ?_; assumption)))
             rintro e w' ⟨v, rfl, hn, hb⟩; have hx : Nxt _ w' := ⟨hb⟩; have hk : Tk w a b w' := Tk.next (by assumption) hb; have hm : Nm w' v _ := ⟨hn⟩; clear hn)
          | (go_at_call 47; refine (Sum_x _ _ (a.n.natAbs * b.d.natAbs) (b.n.natAbs * a.d.natAbs) _ _ (a.n * b.d) (-(b.n * a.d)) _ hx1.out hy1.out ?_ ?_ hX5.out hY5.out).mono ?_; (focus (refine Nm.out ?_; (repeat (first | assumption | apply Nm.drew | (apply Nm.nxt2; assumption))); done)); (focus (refine Nm.out ?_; (repeat (first | assumption | apply Nm.drew | (apply Nm.nxt2; assumption))); done)); rintro e w' ⟨u, f, rfl, hn, hf1, hf2, hb⟩; have hx : Nxt _ w' := ⟨hb⟩; have hk : Tk w a b w' := Tk.next (by assumption) hb; have hm : Nm w' u _ := ⟨hn⟩; have hF1 := Lib.hid hf1; have hF2 := Lib.hid hf2; clear hn hf1 hf2))
      rename_i hHeld
      have t3 : Three w a b w' := hk.out
      have hu : Nm w' u (a.n * b.d + (-(b.n * a.d))).natAbs := by assumption
      have F1 := Lib.hid hF1.out
      have F2 := Lib.hid hF2.out
      obtain ⟨w3, hw⟩ : ∃ x, x = w' := ⟨w', rfl⟩
      subst hw
      clear hHeld hT hT' hk hx hb hF1 hF2
      clear y1 y2 y3 y4 y5 y6 y7 y8 y9
      have hu2 : Nm w3 u V.natAbs := by rw [HV.out]; exact hu
      have G1 : Hid (f = true → V ≤ 0) := by show _ → _; rw [HV.out]; exact F1.out
      have G2 : Hid (f = false → 0 ≤ V) := by show _ → _; rw [HV.out]; exact F2.out
      clear hm hu F1 F2
      obtain ⟨⟨⟨n0, d0⟩, e0⟩, HR⟩ : ∃ R, R = Rt.sub a b := ⟨_, rfl⟩
      have hR := Lib.hid HR
      rw [← HR] at hres
      clear HR
      have hgo : Hid (∀ neg : Bool, neg = decide (V < 0) → gv neg V.natAbs (a.d.natAbs * b.d.natAbs) = (⟨n0, d0⟩, e0)) := by
        intro neg hneg
        rw [hneg]
        have h := hres.out
        unfold rok at h
        injection h with h
        have h1 := congrArg (fun x => x.toList) h
        simp only [List.cons.injEq, Value.agg.injEq, Value.int.injEq, and_true, true_and] at h1
        generalize gv (decide (V < 0)) V.natAbs (a.d.natAbs * b.d.natAbs) = g at h1 ⊢
        obtain ⟨⟨gn, gd⟩, ge⟩ := g
        simp at h1
        obtain ⟨⟨h1, h2⟩, h3⟩ := h1
        subst h1; subst h2; subst h3
        rfl
      cases f with
      | true =>
        obtain ⟨zb, ez⟩ : ∃ zb, zb = decide (V.natAbs = 0) := ⟨_, rfl⟩
        have hz : Hid (decide (V.natAbs = 0) = zb) := ez.symm
        have hgv : Hid (gv (!zb) V.natAbs (a.d.natAbs * b.d.natAbs) = (⟨n0, d0⟩, e0)) := hgo.out _ (by
          have := G1.out rfl
          rw [ez]
          by_cases h : V < 0
          · rw [decide_eq_true h, decide_eq_false (by omega)]; rfl
          · rw [decide_eq_false h, decide_eq_true (by omega)]; rfl)
        clear ez
        have y1 := t3.size
        have y2 := t3.a0
        have y3 := t3.a1
        have y4 := t3.b0
        have y5 := t3.b1
        have y6 := t3.r0
        have y7 := t3.r1
        have y8 := t3.f 0
        have y9 := t3.f 1
        go_wp2_with fail
        clear y1 y2 y3 y4 y5 y6 y7 y8 y9
        have y1 := t3.size
        have y2 := t3.a0
        have y3 := t3.a1
        have y4 := t3.b0
        have y5 := t3.b1
        have y6 := t3.r0
        have y7 := t3.r1
        have y8 := t3.f 0
        have y9 := t3.f 1
        have hT : Tk w a b _ := ⟨t3⟩
        have hT' : Tk w a b _ := ⟨t3.drew⟩
        go_region_held3 (fun w' => w.heap.size + 1 + 1 < w'.heap.size ∧ w'.cell? ⟨w.heap.size, 0, none⟩ = some (.int .i64 a.n) ∧ w'.cell? ⟨w.heap.size, 1, none⟩ = some (.int .i64 a.d) ∧ w'.cell? ⟨w.heap.size + 1, 0, none⟩ = some (.int .i64 b.n) ∧ w'.cell? ⟨w.heap.size + 1, 1, none⟩ = some (.int .i64 b.d))
          (first
            | exact sk_all hT
            | exact sk_all hT'
            | exact sk_all (by assumption)
            | exact sk_set (sk_set (sk_all (by assumption))))
          (first
            | (go_at_call 49; refine (Zero_x _ _ _ ?_ hlv.out).mono ?_; (focus (refine Nm.out ?_; (repeat (first | assumption | apply Nm.drew | (apply Nm.nxt2; assumption))); done)); rintro e w' ⟨rfl, hb⟩; have hx : Nxt _ w' := ⟨hb⟩; have hk : Tk w a b w' := Tk.next (by assumption) hb; rw [hz.out])
            | (go_at_call 36; refine (Of_x _ _ (by first | exact iA.out.1 | exact iA.out.2 | exact iB.out.1 | exact iB.out.2)).mono ?_; rintro e w' ⟨v, rfl, hn, hl, hb⟩; have hx : Nxt _ w' := ⟨hb⟩; have hk : Tk w a b w' := Tk.next (by assumption) hb; have hm : Nm w' v _ := ⟨hn⟩; have hy : Lt5 _ := ⟨hl⟩; clear hn hl)
            | (go_at_call 48; first
                | (refine (Times_x _ _ a.d.natAbs b.d.natAbs _ ?_ ?_ ?_).mono ?_; (focus (refine Nm.out ?_; (repeat (first | assumption | apply Nm.drew | (apply Nm.nxt2; assumption))); done)); (focus (refine Nm.out ?_; (repeat (first | assumption | apply Nm.drew | (apply Nm.nxt2; assumption))); done)); (focus (refine Lt5.out ?_; assumption)))
               rintro e w' ⟨v, rfl, hn, hb⟩; have hx : Nxt _ w' := ⟨hb⟩; have hk : Tk w a b w' := Tk.next (by assumption) hb; have hm : Nm w' v _ := ⟨hn⟩; clear hn)
            | (go_at_call 35; refine (Give_x _ _ _ V.natAbs (a.d.natAbs * b.d.natAbs) _ ?_ ?_ hD0.out hN1.out hD1.out).mono ?_; (focus (refine Nm.out ?_; (repeat (first | assumption | apply Nm.drew | (apply Nm.nxt2; assumption))); done)); (focus (refine Nm.out ?_; (repeat (first | assumption | apply Nm.drew | (apply Nm.nxt2; assumption))); done)); rintro e w' ⟨rfl, hb⟩; have hx : Nxt _ w' := ⟨hb⟩; have hk : Tk w a b w' := Tk.next (by assumption) hb; rw [hgv.out]; simp only [rok]; have z0 := hk.out.r0; have z1 := hk.out.r1; have z2 := hk.out.f 0; have z3 := hk.out.f 1))
        rename_i hHeld
        clear hHeld
        clear y1 y2 y3 y4 y5 y6 y7 y8 y9
        have t4 : Three w a b w' := hk.out
        have y6 := t4.r0
        have y7 := t4.r1
        go_wp2_with fail
        exact bodyPost_ret (v := .tuple #[.agg #[.int .i64 n0, .int .i64 d0], .int .i64 e0]) (by simp [results, Try.results16, go_sem, y6, y7]) rfl ⟨by rw [← hR.out]; try rfl, by repeat (first | exact t4.below | refine below_drewN ?_ _ | refine Below.drew ?_ | refine Below.setCell ?_ (by simp; omega) _)⟩
      | false =>
        have hgv : Hid (gv false V.natAbs (a.d.natAbs * b.d.natAbs) = (⟨n0, d0⟩, e0)) := hgo.out _ (by
          have := G2.out rfl
          rw [decide_eq_false (by omega)])
        have y1 := t3.size
        have y2 := t3.a0
        have y3 := t3.a1
        have y4 := t3.b0
        have y5 := t3.b1
        have y6 := t3.r0
        have y7 := t3.r1
        have y8 := t3.f 0
        have y9 := t3.f 1
        go_wp2_with fail
        clear y1 y2 y3 y4 y5 y6 y7 y8 y9
        have y1 := t3.size
        have y2 := t3.a0
        have y3 := t3.a1
        have y4 := t3.b0
        have y5 := t3.b1
        have y6 := t3.r0
        have y7 := t3.r1
        have y8 := t3.f 0
        have y9 := t3.f 1
        have hT : Tk w a b _ := ⟨t3⟩
        have hT' : Tk w a b _ := ⟨t3.drew⟩
        refine wp_region_held_drew (S := fun w' => w.heap.size + 1 + 1 < w'.heap.size ∧ w'.cell? ⟨w.heap.size, 0, none⟩ = some (.int .i64 a.n) ∧ w'.cell? ⟨w.heap.size, 1, none⟩ = some (.int .i64 a.d) ∧ w'.cell? ⟨w.heap.size + 1, 0, none⟩ = some (.int .i64 b.n) ∧ w'.cell? ⟨w.heap.size + 1, 1, none⟩ = some (.int .i64 b.d)) (by kernel_rfl) ?_ (fun hHeld => ?_)
        · (first
            | exact sk_all hT
            | exact sk_all hT'
            | exact sk_all (by assumption)
            | exact sk_set (sk_set (sk_all (by assumption))))
        refine takeN0 (v := ?_) (by kernel_rfl) (by kernel_rfl) (by kernel_rfl) (fun _ _ _ h => h) (by rfl) ?_ (by assumption) ?_
        rotate_left
        · intro w hSw
          try dsimp only at hSw
          go_simp
          try with_reducible rfl
        try simp only [Act.put, List.setIfInBounds_toArray, List.set_cons_zero, List.set_cons_succ]
        refine takeN1 (v := ?_) (by kernel_rfl) (by kernel_rfl) (by kernel_rfl) (fun _ _ _ h => h) (by rfl) ?_ (by assumption) ?_
        rotate_left
        · intro w hSw
          try dsimp only at hSw
          go_simp
          try with_reducible rfl
        try simp only [Act.put, List.setIfInBounds_toArray, List.set_cons_zero, List.set_cons_succ]
        refine passN2 (by kernel_rfl) (by kernel_rfl) (by kernel_rfl) (fun _ _ _ h => h) (by rfl) (by assumption) ?_
        try simp only [Act.put, List.setIfInBounds_toArray, List.set_cons_zero, List.set_cons_succ]
        refine passN3 (by kernel_rfl) (by kernel_rfl) (by kernel_rfl) (fun _ _ _ h => h) (by rfl) (by assumption) ?_
        try simp only [Act.put, List.setIfInBounds_toArray, List.set_cons_zero, List.set_cons_succ]
        refine passN4 (by kernel_rfl) (by kernel_rfl) (by kernel_rfl) (fun _ _ _ h => h) (by rfl) (by assumption) ?_
        try simp only [Act.put, List.setIfInBounds_toArray, List.set_cons_zero, List.set_cons_succ]
        refine takeN5 (v := ?_) (by kernel_rfl) (by kernel_rfl) (by kernel_rfl) (fun _ _ _ h => h) (by rfl) ?_ (by assumption) ?_
        rotate_left
        · intro w hSw
          try dsimp only at hSw
          go_simp
          try with_reducible rfl
        try simp only [Act.put, List.setIfInBounds_toArray, List.set_cons_zero, List.set_cons_succ]
        refine takeN6 (v := ?_) (by kernel_rfl) (by kernel_rfl) (by kernel_rfl) (fun _ _ _ h => h) (by rfl) ?_ (by assumption) ?_
        rotate_left
        · intro w hSw
          try dsimp only at hSw
          go_simp
          try with_reducible rfl
        try simp only [Act.put, List.setIfInBounds_toArray, List.set_cons_zero, List.set_cons_succ]
        refine takeN7 (v := ?_) (by kernel_rfl) (by kernel_rfl) (by kernel_rfl) (fun _ _ _ h => h) (by rfl) ?_ (by assumption) ?_
        rotate_left
        · intro w hSw
          try dsimp only at hSw
          go_simp
          try with_reducible rfl
        try simp only [Act.put, List.setIfInBounds_toArray, List.set_cons_zero, List.set_cons_succ]
        refine takeN8 (v := ?_) (by kernel_rfl) (by kernel_rfl) (by kernel_rfl) (fun _ _ _ h => h) (by rfl) ?_ (by assumption) ?_
        rotate_left
        · intro w hSw
          try dsimp only at hSw
          go_simp
          try with_reducible rfl
        try simp only [Act.put, List.setIfInBounds_toArray, List.set_cons_zero, List.set_cons_succ]
        refine takeN10 (v := ?_) (by kernel_rfl) (by kernel_rfl) (by kernel_rfl) (fun _ _ _ h => h) (by rfl) ?_ (by assumption) ?_
        rotate_left
        · intro w hSw
          try dsimp only at hSw
          go_simp
          try with_reducible rfl
        try simp only [Act.put, List.setIfInBounds_toArray, List.set_cons_zero, List.set_cons_succ]
        refine takeN11 (v := ?_) (by kernel_rfl) (by kernel_rfl) (by kernel_rfl) (fun _ _ _ h => h) (by rfl) ?_ (by assumption) ?_
        rotate_left
        · intro w hSw
          try dsimp only at hSw
          go_simp
          try with_reducible rfl
        try simp only [Act.put, List.setIfInBounds_toArray, List.set_cons_zero, List.set_cons_succ]
        refine comeN9 (by kernel_rfl) (by rfl) (fun K hK => ?_)
        go_simp
        first
            | (go_at_call 36; refine (Of_x _ _ (by first | exact iA.out.1 | exact iA.out.2 | exact iB.out.1 | exact iB.out.2)).mono ?_; rintro e w' ⟨v, rfl, hn, hl, hb⟩; have hx : Nxt _ w' := ⟨hb⟩; have hk : Tk w a b w' := Tk.next (by assumption) hb; have hm : Nm w' v _ := ⟨hn⟩; have hy : Lt5 _ := ⟨hl⟩; clear hn hl)
            | (go_at_call 48; first
                | (refine (Times_x _ _ a.d.natAbs b.d.natAbs _ ?_ ?_ ?_).mono ?_; (focus (refine Nm.out ?_; (repeat (first | assumption | apply Nm.drew | (apply Nm.nxt2; assumption))); done)); (focus (refine Nm.out ?_; (repeat (first | assumption | apply Nm.drew | (apply Nm.nxt2; assumption))); done)); (focus (refine Lt5.out ?_; assumption)))
               rintro e w' ⟨v, rfl, hn, hb⟩; have hx : Nxt _ w' := ⟨hb⟩; have hk : Tk w a b w' := Tk.next (by assumption) hb; have hm : Nm w' v _ := ⟨hn⟩; clear hn)
            | (go_at_call 35; refine (Give_x _ _ _ V.natAbs (a.d.natAbs * b.d.natAbs) _ ?_ ?_ hD0.out hN1.out hD1.out).mono ?_; (focus (refine Nm.out ?_; (repeat (first | assumption | apply Nm.drew | (apply Nm.nxt2; assumption))); done)); (focus (refine Nm.out ?_; (repeat (first | assumption | apply Nm.drew | (apply Nm.nxt2; assumption))); done)); rintro e w' ⟨rfl, hb⟩; have hx : Nxt _ w' := ⟨hb⟩; have hk : Tk w a b w' := Tk.next (by assumption) hb; rw [hgv.out]; simp only [rok]; have z0 := hk.out.r0; have z1 := hk.out.r1; have z2 := hk.out.f 0; have z3 := hk.out.f 1)
        try go_wp2_with fail
        refine hK.out _ _ ?_ (fun hHeld => ?_)
        · (first
            | exact sk_all hT
            | exact sk_all hT'
            | exact sk_all (by assumption)
            | exact sk_set (sk_set (sk_all (by assumption))))
        clear hK K
        try simp only [Act.put, List.setIfInBounds_toArray, List.set_cons_zero, List.set_cons_succ]
        refine comeN12 (by kernel_rfl) (by rfl) (fun K hK => ?_)
        go_simp
        first
            | (go_at_call 36; refine (Of_x _ _ (by first | exact iA.out.1 | exact iA.out.2 | exact iB.out.1 | exact iB.out.2)).mono ?_; rintro e w' ⟨v, rfl, hn, hl, hb⟩; have hx : Nxt _ w' := ⟨hb⟩; have hk : Tk w a b w' := Tk.next (by assumption) hb; have hm : Nm w' v _ := ⟨hn⟩; have hy : Lt5 _ := ⟨hl⟩; clear hn hl)
            | (go_at_call 48; first
                | (refine (Times_x _ _ a.d.natAbs b.d.natAbs _ ?_ ?_ ?_).mono ?_; (focus (refine Nm.out ?_; (repeat (first | assumption | apply Nm.drew | (apply Nm.nxt2; assumption))); done)); (focus (refine Nm.out ?_; (repeat (first | assumption | apply Nm.drew | (apply Nm.nxt2; assumption))); done)); (focus (refine Lt5.out ?_; assumption)))
               rintro e w' ⟨v, rfl, hn, hb⟩; have hx : Nxt _ w' := ⟨hb⟩; have hk : Tk w a b w' := Tk.next (by assumption) hb; have hm : Nm w' v _ := ⟨hn⟩; clear hn)
            | (go_at_call 35; refine (Give_x _ _ _ V.natAbs (a.d.natAbs * b.d.natAbs) _ ?_ ?_ hD0.out hN1.out hD1.out).mono ?_; (focus (refine Nm.out ?_; (repeat (first | assumption | apply Nm.drew | (apply Nm.nxt2; assumption))); done)); (focus (refine Nm.out ?_; (repeat (first | assumption | apply Nm.drew | (apply Nm.nxt2; assumption))); done)); rintro e w' ⟨rfl, hb⟩; have hx : Nxt _ w' := ⟨hb⟩; have hk : Tk w a b w' := Tk.next (by assumption) hb; rw [hgv.out]; simp only [rok]; have z0 := hk.out.r0; have z1 := hk.out.r1; have z2 := hk.out.f 0; have z3 := hk.out.f 1)
        try go_wp2_with fail
        refine hK.out _ _ ?_ (fun hHeld => ?_)
        · (first
            | exact sk_all hT
            | exact sk_all hT'
            | exact sk_all (by assumption)
            | exact sk_set (sk_set (sk_all (by assumption))))
        clear hK K
        try simp only [Act.put, List.setIfInBounds_toArray, List.set_cons_zero, List.set_cons_succ]
        refine comeN13 (by kernel_rfl) (by rfl) (fun K hK => ?_)
        go_simp
        first
            | (go_at_call 36; refine (Of_x _ _ (by first | exact iA.out.1 | exact iA.out.2 | exact iB.out.1 | exact iB.out.2)).mono ?_; rintro e w' ⟨v, rfl, hn, hl, hb⟩; have hx : Nxt _ w' := ⟨hb⟩; have hk : Tk w a b w' := Tk.next (by assumption) hb; have hm : Nm w' v _ := ⟨hn⟩; have hy : Lt5 _ := ⟨hl⟩; clear hn hl)
            | (go_at_call 48; first
                | (refine (Times_x _ _ a.d.natAbs b.d.natAbs _ ?_ ?_ ?_).mono ?_; (focus (refine Nm.out ?_; (repeat (first | assumption | apply Nm.drew | (apply Nm.nxt2; assumption))); done)); (focus (refine Nm.out ?_; (repeat (first | assumption | apply Nm.drew | (apply Nm.nxt2; assumption))); done)); (focus (refine Lt5.out ?_; assumption)))
               rintro e w' ⟨v, rfl, hn, hb⟩; have hx : Nxt _ w' := ⟨hb⟩; have hk : Tk w a b w' := Tk.next (by assumption) hb; have hm : Nm w' v _ := ⟨hn⟩; clear hn)
            | (go_at_call 35; refine (Give_x _ _ _ V.natAbs (a.d.natAbs * b.d.natAbs) _ ?_ ?_ hD0.out hN1.out hD1.out).mono ?_; (focus (refine Nm.out ?_; (repeat (first | assumption | apply Nm.drew | (apply Nm.nxt2; assumption))); done)); (focus (refine Nm.out ?_; (repeat (first | assumption | apply Nm.drew | (apply Nm.nxt2; assumption))); done)); rintro e w' ⟨rfl, hb⟩; have hx : Nxt _ w' := ⟨hb⟩; have hk : Tk w a b w' := Tk.next (by assumption) hb; rw [hgv.out]; simp only [rok]; have z0 := hk.out.r0; have z1 := hk.out.r1; have z2 := hk.out.f 0; have z3 := hk.out.f 1)
        try go_wp2_with fail
        refine hK.out _ _ ?_ (fun hHeld => ?_)
        · (first
            | exact sk_all hT
            | exact sk_all hT'
            | exact sk_all (by assumption)
            | exact sk_set (sk_set (sk_all (by assumption))))
        clear hK K
        try simp only [Act.put, List.setIfInBounds_toArray, List.set_cons_zero, List.set_cons_succ]
        refine comeN14 (by kernel_rfl) (by rfl) (fun K hK => ?_)
        go_simp
        first
            | (go_at_call 36; refine (Of_x _ _ (by first | exact iA.out.1 | exact iA.out.2 | exact iB.out.1 | exact iB.out.2)).mono ?_; rintro e w' ⟨v, rfl, hn, hl, hb⟩; have hx : Nxt _ w' := ⟨hb⟩; have hk : Tk w a b w' := Tk.next (by assumption) hb; have hm : Nm w' v _ := ⟨hn⟩; have hy : Lt5 _ := ⟨hl⟩; clear hn hl)
            | (go_at_call 48; first
                | (refine (Times_x _ _ a.d.natAbs b.d.natAbs _ ?_ ?_ ?_).mono ?_; (focus (refine Nm.out ?_; (repeat (first | assumption | apply Nm.drew | (apply Nm.nxt2; assumption))); done)); (focus (refine Nm.out ?_; (repeat (first | assumption | apply Nm.drew | (apply Nm.nxt2; assumption))); done)); (focus (refine Lt5.out ?_; assumption)))
               rintro e w' ⟨v, rfl, hn, hb⟩; have hx : Nxt _ w' := ⟨hb⟩; have hk : Tk w a b w' := Tk.next (by assumption) hb; have hm : Nm w' v _ := ⟨hn⟩; clear hn)
            | (go_at_call 35; refine (Give_x _ _ _ V.natAbs (a.d.natAbs * b.d.natAbs) _ ?_ ?_ hD0.out hN1.out hD1.out).mono ?_; (focus (refine Nm.out ?_; (repeat (first | assumption | apply Nm.drew | (apply Nm.nxt2; assumption))); done)); (focus (refine Nm.out ?_; (repeat (first | assumption | apply Nm.drew | (apply Nm.nxt2; assumption))); done)); rintro e w' ⟨rfl, hb⟩; have hx : Nxt _ w' := ⟨hb⟩; have hk : Tk w a b w' := Tk.next (by assumption) hb; rw [hgv.out]; simp only [rok]; have z0 := hk.out.r0; have z1 := hk.out.r1; have z2 := hk.out.f 0; have z3 := hk.out.f 1)
        try go_wp2_with fail
        refine hK.out _ _ ?_ (fun hHeld => ?_)
        · (first
            | exact sk_all hT
            | exact sk_all hT'
            | exact sk_all (by assumption)
            | exact sk_set (sk_set (sk_all (by assumption))))
        clear hK K
        try simp only [Act.put, List.setIfInBounds_toArray, List.set_cons_zero, List.set_cons_succ]
        refine takeN15 (v := ?_) (by kernel_rfl) (by kernel_rfl) (by kernel_rfl) (fun _ _ _ h => h) (by rfl) ?_ (by assumption) ?_
        rotate_left
        · intro w hSw
          try dsimp only at hSw
          go_simp
          try with_reducible rfl
        try simp only [Act.put, List.setIfInBounds_toArray, List.set_cons_zero, List.set_cons_succ]
        refine takeN16 (v := ?_) (by kernel_rfl) (by kernel_rfl) (by kernel_rfl) (fun _ _ _ h => h) (by rfl) ?_ (by assumption) ?_
        rotate_left
        · intro w hSw
          try dsimp only at hSw
          go_simp
          try with_reducible rfl
        try simp only [Act.put, List.setIfInBounds_toArray, List.set_cons_zero, List.set_cons_succ]
        refine comeN17 (by kernel_rfl) (by rfl) (fun K hK => ?_)
        go_simp
        refine hK.out _ _ ?_ (fun hHeld => ?_)
        · (first
            | exact sk_all hT
            | exact sk_all hT'
            | exact sk_all (by assumption)
            | exact sk_set (sk_set (sk_all (by assumption))))
        clear hK K
        try simp only [Act.put, List.setIfInBounds_toArray, List.set_cons_zero, List.set_cons_succ]
        refine takeN18 (v := ?_) (by kernel_rfl) (by kernel_rfl) (by kernel_rfl) (fun _ _ _ h => h) (by rfl) ?_ (by assumption) ?_
        rotate_left
        · intro w hSw
          try dsimp only at hSw
          go_simp
          try with_reducible rfl
        try simp only [Act.put, List.setIfInBounds_toArray, List.set_cons_zero, List.set_cons_succ]
        refine wpAnyH_done (by kernel_rfl) ?_ _
        clear y1 y2 y3 y4 y5 y6 y7 y8 y9
        have t4 : Three w a b w' := hk.out
        have y6 := t4.r0
        have y7 := t4.r1
        go_wp2_with fail
        exact bodyPost_ret (v := .tuple #[.agg #[.int .i64 n0, .int .i64 d0], .int .i64 e0]) (by simp [results, Try.results16, go_sem, y6, y7]) rfl ⟨by rw [← hR.out]; try rfl, by repeat (first | exact t4.below | refine below_drewN ?_ _ | refine Below.drew ?_ | refine Below.setCell ?_ (by simp; omega) _)⟩

end Go.Proofs.Ytnddfngdlmdmhaa
