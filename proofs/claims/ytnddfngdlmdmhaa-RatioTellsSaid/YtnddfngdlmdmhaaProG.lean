/-
  The program's Mul.
-/
import Derived.Test.YtnddfngdlmdmhaaProF
namespace Go.Proofs.Ytnddfngdlmdmhaa
open Go.RowKit

set_option maxHeartbeats 6400000 in
set_option maxRecDepth 100000 in
theorem Mul_x (a b : Rt.R) (w : World) (ha : In a) (hb : In b) : Calls Try.prog 17 #[rv a, rv b] w fun e w' => e = .returned (rok (Rt.mul a b)) ∧ Below w.heap.size w w' := by
  have hA := Lib.hid ha
  have hB := Lib.hid hb
  cases ra : Rt.right a with
  | false =>
    have hv : Hid (Rt.mul a b = (⟨0, 0⟩, 1)) := Rt.two_not (by rw [ra]; simp) _ _
    have Ra := Lib.hid ra
    clear ra ha hb
    go_enter Try.func17, Try.ntmps17
    go_wp2_with fail
    refine (Right_x a _ hA.out).mono ?_
    rintro e w1 ⟨rfl, b1⟩
    have t1 := (Three.start w a b 23).next b1
    clear b1
    rw [Ra.out]
    have y1 := t1.size
    have y2 := t1.a0
    have y3 := t1.a1
    have y4 := t1.b0
    have y5 := t1.b1
    have y6 := t1.r0
    have y7 := t1.r1
    have y8 := t1.f 0
    have y9 := t1.f 1
    go_wp2_with fail
    exact bodyPost_ret (v := .tuple #[.agg #[.int .i64 0, .int .i64 0], .int .i64 1]) (by simp [results, Try.results17, go_sem, y6, y7]) rfl ⟨by rw [hv.out]; try rfl, by repeat (first | exact t1.below | refine below_drewN ?_ _ | refine Below.drew ?_ | refine Below.setCell ?_ (by simp; omega) _)⟩
  | true =>
    have Ra := Lib.hid ra
    cases rb : Rt.right b with
    | false =>
      have hv : Hid (Rt.mul a b = (⟨0, 0⟩, 1)) := Rt.two_not (by rw [rb]; simp) _ _
      have Rb := Lib.hid rb
      clear ra rb ha hb
      go_enter Try.func17, Try.ntmps17
      go_wp2_with fail
      refine (Right_x a _ hA.out).mono ?_
      rintro e w1 ⟨rfl, b1⟩
      have t1 := (Three.start w a b 23).next b1
      clear b1
      rw [Ra.out]
      have y1 := t1.size
      have y2 := t1.a0
      have y3 := t1.a1
      have y4 := t1.b0
      have y5 := t1.b1
      have y6 := t1.r0
      have y7 := t1.r1
      have y8 := t1.f 0
      have y9 := t1.f 1
      go_wp2_with fail
      refine (Right_x b _ hB.out).mono ?_
      rintro e w2 ⟨rfl, b2⟩
      have t2 := t1.next b2
      clear b2 t1
      clear y1 y2 y3 y4 y5 y6 y7 y8 y9
      rw [Rb.out]
      have y1 := t2.size
      have y2 := t2.a0
      have y3 := t2.a1
      have y4 := t2.b0
      have y5 := t2.b1
      have y6 := t2.r0
      have y7 := t2.r1
      have y8 := t2.f 0
      have y9 := t2.f 1
      go_wp2_with fail
      exact bodyPost_ret (v := .tuple #[.agg #[.int .i64 0, .int .i64 0], .int .i64 1]) (by simp [results, Try.results17, go_sem, y6, y7]) rfl ⟨by rw [hv.out]; try rfl, by repeat (first | exact t2.below | refine below_drewN ?_ _ | refine Below.drew ?_ | refine Below.setCell ?_ (by simp; omega) _)⟩
    | true =>
      have Rb := Lib.hid rb
      obtain ⟨a1, a2, a3⟩ := right_small ra
      obtain ⟨b1, b2, b3⟩ := right_small rb
      have da : (a.d.natAbs : Int) = a.d := by omega
      have db : (b.d.natAbs : Int) = b.d := by omega
      have hmul := mul_gp ra rb
      have M1 : Hid (∀ w : World, Calls Try.prog 33 #[.int .i64 a.n] w fun e w' => e = .returned (.int .u64 (a.n.natAbs : Nat)) ∧ Below w.heap.size w w') := fun w => magnitude_x a.n w ha.1
      have M2 : Hid (∀ w : World, Calls Try.prog 33 #[.int .i64 b.n] w fun e w' => e = .returned (.int .u64 (b.n.natAbs : Nat)) ∧ Below w.heap.size w w') := fun w => magnitude_x b.n w hb.1
      have D1 : Hid (∀ w : World, Calls Try.prog 32 #[.int .u64 (a.n.natAbs : Nat), .int .u64 b.d] w fun e w' => e = .returned (.tuple #[.int .u64 (a.n.natAbs / Nat.gcd a.n.natAbs b.d.natAbs : Nat), .int .u64 (b.d.natAbs / Nat.gcd a.n.natAbs b.d.natAbs : Nat)]) ∧ Below w.heap.size w w') := fun w => by
        have h := reduce_x a.n.natAbs b.d.natAbs w (by omega) (by omega) (by omega)
        rw [db] at h
        exact h
      have D2 : Hid (∀ w : World, Calls Try.prog 32 #[.int .u64 (b.n.natAbs : Nat), .int .u64 a.d] w fun e w' => e = .returned (.tuple #[.int .u64 (b.n.natAbs / Nat.gcd b.n.natAbs a.d.natAbs : Nat), .int .u64 (a.d.natAbs / Nat.gcd b.n.natAbs a.d.natAbs : Nat)]) ∧ Below w.heap.size w w') := fun w => by
        have h := reduce_x b.n.natAbs a.d.natAbs w (by omega) (by omega) (by omega)
        rw [da] at h
        exact h
      have lx : a.n.natAbs / Nat.gcd a.n.natAbs b.d.natAbs < 18446744073709551616 := Nat.lt_of_le_of_lt (Nat.div_le_self _ _) (by omega)
      have ly : b.d.natAbs / Nat.gcd a.n.natAbs b.d.natAbs < 18446744073709551616 := Nat.lt_of_le_of_lt (Nat.div_le_self _ _) (by omega)
      have lz : b.n.natAbs / Nat.gcd b.n.natAbs a.d.natAbs < 18446744073709551616 := Nat.lt_of_le_of_lt (Nat.div_le_self _ _) (by omega)
      have lu : a.d.natAbs / Nat.gcd b.n.natAbs a.d.natAbs < 18446744073709551616 := Nat.lt_of_le_of_lt (Nat.div_le_self _ _) (by omega)
      have w1' : IntKind.u64.wrap a.d = a.d := by rw [← da]; exact wrapU _ (by omega)
      have w2' : IntKind.u64.wrap b.d = b.d := by rw [← db]; exact wrapU _ (by omega)
      generalize a.n.natAbs / Nat.gcd a.n.natAbs b.d.natAbs = x at *
      generalize b.d.natAbs / Nat.gcd a.n.natAbs b.d.natAbs = y at *
      generalize b.n.natAbs / Nat.gcd b.n.natAbs a.d.natAbs = z at *
      generalize a.d.natAbs / Nat.gcd b.n.natAbs a.d.natAbs = u at *
      have X1 : Hid (∀ w : World, Calls Try.prog 46 #[.int .u64 x, .int .u64 z] w fun e w' => e = .returned (wv (x * z)) ∧ Below w.heap.size w w') := fun w => wtimes_x x z w lx lz
      have X2 : Hid (∀ w : World, Calls Try.prog 46 #[.int .u64 y, .int .u64 u] w fun e w' => e = .returned (wv (y * u)) ∧ Below w.heap.size w w') := fun w => wtimes_x y u w ly lu
      obtain ⟨f1, hf1⟩ : ∃ f1, decide (a.n < 0) = f1 := ⟨_, rfl⟩
      obtain ⟨f2, hf2⟩ : ∃ f2, decide (b.n < 0) = f2 := ⟨_, rfl⟩
      rw [hf1, hf2] at hmul
      have G1 : Hid (∀ w : World, Calls Try.prog 34 #[.bool (f1 != f2), wv (x * z), wv (y * u)] w fun e w' => e = .returned (rok (Rt.mul a b)) ∧ Below w.heap.size w w') := fun w => by
        have h := give_x (f1 != f2) (x * z) (y * u) w
        rw [hmul] at h
        exact h
      unfold wv at X1 X2 G1
      generalize x * z / 18446744073709551616 = h1 at *
      generalize x * z % 18446744073709551616 = l1 at *
      generalize y * u / 18446744073709551616 = h2 at *
      generalize y * u % 18446744073709551616 = l2 at *
      clear hmul lx ly lz lu
      obtain ⟨⟨⟨n0, d0⟩, e0⟩, HR⟩ : ∃ R, R = Rt.mul a b := ⟨_, rfl⟩
      rw [← HR] at G1 ⊢
      unfold rok at G1 ⊢
      simp only at G1 ⊢
      clear HR ra rb ha hb a1 a2 a3 b1 b2 b3 da db
      generalize a.n.natAbs = an at *
      generalize b.n.natAbs = bn at *
      cases f1 <;> cases f2
      all_goals
        try simp only [bne_self_eq_false, Bool.bne_true, Bool.bne_false, Bool.not_false] at G1
        go_enter Try.func17, Try.ntmps17
        go_wp2_with fail
        refine (Right_x a _ hA.out).mono ?_
        rintro e w1 ⟨rfl, b1⟩
        have t1 := (Three.start w a b 23).next b1
        clear b1
        rw [Ra.out]
        have y1 := t1.size
        have y2 := t1.a0
        have y3 := t1.a1
        have y4 := t1.b0
        have y5 := t1.b1
        have y6 := t1.r0
        have y7 := t1.r1
        have y8 := t1.f 0
        have y9 := t1.f 1
        go_wp2_with fail
        refine (Right_x b _ hB.out).mono ?_
        rintro e w2 ⟨rfl, b2⟩
        have t2 := t1.next b2
        clear b2 t1
        clear y1 y2 y3 y4 y5 y6 y7 y8 y9
        rw [Rb.out]
        have y1 := t2.size
        have y2 := t2.a0
        have y3 := t2.a1
        have y4 := t2.b0
        have y5 := t2.b1
        have y6 := t2.r0
        have y7 := t2.r1
        have y8 := t2.f 0
        have y9 := t2.f 1
        go_wp2_with fail
        clear y1 y2 y3 y4 y5 y6 y7 y8 y9
        have y1 := t2.size
        have y2 := t2.a0
        have y3 := t2.a1
        have y4 := t2.b0
        have y5 := t2.b1
        have y6 := t2.r0
        have y7 := t2.r1
        have y8 := t2.f 0
        have y9 := t2.f 1
        have hT : Tk w a b _ := ⟨t2⟩
        have hT' : Tk w a b _ := ⟨t2.drew⟩
        refine wp_region_held_drew (S := fun w' => w.heap.size + 1 + 1 < w'.heap.size ∧ w'.cell? ⟨w.heap.size, 0, none⟩ = some (.int .i64 a.n) ∧ w'.cell? ⟨w.heap.size, 1, none⟩ = some (.int .i64 a.d) ∧ w'.cell? ⟨w.heap.size + 1, 0, none⟩ = some (.int .i64 b.n) ∧ w'.cell? ⟨w.heap.size + 1, 1, none⟩ = some (.int .i64 b.d)) (by kernel_rfl) ?_ (fun hHeld => ?_)
        · (first
            | exact sk_all hT
            | exact sk_all hT'
            | exact sk_all (by assumption)
            | exact sk_set (sk_set (sk_all (by assumption))))
        refine takeN0 (v := ?_) (by kernel_rfl) (by kernel_rfl) (by kernel_rfl) (fun _ _ _ h => h) (by rfl) ?_ (by assumption) ?_
        rotate_left
        · intro w hSw
          try dsimp only at hSw
          go_simp
          try with_reducible rfl
        try simp only [Act.put, List.setIfInBounds_toArray, List.set_cons_zero, List.set_cons_succ]
        refine takeN1 (v := ?_) (by kernel_rfl) (by kernel_rfl) (by kernel_rfl) (fun _ _ _ h => h) (by rfl) ?_ (by assumption) ?_
        rotate_left
        · intro w hSw
          try dsimp only at hSw
          go_simp
          try with_reducible rfl
        try simp only [Act.put, List.setIfInBounds_toArray, List.set_cons_zero, List.set_cons_succ]
        refine takeN3 (v := ?_) (by kernel_rfl) (by kernel_rfl) (by kernel_rfl) (fun _ _ _ h => h) (by rfl) ?_ (by assumption) ?_
        rotate_left
        · intro w hSw
          try dsimp only at hSw
          go_simp
          try with_reducible rfl
        try simp only [Act.put, List.setIfInBounds_toArray, List.set_cons_zero, List.set_cons_succ]
        refine takeN4 (v := ?_) (by kernel_rfl) (by kernel_rfl) (by kernel_rfl) (fun _ _ _ h => h) (by rfl) ?_ (by assumption) ?_
        rotate_left
        · intro w hSw
          try dsimp only at hSw
          go_simp
          try with_reducible rfl
        try simp only [Act.put, List.setIfInBounds_toArray, List.set_cons_zero, List.set_cons_succ]
        refine takeN5 (v := ?_) (by kernel_rfl) (by kernel_rfl) (by kernel_rfl) (fun _ _ _ h => h) (by rfl) ?_ (by assumption) ?_
        rotate_left
        · intro w hSw
          try dsimp only at hSw
          go_simp
          try with_reducible rfl
        try simp only [Act.put, List.setIfInBounds_toArray, List.set_cons_zero, List.set_cons_succ]
        refine comeN2 (by kernel_rfl) (by rfl) (fun K hK => ?_)
        go_simp
        (go_at_call 33; refine (M1.out _).mono ?_; rintro e w' ⟨rfl, hb⟩; have hk : Tk w a b w' := Tk.next (by assumption) hb)
        try go_wp2_with fail
        refine hK.out _ _ ?_ (fun hHeld => ?_)
        · (first
            | exact sk_all hT
            | exact sk_all hT'
            | exact sk_all (by assumption)
            | exact sk_set (sk_set (sk_all (by assumption))))
        clear hK K
        try simp only [Act.put, List.setIfInBounds_toArray, List.set_cons_zero, List.set_cons_succ]
        refine comeN6 (by kernel_rfl) (by rfl) (fun K hK => ?_)
        go_simp
        (go_at_call 32; refine (D1.out _).mono ?_; rintro e w' ⟨rfl, hb⟩; have hk : Tk w a b w' := Tk.next (by assumption) hb)
        try go_wp2_with fail
        refine hK.out _ _ ?_ (fun hHeld => ?_)
        · (first
            | exact sk_all hT
            | exact sk_all hT'
            | exact sk_all (by assumption)
            | exact sk_set (sk_set (sk_all (by assumption))))
        clear hK K
        try simp only [Act.put, List.setIfInBounds_toArray, List.set_cons_zero, List.set_cons_succ]
        refine takeN7 (v := ?_) (by kernel_rfl) (by kernel_rfl) (by kernel_rfl) (fun _ _ _ h => h) (by rfl) ?_ (by assumption) ?_
        rotate_left
        · intro w hSw
          try dsimp only at hSw
          go_simp
          try with_reducible rfl
        try simp only [Act.put, List.setIfInBounds_toArray, List.set_cons_zero, List.set_cons_succ]
        refine takeN8 (v := ?_) (by kernel_rfl) (by kernel_rfl) (by kernel_rfl) (fun _ _ _ h => h) (by rfl) ?_ (by assumption) ?_
        rotate_left
        · intro w hSw
          try dsimp only at hSw
          go_simp
          try with_reducible rfl
        try simp only [Act.put, List.setIfInBounds_toArray, List.set_cons_zero, List.set_cons_succ]
        refine takeN9 (v := ?_) (by kernel_rfl) (by kernel_rfl) (by kernel_rfl) (fun _ _ _ h => h) (by rfl) ?_ (by assumption) ?_
        rotate_left
        · intro w hSw
          try dsimp only at hSw
          go_simp
          try with_reducible rfl
        try simp only [Act.put, List.setIfInBounds_toArray, List.set_cons_zero, List.set_cons_succ]
        refine takeN10 (v := ?_) (by kernel_rfl) (by kernel_rfl) (by kernel_rfl) (fun _ _ _ h => h) (by rfl) ?_ (by assumption) ?_
        rotate_left
        · intro w hSw
          try dsimp only at hSw
          go_simp
          try with_reducible rfl
        try simp only [Act.put, List.setIfInBounds_toArray, List.set_cons_zero, List.set_cons_succ]
        refine takeN11 (v := ?_) (by kernel_rfl) (by kernel_rfl) (by kernel_rfl) (fun _ _ _ h => h) (by rfl) ?_ (by assumption) ?_
        rotate_left
        · intro w hSw
          try dsimp only at hSw
          go_simp
          try with_reducible rfl
        try simp only [Act.put, List.setIfInBounds_toArray, List.set_cons_zero, List.set_cons_succ]
        refine wpAnyH_done (by kernel_rfl) ?_ _
        have t3 : Three w a b w' := hk.out
        obtain ⟨W_t3, hw⟩ : ∃ x, x = w' := ⟨w', rfl⟩
        subst hw
        clear hHeld hT hT' hk hb
        clear y1 y2 y3 y4 y5 y6 y7 y8 y9
        have y1 := t3.size
        have y2 := t3.a0
        have y3 := t3.a1
        have y4 := t3.b0
        have y5 := t3.b1
        have y6 := t3.r0
        have y7 := t3.r1
        have y8 := t3.f 0
        have y9 := t3.f 1
        go_wp2_with fail
        clear y1 y2 y3 y4 y5 y6 y7 y8 y9
        have y1 := t3.size
        have y2 := t3.a0
        have y3 := t3.a1
        have y4 := t3.b0
        have y5 := t3.b1
        have y6 := t3.r0
        have y7 := t3.r1
        have y8 := t3.f 0
        have y9 := t3.f 1
        have hT : Tk w a b _ := ⟨t3⟩
        have hT' : Tk w a b _ := ⟨t3.drew⟩
        refine wp_region_held_drew (S := fun w' => w.heap.size + 1 + 1 < w'.heap.size ∧ w'.cell? ⟨w.heap.size, 0, none⟩ = some (.int .i64 a.n) ∧ w'.cell? ⟨w.heap.size, 1, none⟩ = some (.int .i64 a.d) ∧ w'.cell? ⟨w.heap.size + 1, 0, none⟩ = some (.int .i64 b.n) ∧ w'.cell? ⟨w.heap.size + 1, 1, none⟩ = some (.int .i64 b.d)) (by kernel_rfl) ?_ (fun hHeld => ?_)
        · (first
            | exact sk_all hT
            | exact sk_all hT'
            | exact sk_all (by assumption)
            | exact sk_set (sk_set (sk_all (by assumption))))
        refine takeN0 (v := ?_) (by kernel_rfl) (by kernel_rfl) (by kernel_rfl) (fun _ _ _ h => h) (by rfl) ?_ (by assumption) ?_
        rotate_left
        · intro w hSw
          try dsimp only at hSw
          go_simp
          try with_reducible rfl
        try simp only [Act.put, List.setIfInBounds_toArray, List.set_cons_zero, List.set_cons_succ]
        refine takeN1 (v := ?_) (by kernel_rfl) (by kernel_rfl) (by kernel_rfl) (fun _ _ _ h => h) (by rfl) ?_ (by assumption) ?_
        rotate_left
        · intro w hSw
          try dsimp only at hSw
          go_simp
          try with_reducible rfl
        try simp only [Act.put, List.setIfInBounds_toArray, List.set_cons_zero, List.set_cons_succ]
        refine takeN3 (v := ?_) (by kernel_rfl) (by kernel_rfl) (by kernel_rfl) (fun _ _ _ h => h) (by rfl) ?_ (by assumption) ?_
        rotate_left
        · intro w hSw
          try dsimp only at hSw
          go_simp
          try with_reducible rfl
        try simp only [Act.put, List.setIfInBounds_toArray, List.set_cons_zero, List.set_cons_succ]
        refine takeN4 (v := ?_) (by kernel_rfl) (by kernel_rfl) (by kernel_rfl) (fun _ _ _ h => h) (by rfl) ?_ (by assumption) ?_
        rotate_left
        · intro w hSw
          try dsimp only at hSw
          go_simp
          try with_reducible rfl
        try simp only [Act.put, List.setIfInBounds_toArray, List.set_cons_zero, List.set_cons_succ]
        refine takeN5 (v := ?_) (by kernel_rfl) (by kernel_rfl) (by kernel_rfl) (fun _ _ _ h => h) (by rfl) ?_ (by assumption) ?_
        rotate_left
        · intro w hSw
          try dsimp only at hSw
          go_simp
          try with_reducible rfl
        try simp only [Act.put, List.setIfInBounds_toArray, List.set_cons_zero, List.set_cons_succ]
        refine comeN2 (by kernel_rfl) (by rfl) (fun K hK => ?_)
        go_simp
        (go_at_call 33; refine (M2.out _).mono ?_; rintro e w' ⟨rfl, hb⟩; have hk : Tk w a b w' := Tk.next (by assumption) hb)
        try go_wp2_with fail
        refine hK.out _ _ ?_ (fun hHeld => ?_)
        · (first
            | exact sk_all hT
            | exact sk_all hT'
            | exact sk_all (by assumption)
            | exact sk_set (sk_set (sk_all (by assumption))))
        clear hK K
        try simp only [Act.put, List.setIfInBounds_toArray, List.set_cons_zero, List.set_cons_succ]
        refine comeN6 (by kernel_rfl) (by rfl) (fun K hK => ?_)
        go_simp
        (go_at_call 32; refine (D2.out _).mono ?_; rintro e w' ⟨rfl, hb⟩; have hk : Tk w a b w' := Tk.next (by assumption) hb)
        try go_wp2_with fail
        refine hK.out _ _ ?_ (fun hHeld => ?_)
        · (first
            | exact sk_all hT
            | exact sk_all hT'
            | exact sk_all (by assumption)
            | exact sk_set (sk_set (sk_all (by assumption))))
        clear hK K
        try simp only [Act.put, List.setIfInBounds_toArray, List.set_cons_zero, List.set_cons_succ]
        refine takeN7 (v := ?_) (by kernel_rfl) (by kernel_rfl) (by kernel_rfl) (fun _ _ _ h => h) (by rfl) ?_ (by assumption) ?_
        rotate_left
        · intro w hSw
          try dsimp only at hSw
          go_simp
          try with_reducible rfl
        try simp only [Act.put, List.setIfInBounds_toArray, List.set_cons_zero, List.set_cons_succ]
        refine takeN8 (v := ?_) (by kernel_rfl) (by kernel_rfl) (by kernel_rfl) (fun _ _ _ h => h) (by rfl) ?_ (by assumption) ?_
        rotate_left
        · intro w hSw
          try dsimp only at hSw
          go_simp
          try with_reducible rfl
        try simp only [Act.put, List.setIfInBounds_toArray, List.set_cons_zero, List.set_cons_succ]
        refine takeN9 (v := ?_) (by kernel_rfl) (by kernel_rfl) (by kernel_rfl) (fun _ _ _ h => h) (by rfl) ?_ (by assumption) ?_
        rotate_left
        · intro w hSw
          try dsimp only at hSw
          go_simp
          try with_reducible rfl
        try simp only [Act.put, List.setIfInBounds_toArray, List.set_cons_zero, List.set_cons_succ]
        refine takeN10 (v := ?_) (by kernel_rfl) (by kernel_rfl) (by kernel_rfl) (fun _ _ _ h => h) (by rfl) ?_ (by assumption) ?_
        rotate_left
        · intro w hSw
          try dsimp only at hSw
          go_simp
          try with_reducible rfl
        try simp only [Act.put, List.setIfInBounds_toArray, List.set_cons_zero, List.set_cons_succ]
        refine takeN11 (v := ?_) (by kernel_rfl) (by kernel_rfl) (by kernel_rfl) (fun _ _ _ h => h) (by rfl) ?_ (by assumption) ?_
        rotate_left
        · intro w hSw
          try dsimp only at hSw
          go_simp
          try with_reducible rfl
        try simp only [Act.put, List.setIfInBounds_toArray, List.set_cons_zero, List.set_cons_succ]
        refine wpAnyH_done (by kernel_rfl) ?_ _
        have t4 : Three w a b w' := hk.out
        obtain ⟨W_t4, hw⟩ : ∃ x, x = w' := ⟨w', rfl⟩
        subst hw
        clear hHeld hT hT' hk hb
        clear y1 y2 y3 y4 y5 y6 y7 y8 y9
        have y1 := t4.size
        have y2 := t4.a0
        have y3 := t4.a1
        have y4 := t4.b0
        have y5 := t4.b1
        have y6 := t4.r0
        have y7 := t4.r1
        have y8 := t4.f 0
        have y9 := t4.f 1
        go_wp2_with fail
        clear y1 y2 y3 y4 y5 y6 y7 y8 y9
        have y1 := t4.size
        have y2 := t4.a0
        have y3 := t4.a1
        have y4 := t4.b0
        have y5 := t4.b1
        have y6 := t4.r0
        have y7 := t4.r1
        have y8 := t4.f 0
        have y9 := t4.f 1
        have hT : Tk w a b _ := ⟨t4⟩
        have hT' : Tk w a b _ := ⟨t4.drew⟩
        refine wp_region_held_drew (S := fun w' => w.heap.size + 1 + 1 < w'.heap.size ∧ w'.cell? ⟨w.heap.size, 0, none⟩ = some (.int .i64 a.n) ∧ w'.cell? ⟨w.heap.size, 1, none⟩ = some (.int .i64 a.d) ∧ w'.cell? ⟨w.heap.size + 1, 0, none⟩ = some (.int .i64 b.n) ∧ w'.cell? ⟨w.heap.size + 1, 1, none⟩ = some (.int .i64 b.d)) (by kernel_rfl) ?_ (fun hHeld => ?_)
        · (first
            | exact sk_all hT
            | exact sk_all hT'
            | exact sk_all (by assumption)
            | exact sk_set (sk_set (sk_all (by assumption))))
        refine takeN0 (v := ?_) (by kernel_rfl) (by kernel_rfl) (by kernel_rfl) (fun _ _ _ h => h) (by rfl) ?_ (by assumption) ?_
        rotate_left
        · intro w hSw
          try dsimp only at hSw
          go_simp
          try with_reducible rfl
        try simp only [Act.put, List.setIfInBounds_toArray, List.set_cons_zero, List.set_cons_succ]
        refine takeN1 (v := ?_) (by kernel_rfl) (by kernel_rfl) (by kernel_rfl) (fun _ _ _ h => h) (by rfl) ?_ (by assumption) ?_
        rotate_left
        · intro w hSw
          try dsimp only at hSw
          go_simp
          try with_reducible rfl
        try simp only [Act.put, List.setIfInBounds_toArray, List.set_cons_zero, List.set_cons_succ]
        refine takeN2 (v := ?_) (by kernel_rfl) (by kernel_rfl) (by kernel_rfl) (fun _ _ _ h => h) (by rfl) ?_ (by assumption) ?_
        rotate_left
        · intro w hSw
          try dsimp only at hSw
          go_simp
          try with_reducible rfl
        try simp only [Act.put, List.setIfInBounds_toArray, List.set_cons_zero, List.set_cons_succ]
        refine takeN3 (v := ?_) (by kernel_rfl) (by kernel_rfl) (by kernel_rfl) (fun _ _ _ h => h) (by rfl) ?_ (by assumption) ?_
        rotate_left
        · intro w hSw
          try dsimp only at hSw
          go_simp
          try with_reducible rfl
        try simp only [Act.put, List.setIfInBounds_toArray, List.set_cons_zero, List.set_cons_succ]
        refine takeN4 (v := ?_) (by kernel_rfl) (by kernel_rfl) (by kernel_rfl) (fun _ _ _ h => h) (by rfl) ?_ (by assumption) ?_
        rotate_left
        · intro w hSw
          try dsimp only at hSw
          go_simp
          try with_reducible rfl
        try simp only [Act.put, List.setIfInBounds_toArray, List.set_cons_zero, List.set_cons_succ]
        refine takeN5 (v := ?_) (by kernel_rfl) (by kernel_rfl) (by kernel_rfl) (fun _ _ _ h => h) (by rfl) ?_ (by assumption) ?_
        rotate_left
        · intro w hSw
          try dsimp only at hSw
          go_simp
          try with_reducible rfl
        try simp only [Act.put, List.setIfInBounds_toArray, List.set_cons_zero, List.set_cons_succ]
        refine takeN6 (v := ?_) (by kernel_rfl) (by kernel_rfl) (by kernel_rfl) (fun _ _ _ h => h) (by rfl) ?_ (by assumption) ?_
        rotate_left
        · intro w hSw
          try dsimp only at hSw
          go_simp
          try with_reducible rfl
        try simp only [Act.put, List.setIfInBounds_toArray, List.set_cons_zero, List.set_cons_succ]
        refine takeN7 (v := ?_) (by kernel_rfl) (by kernel_rfl) (by kernel_rfl) (fun _ _ _ h => h) (by rfl) ?_ (by assumption) ?_
        rotate_left
        · intro w hSw
          try dsimp only at hSw
          go_simp
          try with_reducible rfl
        try simp only [Act.put, List.setIfInBounds_toArray, List.set_cons_zero, List.set_cons_succ]
        refine takeN8 (v := ?_) (by kernel_rfl) (by kernel_rfl) (by kernel_rfl) (fun _ _ _ h => h) (by rfl) ?_ (by assumption) ?_
        rotate_left
        · intro w hSw
          try dsimp only at hSw
          go_simp
          try with_reducible rfl
        try simp only [Act.put, List.setIfInBounds_toArray, List.set_cons_zero, List.set_cons_succ]
        refine takeN10 (v := ?_) (by kernel_rfl) (by kernel_rfl) (by kernel_rfl) (fun _ _ _ h => h) (by rfl) ?_ (by assumption) ?_
        rotate_left
        · intro w hSw
          try dsimp only at hSw
          go_simp
          try with_reducible rfl
        try simp only [Act.put, List.setIfInBounds_toArray, List.set_cons_zero, List.set_cons_succ]
        refine takeN11 (v := ?_) (by kernel_rfl) (by kernel_rfl) (by kernel_rfl) (fun _ _ _ h => h) (by rfl) ?_ (by assumption) ?_
        rotate_left
        · intro w hSw
          try dsimp only at hSw
          go_simp
          try with_reducible rfl
        try simp only [Act.put, List.setIfInBounds_toArray, List.set_cons_zero, List.set_cons_succ]
        refine comeN9 (by kernel_rfl) (by rfl) (fun K hK => ?_)
        go_simp
        (go_at_call 46; refine (X1.out _).mono ?_; rintro e w' ⟨rfl, hb⟩; have hk : Tk w a b w' := Tk.next (by assumption) hb)
        try go_wp2_with fail
        refine hK.out _ _ ?_ (fun hHeld => ?_)
        · (first
            | exact sk_all hT
            | exact sk_all hT'
            | exact sk_all (by assumption)
            | exact sk_set (sk_set (sk_all (by assumption))))
        clear hK K
        try simp only [Act.put, List.setIfInBounds_toArray, List.set_cons_zero, List.set_cons_succ]
        refine comeN12 (by kernel_rfl) (by rfl) (fun K hK => ?_)
        go_simp
        (go_at_call 46; refine (X2.out _).mono ?_; rintro e w' ⟨rfl, hb⟩; have hk : Tk w a b w' := Tk.next (by assumption) hb)
        try go_wp2_with fail
        refine hK.out _ _ ?_ (fun hHeld => ?_)
        · (first
            | exact sk_all hT
            | exact sk_all hT'
            | exact sk_all (by assumption)
            | exact sk_set (sk_set (sk_all (by assumption))))
        clear hK K
        try simp only [Act.put, List.setIfInBounds_toArray, List.set_cons_zero, List.set_cons_succ]
        refine comeN13 (by kernel_rfl) (by rfl) (fun K hK => ?_)
        go_simp
        (go_at_call 34; refine (G1.out _).mono ?_; rintro e w' ⟨rfl, hb⟩; have hk : Tk w a b w' := Tk.next (by assumption) hb; have z0 := hk.out.r0; have z1 := hk.out.r1; have z2 := hk.out.f 0; have z3 := hk.out.f 1)
        try go_wp2_with fail
        refine hK.out _ _ ?_ (fun hHeld => ?_)
        · (first
            | exact sk_all hT
            | exact sk_all hT'
            | exact sk_all (by assumption)
            | exact sk_set (sk_set (sk_all (by assumption))))
        clear hK K
        try simp only [Act.put, List.setIfInBounds_toArray, List.set_cons_zero, List.set_cons_succ]
        refine takeN14 (v := ?_) (by kernel_rfl) (by kernel_rfl) (by kernel_rfl) (fun _ _ _ h => h) (by rfl) ?_ (by assumption) ?_
        rotate_left
        · intro w hSw
          try dsimp only at hSw
          go_simp
          try with_reducible rfl
        try simp only [Act.put, List.setIfInBounds_toArray, List.set_cons_zero, List.set_cons_succ]
        refine takeN15 (v := ?_) (by kernel_rfl) (by kernel_rfl) (by kernel_rfl) (fun _ _ _ h => h) (by rfl) ?_ (by assumption) ?_
        rotate_left
        · intro w hSw
          try dsimp only at hSw
          go_simp
          try with_reducible rfl
        try simp only [Act.put, List.setIfInBounds_toArray, List.set_cons_zero, List.set_cons_succ]
        refine comeN16 (by kernel_rfl) (by rfl) (fun K hK => ?_)
        go_simp
        refine hK.out _ _ ?_ (fun hHeld => ?_)
        · (first
            | exact sk_all hT
            | exact sk_all hT'
            | exact sk_all (by assumption)
            | exact sk_set (sk_set (sk_all (by assumption))))
        clear hK K
        try simp only [Act.put, List.setIfInBounds_toArray, List.set_cons_zero, List.set_cons_succ]
        refine takeN17 (v := ?_) (by kernel_rfl) (by kernel_rfl) (by kernel_rfl) (fun _ _ _ h => h) (by rfl) ?_ (by assumption) ?_
        rotate_left
        · intro w hSw
          try dsimp only at hSw
          go_simp
          try with_reducible rfl
        try simp only [Act.put, List.setIfInBounds_toArray, List.set_cons_zero, List.set_cons_succ]
        refine wpAnyH_done (by kernel_rfl) ?_ _
        clear y1 y2 y3 y4 y5 y6 y7 y8 y9
        have t5 : Three w a b w' := hk.out
        have y6 := t5.r0
        have y7 := t5.r1
        go_wp2_with fail
        exact bodyPost_ret (v := .tuple #[.agg #[.int .i64 n0, .int .i64 d0], .int .i64 e0]) (by simp [results, Try.results17, go_sem, y6, y7]) rfl ⟨rfl, by repeat (first | exact t5.below | refine below_drewN ?_ _ | refine Below.drew ?_ | refine Below.setCell ?_ (by simp; omega) _)⟩

end Go.Proofs.Ytnddfngdlmdmhaa
