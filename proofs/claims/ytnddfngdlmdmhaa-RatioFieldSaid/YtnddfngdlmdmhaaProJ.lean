/-
  The program's Sub, Div; all ten contracts (ratioOk).
-/
import Derived.Test.YtnddfngdlmdmhaaProI
namespace Go.Proofs.Ytnddfngdlmdmhaa
open Go.RowKit

theorem right_negR (b : Rt.R) (hb : In b) : Rt.right (negR b) = Rt.right b := by
  obtain ⟨h1, h2⟩ := hb.1
  unfold Rt.right negR
  rw [decide_eq_decide]
  simp only
  by_cases h : b.n = -9223372036854775808
  · rw [h]
    have e : IntKind.i64.wrap (-(-9223372036854775808 : Int)) = -9223372036854775808 := by decide
    rw [e]
  · have e : IntKind.i64.wrap (-b.n) = -b.n := IntWalk.i64_in _ (by omega)
    rw [e, Int.neg_gcd]
    omega
theorem sub_negR (a b : Rt.R) (hb : In b) : Rt.add a (negR b) = Rt.sub a b := by
  unfold Rt.add Rt.sub Rt.two
  rw [right_negR b hb]
  cases ra : Rt.right a with
  | false => rfl
  | true =>
    cases rb : Rt.right b with
    | false => rfl
    | true =>
      have hs := right_small rb
      have e : negR b = ⟨-b.n, b.d⟩ := by
        unfold negR
        rw [IntWalk.i64_in _ (by omega)]
      rw [e]
      simp only [Bool.and_self, if_true]
      congr 1
      rw [Int.neg_mul, Int.sub_eq_add_neg]
theorem in_negR (b : Rt.R) (hb : In b) : In (negR b) := by
  refine ⟨?_, hb.2⟩
  have h := hb.1
  unfold I64 at h ⊢
  unfold negR
  simp only [IntKind.wrap_i64]
  omega
theorem inv_right {b : Rt.R} (rb : Rt.right b = true) (h0 : ¬ b.n = 0) : Rt.right (invR b) = true ∧ In (invR b) ∧ ((invR b).n * b.n = b.d * (invR b).d) := by
  obtain ⟨d1, d2, n1, n2, hg⟩ := Rt.right_iff.1 rb
  unfold Rt.M at d2 n1 n2
  unfold invR
  by_cases h : b.n < 0
  · rw [if_pos h, IntWalk.i64_in (-b.d) (by omega), IntWalk.i64_in (-b.n) (by omega)]
    refine ⟨Rt.right_iff.2 ⟨by show 1 ≤ -b.n; omega, by show -b.n ≤ Rt.M; unfold Rt.M; omega, by show -Rt.M ≤ -b.d; unfold Rt.M; omega, by show -b.d ≤ Rt.M; unfold Rt.M; omega, ?_⟩, ⟨?_, ?_⟩, ?_⟩
    · show Int.gcd (-b.d) (-b.n) = 1
      rw [Int.neg_gcd, Int.gcd_neg, Int.gcd_comm]; exact hg
    · show I64 (-b.d)
      unfold I64; omega
    · show I64 (-b.n)
      unfold I64; omega
    · show -b.d * b.n = b.d * -b.n
      grind
  · rw [if_neg h]
    refine ⟨Rt.right_iff.2 ⟨by show 1 ≤ b.n; omega, by show b.n ≤ Rt.M; unfold Rt.M; omega, by show -Rt.M ≤ b.d; unfold Rt.M; omega, by show b.d ≤ Rt.M; unfold Rt.M; omega, ?_⟩, ⟨?_, ?_⟩, rfl⟩
    · show Int.gcd b.d b.n = 1
      rw [Int.gcd_comm]; exact hg
    · show I64 b.d
      unfold I64; omega
    · show I64 b.n
      unfold I64; omega
theorem div_inv (a b : Rt.R) (rb : Rt.right b = true) (h0 : ¬ b.n = 0) : Rt.mul a (invR b) = Rt.div a b := by
  obtain ⟨ri, -, hc⟩ := inv_right rb h0
  unfold Rt.mul Rt.div Rt.two
  rw [if_neg h0, ri, rb]
  cases ra : Rt.right a with
  | false => rfl
  | true =>
    simp only [Bool.and_self, if_true]
    refine Rt.give_cross (Rt.mul_ne (Rt.ne ra) (Rt.ne ri)) (Rt.mul_ne (Rt.ne ra) h0) ?_
    grind

set_option maxHeartbeats 6400000 in
set_option maxRecDepth 100000 in
theorem Sub_x (a b : Rt.R) (w : World) (ha : In a) (hb : In b) : Calls Try.prog 15 #[rv a, rv b] w fun e w' => e = .returned (rok (Rt.sub a b)) ∧ Below w.heap.size w w' := by
  have O1 : Hid (∀ w : World, Calls Try.prog 50 #[.agg #[.int .i64 b.n, .int .i64 b.d]] w fun e w' => e = .returned (rv (negR b)) ∧ Below w.heap.size w w') := fun w => oppr_x b w
  have A1 : Hid (∀ w : World, Calls Try.prog 13 #[.agg #[.int .i64 a.n, .int .i64 a.d], rv (negR b)] w fun e w' => e = .returned (rok (Rt.sub a b)) ∧ Below w.heap.size w w') := fun w => by
    have h := Add_x a (negR b) w ha (in_negR b hb)
    rw [sub_negR a b hb] at h
    exact h
  obtain ⟨⟨⟨n0, d0⟩, e0⟩, HR⟩ : ∃ R, R = Rt.sub a b := ⟨_, rfl⟩
  rw [← HR] at A1 ⊢
  unfold rok at A1 ⊢
  simp only at A1 ⊢
  clear HR ha hb
  have t1 := Three.start w a b 23
  go_enter Try.func15, Try.ntmps15
  have y1 := t1.size
  have y2 := t1.a0
  have y3 := t1.a1
  have y4 := t1.b0
  have y5 := t1.b1
  have y6 := t1.r0
  have y7 := t1.r1
  have y8 := t1.f 0
  have y9 := t1.f 1
  go_wp2_with fail
  have t2 := t1
  clear t1
  have hT : Tk w a b _ := ⟨t2⟩
  have hT' : Tk w a b _ := ⟨t2.drew⟩
  refine wp_region_held_drew (S := fun w' => w.heap.size + 1 + 1 < w'.heap.size ∧ w'.cell? ⟨w.heap.size, 0, none⟩ = some (.int .i64 a.n) ∧ w'.cell? ⟨w.heap.size, 1, none⟩ = some (.int .i64 a.d) ∧ w'.cell? ⟨w.heap.size + 1, 0, none⟩ = some (.int .i64 b.n) ∧ w'.cell? ⟨w.heap.size + 1, 1, none⟩ = some (.int .i64 b.d)) (by kernel_rfl) ?_ (fun hHeld => ?_)
  · (first
      | exact sk_all hT
      | exact sk_all hT'
      | exact sk_all (by assumption)
      | exact sk_set (sk_set (sk_all (by assumption))))
  refine takeN0 (v := ?_) (by kernel_rfl) (by kernel_rfl) (by kernel_rfl) (fun _ _ _ h => h) (by rfl) ?_ (by assumption) ?_
  rotate_left
  · intro w hSw
    try dsimp only at hSw
    go_simp
    try with_reducible rfl
  try simp only [Act.put, List.setIfInBounds_toArray, List.set_cons_zero, List.set_cons_succ]
  refine takeN1 (v := ?_) (by kernel_rfl) (by kernel_rfl) (by kernel_rfl) (fun _ _ _ h => h) (by rfl) ?_ (by assumption) ?_
  rotate_left
  · intro w hSw
    try dsimp only at hSw
    go_simp
    try with_reducible rfl
  try simp only [Act.put, List.setIfInBounds_toArray, List.set_cons_zero, List.set_cons_succ]
  refine comeN2 (by kernel_rfl) (by rfl) (fun K hK => ?_)
  go_simp
  (go_at_call 50; refine (O1.out _).mono ?_; rintro e w' ⟨rfl, hb⟩; have hk : Tk w a b w' := Tk.next (by assumption) hb)
  try go_wp2_with fail
  refine hK.out _ _ ?_ (fun hHeld => ?_)
  · (first
      | exact sk_all hT
      | exact sk_all hT'
      | exact sk_all (by assumption)
      | exact sk_set (sk_set (sk_all (by assumption))))
  clear hK K
  try simp only [Act.put, List.setIfInBounds_toArray, List.set_cons_zero, List.set_cons_succ]
  refine comeN3 (by kernel_rfl) (by rfl) (fun K hK => ?_)
  go_simp
  (go_at_call 13; refine (A1.out _).mono ?_; rintro e w' ⟨rfl, hb⟩; have hk : Tk w a b w' := Tk.next (by assumption) hb; have z0 := hk.out.r0; have z1 := hk.out.r1; have z2 := hk.out.f 0; have z3 := hk.out.f 1)
  try go_wp2_with fail
  refine hK.out _ _ ?_ (fun hHeld => ?_)
  · (first
      | exact sk_all hT
      | exact sk_all hT'
      | exact sk_all (by assumption)
      | exact sk_set (sk_set (sk_all (by assumption))))
  clear hK K
  try simp only [Act.put, List.setIfInBounds_toArray, List.set_cons_zero, List.set_cons_succ]
  refine takeN4 (v := ?_) (by kernel_rfl) (by kernel_rfl) (by kernel_rfl) (fun _ _ _ h => h) (by rfl) ?_ (by assumption) ?_
  rotate_left
  · intro w hSw
    try dsimp only at hSw
    go_simp
    try with_reducible rfl
  try simp only [Act.put, List.setIfInBounds_toArray, List.set_cons_zero, List.set_cons_succ]
  refine takeN5 (v := ?_) (by kernel_rfl) (by kernel_rfl) (by kernel_rfl) (fun _ _ _ h => h) (by rfl) ?_ (by assumption) ?_
  rotate_left
  · intro w hSw
    try dsimp only at hSw
    go_simp
    try with_reducible rfl
  try simp only [Act.put, List.setIfInBounds_toArray, List.set_cons_zero, List.set_cons_succ]
  refine comeN6 (by kernel_rfl) (by rfl) (fun K hK => ?_)
  go_simp
  refine hK.out _ _ ?_ (fun hHeld => ?_)
  · (first
      | exact sk_all hT
      | exact sk_all hT'
      | exact sk_all (by assumption)
      | exact sk_set (sk_set (sk_all (by assumption))))
  clear hK K
  try simp only [Act.put, List.setIfInBounds_toArray, List.set_cons_zero, List.set_cons_succ]
  refine takeN7 (v := ?_) (by kernel_rfl) (by kernel_rfl) (by kernel_rfl) (fun _ _ _ h => h) (by rfl) ?_ (by assumption) ?_
  rotate_left
  · intro w hSw
    try dsimp only at hSw
    go_simp
    try with_reducible rfl
  try simp only [Act.put, List.setIfInBounds_toArray, List.set_cons_zero, List.set_cons_succ]
  refine wpAnyH_done (by kernel_rfl) ?_ _
  clear y1 y2 y3 y4 y5 y6 y7 y8 y9
  have t5 : Three w a b w' := hk.out
  have y6 := t5.r0
  have y7 := t5.r1
  go_wp2_with fail
  exact bodyPost_ret (v := .tuple #[.agg #[.int .i64 n0, .int .i64 d0], .int .i64 e0]) (by simp [results, Try.results15, go_sem, y6, y7]) rfl ⟨rfl, by repeat (first | exact t5.below | refine below_drewN ?_ _ | refine Below.drew ?_ | refine Below.setCell ?_ (by simp; omega) _)⟩

set_option maxHeartbeats 6400000 in
set_option maxRecDepth 100000 in
theorem Div_x (a b : Rt.R) (w : World) (ha : In a) (hb : In b) : Calls Try.prog 19 #[rv a, rv b] w fun e w' => e = .returned (rok (Rt.div a b)) ∧ Below w.heap.size w w' := by
  have hB := Lib.hid hb
  cases rb : Rt.right b with
  | false =>
    have hv : Hid (Rt.div a b = (⟨0, 0⟩, 1)) := by
      show _ = _
      unfold Rt.div; split <;> first | rfl | exact Rt.two_not (by rw [rb]; simp) _ _
    have Rb := Lib.hid rb
    clear rb ha hb
    go_enter Try.func19, Try.ntmps19
    go_wp2_with fail
    refine (Right_x b _ hB.out).mono ?_
    rintro e w1 ⟨rfl, b1⟩
    have t2 := (Three.start w a b 23).next b1
    clear b1
    rw [Rb.out]
    have y1 := t2.size
    have y2 := t2.a0
    have y3 := t2.a1
    have y4 := t2.b0
    have y5 := t2.b1
    have y6 := t2.r0
    have y7 := t2.r1
    have y8 := t2.f 0
    have y9 := t2.f 1
    go_wp2_with fail
    exact bodyPost_ret (v := .tuple #[.agg #[.int .i64 0, .int .i64 0], .int .i64 1]) (by simp [results, Try.results19, go_sem, y6, y7]) rfl ⟨by rw [hv.out]; try rfl, by repeat (first | exact t2.below | refine below_drewN ?_ _ | refine Below.drew ?_ | refine Below.setCell ?_ (by simp; omega) _)⟩
  | true =>
    have Rb := Lib.hid rb
    by_cases h0 : b.n = 0
    · have hv : Hid (Rt.div a b = (⟨0, 0⟩, 1)) := by
        show _ = _
        unfold Rt.div; rw [if_pos h0]
      have k0 : (b.n == 0) = true := by rw [h0]; rfl
      clear rb ha hb h0
      go_enter Try.func19, Try.ntmps19
      go_wp2_with fail
      refine (Right_x b _ hB.out).mono ?_
      rintro e w1 ⟨rfl, b1⟩
      have t2 := (Three.start w a b 23).next b1
      clear b1
      rw [Rb.out]
      have y1 := t2.size
      have y2 := t2.a0
      have y3 := t2.a1
      have y4 := t2.b0
      have y5 := t2.b1
      have y6 := t2.r0
      have y7 := t2.r1
      have y8 := t2.f 0
      have y9 := t2.f 1
      go_wp2_with fail
      exact bodyPost_ret (v := .tuple #[.agg #[.int .i64 0, .int .i64 0], .int .i64 1]) (by simp [results, Try.results19, go_sem, y6, y7]) rfl ⟨by rw [hv.out]; try rfl, by repeat (first | exact t2.below | refine below_drewN ?_ _ | refine Below.drew ?_ | refine Below.setCell ?_ (by simp; omega) _)⟩
    · have k0 : (b.n == 0) = false := by rw [beq_eq_false_iff_ne]; exact h0
      obtain ⟨ri, ii, -⟩ := inv_right rb h0
      have O1 : Hid (∀ w : World, Calls Try.prog 51 #[.agg #[.int .i64 b.n, .int .i64 b.d]] w fun e w' => e = .returned (rv (invR b)) ∧ Below w.heap.size w w') := fun w => inverse_x b w
      have A1 : Hid (∀ w : World, Calls Try.prog 17 #[.agg #[.int .i64 a.n, .int .i64 a.d], rv (invR b)] w fun e w' => e = .returned (rok (Rt.div a b)) ∧ Below w.heap.size w w') := fun w => by
        have h := Mul_x a (invR b) w ha ii
        rw [div_inv a b rb h0] at h
        exact h
      obtain ⟨⟨⟨n0, d0⟩, e0⟩, HR⟩ : ∃ R, R = Rt.div a b := ⟨_, rfl⟩
      rw [← HR] at A1 ⊢
      unfold rok at A1 ⊢
      simp only at A1 ⊢
      clear HR ha hb rb h0 ri ii
      go_enter Try.func19, Try.ntmps19
      go_wp2_with fail
      refine (Right_x b _ hB.out).mono ?_
      rintro e w1 ⟨rfl, b1⟩
      have t2 := (Three.start w a b 23).next b1
      clear b1
      rw [Rb.out]
      have y1 := t2.size
      have y2 := t2.a0
      have y3 := t2.a1
      have y4 := t2.b0
      have y5 := t2.b1
      have y6 := t2.r0
      have y7 := t2.r1
      have y8 := t2.f 0
      have y9 := t2.f 1
      go_wp2_with fail
      have hT : Tk w a b _ := ⟨t2⟩
      have hT' : Tk w a b _ := ⟨t2.drew⟩
      refine wp_region_held_drew (S := fun w' => w.heap.size + 1 + 1 < w'.heap.size ∧ w'.cell? ⟨w.heap.size, 0, none⟩ = some (.int .i64 a.n) ∧ w'.cell? ⟨w.heap.size, 1, none⟩ = some (.int .i64 a.d) ∧ w'.cell? ⟨w.heap.size + 1, 0, none⟩ = some (.int .i64 b.n) ∧ w'.cell? ⟨w.heap.size + 1, 1, none⟩ = some (.int .i64 b.d)) (by kernel_rfl) ?_ (fun hHeld => ?_)
      · (first
          | exact sk_all hT
          | exact sk_all hT'
          | exact sk_all (by assumption)
          | exact sk_set (sk_set (sk_all (by assumption))))
      refine takeN0 (v := ?_) (by kernel_rfl) (by kernel_rfl) (by kernel_rfl) (fun _ _ _ h => h) (by rfl) ?_ (by assumption) ?_
      rotate_left
      · intro w hSw
        try dsimp only at hSw
        go_simp
        try with_reducible rfl
      try simp only [Act.put, List.setIfInBounds_toArray, List.set_cons_zero, List.set_cons_succ]
      refine takeN1 (v := ?_) (by kernel_rfl) (by kernel_rfl) (by kernel_rfl) (fun _ _ _ h => h) (by rfl) ?_ (by assumption) ?_
      rotate_left
      · intro w hSw
        try dsimp only at hSw
        go_simp
        try with_reducible rfl
      try simp only [Act.put, List.setIfInBounds_toArray, List.set_cons_zero, List.set_cons_succ]
      refine comeN2 (by kernel_rfl) (by rfl) (fun K hK => ?_)
      go_simp
      (go_at_call 51; refine (O1.out _).mono ?_; rintro e w' ⟨rfl, hb⟩; have hk : Tk w a b w' := Tk.next (by assumption) hb)
      try go_wp2_with fail
      refine hK.out _ _ ?_ (fun hHeld => ?_)
      · (first
          | exact sk_all hT
          | exact sk_all hT'
          | exact sk_all (by assumption)
          | exact sk_set (sk_set (sk_all (by assumption))))
      clear hK K
      try simp only [Act.put, List.setIfInBounds_toArray, List.set_cons_zero, List.set_cons_succ]
      refine comeN3 (by kernel_rfl) (by rfl) (fun K hK => ?_)
      go_simp
      (go_at_call 17; refine (A1.out _).mono ?_; rintro e w' ⟨rfl, hb⟩; have hk : Tk w a b w' := Tk.next (by assumption) hb; have z0 := hk.out.r0; have z1 := hk.out.r1; have z2 := hk.out.f 0; have z3 := hk.out.f 1)
      try go_wp2_with fail
      refine hK.out _ _ ?_ (fun hHeld => ?_)
      · (first
          | exact sk_all hT
          | exact sk_all hT'
          | exact sk_all (by assumption)
          | exact sk_set (sk_set (sk_all (by assumption))))
      clear hK K
      try simp only [Act.put, List.setIfInBounds_toArray, List.set_cons_zero, List.set_cons_succ]
      refine takeN4 (v := ?_) (by kernel_rfl) (by kernel_rfl) (by kernel_rfl) (fun _ _ _ h => h) (by rfl) ?_ (by assumption) ?_
      rotate_left
      · intro w hSw
        try dsimp only at hSw
        go_simp
        try with_reducible rfl
      try simp only [Act.put, List.setIfInBounds_toArray, List.set_cons_zero, List.set_cons_succ]
      refine takeN5 (v := ?_) (by kernel_rfl) (by kernel_rfl) (by kernel_rfl) (fun _ _ _ h => h) (by rfl) ?_ (by assumption) ?_
      rotate_left
      · intro w hSw
        try dsimp only at hSw
        go_simp
        try with_reducible rfl
      try simp only [Act.put, List.setIfInBounds_toArray, List.set_cons_zero, List.set_cons_succ]
      refine comeN6 (by kernel_rfl) (by rfl) (fun K hK => ?_)
      go_simp
      refine hK.out _ _ ?_ (fun hHeld => ?_)
      · (first
          | exact sk_all hT
          | exact sk_all hT'
          | exact sk_all (by assumption)
          | exact sk_set (sk_set (sk_all (by assumption))))
      clear hK K
      try simp only [Act.put, List.setIfInBounds_toArray, List.set_cons_zero, List.set_cons_succ]
      refine takeN7 (v := ?_) (by kernel_rfl) (by kernel_rfl) (by kernel_rfl) (fun _ _ _ h => h) (by rfl) ?_ (by assumption) ?_
      rotate_left
      · intro w hSw
        try dsimp only at hSw
        go_simp
        try with_reducible rfl
      try simp only [Act.put, List.setIfInBounds_toArray, List.set_cons_zero, List.set_cons_succ]
      refine wpAnyH_done (by kernel_rfl) ?_ _
      clear y1 y2 y3 y4 y5 y6 y7 y8 y9
      have t5 : Three w a b w' := hk.out
      have y6 := t5.r0
      have y7 := t5.r1
      go_wp2_with fail
      exact bodyPost_ret (v := .tuple #[.agg #[.int .i64 n0, .int .i64 d0], .int .i64 e0]) (by simp [results, Try.results19, go_sem, y6, y7]) rfl ⟨rfl, by repeat (first | exact t5.below | refine below_drewN ?_ _ | refine Below.drew ?_ | refine Below.setCell ?_ (by simp; omega) _)⟩

/-- ALL TEN CONTRACTS. -/
theorem ratioOk : RatioOk := ⟨Right_x, Make_x, Add_x, Sub_x, Mul_x, Div_x, Compare_x, Floor_x, Ceil_x, Nearest_x⟩

end Go.Proofs.Ytnddfngdlmdmhaa
