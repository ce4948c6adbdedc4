/-
  RealmTells: the walk.
-/
import Derived.Test.YtagdikghpiiabaaSanC
import Derived.Test.YtagdikghpiiabaaHand2
namespace Go.Proofs.Ytagdikghpiiabaa
open Go.RowKit Rl

theorem memP_sz (F : List Frm) (g : Int) (h : Sz F.length) : Sz (memP F g).length := Nat.le_trans (mem_len F g F.length) h

set_option maxHeartbeats 12800000 in
set_option maxRecDepth 100000 in
theorem RealmTells_x {a0 a1 a2 a3 a4 a5 a6 a7 : Option Addr} {c0 c1 c2 c3 c4 c5 c6 c7 : Nat} {R : Rlm} (a b : Int) (s : B) (w : World) (hr : RS w a0 a1 a2 a3 a4 a5 a6 a7 c0 c1 c2 c3 c4 c5 c6 c7 R) (hF : FitW R) :
    Calls Try.prog 3 #[.agg #[.slice a0 R.cur.length c0, .slice a1 R.cities.length c1, .slice a2 R.groups.length c2, .slice a3 R.firms.length c3, .slice a4 R.orders.length c4, .slice a5 R.usances.length c5, .slice a6 R.rates.length c6, .slice a7 R.halts.length c7], .int .i64 a, .int .i64 b, .string s] w fun r w' => r = .returned (.bool true) ∧ Below w.heap.size w w' := by
  have HR := Lib.hid hr
  have RB0 := Lib.hid (RB.new w (a0 := a0) (a1 := a1) (a2 := a2) (a3 := a3) (a4 := a4) (a5 := a5) (a6 := a6) (a7 := a7) (c0 := c0) (c1 := c1) (c2 := c2) (c3 := c3) (c4 := c4) (c5 := c5) (c6 := c6) (c7 := c7) (R := R))
  have B0 := Lib.hid (Below.new1 (w := w) (.cells #[.slice a0 R.cur.length c0, .slice a1 R.cities.length c1, .slice a2 R.groups.length c2, .slice a3 R.firms.length c3, .slice a4 R.orders.length c4, .slice a5 R.usances.length c5, .slice a6 R.rates.length c6, .slice a7 R.halts.length c7] 31))
  clear hr
  go_enter Try.func3, Try.ntmps3
  go_wp2_with fail
  refine (sane_x _).mono ?_
  rintro r w1 ⟨rfl, b1⟩
  have B1 := Lib.hid (chain B0.out b1)
  have RB1 := Lib.hid (RB0.out.next b1)
  clear b1
  have y0 := RB1.out.b0
  have y1 := RB1.out.b1
  have y2 := RB1.out.b2
  have y3 := RB1.out.b3
  have y4 := RB1.out.b4
  have y5 := RB1.out.b5
  have y6 := RB1.out.b6
  have y7 := RB1.out.b7
  go_wp2_with fail
  refine (Few_x _ (HR.out.next B1.out) hF).mono ?_
  rintro r w2 ⟨⟨few, rfl, hfew⟩, b2⟩
  have B2 := Lib.hid (chain B1.out b2)
  have RB2 := Lib.hid (RB1.out.next b2)
  clear b2
  clear y0 y1 y2 y3 y4 y5 y6 y7
  cases few with
  | false =>
    clear hfew
    go_wp2_with fail
    go_ret
    exact ⟨rfl, B2.out⟩
  | true =>
    have hfit := hfew rfl
    have HFT := Lib.hid hfit
    clear hfew hfit
    have y0 := RB2.out.b0
    have y1 := RB2.out.b1
    have y2 := RB2.out.b2
    have y3 := RB2.out.b3
    have y4 := RB2.out.b4
    have y5 := RB2.out.b5
    have y6 := RB2.out.b6
    have y7 := RB2.out.b7
    go_wp2_with fail
    refine (Usance_x a b _ (HR.out.next B2.out) HFT.out).mono ?_
    rintro r w3 ⟨rfl, b3⟩
    have B3 := Lib.hid (chain B2.out b3)
    have RB3 := Lib.hid (RB2.out.next b3)
    clear b3
    clear y0 y1 y2 y3 y4 y5 y6 y7
    have y0 := RB3.out.b0
    have y1 := RB3.out.b1
    have y2 := RB3.out.b2
    have y3 := RB3.out.b3
    have y4 := RB3.out.b4
    have y5 := RB3.out.b5
    have y6 := RB3.out.b6
    have y7 := RB3.out.b7
    go_wp2_with fail
    refine (rUsance_x a b _ (HR.out.next B3.out) HFT.out).mono ?_
    rintro r w4 ⟨rfl, b4⟩
    have B4 := Lib.hid (chain B3.out b4)
    have RB4 := Lib.hid (RB3.out.next b4)
    clear b4
    clear y0 y1 y2 y3 y4 y5 y6 y7
    generalize (usAt R a b).1 = ux
    generalize (usAt R a b).2 = uy
    go_wp2_with fail
    refine wp_region_held_drew (S := fun w' => w'.cell? ⟨w.heap.size, 0, none⟩ = some (.slice a0 R.cur.length c0) ∧ w'.cell? ⟨w.heap.size, 1, none⟩ = some (.slice a1 R.cities.length c1) ∧ w'.cell? ⟨w.heap.size, 2, none⟩ = some (.slice a2 R.groups.length c2) ∧ w'.cell? ⟨w.heap.size, 3, none⟩ = some (.slice a3 R.firms.length c3) ∧ w'.cell? ⟨w.heap.size, 4, none⟩ = some (.slice a4 R.orders.length c4) ∧ w'.cell? ⟨w.heap.size, 5, none⟩ = some (.slice a5 R.usances.length c5) ∧ w'.cell? ⟨w.heap.size, 6, none⟩ = some (.slice a6 R.rates.length c6) ∧ w'.cell? ⟨w.heap.size, 7, none⟩ = some (.slice a7 R.halts.length c7)) (by kernel_rfl) ?_ (fun hHeld => ?_)
    · exact ⟨RB4.out.b0, RB4.out.b1, RB4.out.b2, RB4.out.b3, RB4.out.b4, RB4.out.b5, RB4.out.b6, RB4.out.b7⟩
    have B4d := Lib.hid (B4.out.drew)
    have RB4d := Lib.hid (RB4.out.next (below_drew _))
    refine takeN0 (v := ?_) (by kernel_rfl) (by kernel_rfl) (by kernel_rfl) (fun _ _ _ h => h) (by rfl) ?_ (by assumption) ?_
    rotate_left
    · intro wz hSw
      try dsimp only at hSw
      go_simp
      try with_reducible rfl
    try simp only [Act.put, List.setIfInBounds_toArray, List.set_cons_zero, List.set_cons_succ]
    refine takeN2 (v := ?_) (by kernel_rfl) (by kernel_rfl) (by kernel_rfl) (fun _ _ _ h => h) (by rfl) ?_ (by assumption) ?_
    rotate_left
    · intro wz hSw
      try dsimp only at hSw
      go_simp
      try with_reducible rfl
    try simp only [Act.put, List.setIfInBounds_toArray, List.set_cons_zero, List.set_cons_succ]
    refine comeN1 (by kernel_rfl) (by rfl) (fun K hK => ?_)
    go_simp
    (go_at_call 12; refine (Check_x _ (HR.out.next B4d.out) HFT.out).mono ?_; rintro r w5 ⟨rfl, bs⟩)
    try go_wp2_with fail
    have B5 := Lib.hid (chain B4d.out bs)
    have RB5 := Lib.hid (RB4d.out.next bs)
    clear bs
    refine hK.out _ _ ?_ (fun hHeld => ?_)
    · exact ⟨RB5.out.b0, RB5.out.b1, RB5.out.b2, RB5.out.b3, RB5.out.b4, RB5.out.b5, RB5.out.b6, RB5.out.b7⟩
    clear hK K
    try simp only [Act.put, List.setIfInBounds_toArray, List.set_cons_zero, List.set_cons_succ]
    refine comeN3 (by kernel_rfl) (by rfl) (fun K hK => ?_)
    go_simp
    (go_at_call 13; refine (rCheck_x _ (HR.out.next B5.out) HFT.out).mono ?_; rintro r w6 ⟨rfl, bs⟩)
    try go_wp2_with fail
    have B6 := Lib.hid (chain B5.out bs)
    have RB6 := Lib.hid (RB5.out.next bs)
    clear bs
    refine hK.out _ _ ?_ (fun hHeld => ?_)
    · exact ⟨RB6.out.b0, RB6.out.b1, RB6.out.b2, RB6.out.b3, RB6.out.b4, RB6.out.b5, RB6.out.b6, RB6.out.b7⟩
    clear hK K
    try simp only [Act.put, List.setIfInBounds_toArray, List.set_cons_zero, List.set_cons_succ]
    refine takeN4 (v := ?_) (by kernel_rfl) (by kernel_rfl) (by kernel_rfl) (fun _ _ _ h => h) (by rfl) ?_ (by assumption) ?_
    rotate_left
    · intro wz hSw
      try dsimp only at hSw
      go_simp
      try with_reducible rfl
    try simp only [Act.put, List.setIfInBounds_toArray, List.set_cons_zero, List.set_cons_succ]
    refine takeN5 (v := ?_) (by kernel_rfl) (by kernel_rfl) (by kernel_rfl) (fun _ _ _ h => h) (by rfl) ?_ (by assumption) ?_
    rotate_left
    · intro wz hSw
      try dsimp only at hSw
      go_simp
      try with_reducible rfl
    try simp only [Act.put, List.setIfInBounds_toArray, List.set_cons_zero, List.set_cons_succ]
    refine takeN6 (v := ?_) (by kernel_rfl) (by kernel_rfl) (by kernel_rfl) (fun _ _ _ h => h) (by rfl) ?_ (by assumption) ?_
    rotate_left
    · intro wz hSw
      try dsimp only at hSw
      go_simp
      try with_reducible rfl
    try simp only [Act.put, List.setIfInBounds_toArray, List.set_cons_zero, List.set_cons_succ]
    refine takeN7 (v := ?_) (by kernel_rfl) (by kernel_rfl) (by kernel_rfl) (fun _ _ _ h => h) (by rfl) ?_ (by assumption) ?_
    rotate_left
    · intro wz hSw
      try dsimp only at hSw
      go_simp
      try with_reducible rfl
    try simp only [Act.put, List.setIfInBounds_toArray, List.set_cons_zero, List.set_cons_succ]
    refine takeN8 (v := ?_) (by kernel_rfl) (by kernel_rfl) (by kernel_rfl) (fun _ _ _ h => h) (by rfl) ?_ (by assumption) ?_
    rotate_left
    · intro wz hSw
      try dsimp only at hSw
      go_simp
      try with_reducible rfl
    try simp only [Act.put, List.setIfInBounds_toArray, List.set_cons_zero, List.set_cons_succ]
    refine takeN9 (v := ?_) (by kernel_rfl) (by kernel_rfl) (by kernel_rfl) (fun _ _ _ h => h) (by rfl) ?_ (by assumption) ?_
    rotate_left
    · intro wz hSw
      try dsimp only at hSw
      go_simp
      try with_reducible rfl
    try simp only [Act.put, List.setIfInBounds_toArray, List.set_cons_zero, List.set_cons_succ]
    refine takeN10 (v := ?_) (by kernel_rfl) (by kernel_rfl) (by kernel_rfl) (fun _ _ _ h => h) (by rfl) ?_ (by assumption) ?_
    rotate_left
    · intro wz hSw
      try dsimp only at hSw
      go_simp
      try with_reducible rfl
    try simp only [Act.put, List.setIfInBounds_toArray, List.set_cons_zero, List.set_cons_succ]
    refine takeN11 (v := ?_) (by kernel_rfl) (by kernel_rfl) (by kernel_rfl) (fun _ _ _ h => h) (by rfl) ?_ (by assumption) ?_
    rotate_left
    · intro wz hSw
      try dsimp only at hSw
      go_simp
      try with_reducible rfl
    try simp only [Act.put, List.setIfInBounds_toArray, List.set_cons_zero, List.set_cons_succ]
    refine takeN12 (v := ?_) (by kernel_rfl) (by kernel_rfl) (by kernel_rfl) (fun _ _ _ h => h) (by rfl) ?_ (by assumption) ?_
    rotate_left
    · intro wz hSw
      try dsimp only at hSw
      go_simp
      try with_reducible rfl
    try simp only [Act.put, List.setIfInBounds_toArray, List.set_cons_zero, List.set_cons_succ]
    refine takeN13 (v := ?_) (by kernel_rfl) (by kernel_rfl) (by kernel_rfl) (fun _ _ _ h => h) (by rfl) ?_ (by assumption) ?_
    rotate_left
    · intro wz hSw
      try dsimp only at hSw
      go_simp
      try with_reducible rfl
    try simp only [Act.put, List.setIfInBounds_toArray, List.set_cons_zero, List.set_cons_succ]
    refine takeN14 (v := ?_) (by kernel_rfl) (by kernel_rfl) (by kernel_rfl) (fun _ _ _ h => h) (by rfl) ?_ (by assumption) ?_
    rotate_left
    · intro wz hSw
      try dsimp only at hSw
      go_simp
      try with_reducible rfl
    try simp only [Act.put, List.setIfInBounds_toArray, List.set_cons_zero, List.set_cons_succ]
    refine takeN15 (v := ?_) (by kernel_rfl) (by kernel_rfl) (by kernel_rfl) (fun _ _ _ h => h) (by rfl) ?_ (by assumption) ?_
    rotate_left
    · intro wz hSw
      try dsimp only at hSw
      go_simp
      try with_reducible rfl
    try simp only [Act.put, List.setIfInBounds_toArray, List.set_cons_zero, List.set_cons_succ]
    refine takeN16 (v := ?_) (by kernel_rfl) (by kernel_rfl) (by kernel_rfl) (fun _ _ _ h => h) (by rfl) ?_ (by assumption) ?_
    rotate_left
    · intro wz hSw
      try dsimp only at hSw
      go_simp
      try with_reducible rfl
    try simp only [Act.put, List.setIfInBounds_toArray, List.set_cons_zero, List.set_cons_succ]
    refine takeN17 (v := ?_) (by kernel_rfl) (by kernel_rfl) (by kernel_rfl) (fun _ _ _ h => h) (by rfl) ?_ (by assumption) ?_
    rotate_left
    · intro wz hSw
      try dsimp only at hSw
      go_simp
      try with_reducible rfl
    try simp only [Act.put, List.setIfInBounds_toArray, List.set_cons_zero, List.set_cons_succ]
    refine takeN19 (v := ?_) (by kernel_rfl) (by kernel_rfl) (by kernel_rfl) (fun _ _ _ h => h) (by rfl) ?_ (by assumption) ?_
    rotate_left
    · intro wz hSw
      try dsimp only at hSw
      go_simp
      try with_reducible rfl
    try simp only [Act.put, List.setIfInBounds_toArray, List.set_cons_zero, List.set_cons_succ]
    refine takeN20 (v := ?_) (by kernel_rfl) (by kernel_rfl) (by kernel_rfl) (fun _ _ _ h => h) (by rfl) ?_ (by assumption) ?_
    rotate_left
    · intro wz hSw
      try dsimp only at hSw
      go_simp
      try with_reducible rfl
    try simp only [Act.put, List.setIfInBounds_toArray, List.set_cons_zero, List.set_cons_succ]
    refine comeN18 (by kernel_rfl) (by rfl) (fun K hK => ?_)
    go_simp
    (go_at_call 14; refine (OrderAt_x a _ (HR.out.next B6.out) HFT.out).mono ?_; rintro r w7 ⟨rfl, bs⟩)
    try go_wp2_with fail
    have B7 := Lib.hid (chain B6.out bs)
    have RB7 := Lib.hid (RB6.out.next bs)
    clear bs
    refine hK.out _ _ ?_ (fun hHeld => ?_)
    · exact ⟨RB7.out.b0, RB7.out.b1, RB7.out.b2, RB7.out.b3, RB7.out.b4, RB7.out.b5, RB7.out.b6, RB7.out.b7⟩
    clear hK K
    try simp only [Act.put, List.setIfInBounds_toArray, List.set_cons_zero, List.set_cons_succ]
    refine comeN21 (by kernel_rfl) (by rfl) (fun K hK => ?_)
    go_simp
    (go_at_call 15; refine (rOrderAt_x a _ (HR.out.next B7.out) HFT.out).mono ?_; rintro r w8 ⟨rfl, bs⟩)
    try go_wp2_with fail
    have B8 := Lib.hid (chain B7.out bs)
    have RB8 := Lib.hid (RB7.out.next bs)
    clear bs
    refine hK.out _ _ ?_ (fun hHeld => ?_)
    · exact ⟨RB8.out.b0, RB8.out.b1, RB8.out.b2, RB8.out.b3, RB8.out.b4, RB8.out.b5, RB8.out.b6, RB8.out.b7⟩
    clear hK K
    try simp only [Act.put, List.setIfInBounds_toArray, List.set_cons_zero, List.set_cons_succ]
    refine takeN22 (v := ?_) (by kernel_rfl) (by kernel_rfl) (by kernel_rfl) (fun _ _ _ h => h) (by rfl) ?_ (by assumption) ?_
    rotate_left
    · intro wz hSw
      try dsimp only at hSw
      go_simp
      try with_reducible rfl
    try simp only [Act.put, List.setIfInBounds_toArray, List.set_cons_zero, List.set_cons_succ]
    refine takeN23 (v := ?_) (by kernel_rfl) (by kernel_rfl) (by kernel_rfl) (fun _ _ _ h => h) (by rfl) ?_ (by assumption) ?_
    rotate_left
    · intro wz hSw
      try dsimp only at hSw
      go_simp
      try with_reducible rfl
    try simp only [Act.put, List.setIfInBounds_toArray, List.set_cons_zero, List.set_cons_succ]
    refine wpAnyH_done (by kernel_rfl) ?_ _
    clear hHeld
    go_wp2_with fail
    refine wp_region_held_drew (S := fun w' => w'.cell? ⟨w.heap.size, 0, none⟩ = some (.slice a0 R.cur.length c0) ∧ w'.cell? ⟨w.heap.size, 1, none⟩ = some (.slice a1 R.cities.length c1) ∧ w'.cell? ⟨w.heap.size, 2, none⟩ = some (.slice a2 R.groups.length c2) ∧ w'.cell? ⟨w.heap.size, 3, none⟩ = some (.slice a3 R.firms.length c3) ∧ w'.cell? ⟨w.heap.size, 4, none⟩ = some (.slice a4 R.orders.length c4) ∧ w'.cell? ⟨w.heap.size, 5, none⟩ = some (.slice a5 R.usances.length c5) ∧ w'.cell? ⟨w.heap.size, 6, none⟩ = some (.slice a6 R.rates.length c6) ∧ w'.cell? ⟨w.heap.size, 7, none⟩ = some (.slice a7 R.halts.length c7)) (by kernel_rfl) ?_ (fun hHeld => ?_)
    · exact ⟨RB8.out.b0, RB8.out.b1, RB8.out.b2, RB8.out.b3, RB8.out.b4, RB8.out.b5, RB8.out.b6, RB8.out.b7⟩
    have B8d := Lib.hid (B8.out.drew)
    have RB8d := Lib.hid (RB8.out.next (below_drew _))
    refine takeN0 (v := ?_) (by kernel_rfl) (by kernel_rfl) (by kernel_rfl) (fun _ _ _ h => h) (by rfl) ?_ (by assumption) ?_
    rotate_left
    · intro wz hSw
      try dsimp only at hSw
      go_simp
      try with_reducible rfl
    try simp only [Act.put, List.setIfInBounds_toArray, List.set_cons_zero, List.set_cons_succ]
    refine takeN1 (v := ?_) (by kernel_rfl) (by kernel_rfl) (by kernel_rfl) (fun _ _ _ h => h) (by rfl) ?_ (by assumption) ?_
    rotate_left
    · intro wz hSw
      try dsimp only at hSw
      go_simp
      try with_reducible rfl
    try simp only [Act.put, List.setIfInBounds_toArray, List.set_cons_zero, List.set_cons_succ]
    refine takeN2 (v := ?_) (by kernel_rfl) (by kernel_rfl) (by kernel_rfl) (fun _ _ _ h => h) (by rfl) ?_ (by assumption) ?_
    rotate_left
    · intro wz hSw
      try dsimp only at hSw
      go_simp
      try with_reducible rfl
    try simp only [Act.put, List.setIfInBounds_toArray, List.set_cons_zero, List.set_cons_succ]
    refine takeN3 (v := ?_) (by kernel_rfl) (by kernel_rfl) (by kernel_rfl) (fun _ _ _ h => h) (by rfl) ?_ (by assumption) ?_
    rotate_left
    · intro wz hSw
      try dsimp only at hSw
      go_simp
      try with_reducible rfl
    try simp only [Act.put, List.setIfInBounds_toArray, List.set_cons_zero, List.set_cons_succ]
    refine takeN5 (v := ?_) (by kernel_rfl) (by kernel_rfl) (by kernel_rfl) (fun _ _ _ h => h) (by rfl) ?_ (by assumption) ?_
    rotate_left
    · intro wz hSw
      try dsimp only at hSw
      go_simp
      try with_reducible rfl
    try simp only [Act.put, List.setIfInBounds_toArray, List.set_cons_zero, List.set_cons_succ]
    refine takeN6 (v := ?_) (by kernel_rfl) (by kernel_rfl) (by kernel_rfl) (fun _ _ _ h => h) (by rfl) ?_ (by assumption) ?_
    rotate_left
    · intro wz hSw
      try dsimp only at hSw
      go_simp
      try with_reducible rfl
    try simp only [Act.put, List.setIfInBounds_toArray, List.set_cons_zero, List.set_cons_succ]
    refine comeN4 (by kernel_rfl) (by rfl) (fun K hK => ?_)
    go_simp
    (go_at_call 17; refine (Members_x a _ (HR.out.next B8d.out) HFT.out).mono ?_; rintro r w9 ⟨⟨v1, rfl, hv1⟩, bs⟩)
    try go_wp2_with fail
    have B9 := Lib.hid (chain B8d.out bs)
    have RB9 := Lib.hid (RB8d.out.next bs)
    clear bs
    refine hK.out _ _ ?_ (fun hHeld => ?_)
    · exact ⟨RB9.out.b0, RB9.out.b1, RB9.out.b2, RB9.out.b3, RB9.out.b4, RB9.out.b5, RB9.out.b6, RB9.out.b7⟩
    clear hK K
    try simp only [Act.put, List.setIfInBounds_toArray, List.set_cons_zero, List.set_cons_succ]
    refine comeN7 (by kernel_rfl) (by rfl) (fun K hK => ?_)
    go_simp
    (go_at_call 18; refine (rMembers_x a _ (HR.out.next B9.out) HFT.out).mono ?_; rintro r w10 ⟨⟨v2, rfl, hv2⟩, bs⟩)
    try go_wp2_with fail
    have B10 := Lib.hid (chain B9.out bs)
    have RB10 := Lib.hid (RB9.out.next bs)
    have HV1 := Lib.hid (hv1.next bs)
    have HV2 := Lib.hid hv2
    clear hv1 hv2
    clear bs
    refine hK.out _ _ ?_ (fun hHeld => ?_)
    · exact ⟨RB10.out.b0, RB10.out.b1, RB10.out.b2, RB10.out.b3, RB10.out.b4, RB10.out.b5, RB10.out.b6, RB10.out.b7⟩
    clear hK K
    try simp only [Act.put, List.setIfInBounds_toArray, List.set_cons_zero, List.set_cons_succ]
    refine comeN8 (by kernel_rfl) (by rfl) (fun K hK => ?_)
    go_simp
    (go_at_call 16; refine (SameInts_x _ _ (memP R.firms a) (memP R.firms a) _ HV1.out HV2.out (memP_sz _ _ HFT.out.firms)).mono ?_; rintro r w11 ⟨rfl, bs⟩)
    try go_wp2_with fail
    have B11 := Lib.hid (chain B10.out bs)
    have RB11 := Lib.hid (RB10.out.next bs)
    try rw [show decide (memP R.firms a = memP R.firms a) = true from decide_eq_true rfl]
    clear bs
    refine hK.out _ _ ?_ (fun hHeld => ?_)
    · exact ⟨RB11.out.b0, RB11.out.b1, RB11.out.b2, RB11.out.b3, RB11.out.b4, RB11.out.b5, RB11.out.b6, RB11.out.b7⟩
    clear hK K
    try simp only [Act.put, List.setIfInBounds_toArray, List.set_cons_zero, List.set_cons_succ]
    refine takeN9 (v := ?_) (by kernel_rfl) (by kernel_rfl) (by kernel_rfl) (fun _ _ _ h => h) (by rfl) ?_ (by assumption) ?_
    rotate_left
    · intro wz hSw
      try dsimp only at hSw
      go_simp
      try with_reducible rfl
    try simp only [Act.put, List.setIfInBounds_toArray, List.set_cons_zero, List.set_cons_succ]
    refine takeN10 (v := ?_) (by kernel_rfl) (by kernel_rfl) (by kernel_rfl) (fun _ _ _ h => h) (by rfl) ?_ (by assumption) ?_
    rotate_left
    · intro wz hSw
      try dsimp only at hSw
      go_simp
      try with_reducible rfl
    try simp only [Act.put, List.setIfInBounds_toArray, List.set_cons_zero, List.set_cons_succ]
    refine takeN11 (v := ?_) (by kernel_rfl) (by kernel_rfl) (by kernel_rfl) (fun _ _ _ h => h) (by rfl) ?_ (by assumption) ?_
    rotate_left
    · intro wz hSw
      try dsimp only at hSw
      go_simp
      try with_reducible rfl
    try simp only [Act.put, List.setIfInBounds_toArray, List.set_cons_zero, List.set_cons_succ]
    refine takeN12 (v := ?_) (by kernel_rfl) (by kernel_rfl) (by kernel_rfl) (fun _ _ _ h => h) (by rfl) ?_ (by assumption) ?_
    rotate_left
    · intro wz hSw
      try dsimp only at hSw
      go_simp
      try with_reducible rfl
    try simp only [Act.put, List.setIfInBounds_toArray, List.set_cons_zero, List.set_cons_succ]
    refine takeN14 (v := ?_) (by kernel_rfl) (by kernel_rfl) (by kernel_rfl) (fun _ _ _ h => h) (by rfl) ?_ (by assumption) ?_
    rotate_left
    · intro wz hSw
      try dsimp only at hSw
      go_simp
      try with_reducible rfl
    try simp only [Act.put, List.setIfInBounds_toArray, List.set_cons_zero, List.set_cons_succ]
    refine takeN15 (v := ?_) (by kernel_rfl) (by kernel_rfl) (by kernel_rfl) (fun _ _ _ h => h) (by rfl) ?_ (by assumption) ?_
    rotate_left
    · intro wz hSw
      try dsimp only at hSw
      go_simp
      try with_reducible rfl
    try simp only [Act.put, List.setIfInBounds_toArray, List.set_cons_zero, List.set_cons_succ]
    refine comeN13 (by kernel_rfl) (by rfl) (fun K hK => ?_)
    go_simp
    (go_at_call 19; refine (Grade_x a _ (HR.out.next B11.out) HFT.out).mono ?_; rintro r w12 ⟨rfl, bs⟩)
    try go_wp2_with fail
    have B12 := Lib.hid (chain B11.out bs)
    have RB12 := Lib.hid (RB11.out.next bs)
    clear bs
    refine hK.out _ _ ?_ (fun hHeld => ?_)
    · exact ⟨RB12.out.b0, RB12.out.b1, RB12.out.b2, RB12.out.b3, RB12.out.b4, RB12.out.b5, RB12.out.b6, RB12.out.b7⟩
    clear hK K
    try simp only [Act.put, List.setIfInBounds_toArray, List.set_cons_zero, List.set_cons_succ]
    refine comeN16 (by kernel_rfl) (by rfl) (fun K hK => ?_)
    go_simp
    (go_at_call 20; refine (rGrade_x a _ (HR.out.next B12.out) HFT.out).mono ?_; rintro r w13 ⟨rfl, bs⟩)
    try go_wp2_with fail
    have B13 := Lib.hid (chain B12.out bs)
    have RB13 := Lib.hid (RB12.out.next bs)
    clear bs
    refine hK.out _ _ ?_ (fun hHeld => ?_)
    · exact ⟨RB13.out.b0, RB13.out.b1, RB13.out.b2, RB13.out.b3, RB13.out.b4, RB13.out.b5, RB13.out.b6, RB13.out.b7⟩
    clear hK K
    try simp only [Act.put, List.setIfInBounds_toArray, List.set_cons_zero, List.set_cons_succ]
    refine takeN17 (v := ?_) (by kernel_rfl) (by kernel_rfl) (by kernel_rfl) (fun _ _ _ h => h) (by rfl) ?_ (by assumption) ?_
    rotate_left
    · intro wz hSw
      try dsimp only at hSw
      go_simp
      try with_reducible rfl
    try simp only [Act.put, List.setIfInBounds_toArray, List.set_cons_zero, List.set_cons_succ]
    refine takeN18 (v := ?_) (by kernel_rfl) (by kernel_rfl) (by kernel_rfl) (fun _ _ _ h => h) (by rfl) ?_ (by assumption) ?_
    rotate_left
    · intro wz hSw
      try dsimp only at hSw
      go_simp
      try with_reducible rfl
    try simp only [Act.put, List.setIfInBounds_toArray, List.set_cons_zero, List.set_cons_succ]
    refine takeN19 (v := ?_) (by kernel_rfl) (by kernel_rfl) (by kernel_rfl) (fun _ _ _ h => h) (by rfl) ?_ (by assumption) ?_
    rotate_left
    · intro wz hSw
      try dsimp only at hSw
      go_simp
      try with_reducible rfl
    try simp only [Act.put, List.setIfInBounds_toArray, List.set_cons_zero, List.set_cons_succ]
    refine takeN20 (v := ?_) (by kernel_rfl) (by kernel_rfl) (by kernel_rfl) (fun _ _ _ h => h) (by rfl) ?_ (by assumption) ?_
    rotate_left
    · intro wz hSw
      try dsimp only at hSw
      go_simp
      try with_reducible rfl
    try simp only [Act.put, List.setIfInBounds_toArray, List.set_cons_zero, List.set_cons_succ]
    refine takeN21 (v := ?_) (by kernel_rfl) (by kernel_rfl) (by kernel_rfl) (fun _ _ _ h => h) (by rfl) ?_ (by assumption) ?_
    rotate_left
    · intro wz hSw
      try dsimp only at hSw
      go_simp
      try with_reducible rfl
    try simp only [Act.put, List.setIfInBounds_toArray, List.set_cons_zero, List.set_cons_succ]
    refine takeN23 (v := ?_) (by kernel_rfl) (by kernel_rfl) (by kernel_rfl) (fun _ _ _ h => h) (by rfl) ?_ (by assumption) ?_
    rotate_left
    · intro wz hSw
      try dsimp only at hSw
      go_simp
      try with_reducible rfl
    try simp only [Act.put, List.setIfInBounds_toArray, List.set_cons_zero, List.set_cons_succ]
    refine takeN24 (v := ?_) (by kernel_rfl) (by kernel_rfl) (by kernel_rfl) (fun _ _ _ h => h) (by rfl) ?_ (by assumption) ?_
    rotate_left
    · intro wz hSw
      try dsimp only at hSw
      go_simp
      try with_reducible rfl
    try simp only [Act.put, List.setIfInBounds_toArray, List.set_cons_zero, List.set_cons_succ]
    refine comeN22 (by kernel_rfl) (by rfl) (fun K hK => ?_)
    go_simp
    (go_at_call 21; refine (City_x s _ (HR.out.next B13.out) HFT.out).mono ?_; rintro r w14 ⟨rfl, bs⟩)
    try go_wp2_with fail
    have B14 := Lib.hid (chain B13.out bs)
    have RB14 := Lib.hid (RB13.out.next bs)
    clear bs
    refine hK.out _ _ ?_ (fun hHeld => ?_)
    · exact ⟨RB14.out.b0, RB14.out.b1, RB14.out.b2, RB14.out.b3, RB14.out.b4, RB14.out.b5, RB14.out.b6, RB14.out.b7⟩
    clear hK K
    try simp only [Act.put, List.setIfInBounds_toArray, List.set_cons_zero, List.set_cons_succ]
    refine comeN25 (by kernel_rfl) (by rfl) (fun K hK => ?_)
    go_simp
    (go_at_call 22; refine (rCity_x s _ (HR.out.next B14.out) HFT.out).mono ?_; rintro r w15 ⟨rfl, bs⟩)
    try go_wp2_with fail
    have B15 := Lib.hid (chain B14.out bs)
    have RB15 := Lib.hid (RB14.out.next bs)
    clear bs
    refine hK.out _ _ ?_ (fun hHeld => ?_)
    · exact ⟨RB15.out.b0, RB15.out.b1, RB15.out.b2, RB15.out.b3, RB15.out.b4, RB15.out.b5, RB15.out.b6, RB15.out.b7⟩
    clear hK K
    try simp only [Act.put, List.setIfInBounds_toArray, List.set_cons_zero, List.set_cons_succ]
    refine takeN26 (v := ?_) (by kernel_rfl) (by kernel_rfl) (by kernel_rfl) (fun _ _ _ h => h) (by rfl) ?_ (by assumption) ?_
    rotate_left
    · intro wz hSw
      try dsimp only at hSw
      go_simp
      try with_reducible rfl
    try simp only [Act.put, List.setIfInBounds_toArray, List.set_cons_zero, List.set_cons_succ]
    refine takeN27 (v := ?_) (by kernel_rfl) (by kernel_rfl) (by kernel_rfl) (fun _ _ _ h => h) (by rfl) ?_ (by assumption) ?_
    rotate_left
    · intro wz hSw
      try dsimp only at hSw
      go_simp
      try with_reducible rfl
    try simp only [Act.put, List.setIfInBounds_toArray, List.set_cons_zero, List.set_cons_succ]
    refine takeN28 (v := ?_) (by kernel_rfl) (by kernel_rfl) (by kernel_rfl) (fun _ _ _ h => h) (by rfl) ?_ (by assumption) ?_
    rotate_left
    · intro wz hSw
      try dsimp only at hSw
      go_simp
      try with_reducible rfl
    try simp only [Act.put, List.setIfInBounds_toArray, List.set_cons_zero, List.set_cons_succ]
    refine takeN29 (v := ?_) (by kernel_rfl) (by kernel_rfl) (by kernel_rfl) (fun _ _ _ h => h) (by rfl) ?_ (by assumption) ?_
    rotate_left
    · intro wz hSw
      try dsimp only at hSw
      go_simp
      try with_reducible rfl
    try simp only [Act.put, List.setIfInBounds_toArray, List.set_cons_zero, List.set_cons_succ]
    refine takeN30 (v := ?_) (by kernel_rfl) (by kernel_rfl) (by kernel_rfl) (fun _ _ _ h => h) (by rfl) ?_ (by assumption) ?_
    rotate_left
    · intro wz hSw
      try dsimp only at hSw
      go_simp
      try with_reducible rfl
    try simp only [Act.put, List.setIfInBounds_toArray, List.set_cons_zero, List.set_cons_succ]
    refine takeN32 (v := ?_) (by kernel_rfl) (by kernel_rfl) (by kernel_rfl) (fun _ _ _ h => h) (by rfl) ?_ (by assumption) ?_
    rotate_left
    · intro wz hSw
      try dsimp only at hSw
      go_simp
      try with_reducible rfl
    try simp only [Act.put, List.setIfInBounds_toArray, List.set_cons_zero, List.set_cons_succ]
    refine takeN33 (v := ?_) (by kernel_rfl) (by kernel_rfl) (by kernel_rfl) (fun _ _ _ h => h) (by rfl) ?_ (by assumption) ?_
    rotate_left
    · intro wz hSw
      try dsimp only at hSw
      go_simp
      try with_reducible rfl
    try simp only [Act.put, List.setIfInBounds_toArray, List.set_cons_zero, List.set_cons_succ]
    refine comeN31 (by kernel_rfl) (by rfl) (fun K hK => ?_)
    go_simp
    (go_at_call 23; refine (Firm_x s _ (HR.out.next B15.out) HFT.out).mono ?_; rintro r w16 ⟨rfl, bs⟩)
    try go_wp2_with fail
    have B16 := Lib.hid (chain B15.out bs)
    have RB16 := Lib.hid (RB15.out.next bs)
    clear bs
    refine hK.out _ _ ?_ (fun hHeld => ?_)
    · exact ⟨RB16.out.b0, RB16.out.b1, RB16.out.b2, RB16.out.b3, RB16.out.b4, RB16.out.b5, RB16.out.b6, RB16.out.b7⟩
    clear hK K
    try simp only [Act.put, List.setIfInBounds_toArray, List.set_cons_zero, List.set_cons_succ]
    refine comeN34 (by kernel_rfl) (by rfl) (fun K hK => ?_)
    go_simp
    (go_at_call 24; refine (rFirm_x s _ (HR.out.next B16.out) HFT.out).mono ?_; rintro r w17 ⟨rfl, bs⟩)
    try go_wp2_with fail
    have B17 := Lib.hid (chain B16.out bs)
    have RB17 := Lib.hid (RB16.out.next bs)
    clear bs
    refine hK.out _ _ ?_ (fun hHeld => ?_)
    · exact ⟨RB17.out.b0, RB17.out.b1, RB17.out.b2, RB17.out.b3, RB17.out.b4, RB17.out.b5, RB17.out.b6, RB17.out.b7⟩
    clear hK K
    try simp only [Act.put, List.setIfInBounds_toArray, List.set_cons_zero, List.set_cons_succ]
    refine takeN35 (v := ?_) (by kernel_rfl) (by kernel_rfl) (by kernel_rfl) (fun _ _ _ h => h) (by rfl) ?_ (by assumption) ?_
    rotate_left
    · intro wz hSw
      try dsimp only at hSw
      go_simp
      try with_reducible rfl
    try simp only [Act.put, List.setIfInBounds_toArray, List.set_cons_zero, List.set_cons_succ]
    refine takeN36 (v := ?_) (by kernel_rfl) (by kernel_rfl) (by kernel_rfl) (fun _ _ _ h => h) (by rfl) ?_ (by assumption) ?_
    rotate_left
    · intro wz hSw
      try dsimp only at hSw
      go_simp
      try with_reducible rfl
    try simp only [Act.put, List.setIfInBounds_toArray, List.set_cons_zero, List.set_cons_succ]
    refine takeN37 (v := ?_) (by kernel_rfl) (by kernel_rfl) (by kernel_rfl) (fun _ _ _ h => h) (by rfl) ?_ (by assumption) ?_
    rotate_left
    · intro wz hSw
      try dsimp only at hSw
      go_simp
      try with_reducible rfl
    try simp only [Act.put, List.setIfInBounds_toArray, List.set_cons_zero, List.set_cons_succ]
    refine wpAnyH_done (by kernel_rfl) ?_ _
    clear hHeld
    go_wp2_with fail
    go_ret
    exact ⟨rfl, B17.out⟩

end Go.Proofs.Ytagdikghpiiabaa
