/-
  RealmLess: the walk.
-/
import Derived.Test.YtagdikghpiiabaaLawB
import Derived.Test.YtagdikghpiiabaaHand2
namespace Go.Proofs.Ytagdikghpiiabaa
open Go.RowKit Rl

/-- the box of the realm without its last firms -/
structure LB (w : World) (g : Nat) (a0 a1 a2 a3 a4 a5 a6 a7 : Option Addr) (c0 c1 c2 c3 c4 c5 c6 c7 M : Nat) (R : Rlm) : Prop where
  b0 : w.cell? ⟨g, 0, none⟩ = some (.slice a0 R.cur.length c0)
  b1 : w.cell? ⟨g, 1, none⟩ = some (.slice a1 R.cities.length c1)
  b2 : w.cell? ⟨g, 2, none⟩ = some (.slice a2 R.groups.length c2)
  b3 : w.cell? ⟨g, 3, none⟩ = some (.slice a3 M c3)
  b4 : w.cell? ⟨g, 4, none⟩ = some (.slice a4 R.orders.length c4)
  b5 : w.cell? ⟨g, 5, none⟩ = some (.slice a5 R.usances.length c5)
  b6 : w.cell? ⟨g, 6, none⟩ = some (.slice a6 R.rates.length c6)
  b7 : w.cell? ⟨g, 7, none⟩ = some (.slice a7 R.halts.length c7)
theorem LB.next {w w' : World} {g M : Nat} {a0 a1 a2 a3 a4 a5 a6 a7 : Option Addr} {c0 c1 c2 c3 c4 c5 c6 c7 : Nat} {R : Rlm} (h : LB w g a0 a1 a2 a3 a4 a5 a6 a7 c0 c1 c2 c3 c4 c5 c6 c7 M R) (hb : Below w.heap.size w w') : LB w' g a0 a1 a2 a3 a4 a5 a6 a7 c0 c1 c2 c3 c4 c5 c6 c7 M R := ⟨cell_up hb h.b0, cell_up hb h.b1, cell_up hb h.b2, cell_up hb h.b3, cell_up hb h.b4, cell_up hb h.b5, cell_up hb h.b6, cell_up hb h.b7⟩
theorem LB.new (w : World) {a0 a1 a2 a3 a4 a5 a6 a7 : Option Addr} {c0 c1 c2 c3 c4 c5 c6 c7 : Nat} {R : Rlm} (M : Nat) : LB (w.alloc (.cells #[.slice a0 R.cur.length c0, .slice a1 R.cities.length c1, .slice a2 R.groups.length c2, .slice a3 M c3, .slice a4 R.orders.length c4, .slice a5 R.usances.length c5, .slice a6 R.rates.length c6, .slice a7 R.halts.length c7] 31)) w.heap.size a0 a1 a2 a3 a4 a5 a6 a7 c0 c1 c2 c3 c4 c5 c6 c7 M R := by
  constructor <;> rw [World.cell?_alloc_new] <;> rfl

set_option maxHeartbeats 12800000 in
set_option maxRecDepth 100000 in
theorem RealmLess_x {a0 a1 a2 a3 a4 a5 a6 a7 : Option Addr} {c0 c1 c2 c3 c4 c5 c6 c7 : Nat} {R : Rlm} (i : Int) (w : World) (hr : RS w a0 a1 a2 a3 a4 a5 a6 a7 c0 c1 c2 c3 c4 c5 c6 c7 R) (hF : FitW R) :
    Calls Try.prog 7 #[.agg #[.slice a0 R.cur.length c0, .slice a1 R.cities.length c1, .slice a2 R.groups.length c2, .slice a3 R.firms.length c3, .slice a4 R.orders.length c4, .slice a5 R.usances.length c5, .slice a6 R.rates.length c6, .slice a7 R.halts.length c7], .int .i64 i] w fun r w' => r = .returned (.bool true) ∧ Below w.heap.size w w' := by
  have HR := Lib.hid hr
  have RB0 := Lib.hid (RB.new w (a0 := a0) (a1 := a1) (a2 := a2) (a3 := a3) (a4 := a4) (a5 := a5) (a6 := a6) (a7 := a7) (c0 := c0) (c1 := c1) (c2 := c2) (c3 := c3) (c4 := c4) (c5 := c5) (c6 := c6) (c7 := c7) (R := R))
  have B0 := Lib.hid (Below.new1 (w := w) (.cells #[.slice a0 R.cur.length c0, .slice a1 R.cities.length c1, .slice a2 R.groups.length c2, .slice a3 R.firms.length c3, .slice a4 R.orders.length c4, .slice a5 R.usances.length c5, .slice a6 R.rates.length c6, .slice a7 R.halts.length c7] 31))
  clear hr
  go_enter Try.func7, Try.ntmps7
  go_wp2_with fail
  refine (sane_x _).mono ?_
  rintro r w1 ⟨rfl, b1⟩
  have B1 := Lib.hid (chain B0.out b1)
  have RB1 := Lib.hid (RB0.out.next b1)
  clear b1
  have y0 := RB1.out.b0
  have y1 := RB1.out.b1
  have y2 := RB1.out.b2
  have y3 := RB1.out.b3
  have y4 := RB1.out.b4
  have y5 := RB1.out.b5
  have y6 := RB1.out.b6
  have y7 := RB1.out.b7
  go_wp2_with fail
  refine (Few_x _ (HR.out.next B1.out) hF).mono ?_
  rintro r w2 ⟨⟨few, rfl, hfew⟩, b2⟩
  have B2 := Lib.hid (chain B1.out b2)
  have RB2 := Lib.hid (RB1.out.next b2)
  clear b2
  clear y0 y1 y2 y3 y4 y5 y6 y7
  cases few with
  | false =>
    clear hfew
    go_wp2_with fail
    go_ret
    exact ⟨rfl, B2.out⟩
  | true =>
    have hfit := hfew rfl
    have HFT := Lib.hid hfit
    clear hfew hfit
    have y0 := RB2.out.b0
    have y1 := RB2.out.b1
    have y2 := RB2.out.b2
    have y3 := RB2.out.b3
    have y4 := RB2.out.b4
    have y5 := RB2.out.b5
    have y6 := RB2.out.b6
    have y7 := RB2.out.b7
    go_wp2_with fail
    refine (Check_x _ (HR.out.next B2.out) HFT.out).mono ?_
    rintro r w3 ⟨rfl, b3⟩
    have B3 := Lib.hid (chain B2.out b3)
    have RB3 := Lib.hid (RB2.out.next b3)
    clear b3
    clear y0 y1 y2 y3 y4 y5 y6 y7
    by_cases hck : checkP R = 0
    case neg =>
      have f1 : (checkP R != 0) = true := nbt hck
      clear hck
      have y3 := RB3.out.b3
      go_wp2_with fail
      go_ret
      exact ⟨rfl, B3.out⟩
    have f1 : (checkP R != 0) = false := nbf hck
    have HCK := Lib.hid hck
    clear hck
    have y0 := RB3.out.b0
    have y1 := RB3.out.b1
    have y2 := RB3.out.b2
    have y3 := RB3.out.b3
    have y4 := RB3.out.b4
    have y5 := RB3.out.b5
    have y6 := RB3.out.b6
    have y7 := RB3.out.b7
    by_cases z : R.firms.length = 0
    · have z1 : ((R.firms.length : Int) == 0) = true := bt (by omega)
      clear z
      go_wp2_with fail
      go_ret
      exact ⟨rfl, B3.out⟩
    have z1 : ((R.firms.length : Int) == 0) = false := bf (by omega)
    by_cases i0 : i < 0
    · skip
      go_wp2_with fail
      go_ret
      exact ⟨rfl, B3.out⟩
    obtain ⟨M, hM'⟩ : ∃ M, R.firms.length = M + 1 := ⟨R.firms.length - 1, by omega⟩
    have eM : (R.firms.length : Int) - 1 = (M : Int) := by omega
    have hMl : M < R.firms.length := by omega
    have hsz : R.firms.length ≤ 9223372036854775807 := HFT.out.firms
    have HM' := Lib.hid hM'
    clear hM'
    by_cases i1 : (M : Int) ≤ i
    · skip
      go_wp2_with fail
      go_ret
      exact ⟨rfl, B3.out⟩
    obtain ⟨m, rfl⟩ := Int.eq_ofNat_of_zero_le (show 0 ≤ i by omega)
    have hm : m < M := by omega
    have hM : M ≤ R.firms.length := by omega
    obtain ⟨x, hx⟩ : ∃ x, R.firms[m]? = some x := ⟨_, List.getElem?_eq_getElem (by omega)⟩
    obtain ⟨y, hy⟩ : ∃ y, R.firms[M]? = some y := ⟨_, List.getElem?_eq_getElem (by omega)⟩
    have LC := Lib.hid (less_zero HCK.out hM)
    have LG := Lib.hid (less_grade HCK.out hM hm hx)
    have LF := Lib.hid (less_find HCK.out hM hm hx)
    have LL := Lib.hid (less_last HCK.out hy)
    have LN := Lib.hid (less_none (R := R) hM)
    have hcap := (HR.out.next B3.out).firms.len.2
    obtain ⟨b, off, ea, hb, hc⟩ := (HR.out.next B3.out).firms.at hx
    obtain ⟨b2, off2, eb, hb2, hc2⟩ := (HR.out.next B3.out).firms.at hy
    have n0 : w3.cell? ⟨b, off + m * 3, none⟩ = some (.string x.nm) := hc 0 _ rfl
    have n1 : w3.cell? ⟨b2, off2 + M * 3, none⟩ = some (.string y.nm) := hc2 0 _ rfl
    rw [ea] at eb
    simp only [Option.some.injEq, Addr.mk.injEq, and_true] at eb
    obtain ⟨rfl, rfl⟩ := eb
    subst ea
    clear hc hc2 hx hy
    have bn := Below.new1 (w := w3) (.cells #[.slice a0 R.cur.length c0, .slice a1 R.cities.length c1, .slice a2 R.groups.length c2, .slice (some ⟨b, off, none⟩) R.firms.length c3, .slice a4 R.orders.length c4, .slice a5 R.usances.length c5, .slice a6 R.rates.length c6, .slice a7 R.halts.length c7] 31)
    have bs : Below w3.heap.size w3 (w3.alloc (.cells #[.slice a0 R.cur.length c0, .slice a1 R.cities.length c1, .slice a2 R.groups.length c2, .slice (some ⟨b, off, none⟩) M c3, .slice a4 R.orders.length c4, .slice a5 R.usances.length c5, .slice a6 R.rates.length c6, .slice a7 R.halts.length c7] 31)) := Below.new1 (w := w3) (.cells #[.slice a0 R.cur.length c0, .slice a1 R.cities.length c1, .slice a2 R.groups.length c2, .slice (some ⟨b, off, none⟩) M c3, .slice a4 R.orders.length c4, .slice a5 R.usances.length c5, .slice a6 R.rates.length c6, .slice a7 R.halts.length c7] 31)
    have LB4 := Lib.hid (LB.new w3 (a0 := a0) (a1 := a1) (a2 := a2) (a3 := some ⟨b, off, none⟩) (a4 := a4) (a5 := a5) (a6 := a6) (a7 := a7) (c0 := c0) (c1 := c1) (c2 := c2) (c3 := c3) (c4 := c4) (c5 := c5) (c6 := c6) (c7 := c7) (R := R) M)
    have fa : (w3.alloc (.cells #[.slice a0 R.cur.length c0, .slice a1 R.cities.length c1, .slice a2 R.groups.length c2, .slice (some ⟨b, off, none⟩) R.firms.length c3, .slice a4 R.orders.length c4, .slice a5 R.usances.length c5, .slice a6 R.rates.length c6, .slice a7 R.halts.length c7] 31)).frozen? ⟨w3.heap.size, 3, none⟩ = false := by simp
    have ca : (w3.alloc (.cells #[.slice a0 R.cur.length c0, .slice a1 R.cities.length c1, .slice a2 R.groups.length c2, .slice (some ⟨b, off, none⟩) R.firms.length c3, .slice a4 R.orders.length c4, .slice a5 R.usances.length c5, .slice a6 R.rates.length c6, .slice a7 R.halts.length c7] 31)).cell? ⟨w3.heap.size, 3, none⟩ = some (.slice (some ⟨b, off, none⟩) R.firms.length c3) := by rw [World.cell?_alloc_new]; rfl
    have z3 : (w3.alloc (.cells #[.slice a0 R.cur.length c0, .slice a1 R.cities.length c1, .slice a2 R.groups.length c2, .slice (some ⟨b, off, none⟩) R.firms.length c3, .slice a4 R.orders.length c4, .slice a5 R.usances.length c5, .slice a6 R.rates.length c6, .slice a7 R.halts.length c7] 31)).cell? ⟨w.heap.size, 3, none⟩ = some (.slice (some ⟨b, off, none⟩) R.firms.length c3) := cell_up bn RB3.out.b3
    have RB4 := Lib.hid (RB3.out.next bs)
    have B4 := Lib.hid (chain B3.out bs)
    have NX4 := Lib.hid (cell_up bs n0)
    have n2 := cell_up bs n1
    have s3 := RB4.out.b3
    have M0 : (0 : Int) ≤ (M : Int) := by omega
    have M1 : (M : Int) < (R.firms.length : Int) := by omega
    have M2 : (M : Int) ≤ (c3 : Int) := by omega
    have M3 : (R.firms.length : Int) ≤ (c3 : Int) := by omega
    have mm0 : (0 : Int) ≤ (m : Int) := by omega
    have mm1 : (m : Int) < (R.firms.length : Int) := by omega
    clear bn bs n0 n1
    go_wp2_with fail
    try clear fa ca z3
    refine wp_region_held_drew (S := fun w' => w'.cell? ⟨w.heap.size, 0, none⟩ = some (.slice a0 R.cur.length c0) ∧ w'.cell? ⟨w.heap.size, 1, none⟩ = some (.slice a1 R.cities.length c1) ∧ w'.cell? ⟨w.heap.size, 2, none⟩ = some (.slice a2 R.groups.length c2) ∧ w'.cell? ⟨w.heap.size, 3, none⟩ = some (.slice (some ⟨b, off, none⟩) R.firms.length c3) ∧ w'.cell? ⟨w.heap.size, 4, none⟩ = some (.slice a4 R.orders.length c4) ∧ w'.cell? ⟨w.heap.size, 5, none⟩ = some (.slice a5 R.usances.length c5) ∧ w'.cell? ⟨w.heap.size, 6, none⟩ = some (.slice a6 R.rates.length c6) ∧ w'.cell? ⟨w.heap.size, 7, none⟩ = some (.slice a7 R.halts.length c7) ∧ w'.cell? ⟨w3.heap.size, 0, none⟩ = some (.slice a0 R.cur.length c0) ∧ w'.cell? ⟨w3.heap.size, 1, none⟩ = some (.slice a1 R.cities.length c1) ∧ w'.cell? ⟨w3.heap.size, 2, none⟩ = some (.slice a2 R.groups.length c2) ∧ w'.cell? ⟨w3.heap.size, 3, none⟩ = some (.slice (some ⟨b, off, none⟩) M c3) ∧ w'.cell? ⟨w3.heap.size, 4, none⟩ = some (.slice a4 R.orders.length c4) ∧ w'.cell? ⟨w3.heap.size, 5, none⟩ = some (.slice a5 R.usances.length c5) ∧ w'.cell? ⟨w3.heap.size, 6, none⟩ = some (.slice a6 R.rates.length c6) ∧ w'.cell? ⟨w3.heap.size, 7, none⟩ = some (.slice a7 R.halts.length c7) ∧ w'.cell? ⟨b, off + m * 3, none⟩ = some (.string x.nm)) (by kernel_rfl) ?_ (fun hHeld => ?_)
    · exact ⟨RB4.out.b0, RB4.out.b1, RB4.out.b2, RB4.out.b3, RB4.out.b4, RB4.out.b5, RB4.out.b6, RB4.out.b7, LB4.out.b0, LB4.out.b1, LB4.out.b2, LB4.out.b3, LB4.out.b4, LB4.out.b5, LB4.out.b6, LB4.out.b7, NX4.out⟩
    have B4d := Lib.hid (B4.out.drew)
    have RB4d := Lib.hid (RB4.out.next (below_drew _))
    have LB4d := Lib.hid (LB4.out.next (below_drew _))
    have NX4d := Lib.hid (cell_up (below_drew _) NX4.out)
    refine takeN0 (v := ?_) (by kernel_rfl) (by kernel_rfl) (by kernel_rfl) (fun _ _ _ h => h) (by rfl) ?_ (by assumption) ?_
    rotate_left
    · intro wz hSw
      try dsimp only at hSw
      go_simp
      try with_reducible rfl
    try simp only [Act.put, List.setIfInBounds_toArray, List.set_cons_zero, List.set_cons_succ]
    refine takeN1 (v := ?_) (by kernel_rfl) (by kernel_rfl) (by kernel_rfl) (fun _ _ _ h => h) (by rfl) ?_ (by assumption) ?_
    rotate_left
    · intro wz hSw
      try dsimp only at hSw
      go_simp
      try with_reducible rfl
    try simp only [Act.put, List.setIfInBounds_toArray, List.set_cons_zero, List.set_cons_succ]
    refine takeN2 (v := ?_) (by kernel_rfl) (by kernel_rfl) (by kernel_rfl) (fun _ _ _ h => h) (by rfl) ?_ (by assumption) ?_
    rotate_left
    · intro wz hSw
      try dsimp only at hSw
      go_simp
      try with_reducible rfl
    try simp only [Act.put, List.setIfInBounds_toArray, List.set_cons_zero, List.set_cons_succ]
    refine comeN3 (by kernel_rfl) (by rfl) (fun K hK => ?_)
    go_simp
    (go_at_call 12; refine (lessCheck_x _ (HR.out.next B4d.out) HFT.out hM).mono ?_; rintro r w5 ⟨rfl, bs⟩)
    try go_wp2_with fail
    rw [LC.out]
    have B5 := Lib.hid (chain B4d.out bs)
    have RB5 := Lib.hid (RB4d.out.next bs)
    have LB5 := Lib.hid (LB4d.out.next bs)
    have NX5 := Lib.hid (cell_up bs NX4d.out)
    clear bs
    refine hK.out _ _ ?_ (fun hHeld => ?_)
    · exact ⟨RB5.out.b0, RB5.out.b1, RB5.out.b2, RB5.out.b3, RB5.out.b4, RB5.out.b5, RB5.out.b6, RB5.out.b7, LB5.out.b0, LB5.out.b1, LB5.out.b2, LB5.out.b3, LB5.out.b4, LB5.out.b5, LB5.out.b6, LB5.out.b7, NX5.out⟩
    clear hK K
    try simp only [Act.put, List.setIfInBounds_toArray, List.set_cons_zero, List.set_cons_succ]
    refine takeN4 (v := ?_) (by kernel_rfl) (by kernel_rfl) (by kernel_rfl) (fun _ _ _ h => h) (by rfl) ?_ (by assumption) ?_
    rotate_left
    · intro wz hSw
      try dsimp only at hSw
      go_simp
      try with_reducible rfl
    try simp only [Act.put, List.setIfInBounds_toArray, List.set_cons_zero, List.set_cons_succ]
    refine takeN5 (v := ?_) (by kernel_rfl) (by kernel_rfl) (by kernel_rfl) (fun _ _ _ h => h) (by rfl) ?_ (by assumption) ?_
    rotate_left
    · intro wz hSw
      try dsimp only at hSw
      go_simp
      try with_reducible rfl
    try simp only [Act.put, List.setIfInBounds_toArray, List.set_cons_zero, List.set_cons_succ]
    refine takeN6 (v := ?_) (by kernel_rfl) (by kernel_rfl) (by kernel_rfl) (fun _ _ _ h => h) (by rfl) ?_ (by assumption) ?_
    rotate_left
    · intro wz hSw
      try dsimp only at hSw
      go_simp
      try with_reducible rfl
    try simp only [Act.put, List.setIfInBounds_toArray, List.set_cons_zero, List.set_cons_succ]
    refine takeN7 (v := ?_) (by kernel_rfl) (by kernel_rfl) (by kernel_rfl) (fun _ _ _ h => h) (by rfl) ?_ (by assumption) ?_
    rotate_left
    · intro wz hSw
      try dsimp only at hSw
      go_simp
      try with_reducible rfl
    try simp only [Act.put, List.setIfInBounds_toArray, List.set_cons_zero, List.set_cons_succ]
    refine takeN8 (v := ?_) (by kernel_rfl) (by kernel_rfl) (by kernel_rfl) (fun _ _ _ h => h) (by rfl) ?_ (by assumption) ?_
    rotate_left
    · intro wz hSw
      try dsimp only at hSw
      go_simp
      try with_reducible rfl
    try simp only [Act.put, List.setIfInBounds_toArray, List.set_cons_zero, List.set_cons_succ]
    refine takeN10 (v := ?_) (by kernel_rfl) (by kernel_rfl) (by kernel_rfl) (fun _ _ _ h => h) (by rfl) ?_ (by assumption) ?_
    rotate_left
    · intro wz hSw
      try dsimp only at hSw
      go_simp
      try with_reducible rfl
    try simp only [Act.put, List.setIfInBounds_toArray, List.set_cons_zero, List.set_cons_succ]
    refine takeN11 (v := ?_) (by kernel_rfl) (by kernel_rfl) (by kernel_rfl) (fun _ _ _ h => h) (by rfl) ?_ (by assumption) ?_
    rotate_left
    · intro wz hSw
      try dsimp only at hSw
      go_simp
      try with_reducible rfl
    try simp only [Act.put, List.setIfInBounds_toArray, List.set_cons_zero, List.set_cons_succ]
    refine comeN9 (by kernel_rfl) (by rfl) (fun K hK => ?_)
    go_simp
    (go_at_call 19; refine (lessGrade_x (m : Int) _ (HR.out.next B5.out) HFT.out hM).mono ?_; rintro r w6 ⟨rfl, bs⟩)
    try go_wp2_with fail
    rw [LG.out]
    have B6 := Lib.hid (chain B5.out bs)
    have RB6 := Lib.hid (RB5.out.next bs)
    have LB6 := Lib.hid (LB5.out.next bs)
    have NX6 := Lib.hid (cell_up bs NX5.out)
    clear bs
    refine hK.out _ _ ?_ (fun hHeld => ?_)
    · exact ⟨RB6.out.b0, RB6.out.b1, RB6.out.b2, RB6.out.b3, RB6.out.b4, RB6.out.b5, RB6.out.b6, RB6.out.b7, LB6.out.b0, LB6.out.b1, LB6.out.b2, LB6.out.b3, LB6.out.b4, LB6.out.b5, LB6.out.b6, LB6.out.b7, NX6.out⟩
    clear hK K
    try simp only [Act.put, List.setIfInBounds_toArray, List.set_cons_zero, List.set_cons_succ]
    refine comeN12 (by kernel_rfl) (by rfl) (fun K hK => ?_)
    go_simp
    (go_at_call 19; refine (Grade_x (m : Int) _ (HR.out.next B6.out) HFT.out).mono ?_; rintro r w7 ⟨rfl, bs⟩)
    try go_wp2_with fail
    have B7 := Lib.hid (chain B6.out bs)
    have RB7 := Lib.hid (RB6.out.next bs)
    have LB7 := Lib.hid (LB6.out.next bs)
    have NX7 := Lib.hid (cell_up bs NX6.out)
    clear bs
    refine hK.out _ _ ?_ (fun hHeld => ?_)
    · exact ⟨RB7.out.b0, RB7.out.b1, RB7.out.b2, RB7.out.b3, RB7.out.b4, RB7.out.b5, RB7.out.b6, RB7.out.b7, LB7.out.b0, LB7.out.b1, LB7.out.b2, LB7.out.b3, LB7.out.b4, LB7.out.b5, LB7.out.b6, LB7.out.b7, NX7.out⟩
    clear hK K
    try simp only [Act.put, List.setIfInBounds_toArray, List.set_cons_zero, List.set_cons_succ]
    refine takeN13 (v := ?_) (by kernel_rfl) (by kernel_rfl) (by kernel_rfl) (fun _ _ _ h => h) (by rfl) ?_ (by assumption) ?_
    rotate_left
    · intro wz hSw
      try dsimp only at hSw
      go_simp
      try with_reducible rfl
    try simp only [Act.put, List.setIfInBounds_toArray, List.set_cons_zero, List.set_cons_succ]
    refine takeN14 (v := ?_) (by kernel_rfl) (by kernel_rfl) (by kernel_rfl) (fun _ _ _ h => h) (by rfl) ?_ (by assumption) ?_
    rotate_left
    · intro wz hSw
      try dsimp only at hSw
      go_simp
      try with_reducible rfl
    try simp only [Act.put, List.setIfInBounds_toArray, List.set_cons_zero, List.set_cons_succ]
    refine takeN15 (v := ?_) (by kernel_rfl) (by kernel_rfl) (by kernel_rfl) (fun _ _ _ h => h) (by rfl) ?_ (by assumption) ?_
    rotate_left
    · intro wz hSw
      try dsimp only at hSw
      go_simp
      try with_reducible rfl
    try simp only [Act.put, List.setIfInBounds_toArray, List.set_cons_zero, List.set_cons_succ]
    refine takeN16 (v := ?_) (by kernel_rfl) (by kernel_rfl) (by kernel_rfl) (fun _ _ _ h => h) (by rfl) ?_ (by assumption) ?_
    rotate_left
    · intro wz hSw
      try dsimp only at hSw
      go_simp
      try with_reducible rfl
    try simp only [Act.put, List.setIfInBounds_toArray, List.set_cons_zero, List.set_cons_succ]
    refine takeN17 (v := ?_) (by kernel_rfl) (by kernel_rfl) (by kernel_rfl) (fun _ _ _ h => h) (by rfl) ?_ (by assumption) ?_
    rotate_left
    · intro wz hSw
      try dsimp only at hSw
      go_simp
      try with_reducible rfl
    try simp only [Act.put, List.setIfInBounds_toArray, List.set_cons_zero, List.set_cons_succ]
    refine takeN18 (v := ?_) (by kernel_rfl) (by kernel_rfl) (by kernel_rfl) (fun _ _ _ h => h) (by rfl) ?_ (by assumption) ?_
    rotate_left
    · intro wz hSw
      try dsimp only at hSw
      go_simp
      try with_reducible rfl
    try simp only [Act.put, List.setIfInBounds_toArray, List.set_cons_zero, List.set_cons_succ]
    refine takeN19 (v := ?_) (by kernel_rfl) (by kernel_rfl) (by kernel_rfl) (fun _ _ _ h => h) (by rfl) ?_ (by assumption) ?_
    rotate_left
    · intro wz hSw
      try dsimp only at hSw
      go_simp
      try with_reducible rfl
    try simp only [Act.put, List.setIfInBounds_toArray, List.set_cons_zero, List.set_cons_succ]
    refine takeN20 (v := ?_) (by kernel_rfl) (by kernel_rfl) (by kernel_rfl) (fun _ _ _ h => h) (by rfl) ?_ (by assumption) ?_
    rotate_left
    · intro wz hSw
      try dsimp only at hSw
      go_simp
      try with_reducible rfl
    try simp only [Act.put, List.setIfInBounds_toArray, List.set_cons_zero, List.set_cons_succ]
    refine takeN21 (v := ?_) (by kernel_rfl) (by kernel_rfl) (by kernel_rfl) (fun _ _ _ h => h) (by rfl) ?_ (by assumption) ?_
    rotate_left
    · intro wz hSw
      try dsimp only at hSw
      go_simp
      try with_reducible rfl
    try simp only [Act.put, List.setIfInBounds_toArray, List.set_cons_zero, List.set_cons_succ]
    refine takeN22 (v := ?_) (by kernel_rfl) (by kernel_rfl) (by kernel_rfl) (fun _ _ _ h => h) (by rfl) ?_ (by assumption) ?_
    rotate_left
    · intro wz hSw
      try dsimp only at hSw
      go_simp
      try with_reducible rfl
    try simp only [Act.put, List.setIfInBounds_toArray, List.set_cons_zero, List.set_cons_succ]
    refine takeN24 (v := ?_) (by kernel_rfl) (by kernel_rfl) (by kernel_rfl) (fun _ _ _ h => h) (by rfl) ?_ (by assumption) ?_
    rotate_left
    · intro wz hSw
      try dsimp only at hSw
      go_simp
      try with_reducible rfl
    try simp only [Act.put, List.setIfInBounds_toArray, List.set_cons_zero, List.set_cons_succ]
    refine comeN23 (by kernel_rfl) (by rfl) (fun K hK => ?_)
    go_simp
    (go_at_call 23; refine (lessFirm_x x.nm _ (HR.out.next B7.out) HFT.out hM).mono ?_; rintro r w8 ⟨rfl, bs⟩)
    try go_wp2_with fail
    rw [LF.out]
    have B8 := Lib.hid (chain B7.out bs)
    have RB8 := Lib.hid (RB7.out.next bs)
    have LB8 := Lib.hid (LB7.out.next bs)
    have NX8 := Lib.hid (cell_up bs NX7.out)
    clear bs
    refine hK.out _ _ ?_ (fun hHeld => ?_)
    · exact ⟨RB8.out.b0, RB8.out.b1, RB8.out.b2, RB8.out.b3, RB8.out.b4, RB8.out.b5, RB8.out.b6, RB8.out.b7, LB8.out.b0, LB8.out.b1, LB8.out.b2, LB8.out.b3, LB8.out.b4, LB8.out.b5, LB8.out.b6, LB8.out.b7, NX8.out⟩
    clear hK K
    try simp only [Act.put, List.setIfInBounds_toArray, List.set_cons_zero, List.set_cons_succ]
    refine takeN25 (v := ?_) (by kernel_rfl) (by kernel_rfl) (by kernel_rfl) (fun _ _ _ h => h) (by rfl) ?_ (by assumption) ?_
    rotate_left
    · intro wz hSw
      try dsimp only at hSw
      go_simp
      try with_reducible rfl
    try simp only [Act.put, List.setIfInBounds_toArray, List.set_cons_zero, List.set_cons_succ]
    refine takeN26 (v := ?_) (by kernel_rfl) (by kernel_rfl) (by kernel_rfl) (fun _ _ _ h => h) (by rfl) ?_ (by assumption) ?_
    rotate_left
    · intro wz hSw
      try dsimp only at hSw
      go_simp
      try with_reducible rfl
    try simp only [Act.put, List.setIfInBounds_toArray, List.set_cons_zero, List.set_cons_succ]
    refine takeN27 (v := ?_) (by kernel_rfl) (by kernel_rfl) (by kernel_rfl) (fun _ _ _ h => h) (by rfl) ?_ (by assumption) ?_
    rotate_left
    · intro wz hSw
      try dsimp only at hSw
      go_simp
      try with_reducible rfl
    try simp only [Act.put, List.setIfInBounds_toArray, List.set_cons_zero, List.set_cons_succ]
    refine takeN28 (v := ?_) (by kernel_rfl) (by kernel_rfl) (by kernel_rfl) (fun _ _ _ h => h) (by rfl) ?_ (by assumption) ?_
    rotate_left
    · intro wz hSw
      try dsimp only at hSw
      go_simp
      try with_reducible rfl
    try simp only [Act.put, List.setIfInBounds_toArray, List.set_cons_zero, List.set_cons_succ]
    refine takeN29 (v := ?_) (by kernel_rfl) (by kernel_rfl) (by kernel_rfl) (fun _ _ _ h => h) (by rfl) ?_ (by assumption) ?_
    rotate_left
    · intro wz hSw
      try dsimp only at hSw
      go_simp
      try with_reducible rfl
    try simp only [Act.put, List.setIfInBounds_toArray, List.set_cons_zero, List.set_cons_succ]
    refine comeN30 (by kernel_rfl) (by rfl) (fun K hK => ?_)
    go_simp
    (go_at_call 23; refine (lessFirm_x y.nm _ (HR.out.next B8.out) HFT.out hM).mono ?_; rintro r w9 ⟨rfl, bs⟩)
    try go_wp2_with fail
    rw [LL.out]
    have B9 := Lib.hid (chain B8.out bs)
    have RB9 := Lib.hid (RB8.out.next bs)
    have LB9 := Lib.hid (LB8.out.next bs)
    have NX9 := Lib.hid (cell_up bs NX8.out)
    clear bs
    refine hK.out _ _ ?_ (fun hHeld => ?_)
    · exact ⟨RB9.out.b0, RB9.out.b1, RB9.out.b2, RB9.out.b3, RB9.out.b4, RB9.out.b5, RB9.out.b6, RB9.out.b7, LB9.out.b0, LB9.out.b1, LB9.out.b2, LB9.out.b3, LB9.out.b4, LB9.out.b5, LB9.out.b6, LB9.out.b7, NX9.out⟩
    clear hK K
    try simp only [Act.put, List.setIfInBounds_toArray, List.set_cons_zero, List.set_cons_succ]
    refine takeN31 (v := ?_) (by kernel_rfl) (by kernel_rfl) (by kernel_rfl) (fun _ _ _ h => h) (by rfl) ?_ (by assumption) ?_
    rotate_left
    · intro wz hSw
      try dsimp only at hSw
      go_simp
      try with_reducible rfl
    try simp only [Act.put, List.setIfInBounds_toArray, List.set_cons_zero, List.set_cons_succ]
    refine takeN32 (v := ?_) (by kernel_rfl) (by kernel_rfl) (by kernel_rfl) (fun _ _ _ h => h) (by rfl) ?_ (by assumption) ?_
    rotate_left
    · intro wz hSw
      try dsimp only at hSw
      go_simp
      try with_reducible rfl
    try simp only [Act.put, List.setIfInBounds_toArray, List.set_cons_zero, List.set_cons_succ]
    refine takeN33 (v := ?_) (by kernel_rfl) (by kernel_rfl) (by kernel_rfl) (fun _ _ _ h => h) (by rfl) ?_ (by assumption) ?_
    rotate_left
    · intro wz hSw
      try dsimp only at hSw
      go_simp
      try with_reducible rfl
    try simp only [Act.put, List.setIfInBounds_toArray, List.set_cons_zero, List.set_cons_succ]
    refine takeN34 (v := ?_) (by kernel_rfl) (by kernel_rfl) (by kernel_rfl) (fun _ _ _ h => h) (by rfl) ?_ (by assumption) ?_
    rotate_left
    · intro wz hSw
      try dsimp only at hSw
      go_simp
      try with_reducible rfl
    try simp only [Act.put, List.setIfInBounds_toArray, List.set_cons_zero, List.set_cons_succ]
    refine takeN35 (v := ?_) (by kernel_rfl) (by kernel_rfl) (by kernel_rfl) (fun _ _ _ h => h) (by rfl) ?_ (by assumption) ?_
    rotate_left
    · intro wz hSw
      try dsimp only at hSw
      go_simp
      try with_reducible rfl
    try simp only [Act.put, List.setIfInBounds_toArray, List.set_cons_zero, List.set_cons_succ]
    refine takeN36 (v := ?_) (by kernel_rfl) (by kernel_rfl) (by kernel_rfl) (fun _ _ _ h => h) (by rfl) ?_ (by assumption) ?_
    rotate_left
    · intro wz hSw
      try dsimp only at hSw
      go_simp
      try with_reducible rfl
    try simp only [Act.put, List.setIfInBounds_toArray, List.set_cons_zero, List.set_cons_succ]
    refine takeN37 (v := ?_) (by kernel_rfl) (by kernel_rfl) (by kernel_rfl) (fun _ _ _ h => h) (by rfl) ?_ (by assumption) ?_
    rotate_left
    · intro wz hSw
      try dsimp only at hSw
      go_simp
      try with_reducible rfl
    try simp only [Act.put, List.setIfInBounds_toArray, List.set_cons_zero, List.set_cons_succ]
    refine comeN38 (by kernel_rfl) (by rfl) (fun K hK => ?_)
    go_simp
    (go_at_call 19; refine (lessGrade_x (M : Int) _ (HR.out.next B9.out) HFT.out hM).mono ?_; rintro r w10 ⟨rfl, bs⟩)
    try go_wp2_with fail
    rw [LN.out]
    have B10 := Lib.hid (chain B9.out bs)
    have RB10 := Lib.hid (RB9.out.next bs)
    have LB10 := Lib.hid (LB9.out.next bs)
    have NX10 := Lib.hid (cell_up bs NX9.out)
    clear bs
    refine hK.out _ _ ?_ (fun hHeld => ?_)
    · exact ⟨RB10.out.b0, RB10.out.b1, RB10.out.b2, RB10.out.b3, RB10.out.b4, RB10.out.b5, RB10.out.b6, RB10.out.b7, LB10.out.b0, LB10.out.b1, LB10.out.b2, LB10.out.b3, LB10.out.b4, LB10.out.b5, LB10.out.b6, LB10.out.b7, NX10.out⟩
    clear hK K
    try simp only [Act.put, List.setIfInBounds_toArray, List.set_cons_zero, List.set_cons_succ]
    refine takeN39 (v := ?_) (by kernel_rfl) (by kernel_rfl) (by kernel_rfl) (fun _ _ _ h => h) (by rfl) ?_ (by assumption) ?_
    rotate_left
    · intro wz hSw
      try dsimp only at hSw
      go_simp
      try with_reducible rfl
    try simp only [Act.put, List.setIfInBounds_toArray, List.set_cons_zero, List.set_cons_succ]
    refine takeN40 (v := ?_) (by kernel_rfl) (by kernel_rfl) (by kernel_rfl) (fun _ _ _ h => h) (by rfl) ?_ (by assumption) ?_
    rotate_left
    · intro wz hSw
      try dsimp only at hSw
      go_simp
      try with_reducible rfl
    try simp only [Act.put, List.setIfInBounds_toArray, List.set_cons_zero, List.set_cons_succ]
    refine takeN41 (v := ?_) (by kernel_rfl) (by kernel_rfl) (by kernel_rfl) (fun _ _ _ h => h) (by rfl) ?_ (by assumption) ?_
    rotate_left
    · intro wz hSw
      try dsimp only at hSw
      go_simp
      try with_reducible rfl
    try simp only [Act.put, List.setIfInBounds_toArray, List.set_cons_zero, List.set_cons_succ]
    refine wpAnyH_done (by kernel_rfl) ?_ _
    clear hHeld
    go_wp2_with fail
    go_ret
    exact ⟨rfl, B10.out⟩

end Go.Proofs.Ytagdikghpiiabaa
