/-
  The law MoneyRises's walk.
-/
import Derived.Test.YtdijhpcnlbjdaaaLawA
import Derived.Test.YtdijhpcnlbjdaaaMonL
namespace Go.Proofs.Ytdijhpcnlbjdaaa
open Go.RowKit Mon

theorem err_two (e : Int) : e = 0 ∨ ((e == 0) = false ∧ (e != 0) = true) := by
  by_cases h : e = 0
  · exact .inl h
  · exact .inr ⟨by simp [h], by simp [h]⟩
theorem succ_ne (a : Int) : (a + 1 == a) = false := by rw [beq_eq_false_iff_ne]; omega

/-- three pairs in three new blocks -/
structure Bx3 (w : World) (s0 s1 p0 p1 n0 n1 : Int) (W : World) : Prop where
  below : Below w.heap.size w W
  lt : w.heap.size + 1 + 1 < W.heap.size
  c0 : W.cell? ⟨w.heap.size, 0, none⟩ = some (.int .i64 s0)
  c1 : W.cell? ⟨w.heap.size, 1, none⟩ = some (.int .i64 s1)
  c2 : W.cell? ⟨w.heap.size + 1, 0, none⟩ = some (.int .i64 p0)
  c3 : W.cell? ⟨w.heap.size + 1, 1, none⟩ = some (.int .i64 p1)
  c4 : W.cell? ⟨w.heap.size + 1 + 1, 0, none⟩ = some (.int .i64 n0)
  c5 : W.cell? ⟨w.heap.size + 1 + 1, 1, none⟩ = some (.int .i64 n1)
theorem Bx3.next {w : World} {s0 s1 p0 p1 n0 n1 : Int} {W W' : World} (h : Bx3 w s0 s1 p0 p1 n0 n1 W) (hb : Below W.heap.size W W') : Bx3 w s0 s1 p0 p1 n0 n1 W' := by
  have s := h.lt
  refine ⟨chain h.below hb, by have := hb.size; omega, ?_, ?_, ?_, ?_, ?_, ?_⟩
  · rw [hb.cell (p := ⟨w.heap.size, 0, none⟩) (by show w.heap.size < _; omega)]; exact h.c0
  · rw [hb.cell (p := ⟨w.heap.size, 1, none⟩) (by show w.heap.size < _; omega)]; exact h.c1
  · rw [hb.cell (p := ⟨w.heap.size + 1, 0, none⟩) (by show w.heap.size + 1 < _; omega)]; exact h.c2
  · rw [hb.cell (p := ⟨w.heap.size + 1, 1, none⟩) (by show w.heap.size + 1 < _; omega)]; exact h.c3
  · rw [hb.cell (p := ⟨w.heap.size + 1 + 1, 0, none⟩) (by show w.heap.size + 1 + 1 < _; omega)]; exact h.c4
  · rw [hb.cell (p := ⟨w.heap.size + 1 + 1, 1, none⟩) (by show w.heap.size + 1 + 1 < _; omega)]; exact h.c5
theorem Bx3.start (w : World) (s0 s1 p0 p1 n0 n1 : Int) (T : TypeId) : Bx3 w s0 s1 p0 p1 n0 n1 (((w.alloc (.cells #[.int .i64 s0, .int .i64 s1] T)).alloc (.cells #[.int .i64 p0, .int .i64 p1] T)).alloc (.cells #[.int .i64 n0, .int .i64 n1] T)) := by
  have e1 : (w.alloc (.cells #[.int .i64 s0, .int .i64 s1] T)).heap.size = w.heap.size + 1 := by simp
  have e2 : ((w.alloc (.cells #[.int .i64 s0, .int .i64 s1] T)).alloc (.cells #[.int .i64 p0, .int .i64 p1] T)).heap.size = w.heap.size + 1 + 1 := by simp
  have b1 : Below w.heap.size w (w.alloc (.cells #[.int .i64 s0, .int .i64 s1] T)) := Below.new _
  have b2 : Below (w.alloc (.cells #[.int .i64 s0, .int .i64 s1] T)).heap.size (w.alloc (.cells #[.int .i64 s0, .int .i64 s1] T)) ((w.alloc (.cells #[.int .i64 s0, .int .i64 s1] T)).alloc (.cells #[.int .i64 p0, .int .i64 p1] T)) := Below.new _
  have b3 : Below ((w.alloc (.cells #[.int .i64 s0, .int .i64 s1] T)).alloc (.cells #[.int .i64 p0, .int .i64 p1] T)).heap.size ((w.alloc (.cells #[.int .i64 s0, .int .i64 s1] T)).alloc (.cells #[.int .i64 p0, .int .i64 p1] T)) (((w.alloc (.cells #[.int .i64 s0, .int .i64 s1] T)).alloc (.cells #[.int .i64 p0, .int .i64 p1] T)).alloc (.cells #[.int .i64 n0, .int .i64 n1] T)) := Below.new _
  refine ⟨chain (chain b1 b2) b3, by simp, ?_, ?_, ?_, ?_, ?_, ?_⟩
  · rw [b3.cell (p := ⟨w.heap.size, 0, none⟩) (by show w.heap.size < _; omega), b2.cell (p := ⟨w.heap.size, 0, none⟩) (by show w.heap.size < _; omega), World.cell?_alloc_new]; rfl
  · rw [b3.cell (p := ⟨w.heap.size, 1, none⟩) (by show w.heap.size < _; omega), b2.cell (p := ⟨w.heap.size, 1, none⟩) (by show w.heap.size < _; omega), World.cell?_alloc_new]; rfl
  · rw [b3.cell (p := ⟨w.heap.size + 1, 0, none⟩) (by show w.heap.size + 1 < _; omega), ← e1, World.cell?_alloc_new]; rfl
  · rw [b3.cell (p := ⟨w.heap.size + 1, 1, none⟩) (by show w.heap.size + 1 < _; omega), ← e1, World.cell?_alloc_new]; rfl
  · rw [← e2, World.cell?_alloc_new]; rfl
  · rw [← e2, World.cell?_alloc_new]; rfl

theorem low_high (a b : Int) (ha : I64 a) (hb : I64 b) : ∃ l u : Int, (if b < a then b else a) = l ∧ (if a < b then b else a) = u ∧ l ≤ u ∧ I64 l ∧ I64 u := by
  by_cases h : a < b
  · exact ⟨a, b, if_neg (by omega), if_pos h, by omega, ha, hb⟩
  · by_cases h2 : b < a
    · exact ⟨b, a, if_pos h2, if_neg h, by omega, hb, ha⟩
    · exact ⟨a, a, if_neg h2, if_neg h, by omega, ha, ha⟩

set_option maxHeartbeats 25600000 in
set_option maxRecDepth 100000 in
theorem MoneyRises_x (hM : MonOk) (s0 s1 p0 p1 n0 n1 : Int) (w : World) (hs0 : I64 s0) (hs1 : I64 s1) (hp0 : I64 p0) (hp1 : I64 p1) (hn0 : I64 n0) (hn1 : I64 n1) :
    Calls Try.prog 5 #[.agg #[.int .i64 s0, .int .i64 s1], .agg #[.int .i64 p0, .int .i64 p1], .agg #[.int .i64 n0, .int .i64 n1]] w fun e w' => e = .returned (.bool true) ∧ Below w.heap.size w w' := by
  have HS0 := Lib.hid hs0
  have HS1 := Lib.hid hs1
  have HP0 := Lib.hid hp0
  have HP1 := Lib.hid hp1
  have HN0 := Lib.hid hn0
  have HN1 := Lib.hid hn1
  have Z : Hid (I64 0) := small_I64 (by omega) (by omega)
  have Y : Hid (I64 360) := small_I64 (by omega) (by omega)
  obtain ⟨sl, sh, isl, ish, osl, hsl, hsh⟩ := low_high s0 s1 hs0 hs1
  have HSL := Lib.hid hsl
  have HSH := Lib.hid hsh
  obtain ⟨pl, ph, ipl, iph, opl, hpl, hph⟩ := low_high p0 p1 hp0 hp1
  have HPL := Lib.hid hpl
  have HPH := Lib.hid hph
  obtain ⟨nl, nh, inl, inh, onl, hnl, hnh⟩ := low_high n0 n1 hn0 hn1
  have HNL := Lib.hid hnl
  have HNH := Lib.hid hnh
  clear hs0 hs1 hp0 hp1 hn0 hn1 hsl hsh hpl hph hnl hnh HS0 HS1 HP0 HP1 HN0 HN1
  obtain ⟨a, e, ha⟩ : ∃ a e, interest sl pl 0 nl 360 = (a, e) := ⟨_, _, rfl⟩
  obtain ⟨b, f, hb⟩ : ∃ b f, interest sh ph 0 nh 360 = (b, f) := ⟨_, _, rfl⟩
  obtain ⟨c, g, hc⟩ : ∃ c g, discount sl pl nl = (c, g) := ⟨_, _, rfl⟩
  obtain ⟨d, k, hd⟩ : ∃ d k, discount sh ph nh = (d, k) := ⟨_, _, rfl⟩
  obtain ⟨l1, l2, l3, l4⟩ := rise_law osl opl onl ha hb hc hd
  have L1 := Lib.hid l1
  have L2 := Lib.hid l2
  have L3 := Lib.hid l3
  have L4 := Lib.hid l4
  have NA := Lib.hid ha
  have NB := Lib.hid hb
  have NC := Lib.hid hc
  have ND := Lib.hid hd
  clear l1 l2 l3 l4 ha hb hc hd
  go_enter Try.func5, Try.ntmps5
  have B := Bx3.start w s0 s1 p0 p1 n0 n1 30
  have z0 := B.lt
  have z1 := B.c0
  have z2 := B.c1
  have z3 := B.c2
  have z4 := B.c3
  have z5 := B.c4
  have z6 := B.c5
  go_wp2_with fail
  refine (sane_x hM _).mono ?_
  rintro e w1 ⟨rfl, b1⟩
  have B' := B.next b1
  clear B b1 z0 z1 z2 z3 z4 z5 z6
  have B := B'
  clear B'
  have z0 := B.lt
  have z1 := B.c0
  have z2 := B.c1
  have z3 := B.c2
  have z4 := B.c3
  have z5 := B.c4
  have z6 := B.c5
  go_wp2_with fail
  refine (hM.int sl pl 0 nl 360 _ HSL.out HPL.out Z.out HNL.out Y.out).mono ?_
  rintro e w1 ⟨rfl, b1⟩
  rw [NA.out]
  simp only [pv]
  have B' := B.next b1
  clear B b1 z0 z1 z2 z3 z4 z5 z6
  have B := B'
  clear B'
  have z0 := B.lt
  have z1 := B.c0
  have z2 := B.c1
  have z3 := B.c2
  have z4 := B.c3
  have z5 := B.c4
  have z6 := B.c5
  go_wp2_with fail
  refine (hM.int sh ph 0 nh 360 _ HSH.out HPH.out Z.out HNH.out Y.out).mono ?_
  rintro e w1 ⟨rfl, b1⟩
  rw [NB.out]
  simp only [pv]
  have B' := B.next b1
  clear B b1 z0 z1 z2 z3 z4 z5 z6
  have B := B'
  clear B'
  have z0 := B.lt
  have z1 := B.c0
  have z2 := B.c1
  have z3 := B.c2
  have z4 := B.c3
  have z5 := B.c4
  have z6 := B.c5
  go_wp2_with fail
  refine (hM.dis sl pl nl _ HSL.out HPL.out HNL.out).mono ?_
  rintro e w1 ⟨rfl, b1⟩
  rw [NC.out]
  simp only [pv]
  have B' := B.next b1
  clear B b1 z0 z1 z2 z3 z4 z5 z6
  have B := B'
  clear B'
  have z0 := B.lt
  have z1 := B.c0
  have z2 := B.c1
  have z3 := B.c2
  have z4 := B.c3
  have z5 := B.c4
  have z6 := B.c5
  go_wp2_with fail
  refine (hM.dis sh ph nh _ HSH.out HPH.out HNH.out).mono ?_
  rintro e w1 ⟨rfl, b1⟩
  rw [ND.out]
  simp only [pv]
  have B' := B.next b1
  clear B b1 z0 z1 z2 z3 z4 z5 z6
  have B := B'
  clear B'
  have z0 := B.lt
  have z1 := B.c0
  have z2 := B.c1
  have z3 := B.c2
  have z4 := B.c3
  have z5 := B.c4
  have z6 := B.c5
  rcases err_two g with g0 | ⟨g1, g2⟩
  · obtain ⟨e0, cc⟩ := L3.out g0
    subst g0 e0
    rcases cc with rfl | rfl
    · rcases err_two k with k0 | ⟨k1, k2⟩
      · obtain ⟨f0, dd⟩ := L4.out k0
        subst k0 f0
        rcases dd with rfl | rfl
        · have m1 := L1.out rfl rfl
          have m2 := L2.out rfl rfl
          have hbl := B.below
          go_wp2_with fail
          go_ret
          exact ⟨by try rfl, hbl⟩
        · have q2 := succ_ne b
          obtain ⟨-, -, r1, r2⟩ := interest_ok NB.out
          have m1 := L1.out rfl rfl
          have m2 := L2.out rfl rfl
          have hbl := B.below
          go_wp2_with fail
          go_ret
          exact ⟨by try rfl, hbl⟩
      · rcases err_two f with rfl | ⟨f1, f2⟩
        · have m1 := L1.out rfl rfl
          have hbl := B.below
          go_wp2_with fail
          go_ret
          exact ⟨by try rfl, hbl⟩
        · have hbl := B.below
          go_wp2_with fail
          go_ret
          exact ⟨by try rfl, hbl⟩
    · have q1 := succ_ne a
      obtain ⟨-, -, t1, t2⟩ := interest_ok NA.out
      rcases err_two k with k0 | ⟨k1, k2⟩
      · obtain ⟨f0, dd⟩ := L4.out k0
        subst k0 f0
        rcases dd with rfl | rfl
        · have m1 := L1.out rfl rfl
          have m2 := L2.out rfl rfl
          have hbl := B.below
          go_wp2_with fail
          go_ret
          exact ⟨by try rfl, hbl⟩
        · have q2 := succ_ne b
          obtain ⟨-, -, r1, r2⟩ := interest_ok NB.out
          have m1 := L1.out rfl rfl
          have m2 := L2.out rfl rfl
          have hbl := B.below
          go_wp2_with fail
          go_ret
          exact ⟨by try rfl, hbl⟩
      · rcases err_two f with rfl | ⟨f1, f2⟩
        · have m1 := L1.out rfl rfl
          have hbl := B.below
          go_wp2_with fail
          go_ret
          exact ⟨by try rfl, hbl⟩
        · have hbl := B.below
          go_wp2_with fail
          go_ret
          exact ⟨by try rfl, hbl⟩
  · rcases err_two e with rfl | ⟨e1, e2⟩
    · rcases err_two k with k0 | ⟨k1, k2⟩
      · obtain ⟨f0, dd⟩ := L4.out k0
        subst k0 f0
        rcases dd with rfl | rfl
        · have m1 := L1.out rfl rfl
          have hbl := B.below
          go_wp2_with fail
          go_ret
          exact ⟨by try rfl, hbl⟩
        · have q2 := succ_ne b
          obtain ⟨-, -, r1, r2⟩ := interest_ok NB.out
          have m1 := L1.out rfl rfl
          have hbl := B.below
          go_wp2_with fail
          go_ret
          exact ⟨by try rfl, hbl⟩
      · rcases err_two f with rfl | ⟨f1, f2⟩
        · have m1 := L1.out rfl rfl
          have hbl := B.below
          go_wp2_with fail
          go_ret
          exact ⟨by try rfl, hbl⟩
        · have hbl := B.below
          go_wp2_with fail
          go_ret
          exact ⟨by try rfl, hbl⟩
    · rcases err_two k with k0 | ⟨k1, k2⟩
      · obtain ⟨f0, dd⟩ := L4.out k0
        subst k0 f0
        rcases dd with rfl | rfl
        · have hbl := B.below
          go_wp2_with fail
          go_ret
          exact ⟨by try rfl, hbl⟩
        · have q2 := succ_ne b
          obtain ⟨-, -, r1, r2⟩ := interest_ok NB.out
          have hbl := B.below
          go_wp2_with fail
          go_ret
          exact ⟨by try rfl, hbl⟩
      · rcases err_two f with rfl | ⟨f1, f2⟩
        · have hbl := B.below
          go_wp2_with fail
          go_ret
          exact ⟨by try rfl, hbl⟩
        · have hbl := B.below
          go_wp2_with fail
          go_ret
          exact ⟨by try rfl, hbl⟩

end Go.Proofs.Ytdijhpcnlbjdaaa
