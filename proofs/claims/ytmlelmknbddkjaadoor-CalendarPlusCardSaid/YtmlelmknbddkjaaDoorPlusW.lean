/-
  The law CalendarPlus's walk.
-/
import Derived.Test.YtmlelmknbddkjaaDoorPlusL
namespace Go.Proofs.YtmlelmknbddkjaaDoor
open Go.RowKit

set_option maxHeartbeats 12800000 in
set_option maxRecDepth 100000 in
theorem CalendarPlus_x (h : CalOk) (nm : ByteArray) (o c : Int) (v3 v4 v5 : Value) (C : Lists) (t n m : Int) (w : World) (hcity : CityI w v3 v4 v5 C) (ht : I64 t) (hn : 0 ≤ n ∧ n ≤ 65535) (hm : 0 ≤ m ∧ m ≤ 65535) (hbf : Bf w) :
    Calls Tryd.prog 7 #[cityV nm o c v3 v4 v5, .int .i64 t, .int .u16 n, .int .u16 m] w fun e w' => e = .returned (.bool true) ∧ Below w.heap.size w w' := by
  have hC := Lib.hid hcity
  have HF := Lib.hid hbf
  clear hcity hbf
  have HT := Lib.hid ht
  obtain ⟨hn0, hn1⟩ := hn
  obtain ⟨hm0, hm1⟩ := hm
  obtain ⟨a, ha⟩ : ∃ a, n % 300 = a := ⟨_, rfl⟩
  obtain ⟨b, hb⟩ : ∃ b, m % 300 = b := ⟨_, rfl⟩
  have a0 : 0 ≤ a := by omega
  have a1 : a < 300 := by omega
  have b0 : 0 ≤ b := by omega
  have b1 : b < 300 := by omega
  have HA : Hid (I64 a) := small_I64 (by omega) (by omega)
  have HB : Hid (I64 b) := small_I64 (by omega) (by omega)
  have HAB : Hid (I64 (a + b)) := small_I64 (by omega) (by omega)
  cases F : fewB C with
  | false =>
    have F' := Lib.hid F
    clear F ht
    go_enter Tryd.func7, Tryd.ntmps7
    have H := BxI.start (nm := nm) (o := o) (c := c) hC.out 24
    go_wp2_with fail
    refine (small_x h _ (bf_of HF.out H.below)).mono ?_
    rintro e w1 ⟨rfl, b1⟩
    have H' := H.next b1
    clear H b1
    have H := H'
    clear H'
    have y0 := H.size
    have y1 := H.c0
    have y2 := H.c1
    have y3 := H.c2
    have y4 := H.c3
    have y5 := H.c4
    have y6 := H.c5
    go_wp2_with fail
    refine (few_i nm o c v3 v4 v5 C _ H.city).mono ?_
    rintro e w1 ⟨rfl, b1⟩
    rw [F'.out]
    have H' := H.next b1
    clear H b1
    clear y0 y1 y2 y3 y4 y5 y6
    have H := H'
    clear H'
    have y0 := H.size
    have y1 := H.c0
    have y2 := H.c1
    have y3 := H.c2
    have y4 := H.c3
    have y5 := H.c4
    have y6 := H.c5
    have hbl := H.below
    go_wp2_with fail
    go_ret
    exact ⟨by try rfl, hbl⟩
  | true =>
    have F' := Lib.hid F
    clear F
    cases V : valid t with
    | false =>
      have V' := Lib.hid V
      clear V ht
      go_enter Tryd.func7, Tryd.ntmps7
      have H := BxI.start (nm := nm) (o := o) (c := c) hC.out 24
      go_wp2_with fail
      refine (small_x h _ (bf_of HF.out H.below)).mono ?_
      rintro e w1 ⟨rfl, b1⟩
      have H' := H.next b1
      clear H b1
      have H := H'
      clear H'
      have y0 := H.size
      have y1 := H.c0
      have y2 := H.c1
      have y3 := H.c2
      have y4 := H.c3
      have y5 := H.c4
      have y6 := H.c5
      go_wp2_with fail
      refine (few_i nm o c v3 v4 v5 C _ H.city).mono ?_
      rintro e w1 ⟨rfl, b1⟩
      rw [F'.out]
      have H' := (H.next b1).short F'.out
      clear H b1
      clear y0 y1 y2 y3 y4 y5 y6
      have H := H'
      clear H'
      have y0 := H.size
      have y1 := H.c0
      have y2 := H.c1
      have y3 := H.c2
      have y4 := H.c3
      have y5 := H.c4
      have y6 := H.c5
      go_wp2_with fail
      refine (Valid_x t _).mono ?_
      rintro e w1 ⟨rfl, rfl⟩
      rw [V'.out]
      have hbl := H.below
      go_wp2_with fail
      go_ret
      exact ⟨by try rfl, hbl⟩
    | true =>
      have V' := Lib.hid V
      obtain ⟨t0, t1⟩ := valid_iff.1 V
      have P := plus_law (C := C) V a0 a1 b0 b1
      clear V ht
      rcases P with ⟨p1, p2⟩ | ⟨u, p, q, p1, p2, p3, u0, u1, u2, u3, u4⟩
      · have P1 := Lib.hid p1
        have P2 := Lib.hid p2
        clear p1 p2
        go_enter Tryd.func7, Tryd.ntmps7
        have H := BxI.start (nm := nm) (o := o) (c := c) hC.out 24
        go_wp2_with fail
        refine (small_x h _ (bf_of HF.out H.below)).mono ?_
        rintro e w1 ⟨rfl, b1⟩
        have H' := H.next b1
        clear H b1
        have H := H'
        clear H'
        have y0 := H.size
        have y1 := H.c0
        have y2 := H.c1
        have y3 := H.c2
        have y4 := H.c3
        have y5 := H.c4
        have y6 := H.c5
        go_wp2_with fail
        refine (few_i nm o c v3 v4 v5 C _ H.city).mono ?_
        rintro e w1 ⟨rfl, b1⟩
        rw [F'.out]
        have H' := (H.next b1).short F'.out
        clear H b1
        clear y0 y1 y2 y3 y4 y5 y6
        have H := H'
        clear H'
        have y0 := H.size
        have y1 := H.c0
        have y2 := H.c1
        have y3 := H.c2
        have y4 := H.c3
        have y5 := H.c4
        have y6 := H.c5
        go_wp2_with fail
        refine (Valid_x t _).mono ?_
        rintro e w1 ⟨rfl, rfl⟩
        rw [V'.out]
        go_wp2_with fail
        refine (h.plus nm o c v3 v4 v5 C t a _ H.city HT.out HA.out (bf_of HF.out H.below)).mono ?_
        rintro e w1 ⟨rfl, b1⟩
        rw [P1.out]
        simp only [pv]
        have H' := H.next b1
        clear H b1
        clear y0 y1 y2 y3 y4 y5 y6
        have H := H'
        clear H'
        have y0 := H.size
        have y1 := H.c0
        have y2 := H.c1
        have y3 := H.c2
        have y4 := H.c3
        have y5 := H.c4
        have y6 := H.c5
        go_wp2_with fail
        refine (h.plus nm o c v3 v4 v5 C t (a + b) _ H.city HT.out HAB.out (bf_of HF.out H.below)).mono ?_
        rintro e w1 ⟨rfl, b1⟩
        rw [P2.out]
        simp only [pv]
        have H' := H.next b1
        clear H b1
        clear y0 y1 y2 y3 y4 y5 y6
        have H := H'
        clear H'
        have y0 := H.size
        have y1 := H.c0
        have y2 := H.c1
        have y3 := H.c2
        have y4 := H.c3
        have y5 := H.c4
        have y6 := H.c5
        have hbl := H.below
        go_wp2_with fail
        go_ret
        exact ⟨by try rfl, hbl⟩
      · have P3 := Lib.hid p3
        have HU : Hid (I64 u) := small_I64 (by omega) (by omega)
        clear p3
        have l1 : ¬ u < t := by omega
        by_cases z : a = 0
        · have zz := (u3 z).symm
          subst zz
          subst z
          rw [Int.zero_add] at p2
          have P1 := Lib.hid p1
          have P2 := Lib.hid p2
          clear p1 p2 u3 u4
          go_enter Tryd.func7, Tryd.ntmps7
          have H := BxI.start (nm := nm) (o := o) (c := c) hC.out 24
          go_wp2_with fail
          refine (small_x h _ (bf_of HF.out H.below)).mono ?_
          rintro e w1 ⟨rfl, b1⟩
          have H' := H.next b1
          clear H b1
          have H := H'
          clear H'
          have y0 := H.size
          have y1 := H.c0
          have y2 := H.c1
          have y3 := H.c2
          have y4 := H.c3
          have y5 := H.c4
          have y6 := H.c5
          go_wp2_with fail
          refine (few_i nm o c v3 v4 v5 C _ H.city).mono ?_
          rintro e w1 ⟨rfl, b1⟩
          rw [F'.out]
          have H' := (H.next b1).short F'.out
          clear H b1
          clear y0 y1 y2 y3 y4 y5 y6
          have H := H'
          clear H'
          have y0 := H.size
          have y1 := H.c0
          have y2 := H.c1
          have y3 := H.c2
          have y4 := H.c3
          have y5 := H.c4
          have y6 := H.c5
          go_wp2_with fail
          refine (Valid_x t _).mono ?_
          rintro e w1 ⟨rfl, rfl⟩
          rw [V'.out]
          go_wp2_with fail
          refine (h.plus nm o c v3 v4 v5 C t 0 _ H.city HT.out HA.out (bf_of HF.out H.below)).mono ?_
          rintro e w1 ⟨rfl, b1⟩
          rw [P1.out]
          simp only [pv]
          have H' := H.next b1
          clear H b1
          clear y0 y1 y2 y3 y4 y5 y6
          have H := H'
          clear H'
          have y0 := H.size
          have y1 := H.c0
          have y2 := H.c1
          have y3 := H.c2
          have y4 := H.c3
          have y5 := H.c4
          have y6 := H.c5
          go_wp2_with fail
          refine (h.plus nm o c v3 v4 v5 C t b _ H.city HT.out HB.out (bf_of HF.out H.below)).mono ?_
          rintro e w1 ⟨rfl, b1⟩
          rw [P2.out]
          simp only [pv]
          have H' := H.next b1
          clear H b1
          clear y0 y1 y2 y3 y4 y5 y6
          have H := H'
          clear H'
          have y0 := H.size
          have y1 := H.c0
          have y2 := H.c1
          have y3 := H.c2
          have y4 := H.c3
          have y5 := H.c4
          have y6 := H.c5
          go_wp2_with fail
          refine (h.plus nm o c v3 v4 v5 C t b _ H.city HU.out HB.out (bf_of HF.out H.below)).mono ?_
          rintro e w1 ⟨rfl, b1⟩
          rw [P3.out]
          simp only [pv]
          have H' := H.next b1
          clear H b1
          clear y0 y1 y2 y3 y4 y5 y6
          have H := H'
          clear H'
          have y0 := H.size
          have y1 := H.c0
          have y2 := H.c1
          have y3 := H.c2
          have y4 := H.c3
          have y5 := H.c4
          have y6 := H.c5
          have hbl := H.below
          go_wp2_with fail
          go_ret
          exact ⟨by try rfl, hbl⟩
        · obtain ⟨k1, k2, k3⟩ := u4 (by omega)
          have P1 := Lib.hid p1
          have P2 := Lib.hid p2
          clear p1 p2
          have K2 := Lib.hid k2
          have K3 := Lib.hid k3
          have HT1 : Hid (I64 (t + 1)) := small_I64 (by omega) (by omega)
          have z1 : 0 < a := by omega
          have e1 : (a == 0) = false := by simp [z]
          have e2 : (u == t) = false := by rw [beq_eq_false_iff_ne]; omega
          clear k2 k3 u3 u4 z
          go_enter Tryd.func7, Tryd.ntmps7
          have H := BxI.start (nm := nm) (o := o) (c := c) hC.out 24
          go_wp2_with fail
          refine (small_x h _ (bf_of HF.out H.below)).mono ?_
          rintro e w1 ⟨rfl, b1⟩
          have H' := H.next b1
          clear H b1
          have H := H'
          clear H'
          have y0 := H.size
          have y1 := H.c0
          have y2 := H.c1
          have y3 := H.c2
          have y4 := H.c3
          have y5 := H.c4
          have y6 := H.c5
          go_wp2_with fail
          refine (few_i nm o c v3 v4 v5 C _ H.city).mono ?_
          rintro e w1 ⟨rfl, b1⟩
          rw [F'.out]
          have H' := (H.next b1).short F'.out
          clear H b1
          clear y0 y1 y2 y3 y4 y5 y6
          have H := H'
          clear H'
          have y0 := H.size
          have y1 := H.c0
          have y2 := H.c1
          have y3 := H.c2
          have y4 := H.c3
          have y5 := H.c4
          have y6 := H.c5
          go_wp2_with fail
          refine (Valid_x t _).mono ?_
          rintro e w1 ⟨rfl, rfl⟩
          rw [V'.out]
          go_wp2_with fail
          refine (h.plus nm o c v3 v4 v5 C t a _ H.city HT.out HA.out (bf_of HF.out H.below)).mono ?_
          rintro e w1 ⟨rfl, b1⟩
          rw [P1.out]
          simp only [pv]
          have H' := H.next b1
          clear H b1
          clear y0 y1 y2 y3 y4 y5 y6
          have H := H'
          clear H'
          have y0 := H.size
          have y1 := H.c0
          have y2 := H.c1
          have y3 := H.c2
          have y4 := H.c3
          have y5 := H.c4
          have y6 := H.c5
          go_wp2_with fail
          refine (h.plus nm o c v3 v4 v5 C t (a + b) _ H.city HT.out HAB.out (bf_of HF.out H.below)).mono ?_
          rintro e w1 ⟨rfl, b1⟩
          rw [P2.out]
          simp only [pv]
          have H' := H.next b1
          clear H b1
          clear y0 y1 y2 y3 y4 y5 y6
          have H := H'
          clear H'
          have y0 := H.size
          have y1 := H.c0
          have y2 := H.c1
          have y3 := H.c2
          have y4 := H.c3
          have y5 := H.c4
          have y6 := H.c5
          go_wp2_with fail
          refine (h.plus nm o c v3 v4 v5 C u b _ H.city HU.out HB.out (bf_of HF.out H.below)).mono ?_
          rintro e w1 ⟨rfl, b1⟩
          rw [P3.out]
          simp only [pv]
          have H' := H.next b1
          clear H b1
          clear y0 y1 y2 y3 y4 y5 y6
          have H := H'
          clear H'
          have y0 := H.size
          have y1 := H.c0
          have y2 := H.c1
          have y3 := H.c2
          have y4 := H.c3
          have y5 := H.c4
          have y6 := H.c5
          go_wp2_with fail
          refine (h.isOpen nm o c v3 v4 v5 C u _ H.city HU.out (bf_of HF.out H.below)).mono ?_
          rintro e w1 ⟨rfl, b1⟩
          rw [K2.out]
          simp only [bv]
          have H' := H.next b1
          clear H b1
          clear y0 y1 y2 y3 y4 y5 y6
          have H := H'
          clear H'
          have y0 := H.size
          have y1 := H.c0
          have y2 := H.c1
          have y3 := H.c2
          have y4 := H.c3
          have y5 := H.c4
          have y6 := H.c5
          go_wp2_with fail
          refine (h.count nm o c v3 v4 v5 C (t + 1) u _ H.city HT1.out HU.out (bf_of HF.out H.below)).mono ?_
          rintro e w1 ⟨rfl, b1⟩
          rw [K3.out]
          simp only [pv]
          have H' := H.next b1
          clear H b1
          clear y0 y1 y2 y3 y4 y5 y6
          have H := H'
          clear H'
          have y0 := H.size
          have y1 := H.c0
          have y2 := H.c1
          have y3 := H.c2
          have y4 := H.c3
          have y5 := H.c4
          have y6 := H.c5
          have hbl := H.below
          go_wp2_with fail
          go_ret
          exact ⟨by try rfl, hbl⟩

end Go.Proofs.YtmlelmknbddkjaaDoor
