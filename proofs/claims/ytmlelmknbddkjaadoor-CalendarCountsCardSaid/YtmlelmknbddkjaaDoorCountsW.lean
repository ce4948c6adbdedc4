/-
  The law CalendarCounts's walk.
-/
import Derived.Test.YtmlelmknbddkjaaDoorLessL
import Derived.Maps.AppendAt
import Derived.OwnWalk
namespace Go.Proofs.YtmlelmknbddkjaaDoor
open Go.RowKit

set_option maxHeartbeats 12800000 in
set_option maxRecDepth 100000 in
theorem CalendarCounts_x (h : CalOk) (nm : ByteArray) (o c : Int) (v3 v4 v5 : Value) (C : Lists) (a b k x : Int) (w : World) (hcity : CityI w v3 v4 v5 C) (ha : I64 a) (hb : I64 b) (hk : 0 ≤ k ∧ k ≤ 65535) (hx : I64 x) (hbf : Bf w) :
    Calls Tryd.prog 8 #[cityV nm o c v3 v4 v5, .int .i64 a, .int .i64 b, .int .u16 k, .int .i64 x] w fun e w' => e = .returned (.bool true) ∧ Below w.heap.size w w' := by
  have hC := Lib.hid hcity
  have HF := Lib.hid hbf
  clear hcity hbf
  have HA := Lib.hid ha
  have HB := Lib.hid hb
  have HX := Lib.hid hx
  obtain ⟨k0, k1⟩ := hk
  cases F : fewB C with
  | false =>
    have F' := Lib.hid F
    clear F ha hb hx
    go_enter Tryd.func8, Tryd.ntmps8
    have H := BxI.start (nm := nm) (o := o) (c := c) hC.out 24
    go_wp2_with fail
    refine (small_x h _ (bf_of HF.out H.below)).mono ?_
    rintro e w1 ⟨rfl, b1⟩
    have H' := H.next b1
    clear H b1
    have H := H'
    clear H'
    have y0 := H.size
    have y1 := H.c0
    have y2 := H.c1
    have y3 := H.c2
    have y4 := H.c3
    have y5 := H.c4
    have y6 := H.c5
    go_wp2_with fail
    refine (few_i nm o c _ _ _ C _ H.city).mono ?_
    rintro e w1 ⟨rfl, b1⟩
    rw [F'.out]
    have H' := H.next b1
    clear H b1
    clear y0 y1 y2 y3 y4 y5 y6
    have H := H'
    clear H'
    have y0 := H.size
    have y1 := H.c0
    have y2 := H.c1
    have y3 := H.c2
    have y4 := H.c3
    have y5 := H.c4
    have y6 := H.c5
    have hbl := H.below
    go_wp2_with fail
    go_ret
    exact ⟨by try rfl, hbl⟩
  | true =>
    have F' := Lib.hid F
    clear F
    cases V : valid a with
    | false =>
      have V' := Lib.hid V
      clear V ha hb hx
      go_enter Tryd.func8, Tryd.ntmps8
      have H := BxI.start (nm := nm) (o := o) (c := c) hC.out 24
      go_wp2_with fail
      refine (small_x h _ (bf_of HF.out H.below)).mono ?_
      rintro e w1 ⟨rfl, b1⟩
      have H' := H.next b1
      clear H b1
      have H := H'
      clear H'
      have y0 := H.size
      have y1 := H.c0
      have y2 := H.c1
      have y3 := H.c2
      have y4 := H.c3
      have y5 := H.c4
      have y6 := H.c5
      go_wp2_with fail
      refine (few_i nm o c _ _ _ C _ H.city).mono ?_
      rintro e w1 ⟨rfl, b1⟩
      rw [F'.out]
      have H' := (H.next b1).short F'.out
      clear H b1
      clear y0 y1 y2 y3 y4 y5 y6
      have H := H'
      clear H'
      have y0 := H.size
      have y1 := H.c0
      have y2 := H.c1
      have y3 := H.c2
      have y4 := H.c3
      have y5 := H.c4
      have y6 := H.c5
      go_wp2_with fail
      refine (Valid_x a _).mono ?_
      rintro e w1 ⟨rfl, rfl⟩
      rw [V'.out]
      have hbl := H.below
      go_wp2_with fail
      go_ret
      exact ⟨by try rfl, hbl⟩
    | true =>
      have V' := Lib.hid V
      cases W : valid b with
      | false =>
        have W' := Lib.hid W
        clear W V ha hb hx
        go_enter Tryd.func8, Tryd.ntmps8
        have H := BxI.start (nm := nm) (o := o) (c := c) hC.out 24
        go_wp2_with fail
        refine (small_x h _ (bf_of HF.out H.below)).mono ?_
        rintro e w1 ⟨rfl, b1⟩
        have H' := H.next b1
        clear H b1
        have H := H'
        clear H'
        have y0 := H.size
        have y1 := H.c0
        have y2 := H.c1
        have y3 := H.c2
        have y4 := H.c3
        have y5 := H.c4
        have y6 := H.c5
        go_wp2_with fail
        refine (few_i nm o c _ _ _ C _ H.city).mono ?_
        rintro e w1 ⟨rfl, b1⟩
        rw [F'.out]
        have H' := (H.next b1).short F'.out
        clear H b1
        clear y0 y1 y2 y3 y4 y5 y6
        have H := H'
        clear H'
        have y0 := H.size
        have y1 := H.c0
        have y2 := H.c1
        have y3 := H.c2
        have y4 := H.c3
        have y5 := H.c4
        have y6 := H.c5
        go_wp2_with fail
        refine (Valid_x a _).mono ?_
        rintro e w1 ⟨rfl, rfl⟩
        rw [V'.out]
        go_wp2_with fail
        refine (Valid_x b _).mono ?_
        rintro e w1 ⟨rfl, rfl⟩
        rw [W'.out]
        have hbl := H.below
        go_wp2_with fail
        go_ret
        exact ⟨by try rfl, hbl⟩
      | true =>
        have W' := Lib.hid W
        obtain ⟨a0, a1⟩ := valid_iff.1 V
        obtain ⟨b0, b1⟩ := valid_iff.1 W
        by_cases far : 3000 < b - a
        · clear V W ha hb hx
          go_enter Tryd.func8, Tryd.ntmps8
          have H := BxI.start (nm := nm) (o := o) (c := c) hC.out 24
          go_wp2_with fail
          refine (small_x h _ (bf_of HF.out H.below)).mono ?_
          rintro e w1 ⟨rfl, b1⟩
          have H' := H.next b1
          clear H b1
          have H := H'
          clear H'
          have y0 := H.size
          have y1 := H.c0
          have y2 := H.c1
          have y3 := H.c2
          have y4 := H.c3
          have y5 := H.c4
          have y6 := H.c5
          go_wp2_with fail
          refine (few_i nm o c _ _ _ C _ H.city).mono ?_
          rintro e w1 ⟨rfl, b1⟩
          rw [F'.out]
          have H' := (H.next b1).short F'.out
          clear H b1
          clear y0 y1 y2 y3 y4 y5 y6
          have H := H'
          clear H'
          have y0 := H.size
          have y1 := H.c0
          have y2 := H.c1
          have y3 := H.c2
          have y4 := H.c3
          have y5 := H.c4
          have y6 := H.c5
          go_wp2_with fail
          refine (Valid_x a _).mono ?_
          rintro e w1 ⟨rfl, rfl⟩
          rw [V'.out]
          go_wp2_with fail
          refine (Valid_x b _).mono ?_
          rintro e w1 ⟨rfl, rfl⟩
          rw [W'.out]
          have hbl := H.below
          go_wp2_with fail
          go_ret
          exact ⟨by try rfl, hbl⟩
        by_cases lt : b < a
        · have N := Lib.hid (countV_none (C := C) V W lt)
          clear V W ha hb hx
          go_enter Tryd.func8, Tryd.ntmps8
          have H := BxI.start (nm := nm) (o := o) (c := c) hC.out 24
          go_wp2_with fail
          refine (small_x h _ (bf_of HF.out H.below)).mono ?_
          rintro e w1 ⟨rfl, b1⟩
          have H' := H.next b1
          clear H b1
          have H := H'
          clear H'
          have y0 := H.size
          have y1 := H.c0
          have y2 := H.c1
          have y3 := H.c2
          have y4 := H.c3
          have y5 := H.c4
          have y6 := H.c5
          go_wp2_with fail
          refine (few_i nm o c _ _ _ C _ H.city).mono ?_
          rintro e w1 ⟨rfl, b1⟩
          rw [F'.out]
          have H' := (H.next b1).short F'.out
          clear H b1
          clear y0 y1 y2 y3 y4 y5 y6
          have H := H'
          clear H'
          have y0 := H.size
          have y1 := H.c0
          have y2 := H.c1
          have y3 := H.c2
          have y4 := H.c3
          have y5 := H.c4
          have y6 := H.c5
          go_wp2_with fail
          refine (Valid_x a _).mono ?_
          rintro e w1 ⟨rfl, rfl⟩
          rw [V'.out]
          go_wp2_with fail
          refine (Valid_x b _).mono ?_
          rintro e w1 ⟨rfl, rfl⟩
          rw [W'.out]
          go_wp2_with fail
          refine (h.count nm o c _ _ _ C a b _ H.city HA.out HB.out (bf_of HF.out H.below)).mono ?_
          rintro e w1 ⟨rfl, b1⟩
          rw [N.out]
          simp only [pv]
          have H' := H.next b1
          clear H b1
          clear y0 y1 y2 y3 y4 y5 y6
          have H := H'
          clear H'
          have y0 := H.size
          have y1 := H.c0
          have y2 := H.c1
          have y3 := H.c2
          have y4 := H.c3
          have y5 := H.c4
          have y6 := H.c5
          have hbl := H.below
          go_wp2_with fail
          go_ret
          exact ⟨by try rfl, hbl⟩
        obtain ⟨i0, hi, hz0, hz1, hz2⟩ := info_parts lessInfo
        obtain ⟨r, hr⟩ : ∃ r, k % (b - a + 1) = r := ⟨_, rfl⟩
        have d1 : 0 < b - a + 1 := by omega
        have r0 : 0 ≤ r := by rw [← hr]; exact Int.emod_nonneg _ (by omega)
        have r1 : r < b - a + 1 := by rw [← hr]; exact Int.emod_lt_of_pos _ d1
        obtain ⟨m, hm⟩ : ∃ m, a + r = m := ⟨_, rfl⟩
        obtain ⟨p, q, n1, n2, p0, p1, q0, q1, q2, q3⟩ := count_parts (C := C) (m := m) V W (by omega) (by omega)
        obtain ⟨g, f, op, o1, f1, f2, n3, s0, s1, way⟩ := count_less (x := x) V W (by omega) n1
        have N2 := Lib.hid n2
        have N3 := Lib.hid n3
        have O1 := Lib.hid o1
        have HM : Hid (I64 m) := small_I64 (by omega) (by omega)
        have HM1 : Hid (I64 (m + 1)) := small_I64 (by omega) (by omega)
        have F40 : C.s.length ≤ 40 := (fewB_iff.1 F'.out).2.2
        clear n2 n3 o1 ha hb hx V W
        obtain ⟨v3a, v3c, rfl, -⟩ := hC.out.r
        obtain ⟨v4a, v4c, rfl, -⟩ := hC.out.f
        obtain ⟨v5a, v5c, rfl, -⟩ := hC.out.s
        rcases (show m < b ∨ ¬ m < b by omega) with mb | mb
        · have Q3 := Lib.hid (q3 mb)
          have N1 := Lib.hid n1
          clear q2 q3 n1
          go_enter Tryd.func8, Tryd.ntmps8
          have H := BxI.start (nm := nm) (o := o) (c := c) hC.out 24
          go_wp2_with fail
          refine (small_x h _ (bf_of HF.out H.below)).mono ?_
          rintro e w1 ⟨rfl, b1⟩
          have H' := H.next b1
          clear H b1
          have H := H'
          clear H'
          have y0 := H.size
          have y1 := H.c0
          have y2 := H.c1
          have y3 := H.c2
          have y4 := H.c3
          have y5 := H.c4
          have y6 := H.c5
          go_wp2_with fail
          refine (few_i nm o c _ _ _ C _ H.city).mono ?_
          rintro e w1 ⟨rfl, b1⟩
          rw [F'.out]
          have H' := (H.next b1).short F'.out
          clear H b1
          clear y0 y1 y2 y3 y4 y5 y6
          have H := H'
          clear H'
          have y0 := H.size
          have y1 := H.c0
          have y2 := H.c1
          have y3 := H.c2
          have y4 := H.c3
          have y5 := H.c4
          have y6 := H.c5
          go_wp2_with fail
          refine (Valid_x a _).mono ?_
          rintro e w1 ⟨rfl, rfl⟩
          rw [V'.out]
          go_wp2_with fail
          refine (Valid_x b _).mono ?_
          rintro e w1 ⟨rfl, rfl⟩
          rw [W'.out]
          go_wp2_with fail
          refine (h.count nm o c _ _ _ C a b _ H.city HA.out HB.out (bf_of HF.out H.below)).mono ?_
          rintro e w1 ⟨rfl, b1⟩
          rw [N1.out]
          simp only [pv]
          have H' := H.next b1
          clear H b1
          clear y0 y1 y2 y3 y4 y5 y6
          have H := H'
          clear H'
          have y0 := H.size
          have y1 := H.c0
          have y2 := H.c1
          have y3 := H.c2
          have y4 := H.c3
          have y5 := H.c4
          have y6 := H.c5
          go_wp2_with fail
          refine (h.count nm o c _ _ _ C a m _ H.city HA.out HM.out (bf_of HF.out H.below)).mono ?_
          rintro e w1 ⟨rfl, b1⟩
          rw [N2.out]
          simp only [pv]
          have H' := H.next b1
          clear H b1
          clear y0 y1 y2 y3 y4 y5 y6
          have H := H'
          clear H'
          have y0 := H.size
          have y1 := H.c0
          have y2 := H.c1
          have y3 := H.c2
          have y4 := H.c3
          have y5 := H.c4
          have y6 := H.c5
          go_wp2_with fail
          refine (h.count nm o c _ _ _ C (m + 1) b _ H.city HM1.out HB.out (bf_of HF.out H.below)).mono ?_
          rintro e w1 ⟨rfl, b1⟩
          rw [Q3.out]
          simp only [pv]
          have H' := H.next b1
          clear H b1
          clear y0 y1 y2 y3 y4 y5 y6
          have H := H'
          clear H'
          have y0 := H.size
          have y1 := H.c0
          have y2 := H.c1
          have y3 := H.c2
          have y4 := H.c3
          have y5 := H.c4
          have y6 := H.c5
          go_wp2_with fail
          refine (h.isOpen nm o c _ _ _ C x _ H.city HX.out (bf_of HF.out H.below)).mono ?_
          rintro e w1 ⟨rfl, b1⟩
          rw [O1.out]
          simp only [bv]
          have H' := H.next b1
          clear H b1
          clear y0 y1 y2 y3 y4 y5 y6
          have H := H'
          clear H'
          have y0 := H.size
          have y1 := H.c0
          have y2 := H.c1
          have y3 := H.c2
          have y4 := H.c3
          have y5 := H.c4
          have y6 := H.c5
          cases v5a with
          | none =>
            obtain rfl : v5c = 0 := hC.out.z5 _ _ rfl
            have l0 : Hid (C.s = []) := hC.out.s.lessNil
            go_wp2_with fail
            refine (h.count nm o c _ _ _ (lessC C x) a b _ (less_none H l0.out) HA.out HB.out (bf_of HF.out (chain H.below less_new))).mono ?_
            rintro e w5 ⟨rfl, b5⟩
            rw [N3.out]
            simp only [pv]
            have hbl := chain (chain H.below less_new) b5
            clear H y0 y1 y2 y3 y4 y5 y6 b5
            rcases way with ⟨rfl, rfl, xa, xb, rfl⟩ | ⟨nw, rfl⟩
            · go_wp2_with fail
              go_ret
              exact ⟨by try rfl, hbl⟩
            · rcases f1 with rfl | rfl
              · cases op with
                | false =>
                  clear nw
                  go_wp2_with fail
                  go_ret
                  exact ⟨by try rfl, hbl⟩
                | true =>
                  by_cases xa : a ≤ x
                  · have xb : ¬ x ≤ b := fun hh => nw ⟨rfl, rfl, xa, hh⟩
                    clear nw
                    go_wp2_with fail
                    go_ret
                    exact ⟨by try rfl, hbl⟩
                  · clear nw
                    go_wp2_with fail
                    go_ret
                    exact ⟨by try rfl, hbl⟩
              · obtain rfl := f2 rfl
                clear nw
                go_wp2_with fail
                go_ret
                exact ⟨by try rfl, hbl⟩
          | some ad =>
            obtain ⟨LL, hLL⟩ : ∃ LL, (w1.alloc (.cells #[.string nm, .int .i64 o, .int .i64 c, .slice v3a C.r.length v3c, .slice v4a C.f.length v4c, .slice (some ad) C.s.length v5c] 24)) = LL := ⟨_, rfl⟩
            have HLL := Lib.hid hLL
            have own0 : Hid ((LL.alloc (.cells #[] 3)).ownsRow (w1.heap.size + 1) 3 1 (.slice (some ⟨w1.heap.size + 1, 0, none⟩) 0 0) 0 (iv [])) := by
              have e := World.ownsRow_lit (e := 3) (size := 1) (base := w1.heap.size + 1) LL #[] 0 (by rw [← hLL]; simp) (by decide) rfl
              have z : LL.heap.size = w1.heap.size + 1 := by rw [← hLL]; simp
              rw [z] at e
              exact e
            have bel0 : Hid (Below (w1.heap.size + 1) LL (LL.alloc (.cells #[] 3))) := (Below.refl _ _).alloc (by rw [← hLL]; simp) _
            have sz0 : Hid ((LL.alloc (.cells #[] 3)).heap.size = w1.heap.size + 2) := by show _ = _; rw [← hLL]; simp
            have cel0 : Hid (∀ j u, (iv C.s)[j]? = some u → (LL.alloc (.cells #[] 3)).cell? (ad.add j) = some u) := fun j u hu => by
              obtain ⟨q1, q2⟩ := H.city.s.lessCells j u hu
              have q3 : (ad.add j).block < w1.heap.size := by unfold Addr.add; split <;> exact q1
              have q4 : Below w1.heap.size w1 LL := by rw [← hLL]; exact (Below.refl _ _).alloc (Nat.le_refl _) _
              rw [bel0.out.cell (p := ad.add j) (by omega), q4.cell q3]
              exact q2
            clear hLL
            go_wp2_with (at_builtin; refine wpList_append_own _ rfl (.tmp 116) (.tmp 118) 22 rfl (w1.heap.size + 1) 3 i0 (.int .i64 0) 1 8 Tryd.underlying22 hi hz0 hz1 hz2 rfl (by decide) _ _ _ rfl (by rw [HLL.out]; exact own0.out) ad C.s.length v5c (iv C.s) rfl ?f1 ?f2 ?f3 ?f4 ?f5 ?f6 ?_)
            case f1 => simp
            case f2 => rw [HLL.out]; exact cel0.out
            case f3 => exact less_one _
            case f4 => unfold maxLen; omega
            case f5 => omega
            case f6 => rw [HLL.out, sz0.out]; omega
            intro v5 w3 hown3 hgrow3 _
            rw [HLL.out] at hgrow3
            have bel3 : Hid (Below (w1.heap.size + 1) LL w3) := bel0.out.grown hgrow3 (by rw [sz0.out]; omega) (fun j hj => by cases hj; exact Nat.le_refl _)
            go_wp2_with (at_builtin; refine wpList_append_own _ rfl (.tmp 119) (.tmp 121) 22 rfl (w1.heap.size + 1) 3 i0 (.int .i64 0) 1 8 Tryd.underlying22 hi hz0 hz1 hz2 rfl (by decide) _ _ _ rfl (hown3.alloc _) ⟨w3.heap.size, 0, none⟩ 1 1 [.int .i64 x] rfl rfl ?g1 ?g2 ?g3 ?g4 ?g5 ?_)
            case g1 => exact cell_one_new _ _ _
            case g2 => intro u hu; simp at hu; subst hu; rfl
            case g3 => unfold maxLen; omega
            case g4 => omega
            case g5 => have := bel3.out.size; rw [← HLL.out] at this; simp at this ⊢; omega
            intro v6 w4 hown4 hgrow4 _
            have bel4 : Below (w1.heap.size + 1) LL w4 := (bel3.out.alloc (by have := bel3.out.size; rw [← HLL.out] at this; simp at this; omega) _).grown hgrow4 (by have := bel3.out.size; rw [← HLL.out] at this; simp at this ⊢; omega) (fun j hj => (hown3.lt j hj).1)
            obtain ⟨gg, gc, rfl, K⟩ := less_at F'.out H (by rw [HLL.out]; exact bel4) hown4
            clear H y0 y1 y2 y3 y4 y5 y6 hown4 bel4 hgrow4 hown3 hgrow3 bel3 cel0 own0 bel0 sz0 HLL
            have k0 := K.lt
            have k1 := K.c0
            have k2 := K.c1
            have k3 := K.c2
            have k4 := K.c3
            have k5 := K.c4
            have k6 := K.c5
            have kz := K.fz
            go_wp2_with fail
            refine (h.count nm o c _ _ _ (lessC C x) a b _ K.city HA.out HB.out (bf_of HF.out K.below)).mono ?_
            rintro e w5 ⟨rfl, b5⟩
            rw [N3.out]
            simp only [pv]
            have hbl := chain K.below b5
            clear K b5 k0 k1 k2 k3 k4 k5 k6 kz
            rcases way with ⟨rfl, rfl, xa, xb, rfl⟩ | ⟨nw, rfl⟩
            · go_wp2_with fail
              go_ret
              exact ⟨by try rfl, hbl⟩
            · rcases f1 with rfl | rfl
              · cases op with
                | false =>
                  clear nw
                  go_wp2_with fail
                  go_ret
                  exact ⟨by try rfl, hbl⟩
                | true =>
                  by_cases xa : a ≤ x
                  · have xb : ¬ x ≤ b := fun hh => nw ⟨rfl, rfl, xa, hh⟩
                    clear nw
                    go_wp2_with fail
                    go_ret
                    exact ⟨by try rfl, hbl⟩
                  · clear nw
                    go_wp2_with fail
                    go_ret
                    exact ⟨by try rfl, hbl⟩
              · obtain rfl := f2 rfl
                clear nw
                go_wp2_with fail
                go_ret
                exact ⟨by try rfl, hbl⟩
        · obtain rfl := q2 (by omega)
          rw [Int.add_zero] at n1 way s0 s1
          have N1 := Lib.hid n1
          clear q2 q3 n1
          go_enter Tryd.func8, Tryd.ntmps8
          have H := BxI.start (nm := nm) (o := o) (c := c) hC.out 24
          go_wp2_with fail
          refine (small_x h _ (bf_of HF.out H.below)).mono ?_
          rintro e w1 ⟨rfl, b1⟩
          have H' := H.next b1
          clear H b1
          have H := H'
          clear H'
          have y0 := H.size
          have y1 := H.c0
          have y2 := H.c1
          have y3 := H.c2
          have y4 := H.c3
          have y5 := H.c4
          have y6 := H.c5
          go_wp2_with fail
          refine (few_i nm o c _ _ _ C _ H.city).mono ?_
          rintro e w1 ⟨rfl, b1⟩
          rw [F'.out]
          have H' := (H.next b1).short F'.out
          clear H b1
          clear y0 y1 y2 y3 y4 y5 y6
          have H := H'
          clear H'
          have y0 := H.size
          have y1 := H.c0
          have y2 := H.c1
          have y3 := H.c2
          have y4 := H.c3
          have y5 := H.c4
          have y6 := H.c5
          go_wp2_with fail
          refine (Valid_x a _).mono ?_
          rintro e w1 ⟨rfl, rfl⟩
          rw [V'.out]
          go_wp2_with fail
          refine (Valid_x b _).mono ?_
          rintro e w1 ⟨rfl, rfl⟩
          rw [W'.out]
          go_wp2_with fail
          refine (h.count nm o c _ _ _ C a b _ H.city HA.out HB.out (bf_of HF.out H.below)).mono ?_
          rintro e w1 ⟨rfl, b1⟩
          rw [N1.out]
          simp only [pv]
          have H' := H.next b1
          clear H b1
          clear y0 y1 y2 y3 y4 y5 y6
          have H := H'
          clear H'
          have y0 := H.size
          have y1 := H.c0
          have y2 := H.c1
          have y3 := H.c2
          have y4 := H.c3
          have y5 := H.c4
          have y6 := H.c5
          go_wp2_with fail
          refine (h.count nm o c _ _ _ C a m _ H.city HA.out HM.out (bf_of HF.out H.below)).mono ?_
          rintro e w1 ⟨rfl, b1⟩
          rw [N2.out]
          simp only [pv]
          have H' := H.next b1
          clear H b1
          clear y0 y1 y2 y3 y4 y5 y6
          have H := H'
          clear H'
          have y0 := H.size
          have y1 := H.c0
          have y2 := H.c1
          have y3 := H.c2
          have y4 := H.c3
          have y5 := H.c4
          have y6 := H.c5
          go_wp2_with fail
          refine (h.isOpen nm o c _ _ _ C x _ H.city HX.out (bf_of HF.out H.below)).mono ?_
          rintro e w1 ⟨rfl, b1⟩
          rw [O1.out]
          simp only [bv]
          have H' := H.next b1
          clear H b1
          clear y0 y1 y2 y3 y4 y5 y6
          have H := H'
          clear H'
          have y0 := H.size
          have y1 := H.c0
          have y2 := H.c1
          have y3 := H.c2
          have y4 := H.c3
          have y5 := H.c4
          have y6 := H.c5
          cases v5a with
          | none =>
            obtain rfl : v5c = 0 := hC.out.z5 _ _ rfl
            have l0 : Hid (C.s = []) := hC.out.s.lessNil
            go_wp2_with fail
            refine (h.count nm o c _ _ _ (lessC C x) a b _ (less_none H l0.out) HA.out HB.out (bf_of HF.out (chain H.below less_new))).mono ?_
            rintro e w5 ⟨rfl, b5⟩
            rw [N3.out]
            simp only [pv]
            have hbl := chain (chain H.below less_new) b5
            clear H y0 y1 y2 y3 y4 y5 y6 b5
            rcases way with ⟨rfl, rfl, xa, xb, rfl⟩ | ⟨nw, rfl⟩
            · go_wp2_with fail
              go_ret
              exact ⟨by try rfl, hbl⟩
            · rcases f1 with rfl | rfl
              · cases op with
                | false =>
                  clear nw
                  go_wp2_with fail
                  go_ret
                  exact ⟨by try rfl, hbl⟩
                | true =>
                  by_cases xa : a ≤ x
                  · have xb : ¬ x ≤ b := fun hh => nw ⟨rfl, rfl, xa, hh⟩
                    clear nw
                    go_wp2_with fail
                    go_ret
                    exact ⟨by try rfl, hbl⟩
                  · clear nw
                    go_wp2_with fail
                    go_ret
                    exact ⟨by try rfl, hbl⟩
              · obtain rfl := f2 rfl
                clear nw
                go_wp2_with fail
                go_ret
                exact ⟨by try rfl, hbl⟩
          | some ad =>
            obtain ⟨LL, hLL⟩ : ∃ LL, (w1.alloc (.cells #[.string nm, .int .i64 o, .int .i64 c, .slice v3a C.r.length v3c, .slice v4a C.f.length v4c, .slice (some ad) C.s.length v5c] 24)) = LL := ⟨_, rfl⟩
            have HLL := Lib.hid hLL
            have own0 : Hid ((LL.alloc (.cells #[] 3)).ownsRow (w1.heap.size + 1) 3 1 (.slice (some ⟨w1.heap.size + 1, 0, none⟩) 0 0) 0 (iv [])) := by
              have e := World.ownsRow_lit (e := 3) (size := 1) (base := w1.heap.size + 1) LL #[] 0 (by rw [← hLL]; simp) (by decide) rfl
              have z : LL.heap.size = w1.heap.size + 1 := by rw [← hLL]; simp
              rw [z] at e
              exact e
            have bel0 : Hid (Below (w1.heap.size + 1) LL (LL.alloc (.cells #[] 3))) := (Below.refl _ _).alloc (by rw [← hLL]; simp) _
            have sz0 : Hid ((LL.alloc (.cells #[] 3)).heap.size = w1.heap.size + 2) := by show _ = _; rw [← hLL]; simp
            have cel0 : Hid (∀ j u, (iv C.s)[j]? = some u → (LL.alloc (.cells #[] 3)).cell? (ad.add j) = some u) := fun j u hu => by
              obtain ⟨q1, q2⟩ := H.city.s.lessCells j u hu
              have q3 : (ad.add j).block < w1.heap.size := by unfold Addr.add; split <;> exact q1
              have q4 : Below w1.heap.size w1 LL := by rw [← hLL]; exact (Below.refl _ _).alloc (Nat.le_refl _) _
              rw [bel0.out.cell (p := ad.add j) (by omega), q4.cell q3]
              exact q2
            clear hLL
            go_wp2_with (at_builtin; refine wpList_append_own _ rfl (.tmp 116) (.tmp 118) 22 rfl (w1.heap.size + 1) 3 i0 (.int .i64 0) 1 8 Tryd.underlying22 hi hz0 hz1 hz2 rfl (by decide) _ _ _ rfl (by rw [HLL.out]; exact own0.out) ad C.s.length v5c (iv C.s) rfl ?f1 ?f2 ?f3 ?f4 ?f5 ?f6 ?_)
            case f1 => simp
            case f2 => rw [HLL.out]; exact cel0.out
            case f3 => exact less_one _
            case f4 => unfold maxLen; omega
            case f5 => omega
            case f6 => rw [HLL.out, sz0.out]; omega
            intro v5 w3 hown3 hgrow3 _
            rw [HLL.out] at hgrow3
            have bel3 : Hid (Below (w1.heap.size + 1) LL w3) := bel0.out.grown hgrow3 (by rw [sz0.out]; omega) (fun j hj => by cases hj; exact Nat.le_refl _)
            go_wp2_with (at_builtin; refine wpList_append_own _ rfl (.tmp 119) (.tmp 121) 22 rfl (w1.heap.size + 1) 3 i0 (.int .i64 0) 1 8 Tryd.underlying22 hi hz0 hz1 hz2 rfl (by decide) _ _ _ rfl (hown3.alloc _) ⟨w3.heap.size, 0, none⟩ 1 1 [.int .i64 x] rfl rfl ?g1 ?g2 ?g3 ?g4 ?g5 ?_)
            case g1 => exact cell_one_new _ _ _
            case g2 => intro u hu; simp at hu; subst hu; rfl
            case g3 => unfold maxLen; omega
            case g4 => omega
            case g5 => have := bel3.out.size; rw [← HLL.out] at this; simp at this ⊢; omega
            intro v6 w4 hown4 hgrow4 _
            have bel4 : Below (w1.heap.size + 1) LL w4 := (bel3.out.alloc (by have := bel3.out.size; rw [← HLL.out] at this; simp at this; omega) _).grown hgrow4 (by have := bel3.out.size; rw [← HLL.out] at this; simp at this ⊢; omega) (fun j hj => (hown3.lt j hj).1)
            obtain ⟨gg, gc, rfl, K⟩ := less_at F'.out H (by rw [HLL.out]; exact bel4) hown4
            clear H y0 y1 y2 y3 y4 y5 y6 hown4 bel4 hgrow4 hown3 hgrow3 bel3 cel0 own0 bel0 sz0 HLL
            have k0 := K.lt
            have k1 := K.c0
            have k2 := K.c1
            have k3 := K.c2
            have k4 := K.c3
            have k5 := K.c4
            have k6 := K.c5
            have kz := K.fz
            go_wp2_with fail
            refine (h.count nm o c _ _ _ (lessC C x) a b _ K.city HA.out HB.out (bf_of HF.out K.below)).mono ?_
            rintro e w5 ⟨rfl, b5⟩
            rw [N3.out]
            simp only [pv]
            have hbl := chain K.below b5
            clear K b5 k0 k1 k2 k3 k4 k5 k6 kz
            rcases way with ⟨rfl, rfl, xa, xb, rfl⟩ | ⟨nw, rfl⟩
            · go_wp2_with fail
              go_ret
              exact ⟨by try rfl, hbl⟩
            · rcases f1 with rfl | rfl
              · cases op with
                | false =>
                  clear nw
                  go_wp2_with fail
                  go_ret
                  exact ⟨by try rfl, hbl⟩
                | true =>
                  by_cases xa : a ≤ x
                  · have xb : ¬ x ≤ b := fun hh => nw ⟨rfl, rfl, xa, hh⟩
                    clear nw
                    go_wp2_with fail
                    go_ret
                    exact ⟨by try rfl, hbl⟩
                  · clear nw
                    go_wp2_with fail
                    go_ret
                    exact ⟨by try rfl, hbl⟩
              · obtain rfl := f2 rfl
                clear nw
                go_wp2_with fail
                go_ret
                exact ⟨by try rfl, hbl⟩

end Go.Proofs.YtmlelmknbddkjaaDoor
