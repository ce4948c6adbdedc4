/-
  The law CalendarTells's walk.
-/
import Derived.Test.YtmlelmknbddkjaaDoorLawC
namespace Go.Proofs.YtmlelmknbddkjaaDoor
open Go.RowKit

set_option maxHeartbeats 12800000 in
set_option maxRecDepth 100000 in
theorem CalendarTells_x (h : CalOk) (nm : ByteArray) (o c : Int) (v3 v4 v5 : Value) (C : Lists) (t y m d n tt : Int) (w : World) (hcity : CityI w v3 v4 v5 C) (ht : I64 t) (hy : I64 y) (hm : I64 m) (hd : I64 d) (hn : I64 n) (htt : I64 tt) (hbf : Bf w) :
    Calls Tryd.prog 3 #[cityV nm o c v3 v4 v5, .int .i64 t, .int .i64 y, .int .i64 m, .int .i64 d, .int .i64 n, .int .i64 tt] w fun e w' => e = .returned (.bool true) ∧ Below w.heap.size w w' := by
  have hC := Lib.hid hcity
  have HF := Lib.hid hbf
  clear hcity hbf
  have HT := Lib.hid ht
  have HY := Lib.hid hy
  have HM := Lib.hid hm
  have HD := Lib.hid hd
  have HN := Lib.hid hn
  have HTT := Lib.hid htt
  clear hy hm hd hn htt
  obtain ⟨da1, da2, da3, da4, hda⟩ : ∃ da1 da2 da3 da4, date t = (da1, da2, da3, da4) := ⟨_, _, _, _, rfl⟩
  have Nda := Lib.hid hda
  clear hda
  obtain ⟨db1, db2, hdb⟩ : ∃ db1 db2, dayOf y m d = (db1, db2) := ⟨_, _, rfl⟩
  have Ndb := Lib.hid hdb
  clear hdb
  obtain ⟨dc1, dc2, hdc⟩ : ∃ dc1 dc2, weekday t = (dc1, dc2) := ⟨_, _, rfl⟩
  have Ndc := Lib.hid hdc
  clear hdc
  obtain ⟨dd1, dd2, hdd⟩ : ∃ dd1 dd2, addM t n = (dd1, dd2) := ⟨_, _, rfl⟩
  have Ndd := Lib.hid hdd
  clear hdd
  obtain ⟨de1, de2, hde⟩ : ∃ de1 de2, openV C t = (de1, de2) := ⟨_, _, rfl⟩
  have Nde := Lib.hid hde
  clear hde
  obtain ⟨df1, df2, hdf⟩ : ∃ df1 df2, nextV C t = (df1, df2) := ⟨_, _, rfl⟩
  have Ndf := Lib.hid hdf
  clear hdf
  obtain ⟨dg1, dg2, hdg⟩ : ∃ dg1 dg2, plusV C t n = (dg1, dg2) := ⟨_, _, rfl⟩
  have Ndg := Lib.hid hdg
  clear hdg
  obtain ⟨dh1, dh2, hdh⟩ : ∃ dh1 dh2, countV C t tt = (dh1, dh2) := ⟨_, _, rfl⟩
  have Ndh := Lib.hid hdh
  clear hdh
  cases F : fewB C with
  | false =>
    have F' := Lib.hid F
    clear F
    go_enter Tryd.func3, Tryd.ntmps3
    have H := BxI.start (nm := nm) (o := o) (c := c) hC.out 24
    go_wp2_with fail
    refine (small_x h _ (bf_of HF.out H.below)).mono ?_
    rintro e w1 ⟨rfl, b1⟩
    have H' := H.next b1
    clear H b1
    have H := H'
    clear H'
    have y0 := H.size
    have y1 := H.c0
    have y2 := H.c1
    have y3 := H.c2
    have y4 := H.c3
    have y5 := H.c4
    have y6 := H.c5
    go_wp2_with fail
    refine (few_i nm o c v3 v4 v5 C _ H.city).mono ?_
    rintro e w1 ⟨rfl, b1⟩
    rw [F'.out]
    have H' := H.next b1
    clear H b1
    clear y0 y1 y2 y3 y4 y5 y6
    have H := H'
    clear H'
    have y0 := H.size
    have y1 := H.c0
    have y2 := H.c1
    have y3 := H.c2
    have y4 := H.c3
    have y5 := H.c4
    have y6 := H.c5
    have hbl := H.below
    go_wp2_with fail
    go_ret
    exact ⟨by try rfl, hbl⟩
  | true =>
    have F' := Lib.hid F
    clear F
    go_enter Tryd.func3, Tryd.ntmps3
    have H := BxI.start (nm := nm) (o := o) (c := c) hC.out 24
    go_wp2_with fail
    refine (small_x h _ (bf_of HF.out H.below)).mono ?_
    rintro e w1 ⟨rfl, b1⟩
    have H' := H.next b1
    clear H b1
    have H := H'
    clear H'
    have y0 := H.size
    have y1 := H.c0
    have y2 := H.c1
    have y3 := H.c2
    have y4 := H.c3
    have y5 := H.c4
    have y6 := H.c5
    go_wp2_with fail
    refine (few_i nm o c v3 v4 v5 C _ H.city).mono ?_
    rintro e w1 ⟨rfl, b1⟩
    rw [F'.out]
    have H' := (H.next b1).short F'.out
    clear H b1
    clear y0 y1 y2 y3 y4 y5 y6
    have H := H'
    clear H'
    have y0 := H.size
    have y1 := H.c0
    have y2 := H.c1
    have y3 := H.c2
    have y4 := H.c3
    have y5 := H.c4
    have y6 := H.c5
    go_wp2_with fail
    refine (h.date t _ HT.out (bf_of HF.out H.below)).mono ?_
    rintro e w1 ⟨rfl, b1⟩
    rw [Nda.out]
    simp only [dv]
    have H' := H.next b1
    clear H b1
    clear y0 y1 y2 y3 y4 y5 y6
    have H := H'
    clear H'
    have y0 := H.size
    have y1 := H.c0
    have y2 := H.c1
    have y3 := H.c2
    have y4 := H.c3
    have y5 := H.c4
    have y6 := H.c5
    go_wp2_with fail
    refine (Date_x t _).mono ?_
    rintro e w1 ⟨rfl, rfl⟩
    rw [Nda.out]
    simp only [dv]
    go_wp2_with fail
    refine (h.day y m d _ HY.out HM.out HD.out (bf_of HF.out H.below)).mono ?_
    rintro e w1 ⟨rfl, b1⟩
    rw [Ndb.out]
    simp only [pv]
    have H' := H.next b1
    clear H b1
    clear y0 y1 y2 y3 y4 y5 y6
    have H := H'
    clear H'
    have y0 := H.size
    have y1 := H.c0
    have y2 := H.c1
    have y3 := H.c2
    have y4 := H.c3
    have y5 := H.c4
    have y6 := H.c5
    go_wp2_with fail
    refine (Day_x y m d _).mono ?_
    rintro e w1 ⟨rfl, rfl⟩
    rw [Ndb.out]
    simp only [pv]
    go_wp2_with fail
    refine (h.weekday t _ HT.out (bf_of HF.out H.below)).mono ?_
    rintro e w1 ⟨rfl, b1⟩
    rw [Ndc.out]
    simp only [pv]
    have H' := H.next b1
    clear H b1
    clear y0 y1 y2 y3 y4 y5 y6
    have H := H'
    clear H'
    have y0 := H.size
    have y1 := H.c0
    have y2 := H.c1
    have y3 := H.c2
    have y4 := H.c3
    have y5 := H.c4
    have y6 := H.c5
    go_wp2_with fail
    refine (Weekday_x t _).mono ?_
    rintro e w1 ⟨rfl, rfl⟩
    rw [Ndc.out]
    simp only [pv]
    go_wp2_with fail
    refine (h.addM t n _ HT.out HN.out (bf_of HF.out H.below)).mono ?_
    rintro e w1 ⟨rfl, b1⟩
    rw [Ndd.out]
    simp only [pv]
    have H' := H.next b1
    clear H b1
    clear y0 y1 y2 y3 y4 y5 y6
    have H := H'
    clear H'
    have y0 := H.size
    have y1 := H.c0
    have y2 := H.c1
    have y3 := H.c2
    have y4 := H.c3
    have y5 := H.c4
    have y6 := H.c5
    go_wp2_with fail
    refine (AddMonths_x t n _).mono ?_
    rintro e w1 ⟨rfl, rfl⟩
    rw [Ndd.out]
    simp only [pv]
    go_wp2_with fail
    refine (h.isOpen nm o c v3 v4 v5 C t _ H.city HT.out (bf_of HF.out H.below)).mono ?_
    rintro e w1 ⟨rfl, b1⟩
    rw [Nde.out]
    simp only [bv]
    have H' := H.next b1
    clear H b1
    clear y0 y1 y2 y3 y4 y5 y6
    have H := H'
    clear H'
    have y0 := H.size
    have y1 := H.c0
    have y2 := H.c1
    have y3 := H.c2
    have y4 := H.c3
    have y5 := H.c4
    have y6 := H.c5
    go_wp2_with fail
    refine (Open_x nm o c v3 v4 v5 C t _ H.city).mono ?_
    rintro e w1 ⟨rfl, b1⟩
    rw [Nde.out]
    simp only [bv]
    have H' := H.next b1
    clear H b1
    clear y0 y1 y2 y3 y4 y5 y6
    have H := H'
    clear H'
    have y0 := H.size
    have y1 := H.c0
    have y2 := H.c1
    have y3 := H.c2
    have y4 := H.c3
    have y5 := H.c4
    have y6 := H.c5
    go_wp2_with fail
    refine (h.next nm o c v3 v4 v5 C t _ H.city HT.out (bf_of HF.out H.below)).mono ?_
    rintro e w1 ⟨rfl, b1⟩
    rw [Ndf.out]
    simp only [pv]
    have H' := H.next b1
    clear H b1
    clear y0 y1 y2 y3 y4 y5 y6
    have H := H'
    clear H'
    have y0 := H.size
    have y1 := H.c0
    have y2 := H.c1
    have y3 := H.c2
    have y4 := H.c3
    have y5 := H.c4
    have y6 := H.c5
    go_wp2_with fail
    refine (Next_x nm o c v3 v4 v5 C t _ H.city).mono ?_
    rintro e w1 ⟨rfl, b1⟩
    rw [Ndf.out]
    simp only [pv]
    have H' := H.next b1
    clear H b1
    clear y0 y1 y2 y3 y4 y5 y6
    have H := H'
    clear H'
    have y0 := H.size
    have y1 := H.c0
    have y2 := H.c1
    have y3 := H.c2
    have y4 := H.c3
    have y5 := H.c4
    have y6 := H.c5
    rcases (show n ≤ 300 ∨ (¬ n ≤ 300 ∧ 20000 < n) ∨ (¬ n ≤ 300 ∧ ¬ 20000 < n) by omega) with g1 | ⟨g1, g2⟩ | ⟨g1, g2⟩
    · go_wp2_with fail
      refine (h.plus nm o c v3 v4 v5 C t n _ H.city HT.out HN.out (bf_of HF.out H.below)).mono ?_
      rintro e w1 ⟨rfl, b1⟩
      rw [Ndg.out]
      simp only [pv]
      have H' := H.next b1
      clear H b1
      clear y0 y1 y2 y3 y4 y5 y6
      have H := H'
      clear H'
      have y0 := H.size
      have y1 := H.c0
      have y2 := H.c1
      have y3 := H.c2
      have y4 := H.c3
      have y5 := H.c4
      have y6 := H.c5
      go_wp2_with fail
      refine (Plus_x nm o c v3 v4 v5 C t n _ H.city).mono ?_
      rintro e w1 ⟨rfl, b1⟩
      rw [Ndg.out]
      simp only [pv]
      have H' := H.next b1
      clear H b1
      clear y0 y1 y2 y3 y4 y5 y6
      have H := H'
      clear H'
      have y0 := H.size
      have y1 := H.c0
      have y2 := H.c1
      have y3 := H.c2
      have y4 := H.c3
      have y5 := H.c4
      have y6 := H.c5
      cases V : valid t with
      | false =>
        have V' := Lib.hid V
        clear V
        go_wp2_with fail
        refine (Valid_x t _).mono ?_
        rintro e w1 ⟨rfl, rfl⟩
        rw [V'.out]
        go_wp2_with fail
        refine (h.count nm o c v3 v4 v5 C t tt _ H.city HT.out HTT.out (bf_of HF.out H.below)).mono ?_
        rintro e w1 ⟨rfl, b1⟩
        rw [Ndh.out]
        simp only [pv]
        have H' := H.next b1
        clear H b1
        clear y0 y1 y2 y3 y4 y5 y6
        have H := H'
        clear H'
        have y0 := H.size
        have y1 := H.c0
        have y2 := H.c1
        have y3 := H.c2
        have y4 := H.c3
        have y5 := H.c4
        have y6 := H.c5
        go_wp2_with fail
        refine (Count_x nm o c v3 v4 v5 C t tt _ H.city).mono ?_
        rintro e w1 ⟨rfl, b1⟩
        rw [Ndh.out]
        simp only [pv]
        have H' := H.next b1
        clear H b1
        clear y0 y1 y2 y3 y4 y5 y6
        have H := H'
        clear H'
        have y0 := H.size
        have y1 := H.c0
        have y2 := H.c1
        have y3 := H.c2
        have y4 := H.c3
        have y5 := H.c4
        have y6 := H.c5
        have hbl := H.below
        go_wp2_with fail
        go_ret
        exact ⟨by try rfl, hbl⟩
      | true =>
        have V' := Lib.hid V
        obtain ⟨t0, t1⟩ := valid_iff.1 V
        clear V
        cases W : valid tt with
        | false =>
          have W' := Lib.hid W
          clear W
          go_wp2_with fail
          refine (Valid_x t _).mono ?_
          rintro e w1 ⟨rfl, rfl⟩
          rw [V'.out]
          go_wp2_with fail
          refine (Valid_x tt _).mono ?_
          rintro e w1 ⟨rfl, rfl⟩
          rw [W'.out]
          go_wp2_with fail
          refine (h.count nm o c v3 v4 v5 C t tt _ H.city HT.out HTT.out (bf_of HF.out H.below)).mono ?_
          rintro e w1 ⟨rfl, b1⟩
          rw [Ndh.out]
          simp only [pv]
          have H' := H.next b1
          clear H b1
          clear y0 y1 y2 y3 y4 y5 y6
          have H := H'
          clear H'
          have y0 := H.size
          have y1 := H.c0
          have y2 := H.c1
          have y3 := H.c2
          have y4 := H.c3
          have y5 := H.c4
          have y6 := H.c5
          go_wp2_with fail
          refine (Count_x nm o c v3 v4 v5 C t tt _ H.city).mono ?_
          rintro e w1 ⟨rfl, b1⟩
          rw [Ndh.out]
          simp only [pv]
          have H' := H.next b1
          clear H b1
          clear y0 y1 y2 y3 y4 y5 y6
          have H := H'
          clear H'
          have y0 := H.size
          have y1 := H.c0
          have y2 := H.c1
          have y3 := H.c2
          have y4 := H.c3
          have y5 := H.c4
          have y6 := H.c5
          have hbl := H.below
          go_wp2_with fail
          go_ret
          exact ⟨by try rfl, hbl⟩
        | true =>
          have W' := Lib.hid W
          obtain ⟨z0, z1⟩ := valid_iff.1 W
          clear W
          rcases (show 3000 < tt - t ∨ ¬ 3000 < tt - t by omega) with far | far
          · go_wp2_with fail
            refine (Valid_x t _).mono ?_
            rintro e w1 ⟨rfl, rfl⟩
            rw [V'.out]
            go_wp2_with fail
            refine (Valid_x tt _).mono ?_
            rintro e w1 ⟨rfl, rfl⟩
            rw [W'.out]
            have hbl := H.below
            go_wp2_with fail
            go_ret
            exact ⟨by try rfl, hbl⟩
          · go_wp2_with fail
            refine (Valid_x t _).mono ?_
            rintro e w1 ⟨rfl, rfl⟩
            rw [V'.out]
            go_wp2_with fail
            refine (Valid_x tt _).mono ?_
            rintro e w1 ⟨rfl, rfl⟩
            rw [W'.out]
            go_wp2_with fail
            refine (h.count nm o c v3 v4 v5 C t tt _ H.city HT.out HTT.out (bf_of HF.out H.below)).mono ?_
            rintro e w1 ⟨rfl, b1⟩
            rw [Ndh.out]
            simp only [pv]
            have H' := H.next b1
            clear H b1
            clear y0 y1 y2 y3 y4 y5 y6
            have H := H'
            clear H'
            have y0 := H.size
            have y1 := H.c0
            have y2 := H.c1
            have y3 := H.c2
            have y4 := H.c3
            have y5 := H.c4
            have y6 := H.c5
            go_wp2_with fail
            refine (Count_x nm o c v3 v4 v5 C t tt _ H.city).mono ?_
            rintro e w1 ⟨rfl, b1⟩
            rw [Ndh.out]
            simp only [pv]
            have H' := H.next b1
            clear H b1
            clear y0 y1 y2 y3 y4 y5 y6
            have H := H'
            clear H'
            have y0 := H.size
            have y1 := H.c0
            have y2 := H.c1
            have y3 := H.c2
            have y4 := H.c3
            have y5 := H.c4
            have y6 := H.c5
            have hbl := H.below
            go_wp2_with fail
            go_ret
            exact ⟨by try rfl, hbl⟩
    · go_wp2_with fail
      refine (h.plus nm o c v3 v4 v5 C t n _ H.city HT.out HN.out (bf_of HF.out H.below)).mono ?_
      rintro e w1 ⟨rfl, b1⟩
      rw [Ndg.out]
      simp only [pv]
      have H' := H.next b1
      clear H b1
      clear y0 y1 y2 y3 y4 y5 y6
      have H := H'
      clear H'
      have y0 := H.size
      have y1 := H.c0
      have y2 := H.c1
      have y3 := H.c2
      have y4 := H.c3
      have y5 := H.c4
      have y6 := H.c5
      go_wp2_with fail
      refine (Plus_x nm o c v3 v4 v5 C t n _ H.city).mono ?_
      rintro e w1 ⟨rfl, b1⟩
      rw [Ndg.out]
      simp only [pv]
      have H' := H.next b1
      clear H b1
      clear y0 y1 y2 y3 y4 y5 y6
      have H := H'
      clear H'
      have y0 := H.size
      have y1 := H.c0
      have y2 := H.c1
      have y3 := H.c2
      have y4 := H.c3
      have y5 := H.c4
      have y6 := H.c5
      cases V : valid t with
      | false =>
        have V' := Lib.hid V
        clear V
        go_wp2_with fail
        refine (Valid_x t _).mono ?_
        rintro e w1 ⟨rfl, rfl⟩
        rw [V'.out]
        go_wp2_with fail
        refine (h.count nm o c v3 v4 v5 C t tt _ H.city HT.out HTT.out (bf_of HF.out H.below)).mono ?_
        rintro e w1 ⟨rfl, b1⟩
        rw [Ndh.out]
        simp only [pv]
        have H' := H.next b1
        clear H b1
        clear y0 y1 y2 y3 y4 y5 y6
        have H := H'
        clear H'
        have y0 := H.size
        have y1 := H.c0
        have y2 := H.c1
        have y3 := H.c2
        have y4 := H.c3
        have y5 := H.c4
        have y6 := H.c5
        go_wp2_with fail
        refine (Count_x nm o c v3 v4 v5 C t tt _ H.city).mono ?_
        rintro e w1 ⟨rfl, b1⟩
        rw [Ndh.out]
        simp only [pv]
        have H' := H.next b1
        clear H b1
        clear y0 y1 y2 y3 y4 y5 y6
        have H := H'
        clear H'
        have y0 := H.size
        have y1 := H.c0
        have y2 := H.c1
        have y3 := H.c2
        have y4 := H.c3
        have y5 := H.c4
        have y6 := H.c5
        have hbl := H.below
        go_wp2_with fail
        go_ret
        exact ⟨by try rfl, hbl⟩
      | true =>
        have V' := Lib.hid V
        obtain ⟨t0, t1⟩ := valid_iff.1 V
        clear V
        cases W : valid tt with
        | false =>
          have W' := Lib.hid W
          clear W
          go_wp2_with fail
          refine (Valid_x t _).mono ?_
          rintro e w1 ⟨rfl, rfl⟩
          rw [V'.out]
          go_wp2_with fail
          refine (Valid_x tt _).mono ?_
          rintro e w1 ⟨rfl, rfl⟩
          rw [W'.out]
          go_wp2_with fail
          refine (h.count nm o c v3 v4 v5 C t tt _ H.city HT.out HTT.out (bf_of HF.out H.below)).mono ?_
          rintro e w1 ⟨rfl, b1⟩
          rw [Ndh.out]
          simp only [pv]
          have H' := H.next b1
          clear H b1
          clear y0 y1 y2 y3 y4 y5 y6
          have H := H'
          clear H'
          have y0 := H.size
          have y1 := H.c0
          have y2 := H.c1
          have y3 := H.c2
          have y4 := H.c3
          have y5 := H.c4
          have y6 := H.c5
          go_wp2_with fail
          refine (Count_x nm o c v3 v4 v5 C t tt _ H.city).mono ?_
          rintro e w1 ⟨rfl, b1⟩
          rw [Ndh.out]
          simp only [pv]
          have H' := H.next b1
          clear H b1
          clear y0 y1 y2 y3 y4 y5 y6
          have H := H'
          clear H'
          have y0 := H.size
          have y1 := H.c0
          have y2 := H.c1
          have y3 := H.c2
          have y4 := H.c3
          have y5 := H.c4
          have y6 := H.c5
          have hbl := H.below
          go_wp2_with fail
          go_ret
          exact ⟨by try rfl, hbl⟩
        | true =>
          have W' := Lib.hid W
          obtain ⟨z0, z1⟩ := valid_iff.1 W
          clear W
          rcases (show 3000 < tt - t ∨ ¬ 3000 < tt - t by omega) with far | far
          · go_wp2_with fail
            refine (Valid_x t _).mono ?_
            rintro e w1 ⟨rfl, rfl⟩
            rw [V'.out]
            go_wp2_with fail
            refine (Valid_x tt _).mono ?_
            rintro e w1 ⟨rfl, rfl⟩
            rw [W'.out]
            have hbl := H.below
            go_wp2_with fail
            go_ret
            exact ⟨by try rfl, hbl⟩
          · go_wp2_with fail
            refine (Valid_x t _).mono ?_
            rintro e w1 ⟨rfl, rfl⟩
            rw [V'.out]
            go_wp2_with fail
            refine (Valid_x tt _).mono ?_
            rintro e w1 ⟨rfl, rfl⟩
            rw [W'.out]
            go_wp2_with fail
            refine (h.count nm o c v3 v4 v5 C t tt _ H.city HT.out HTT.out (bf_of HF.out H.below)).mono ?_
            rintro e w1 ⟨rfl, b1⟩
            rw [Ndh.out]
            simp only [pv]
            have H' := H.next b1
            clear H b1
            clear y0 y1 y2 y3 y4 y5 y6
            have H := H'
            clear H'
            have y0 := H.size
            have y1 := H.c0
            have y2 := H.c1
            have y3 := H.c2
            have y4 := H.c3
            have y5 := H.c4
            have y6 := H.c5
            go_wp2_with fail
            refine (Count_x nm o c v3 v4 v5 C t tt _ H.city).mono ?_
            rintro e w1 ⟨rfl, b1⟩
            rw [Ndh.out]
            simp only [pv]
            have H' := H.next b1
            clear H b1
            clear y0 y1 y2 y3 y4 y5 y6
            have H := H'
            clear H'
            have y0 := H.size
            have y1 := H.c0
            have y2 := H.c1
            have y3 := H.c2
            have y4 := H.c3
            have y5 := H.c4
            have y6 := H.c5
            have hbl := H.below
            go_wp2_with fail
            go_ret
            exact ⟨by try rfl, hbl⟩
    · cases V : valid t with
      | false =>
        have V' := Lib.hid V
        clear V
        go_wp2_with fail
        refine (Valid_x t _).mono ?_
        rintro e w1 ⟨rfl, rfl⟩
        rw [V'.out]
        go_wp2_with fail
        refine (h.count nm o c v3 v4 v5 C t tt _ H.city HT.out HTT.out (bf_of HF.out H.below)).mono ?_
        rintro e w1 ⟨rfl, b1⟩
        rw [Ndh.out]
        simp only [pv]
        have H' := H.next b1
        clear H b1
        clear y0 y1 y2 y3 y4 y5 y6
        have H := H'
        clear H'
        have y0 := H.size
        have y1 := H.c0
        have y2 := H.c1
        have y3 := H.c2
        have y4 := H.c3
        have y5 := H.c4
        have y6 := H.c5
        go_wp2_with fail
        refine (Count_x nm o c v3 v4 v5 C t tt _ H.city).mono ?_
        rintro e w1 ⟨rfl, b1⟩
        rw [Ndh.out]
        simp only [pv]
        have H' := H.next b1
        clear H b1
        clear y0 y1 y2 y3 y4 y5 y6
        have H := H'
        clear H'
        have y0 := H.size
        have y1 := H.c0
        have y2 := H.c1
        have y3 := H.c2
        have y4 := H.c3
        have y5 := H.c4
        have y6 := H.c5
        have hbl := H.below
        go_wp2_with fail
        go_ret
        exact ⟨by try rfl, hbl⟩
      | true =>
        have V' := Lib.hid V
        obtain ⟨t0, t1⟩ := valid_iff.1 V
        clear V
        cases W : valid tt with
        | false =>
          have W' := Lib.hid W
          clear W
          go_wp2_with fail
          refine (Valid_x t _).mono ?_
          rintro e w1 ⟨rfl, rfl⟩
          rw [V'.out]
          go_wp2_with fail
          refine (Valid_x tt _).mono ?_
          rintro e w1 ⟨rfl, rfl⟩
          rw [W'.out]
          go_wp2_with fail
          refine (h.count nm o c v3 v4 v5 C t tt _ H.city HT.out HTT.out (bf_of HF.out H.below)).mono ?_
          rintro e w1 ⟨rfl, b1⟩
          rw [Ndh.out]
          simp only [pv]
          have H' := H.next b1
          clear H b1
          clear y0 y1 y2 y3 y4 y5 y6
          have H := H'
          clear H'
          have y0 := H.size
          have y1 := H.c0
          have y2 := H.c1
          have y3 := H.c2
          have y4 := H.c3
          have y5 := H.c4
          have y6 := H.c5
          go_wp2_with fail
          refine (Count_x nm o c v3 v4 v5 C t tt _ H.city).mono ?_
          rintro e w1 ⟨rfl, b1⟩
          rw [Ndh.out]
          simp only [pv]
          have H' := H.next b1
          clear H b1
          clear y0 y1 y2 y3 y4 y5 y6
          have H := H'
          clear H'
          have y0 := H.size
          have y1 := H.c0
          have y2 := H.c1
          have y3 := H.c2
          have y4 := H.c3
          have y5 := H.c4
          have y6 := H.c5
          have hbl := H.below
          go_wp2_with fail
          go_ret
          exact ⟨by try rfl, hbl⟩
        | true =>
          have W' := Lib.hid W
          obtain ⟨z0, z1⟩ := valid_iff.1 W
          clear W
          rcases (show 3000 < tt - t ∨ ¬ 3000 < tt - t by omega) with far | far
          · go_wp2_with fail
            refine (Valid_x t _).mono ?_
            rintro e w1 ⟨rfl, rfl⟩
            rw [V'.out]
            go_wp2_with fail
            refine (Valid_x tt _).mono ?_
            rintro e w1 ⟨rfl, rfl⟩
            rw [W'.out]
            have hbl := H.below
            go_wp2_with fail
            go_ret
            exact ⟨by try rfl, hbl⟩
          · go_wp2_with fail
            refine (Valid_x t _).mono ?_
            rintro e w1 ⟨rfl, rfl⟩
            rw [V'.out]
            go_wp2_with fail
            refine (Valid_x tt _).mono ?_
            rintro e w1 ⟨rfl, rfl⟩
            rw [W'.out]
            go_wp2_with fail
            refine (h.count nm o c v3 v4 v5 C t tt _ H.city HT.out HTT.out (bf_of HF.out H.below)).mono ?_
            rintro e w1 ⟨rfl, b1⟩
            rw [Ndh.out]
            simp only [pv]
            have H' := H.next b1
            clear H b1
            clear y0 y1 y2 y3 y4 y5 y6
            have H := H'
            clear H'
            have y0 := H.size
            have y1 := H.c0
            have y2 := H.c1
            have y3 := H.c2
            have y4 := H.c3
            have y5 := H.c4
            have y6 := H.c5
            go_wp2_with fail
            refine (Count_x nm o c v3 v4 v5 C t tt _ H.city).mono ?_
            rintro e w1 ⟨rfl, b1⟩
            rw [Ndh.out]
            simp only [pv]
            have H' := H.next b1
            clear H b1
            clear y0 y1 y2 y3 y4 y5 y6
            have H := H'
            clear H'
            have y0 := H.size
            have y1 := H.c0
            have y2 := H.c1
            have y3 := H.c2
            have y4 := H.c3
            have y5 := H.c4
            have y6 := H.c5
            have hbl := H.below
            go_wp2_with fail
            go_ret
            exact ⟨by try rfl, hbl⟩

end Go.Proofs.YtmlelmknbddkjaaDoor
