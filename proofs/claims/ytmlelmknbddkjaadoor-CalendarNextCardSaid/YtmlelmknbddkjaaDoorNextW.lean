/-
  The law CalendarNext's walk.
-/
import Derived.Test.YtmlelmknbddkjaaDoorLawC
namespace Go.Proofs.YtmlelmknbddkjaaDoor
open Go.RowKit

/-- an open day is its own next one -/
theorem nextV_self {C : Lists} {u : Int} (h : isOpen C u = true) : nextV C u = (u, 0) := by
  obtain ⟨h1, h2⟩ := isOpen_valid h
  unfold nextV
  rw [valid_yes h1 h2, if_pos rfl]
  have : seek C 401 u = some u := by
    show seek C (400 + 1) u = some u
    unfold seek
    rw [if_pos h]
  rw [this]
def LRel (t L : Int) (w : World) (nm : ByteArray) (o c : Int) (v3 v4 v5 : Value) (C : Lists) (i : Value) (wr : World) : Prop := ∃ k : Int, t ≤ k ∧ k ≤ L ∧ i = .int .i64 k ∧ Bx6 w nm o c v3 v4 v5 C wr

set_option maxHeartbeats 12800000 in
set_option maxRecDepth 100000 in
theorem CalendarNext_x (h : CalOk) (nm : ByteArray) (o c : Int) (v3 v4 v5 : Value) (C : Lists) (t : Int) (w : World) (hcity : CityI w v3 v4 v5 C) (ht : I64 t) (hbf : Bf w) :
    Calls Tryd.prog 6 #[cityV nm o c v3 v4 v5, .int .i64 t] w fun e w' => e = .returned (.bool true) ∧ Below w.heap.size w w' := by
  have hC := Lib.hid hcity
  have HF := Lib.hid hbf
  clear hcity hbf
  have HT := Lib.hid ht
  cases F : fewB C with
  | false =>
    have F' := Lib.hid F
    clear F ht
    go_enter Tryd.func6, Tryd.ntmps6
    have H := BxI.start (nm := nm) (o := o) (c := c) hC.out 24
    go_wp2_with fail
    refine (small_x h _ (bf_of HF.out H.below)).mono ?_
    rintro e w1 ⟨rfl, b1⟩
    have H' := H.next b1
    clear H b1
    have H := H'
    clear H'
    have y0 := H.size
    have y1 := H.c0
    have y2 := H.c1
    have y3 := H.c2
    have y4 := H.c3
    have y5 := H.c4
    have y6 := H.c5
    go_wp2_with fail
    refine (few_i nm o c v3 v4 v5 C _ H.city).mono ?_
    rintro e w1 ⟨rfl, b1⟩
    rw [F'.out]
    have H' := H.next b1
    clear H b1
    clear y0 y1 y2 y3 y4 y5 y6
    have H := H'
    clear H'
    have y0 := H.size
    have y1 := H.c0
    have y2 := H.c1
    have y3 := H.c2
    have y4 := H.c3
    have y5 := H.c4
    have y6 := H.c5
    have hbl := H.below
    go_wp2_with fail
    go_ret
    exact ⟨by try rfl, hbl⟩
  | true =>
    have F' := Lib.hid F
    clear F
    cases V : valid t with
    | false =>
      have V' := Lib.hid V
      have N : Hid (nextV C t = (0, 3)) := by show _ = _; unfold nextV; rw [V]; rfl
      clear V ht
      go_enter Tryd.func6, Tryd.ntmps6
      have H := BxI.start (nm := nm) (o := o) (c := c) hC.out 24
      go_wp2_with fail
      refine (small_x h _ (bf_of HF.out H.below)).mono ?_
      rintro e w1 ⟨rfl, b1⟩
      have H' := H.next b1
      clear H b1
      have H := H'
      clear H'
      have y0 := H.size
      have y1 := H.c0
      have y2 := H.c1
      have y3 := H.c2
      have y4 := H.c3
      have y5 := H.c4
      have y6 := H.c5
      go_wp2_with fail
      refine (few_i nm o c v3 v4 v5 C _ H.city).mono ?_
      rintro e w1 ⟨rfl, b1⟩
      rw [F'.out]
      have H' := (H.next b1).short F'.out
      clear H b1
      clear y0 y1 y2 y3 y4 y5 y6
      have H := H'
      clear H'
      have y0 := H.size
      have y1 := H.c0
      have y2 := H.c1
      have y3 := H.c2
      have y4 := H.c3
      have y5 := H.c4
      have y6 := H.c5
      go_wp2_with fail
      refine (h.next nm o c v3 v4 v5 C t _ H.city HT.out (bf_of HF.out H.below)).mono ?_
      rintro e w1 ⟨rfl, b1⟩
      rw [N.out]
      simp only [pv]
      have H' := H.next b1
      clear H b1
      clear y0 y1 y2 y3 y4 y5 y6
      have H := H'
      clear H'
      have y0 := H.size
      have y1 := H.c0
      have y2 := H.c1
      have y3 := H.c2
      have y4 := H.c3
      have y5 := H.c4
      have y6 := H.c5
      go_wp2_with fail
      refine (Valid_x t _).mono ?_
      rintro e w1 ⟨rfl, rfl⟩
      rw [V'.out]
      have hbl := H.below
      go_wp2_with fail
      go_ret
      exact ⟨by try rfl, hbl⟩
    | true =>
      have V' := Lib.hid V
      obtain ⟨t0, t1⟩ := valid_iff.1 V
      clear V ht
      rcases nextV_two C t with ⟨u, n1, u1, u2, u3, u4, -, u5, u6⟩ | ⟨n1, n2⟩
      · have N := Lib.hid n1
        have HU : Hid (I64 u) := small_I64 (by omega) (by omega)
        have N2 : Hid (nextV C u = (u, 0)) := nextV_self u2
        have O : Hid (openV C u = (true, 0)) := by show _ = _; rw [openV_of (valid_yes u3 u4), u2]
        have NO : Hid (∀ s, t ≤ s → s < u → openV C s = (false, 0)) := fun s h1 h2 => by rw [openV_of (valid_yes (by omega) (by omega)), u6 s h1 h2]
        clear n1 u2 u6
        have l1 : ¬ u < t := by omega
        rcases (show t + 400 ≤ 100000 ∨ ¬ t + 400 ≤ 100000 by omega) with cap | cap
        · have l2 := l1
          clear l1
          go_enter Tryd.func6, Tryd.ntmps6
          have H := BxI.start (nm := nm) (o := o) (c := c) hC.out 24
          go_wp2_with fail
          refine (small_x h _ (bf_of HF.out H.below)).mono ?_
          rintro e w1 ⟨rfl, b1⟩
          have H' := H.next b1
          clear H b1
          have H := H'
          clear H'
          have y0 := H.size
          have y1 := H.c0
          have y2 := H.c1
          have y3 := H.c2
          have y4 := H.c3
          have y5 := H.c4
          have y6 := H.c5
          go_wp2_with fail
          refine (few_i nm o c v3 v4 v5 C _ H.city).mono ?_
          rintro e w1 ⟨rfl, b1⟩
          rw [F'.out]
          have H' := (H.next b1).short F'.out
          clear H b1
          clear y0 y1 y2 y3 y4 y5 y6
          have H := H'
          clear H'
          have y0 := H.size
          have y1 := H.c0
          have y2 := H.c1
          have y3 := H.c2
          have y4 := H.c3
          have y5 := H.c4
          have y6 := H.c5
          go_wp2_with fail
          refine (h.next nm o c v3 v4 v5 C t _ H.city HT.out (bf_of HF.out H.below)).mono ?_
          rintro e w1 ⟨rfl, b1⟩
          rw [N.out]
          simp only [pv]
          have H' := H.next b1
          clear H b1
          clear y0 y1 y2 y3 y4 y5 y6
          have H := H'
          clear H'
          have y0 := H.size
          have y1 := H.c0
          have y2 := H.c1
          have y3 := H.c2
          have y4 := H.c3
          have y5 := H.c4
          have y6 := H.c5
          go_wp2_with fail
          refine (Valid_x t _).mono ?_
          rintro e w1 ⟨rfl, rfl⟩
          rw [V'.out]
          go_wp2_with fail
          refine (h.isOpen nm o c v3 v4 v5 C u _ H.city HU.out (bf_of HF.out H.below)).mono ?_
          rintro e w1 ⟨rfl, b1⟩
          rw [O.out]
          simp only [bv]
          have H' := H.next b1
          clear H b1
          clear y0 y1 y2 y3 y4 y5 y6
          have H := H'
          clear H'
          have y0 := H.size
          have y1 := H.c0
          have y2 := H.c1
          have y3 := H.c2
          have y4 := H.c3
          have y5 := H.c4
          have y6 := H.c5
          go_wp2_with fail
          refine (h.next nm o c v3 v4 v5 C u _ H.city HU.out (bf_of HF.out H.below)).mono ?_
          rintro e w1 ⟨rfl, b1⟩
          rw [N2.out]
          simp only [pv]
          have H' := H.next b1
          clear H b1
          clear y0 y1 y2 y3 y4 y5 y6
          have H := H'
          clear H'
          have y0 := H.size
          have y1 := H.c0
          have y2 := H.c1
          have y3 := H.c2
          have y4 := H.c3
          have y5 := H.c4
          have y6 := H.c5
          go_wp2_with fail
          clear y0 y1 y2 y3 y4 y5 y6
          go_loopw [13] (fun i wr => LRel t u w nm o c v3 v4 v5 C i wr) (fun i _ => (u - intOf i).toNat)
          case atStart => exact ⟨t, Int.le_refl _, by omega, rfl, H⟩
          case round =>
            clear H
            obtain ⟨k, k1, k2, rfl, H⟩ := hrel
            have y0 := H.size
            have y1 := H.c0
            have y2 := H.c1
            have y3 := H.c2
            have y4 := H.c3
            have y5 := H.c4
            have y6 := H.c5
            by_cases kk : k < u
            · have O1 : Hid (openV C k = (false, 0)) := NO.out k k1 kk
              have HK : Hid (I64 k) := small_I64 (by omega) (by omega)
              go_wp2_with fail
              refine (h.isOpen nm o c v3 v4 v5 C k _ H.city HK.out (bf_of HF.out H.below)).mono ?_
              rintro e w1 ⟨rfl, b1⟩
              rw [O1.out]
              simp only [bv]
              have H' := H.next b1
              clear H b1
              clear y0 y1 y2 y3 y4 y5 y6
              have H := H'
              clear H'
              have y0 := H.size
              have y1 := H.c0
              have y2 := H.c1
              have y3 := H.c2
              have y4 := H.c3
              have y5 := H.c4
              have y6 := H.c5
              go_wp2_with fail
              go_roundw
              case rel => exact ⟨k + 1, by omega, by omega, rfl, H⟩
              case measure => simp [intOf]; omega
            · have hbl := H.below
              go_wp2_with fail
              go_ret
              exact ⟨by try rfl, hbl⟩
        · have l2 := l1
          clear l1
          go_enter Tryd.func6, Tryd.ntmps6
          have H := BxI.start (nm := nm) (o := o) (c := c) hC.out 24
          go_wp2_with fail
          refine (small_x h _ (bf_of HF.out H.below)).mono ?_
          rintro e w1 ⟨rfl, b1⟩
          have H' := H.next b1
          clear H b1
          have H := H'
          clear H'
          have y0 := H.size
          have y1 := H.c0
          have y2 := H.c1
          have y3 := H.c2
          have y4 := H.c3
          have y5 := H.c4
          have y6 := H.c5
          go_wp2_with fail
          refine (few_i nm o c v3 v4 v5 C _ H.city).mono ?_
          rintro e w1 ⟨rfl, b1⟩
          rw [F'.out]
          have H' := (H.next b1).short F'.out
          clear H b1
          clear y0 y1 y2 y3 y4 y5 y6
          have H := H'
          clear H'
          have y0 := H.size
          have y1 := H.c0
          have y2 := H.c1
          have y3 := H.c2
          have y4 := H.c3
          have y5 := H.c4
          have y6 := H.c5
          go_wp2_with fail
          refine (h.next nm o c v3 v4 v5 C t _ H.city HT.out (bf_of HF.out H.below)).mono ?_
          rintro e w1 ⟨rfl, b1⟩
          rw [N.out]
          simp only [pv]
          have H' := H.next b1
          clear H b1
          clear y0 y1 y2 y3 y4 y5 y6
          have H := H'
          clear H'
          have y0 := H.size
          have y1 := H.c0
          have y2 := H.c1
          have y3 := H.c2
          have y4 := H.c3
          have y5 := H.c4
          have y6 := H.c5
          go_wp2_with fail
          refine (Valid_x t _).mono ?_
          rintro e w1 ⟨rfl, rfl⟩
          rw [V'.out]
          go_wp2_with fail
          refine (h.isOpen nm o c v3 v4 v5 C u _ H.city HU.out (bf_of HF.out H.below)).mono ?_
          rintro e w1 ⟨rfl, b1⟩
          rw [O.out]
          simp only [bv]
          have H' := H.next b1
          clear H b1
          clear y0 y1 y2 y3 y4 y5 y6
          have H := H'
          clear H'
          have y0 := H.size
          have y1 := H.c0
          have y2 := H.c1
          have y3 := H.c2
          have y4 := H.c3
          have y5 := H.c4
          have y6 := H.c5
          go_wp2_with fail
          refine (h.next nm o c v3 v4 v5 C u _ H.city HU.out (bf_of HF.out H.below)).mono ?_
          rintro e w1 ⟨rfl, b1⟩
          rw [N2.out]
          simp only [pv]
          have H' := H.next b1
          clear H b1
          clear y0 y1 y2 y3 y4 y5 y6
          have H := H'
          clear H'
          have y0 := H.size
          have y1 := H.c0
          have y2 := H.c1
          have y3 := H.c2
          have y4 := H.c3
          have y5 := H.c4
          have y6 := H.c5
          go_wp2_with fail
          clear y0 y1 y2 y3 y4 y5 y6
          go_loopw [13] (fun i wr => LRel t u w nm o c v3 v4 v5 C i wr) (fun i _ => (u - intOf i).toNat)
          case atStart => exact ⟨t, Int.le_refl _, by omega, rfl, H⟩
          case round =>
            clear H
            obtain ⟨k, k1, k2, rfl, H⟩ := hrel
            have y0 := H.size
            have y1 := H.c0
            have y2 := H.c1
            have y3 := H.c2
            have y4 := H.c3
            have y5 := H.c4
            have y6 := H.c5
            by_cases kk : k < u
            · have O1 : Hid (openV C k = (false, 0)) := NO.out k k1 kk
              have HK : Hid (I64 k) := small_I64 (by omega) (by omega)
              go_wp2_with fail
              refine (h.isOpen nm o c v3 v4 v5 C k _ H.city HK.out (bf_of HF.out H.below)).mono ?_
              rintro e w1 ⟨rfl, b1⟩
              rw [O1.out]
              simp only [bv]
              have H' := H.next b1
              clear H b1
              clear y0 y1 y2 y3 y4 y5 y6
              have H := H'
              clear H'
              have y0 := H.size
              have y1 := H.c0
              have y2 := H.c1
              have y3 := H.c2
              have y4 := H.c3
              have y5 := H.c4
              have y6 := H.c5
              go_wp2_with fail
              go_roundw
              case rel => exact ⟨k + 1, by omega, by omega, rfl, H⟩
              case measure => simp [intOf]; omega
            · have hbl := H.below
              go_wp2_with fail
              go_ret
              exact ⟨by try rfl, hbl⟩
      · have N := Lib.hid n1
        have NO0 : ∀ s, t ≤ s → s ≤ t + 400 → s ≤ 100000 → openV C s = (false, 0) := fun s h1 h2 h3 => by
          have hv : valid s = true := valid_yes (by omega) (by omega)
          rw [openV_of hv, n2 V'.out s h1 h2]
        clear n1 n2
        rcases (show t + 400 ≤ 100000 ∨ ¬ t + 400 ≤ 100000 by omega) with cap | cap
        · have NO : Hid (∀ s, t ≤ s → s < t + 400 + 1 → openV C s = (false, 0)) := fun s h1 h2 => NO0 s h1 (by omega) (by omega)
          clear NO0
          go_enter Tryd.func6, Tryd.ntmps6
          have H := BxI.start (nm := nm) (o := o) (c := c) hC.out 24
          go_wp2_with fail
          refine (small_x h _ (bf_of HF.out H.below)).mono ?_
          rintro e w1 ⟨rfl, b1⟩
          have H' := H.next b1
          clear H b1
          have H := H'
          clear H'
          have y0 := H.size
          have y1 := H.c0
          have y2 := H.c1
          have y3 := H.c2
          have y4 := H.c3
          have y5 := H.c4
          have y6 := H.c5
          go_wp2_with fail
          refine (few_i nm o c v3 v4 v5 C _ H.city).mono ?_
          rintro e w1 ⟨rfl, b1⟩
          rw [F'.out]
          have H' := (H.next b1).short F'.out
          clear H b1
          clear y0 y1 y2 y3 y4 y5 y6
          have H := H'
          clear H'
          have y0 := H.size
          have y1 := H.c0
          have y2 := H.c1
          have y3 := H.c2
          have y4 := H.c3
          have y5 := H.c4
          have y6 := H.c5
          go_wp2_with fail
          refine (h.next nm o c v3 v4 v5 C t _ H.city HT.out (bf_of HF.out H.below)).mono ?_
          rintro e w1 ⟨rfl, b1⟩
          rw [N.out]
          simp only [pv]
          have H' := H.next b1
          clear H b1
          clear y0 y1 y2 y3 y4 y5 y6
          have H := H'
          clear H'
          have y0 := H.size
          have y1 := H.c0
          have y2 := H.c1
          have y3 := H.c2
          have y4 := H.c3
          have y5 := H.c4
          have y6 := H.c5
          go_wp2_with fail
          refine (Valid_x t _).mono ?_
          rintro e w1 ⟨rfl, rfl⟩
          rw [V'.out]
          go_wp2_with fail
          clear y0 y1 y2 y3 y4 y5 y6
          go_loopw [13] (fun i wr => LRel t (t + 400 + 1) w nm o c v3 v4 v5 C i wr) (fun i _ => (t + 400 + 1 - intOf i).toNat)
          case atStart => exact ⟨t, Int.le_refl _, by omega, rfl, H⟩
          case round =>
            clear H
            obtain ⟨k, k1, k2, rfl, H⟩ := hrel
            have y0 := H.size
            have y1 := H.c0
            have y2 := H.c1
            have y3 := H.c2
            have y4 := H.c3
            have y5 := H.c4
            have y6 := H.c5
            by_cases kk : k < t + 400 + 1
            · have O1 : Hid (openV C k = (false, 0)) := NO.out k k1 kk
              have HK : Hid (I64 k) := small_I64 (by omega) (by omega)
              go_wp2_with fail
              refine (h.isOpen nm o c v3 v4 v5 C k _ H.city HK.out (bf_of HF.out H.below)).mono ?_
              rintro e w1 ⟨rfl, b1⟩
              rw [O1.out]
              simp only [bv]
              have H' := H.next b1
              clear H b1
              clear y0 y1 y2 y3 y4 y5 y6
              have H := H'
              clear H'
              have y0 := H.size
              have y1 := H.c0
              have y2 := H.c1
              have y3 := H.c2
              have y4 := H.c3
              have y5 := H.c4
              have y6 := H.c5
              go_wp2_with fail
              go_roundw
              case rel => exact ⟨k + 1, by omega, by omega, rfl, H⟩
              case measure => simp [intOf]; omega
            · have hbl := H.below
              go_wp2_with fail
              go_ret
              exact ⟨by try rfl, hbl⟩
        · have NO : Hid (∀ s, t ≤ s → s < 100001 → openV C s = (false, 0)) := fun s h1 h2 => NO0 s h1 (by omega) (by omega)
          clear NO0
          go_enter Tryd.func6, Tryd.ntmps6
          have H := BxI.start (nm := nm) (o := o) (c := c) hC.out 24
          go_wp2_with fail
          refine (small_x h _ (bf_of HF.out H.below)).mono ?_
          rintro e w1 ⟨rfl, b1⟩
          have H' := H.next b1
          clear H b1
          have H := H'
          clear H'
          have y0 := H.size
          have y1 := H.c0
          have y2 := H.c1
          have y3 := H.c2
          have y4 := H.c3
          have y5 := H.c4
          have y6 := H.c5
          go_wp2_with fail
          refine (few_i nm o c v3 v4 v5 C _ H.city).mono ?_
          rintro e w1 ⟨rfl, b1⟩
          rw [F'.out]
          have H' := (H.next b1).short F'.out
          clear H b1
          clear y0 y1 y2 y3 y4 y5 y6
          have H := H'
          clear H'
          have y0 := H.size
          have y1 := H.c0
          have y2 := H.c1
          have y3 := H.c2
          have y4 := H.c3
          have y5 := H.c4
          have y6 := H.c5
          go_wp2_with fail
          refine (h.next nm o c v3 v4 v5 C t _ H.city HT.out (bf_of HF.out H.below)).mono ?_
          rintro e w1 ⟨rfl, b1⟩
          rw [N.out]
          simp only [pv]
          have H' := H.next b1
          clear H b1
          clear y0 y1 y2 y3 y4 y5 y6
          have H := H'
          clear H'
          have y0 := H.size
          have y1 := H.c0
          have y2 := H.c1
          have y3 := H.c2
          have y4 := H.c3
          have y5 := H.c4
          have y6 := H.c5
          go_wp2_with fail
          refine (Valid_x t _).mono ?_
          rintro e w1 ⟨rfl, rfl⟩
          rw [V'.out]
          go_wp2_with fail
          clear y0 y1 y2 y3 y4 y5 y6
          go_loopw [13] (fun i wr => LRel t (100001) w nm o c v3 v4 v5 C i wr) (fun i _ => (100001 - intOf i).toNat)
          case atStart => exact ⟨t, Int.le_refl _, by omega, rfl, H⟩
          case round =>
            clear H
            obtain ⟨k, k1, k2, rfl, H⟩ := hrel
            have y0 := H.size
            have y1 := H.c0
            have y2 := H.c1
            have y3 := H.c2
            have y4 := H.c3
            have y5 := H.c4
            have y6 := H.c5
            by_cases kk : k < 100001
            · have O1 : Hid (openV C k = (false, 0)) := NO.out k k1 kk
              have HK : Hid (I64 k) := small_I64 (by omega) (by omega)
              go_wp2_with fail
              refine (h.isOpen nm o c v3 v4 v5 C k _ H.city HK.out (bf_of HF.out H.below)).mono ?_
              rintro e w1 ⟨rfl, b1⟩
              rw [O1.out]
              simp only [bv]
              have H' := H.next b1
              clear H b1
              clear y0 y1 y2 y3 y4 y5 y6
              have H := H'
              clear H'
              have y0 := H.size
              have y1 := H.c0
              have y2 := H.c1
              have y3 := H.c2
              have y4 := H.c3
              have y5 := H.c4
              have y6 := H.c5
              go_wp2_with fail
              go_roundw
              case rel => exact ⟨k + 1, by omega, by omega, rfl, H⟩
              case measure => simp [intOf]; omega
            · have hbl := H.below
              go_wp2_with fail
              go_ret
              exact ⟨by try rfl, hbl⟩

end Go.Proofs.YtmlelmknbddkjaaDoor
