/-
  The examples (small) and the test of short lists (few), given the program's contracts.
-/
import Derived.Test.YtmlelmknbddkjaaDoorLawA
namespace Go.Proofs.YtmlelmknbddkjaaDoor
open Go.RowKit

set_option maxHeartbeats 1600000 in
set_option maxRecDepth 100000 in
theorem small_x (h : CalOk) (w : World) (hbf : Bf w) : Calls Tryd.prog 9 #[] w fun e w' => e = .returned (.bool true) ∧ Below w.heap.size w w' := by
  have HW := Lib.hid hbf
  clear hbf
  go_enter Tryd.func9, Tryd.ntmps9
  go_wp2_with fail
  refine (h.date 59 _ (small_I64 (by omega) (by omega)) HW.out).mono ?_
  rintro e w1 ⟨rfl, b1⟩
  rw [ex_date]
  simp only [dv]
  go_wp2_with fail
  refine (h.weekday 59 _ (small_I64 (by omega) (by omega)) (bf_of HW.out b1)).mono ?_
  rintro e w2 ⟨rfl, b2⟩
  rw [ex_weekday]
  simp only [pv]
  have c2 := chain b1 b2
  clear b1 b2
  go_wp2_with fail
  refine (h.addM 30 1 _ (small_I64 (by omega) (by omega)) (small_I64 (by omega) (by omega)) (bf_of HW.out c2)).mono ?_
  rintro e w3 ⟨rfl, b3⟩
  rw [ex_one]
  simp only [pv]
  have c3 := chain c2 b3
  clear c2 b3
  go_wp2_with fail
  refine (h.addM 30 2 _ (small_I64 (by omega) (by omega)) (small_I64 (by omega) (by omega)) (bf_of HW.out c3)).mono ?_
  rintro e w4 ⟨rfl, b4⟩
  rw [ex_two]
  simp only [pv]
  have c4 := chain c3 b4
  clear c3 b4
  go_wp2_with fail
  have I1 : Ints (w4.alloc (.cells #[.int .i64 5, .int .i64 6] 3)) (.slice (some ⟨w4.heap.size, 0, none⟩) 2 2) [5, 6] := Ints.new w4 [5, 6] _ 2 _ rfl
  have I2 : Ints ((w4.alloc (.cells #[.int .i64 5, .int .i64 6] 3)).alloc (.cells #[.int .i64 101] 3)) (.slice (some ⟨w4.heap.size + 1, 0, none⟩) 1 1) [101] := Ints.new _ [101] _ 1 _ (by simp)
  have H := Bx6.start (nm := ⟨#[]⟩) (o := 0) (c := 0) (C := ⟨[5, 6], [101], []⟩) ⟨I1.alloc _, I2, Ints.nil _, by decide, by decide, by decide, by simp [I64]⟩ 24
  clear I1 I2
  have c5 : Below w.heap.size w ((w4.alloc (.cells #[.int .i64 5, .int .i64 6] 3)).alloc (.cells #[.int .i64 101] 3)) := (c4.alloc c4.size _).alloc (by have := c4.size; simp; omega) _
  have hn : ((w4.alloc (.cells #[.int .i64 5, .int .i64 6] 3)).alloc (.cells #[.int .i64 101] 3)).heap.size = w4.heap.size + 1 + 1 := by simp
  clear c4
  go_wp2_with fail
  refine (h.next ⟨#[]⟩ 0 0 (.slice (some ⟨w4.heap.size, 0, none⟩) 2 2) (.slice (some ⟨w4.heap.size + 1, 0, none⟩) 1 1) (.slice none 0 0) ⟨[5, 6], [101], []⟩ 0 _ H.city (small_I64 (by omega) (by omega)) (bf_of HW.out (chain c5 H.below))).mono ?_
  rintro e w5 ⟨rfl, b1⟩
  rw [ex_next]
  simp only [pv]
  have H' := H.next b1
  clear H b1
  have H := H'
  clear H'
  have y0 := H.size
  have y1 := H.c0
  have y2 := H.c1
  have y3 := H.c2
  have y4 := H.c3
  have y5 := H.c4
  have y6 := H.c5
  rw [hn] at y0 y1 y2 y3 y4 y5 y6
  go_wp2_with fail
  refine (h.plus ⟨#[]⟩ 0 0 (.slice (some ⟨w4.heap.size, 0, none⟩) 2 2) (.slice (some ⟨w4.heap.size + 1, 0, none⟩) 1 1) (.slice none 0 0) ⟨[5, 6], [101], []⟩ 0 5 _ H.city (small_I64 (by omega) (by omega)) (small_I64 (by omega) (by omega)) (bf_of HW.out (chain c5 H.below))).mono ?_
  rintro e w6 ⟨rfl, b1⟩
  rw [ex_plus]
  simp only [pv]
  have H' := H.next b1
  clear H b1
  have H := H'
  clear H'
  clear y0 y1 y2 y3 y4 y5 y6
  have y0 := H.size
  have y1 := H.c0
  have y2 := H.c1
  have y3 := H.c2
  have y4 := H.c3
  have y5 := H.c4
  have y6 := H.c5
  rw [hn] at y0 y1 y2 y3 y4 y5 y6
  go_wp2_with fail
  refine (h.count ⟨#[]⟩ 0 0 (.slice (some ⟨w4.heap.size, 0, none⟩) 2 2) (.slice (some ⟨w4.heap.size + 1, 0, none⟩) 1 1) (.slice none 0 0) ⟨[5, 6], [101], []⟩ 0 8 _ H.city (small_I64 (by omega) (by omega)) (small_I64 (by omega) (by omega)) (bf_of HW.out (chain c5 H.below))).mono ?_
  rintro e w7 ⟨rfl, b1⟩
  rw [ex_count]
  simp only [pv]
  have H' := H.next b1
  clear H b1
  have H := H'
  clear H'
  clear y0 y1 y2 y3 y4 y5 y6
  have c7 := chain c5 H.below
  clear H c5
  go_wp2_with fail
  refine (h.day 2001 2 29 _ (small_I64 (by omega) (by omega)) (small_I64 (by omega) (by omega)) (small_I64 (by omega) (by omega)) (bf_of HW.out c7)).mono ?_
  rintro e w8 ⟨rfl, b8⟩
  rw [ex_day]
  simp only [pv]
  have c8 := chain c7 b8
  clear c7 b8
  go_wp2_with fail
  have I1 : Ints (w8.alloc (.cells #[.int .i64 0, .int .i64 1, .int .i64 2, .int .i64 3, .int .i64 4, .int .i64 5, .int .i64 6] 3)) (.slice (some ⟨w8.heap.size, 0, none⟩) 7 7) [0, 1, 2, 3, 4, 5, 6] := Ints.new w8 [0, 1, 2, 3, 4, 5, 6] _ 7 _ rfl
  refine (h.next ⟨#[]⟩ 0 0 (.slice (some ⟨w8.heap.size, 0, none⟩) 7 7) (.slice none 0 0) (.slice none 0 0) ⟨[0, 1, 2, 3, 4, 5, 6], [], []⟩ 0 _ ⟨I1, Ints.nil _, Ints.nil _, by decide, by decide, by decide, fun _ h => by cases h⟩ (small_I64 (by omega) (by omega)) (bf_of HW.out (c8.alloc c8.size _))).mono ?_
  rintro e w9 ⟨rfl, b9⟩
  rw [ex_none]
  simp only [pv]
  have c9 := chain (c8.alloc c8.size _) b9
  clear c8 b9 I1
  go_wp2_with fail
  go_ret
  exact ⟨by try rfl, c9⟩

/-- are the lists short? -/
def fewB (C : Lists) : Bool := decide (C.r.length ≤ 40) && (decide (C.f.length ≤ 40) && decide (C.s.length ≤ 40))
theorem fewB_iff {C : Lists} : fewB C = true ↔ C.r.length ≤ 40 ∧ C.f.length ≤ 40 ∧ C.s.length ≤ 40 := by unfold fewB; simp
theorem few_x (nm : ByteArray) (o c : Int) (v3 v4 v5 : Value) (C : Lists) (w : World) (h : CityAt w v3 v4 v5 C) :
    Calls Tryd.prog 10 #[cityV nm o c v3 v4 v5] w fun e w' => e = .returned (.bool (fewB C)) ∧ Below w.heap.size w w' := by
  obtain ⟨r, f, s, -, -, -⟩ := h
  obtain ⟨ar, cr, rfl, -⟩ := r
  obtain ⟨af, cf, rfl, -⟩ := f
  obtain ⟨a5, cs, rfl, -⟩ := s
  have hv : Hid (fewB C = (decide ((C.r.length : Int) ≤ 40) && (decide ((C.f.length : Int) ≤ 40) && decide ((C.s.length : Int) ≤ 40)))) := by
    show _ = _
    unfold fewB
    congr 1
    · simp; omega
    · congr 1 <;> (simp; omega)
  obtain ⟨g1, h1⟩ : ∃ g, decide ((C.r.length : Int) ≤ 40) = g := ⟨_, rfl⟩
  obtain ⟨g2, h2⟩ : ∃ g, decide ((C.f.length : Int) ≤ 40) = g := ⟨_, rfl⟩
  obtain ⟨g3, h3⟩ : ∃ g, decide ((C.s.length : Int) ≤ 40) = g := ⟨_, rfl⟩
  rw [h1, h2, h3] at hv
  cases g1 <;> cases g2 <;> cases g3
  all_goals
    go_enter Tryd.func10, Tryd.ntmps10
    go_wp2_with fail
    go_ret
    exact ⟨by rw [hv.out]; try rfl, (Below.refl _ _).alloc (Nat.le_refl _) _⟩

end Go.Proofs.YtmlelmknbddkjaaDoor
