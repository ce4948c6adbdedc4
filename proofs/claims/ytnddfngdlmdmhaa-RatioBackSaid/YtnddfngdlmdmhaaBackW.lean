/-
  The law RatioBack's walk.
-/
import Derived.Test.YtnddfngdlmdmhaaSane
namespace Go.Proofs.Ytnddfngdlmdmhaa
open Go.RowKit

set_option maxHeartbeats 6400000 in
set_option maxRecDepth 100000 in
theorem RatioBack_x (h : RatioOk) (a b : Rt.R) (w : World) (ha : In a) (hb : In b) :
    Calls Try.prog 5 #[.agg #[.int .i64 a.n, .int .i64 a.d], .agg #[.int .i64 b.n, .int .i64 b.d]] w fun e w' => e = .returned (.bool true) ∧ Below w.heap.size w w' := by
  rcases back_ways a b with ⟨r1, r2, h1, h2⟩ | ⟨hn, r1, h1, h2⟩
  · have R1 := Lib.hid r1
    have R2 := Lib.hid r2
    clear r1 r2
    rcases h1 with ⟨s, e1, hs, rs, e3⟩ | e1
    · have E1 := Lib.hid e1
      clear e1
      have RS := Lib.hid rs
      have E3 := Lib.hid e3
      clear rs e3
      rcases h2 with ⟨p, e2, hp, rp, n0, e4⟩ | ⟨p, e2, hp, n0⟩ | e2
      · have E2 := Lib.hid e2
        clear e2
        have RP := Lib.hid rp
        have E4 := Lib.hid e4
        clear rp e4
        go_enter Try.func5, Try.ntmps5
        go_wp2_with fail
        refine (sane_x h _).mono ?_
        rintro e w1 ⟨rfl, b1⟩
        have A1 := ((At.new w a _ _ rfl).alloc _).below b1
        have B1 := (At.new (w.alloc _) b _ (w.heap.size + 1) (by simp)).below b1
        have c1 := chain (((Below.refl w.heap.size w).alloc (Nat.le_refl _) _).alloc (by simp) _) b1
        clear b1
        obtain ⟨sa, pa, qa⟩ := id A1
        obtain ⟨sb, pb, qb⟩ := id B1
        go_wp2_with fail
        refine (h.add a b _ ha hb).mono ?_
        rintro e w2 ⟨rfl, b2⟩
        rw [E1.out]
        simp only [rok]
        have A2 : At w2 w.heap.size a := by first | exact A1.below b2 | exact (A1.alloc _).below b2 | exact ((A1.alloc _).alloc _).below b2
        have B2 : At w2 (w.heap.size + 1) b := by first | exact B1.below b2 | exact (B1.alloc _).below b2 | exact ((B1.alloc _).alloc _).below b2
        have c2 : Below w.heap.size w w2 := by have z := c1.size; first | exact chain c1 b2 | exact chain (c1.alloc z _) b2 | exact chain ((c1.alloc z _).alloc (by simp; omega) _) b2
        clear b2 c1 A1 B1
        clear sa pa qa sb pb qb
        obtain ⟨sa, pa, qa⟩ := id A2
        obtain ⟨sb, pb, qb⟩ := id B2
        go_wp2_with fail
        refine (h.mul a b _ ha hb).mono ?_
        rintro e w3 ⟨rfl, b3⟩
        rw [E2.out]
        simp only [rok]
        have A3 : At w3 w.heap.size a := by first | exact A2.below b3 | exact (A2.alloc _).below b3 | exact ((A2.alloc _).alloc _).below b3
        have B3 : At w3 (w.heap.size + 1) b := by first | exact B2.below b3 | exact (B2.alloc _).below b3 | exact ((B2.alloc _).alloc _).below b3
        have S3 : At w3 w2.heap.size s := by first | exact (At.new w2 s _ _ rfl).below b3 | exact ((At.new w2 s _ _ rfl).alloc _).below b3
        have c3 : Below w.heap.size w w3 := by have z := c2.size; first | exact chain c2 b3 | exact chain (c2.alloc z _) b3 | exact chain ((c2.alloc z _).alloc (by simp; omega) _) b3
        clear b3 c2 A2 B2
        clear sa pa qa sb pb qb
        obtain ⟨sa, pa, qa⟩ := id A3
        obtain ⟨sb, pb, qb⟩ := id B3
        obtain ⟨ss, ps, qs⟩ := id S3
        go_wp2_with fail
        refine (h.right a _ ha).mono ?_
        rintro e w4 ⟨rfl, b4⟩
        rw [R1.out]
        have A4 : At w4 w.heap.size a := by first | exact A3.below b4 | exact (A3.alloc _).below b4 | exact ((A3.alloc _).alloc _).below b4
        have B4 : At w4 (w.heap.size + 1) b := by first | exact B3.below b4 | exact (B3.alloc _).below b4 | exact ((B3.alloc _).alloc _).below b4
        have S4 : At w4 w2.heap.size s := by first | exact S3.below b4 | exact (S3.alloc _).below b4 | exact ((S3.alloc _).alloc _).below b4
        have P4 : At w4 w3.heap.size p := by first | exact (At.new w3 p _ _ rfl).below b4 | exact ((At.new w3 p _ _ rfl).alloc _).below b4
        have c4 : Below w.heap.size w w4 := by have z := c3.size; first | exact chain c3 b4 | exact chain (c3.alloc z _) b4 | exact chain ((c3.alloc z _).alloc (by simp; omega) _) b4
        clear b4 c3 A3 B3 S3
        clear sa pa qa sb pb qb ss ps qs
        obtain ⟨sa, pa, qa⟩ := id A4
        obtain ⟨sb, pb, qb⟩ := id B4
        obtain ⟨ss, ps, qs⟩ := id S4
        obtain ⟨sp, pp, qp⟩ := id P4
        go_wp2_with fail
        refine (h.right b _ hb).mono ?_
        rintro e w5 ⟨rfl, b5⟩
        rw [R2.out]
        have A5 : At w5 w.heap.size a := by first | exact A4.below b5 | exact (A4.alloc _).below b5 | exact ((A4.alloc _).alloc _).below b5
        have B5 : At w5 (w.heap.size + 1) b := by first | exact B4.below b5 | exact (B4.alloc _).below b5 | exact ((B4.alloc _).alloc _).below b5
        have S5 : At w5 w2.heap.size s := by first | exact S4.below b5 | exact (S4.alloc _).below b5 | exact ((S4.alloc _).alloc _).below b5
        have P5 : At w5 w3.heap.size p := by first | exact P4.below b5 | exact (P4.alloc _).below b5 | exact ((P4.alloc _).alloc _).below b5
        have c5 : Below w.heap.size w w5 := by have z := c4.size; first | exact chain c4 b5 | exact chain (c4.alloc z _) b5 | exact chain ((c4.alloc z _).alloc (by simp; omega) _) b5
        clear b5 c4 A4 B4 S4 P4
        clear sa pa qa sb pb qb ss ps qs sp pp qp
        obtain ⟨sa, pa, qa⟩ := id A5
        obtain ⟨sb, pb, qb⟩ := id B5
        obtain ⟨ss, ps, qs⟩ := id S5
        obtain ⟨sp, pp, qp⟩ := id P5
        go_wp2_with fail
        refine (h.sub s b _ hs hb).mono ?_
        rintro e w6 ⟨rfl, b6⟩
        rw [E3.out]
        simp only [rok]
        have A6 : At w6 w.heap.size a := by first | exact A5.below b6 | exact (A5.alloc _).below b6 | exact ((A5.alloc _).alloc _).below b6
        have B6 : At w6 (w.heap.size + 1) b := by first | exact B5.below b6 | exact (B5.alloc _).below b6 | exact ((B5.alloc _).alloc _).below b6
        have S6 : At w6 w2.heap.size s := by first | exact S5.below b6 | exact (S5.alloc _).below b6 | exact ((S5.alloc _).alloc _).below b6
        have P6 : At w6 w3.heap.size p := by first | exact P5.below b6 | exact (P5.alloc _).below b6 | exact ((P5.alloc _).alloc _).below b6
        have c6 : Below w.heap.size w w6 := by have z := c5.size; first | exact chain c5 b6 | exact chain (c5.alloc z _) b6 | exact chain ((c5.alloc z _).alloc (by simp; omega) _) b6
        clear b6 c5 A5 B5 S5 P5
        clear sa pa qa sb pb qb ss ps qs sp pp qp
        obtain ⟨sa, pa, qa⟩ := id A6
        obtain ⟨sb, pb, qb⟩ := id B6
        obtain ⟨ss, ps, qs⟩ := id S6
        obtain ⟨sp, pp, qp⟩ := id P6
        go_wp2_with fail
        refine (h.right s _ hs).mono ?_
        rintro e w7 ⟨rfl, b7⟩
        rw [RS.out]
        have A7 : At w7 w.heap.size a := by first | exact A6.below b7 | exact (A6.alloc _).below b7 | exact ((A6.alloc _).alloc _).below b7
        have B7 : At w7 (w.heap.size + 1) b := by first | exact B6.below b7 | exact (B6.alloc _).below b7 | exact ((B6.alloc _).alloc _).below b7
        have S7 : At w7 w2.heap.size s := by first | exact S6.below b7 | exact (S6.alloc _).below b7 | exact ((S6.alloc _).alloc _).below b7
        have P7 : At w7 w3.heap.size p := by first | exact P6.below b7 | exact (P6.alloc _).below b7 | exact ((P6.alloc _).alloc _).below b7
        have X7 : At w7 w6.heap.size a := by first | exact (At.new w6 a _ _ rfl).below b7 | exact ((At.new w6 a _ _ rfl).alloc _).below b7
        have c7 : Below w.heap.size w w7 := by have z := c6.size; first | exact chain c6 b7 | exact chain (c6.alloc z _) b7 | exact chain ((c6.alloc z _).alloc (by simp; omega) _) b7
        clear b7 c6 A6 B6 S6 P6
        clear sa pa qa sb pb qb ss ps qs sp pp qp
        obtain ⟨sa, pa, qa⟩ := id A7
        obtain ⟨sb, pb, qb⟩ := id B7
        obtain ⟨ss, ps, qs⟩ := id S7
        obtain ⟨sp, pp, qp⟩ := id P7
        obtain ⟨sx, px, qx⟩ := id X7
        go_wp2_with fail
        refine (h.div p b _ hp hb).mono ?_
        rintro e w8 ⟨rfl, b8⟩
        rw [E4.out]
        simp only [rok]
        have A8 : At w8 w.heap.size a := by first | exact A7.below b8 | exact (A7.alloc _).below b8 | exact ((A7.alloc _).alloc _).below b8
        have B8 : At w8 (w.heap.size + 1) b := by first | exact B7.below b8 | exact (B7.alloc _).below b8 | exact ((B7.alloc _).alloc _).below b8
        have S8 : At w8 w2.heap.size s := by first | exact S7.below b8 | exact (S7.alloc _).below b8 | exact ((S7.alloc _).alloc _).below b8
        have P8 : At w8 w3.heap.size p := by first | exact P7.below b8 | exact (P7.alloc _).below b8 | exact ((P7.alloc _).alloc _).below b8
        have X8 : At w8 w6.heap.size a := by first | exact X7.below b8 | exact (X7.alloc _).below b8 | exact ((X7.alloc _).alloc _).below b8
        have c8 : Below w.heap.size w w8 := by have z := c7.size; first | exact chain c7 b8 | exact chain (c7.alloc z _) b8 | exact chain ((c7.alloc z _).alloc (by simp; omega) _) b8
        clear b8 c7 A7 B7 S7 P7 X7
        clear sa pa qa sb pb qb ss ps qs sp pp qp sx px qx
        obtain ⟨sa, pa, qa⟩ := id A8
        obtain ⟨sb, pb, qb⟩ := id B8
        obtain ⟨ss, ps, qs⟩ := id S8
        obtain ⟨sp, pp, qp⟩ := id P8
        obtain ⟨sx, px, qx⟩ := id X8
        go_wp2_with fail
        refine (h.right p _ hp).mono ?_
        rintro e w9 ⟨rfl, b9⟩
        rw [RP.out]
        have A9 : At w9 w.heap.size a := by first | exact A8.below b9 | exact (A8.alloc _).below b9 | exact ((A8.alloc _).alloc _).below b9
        have B9 : At w9 (w.heap.size + 1) b := by first | exact B8.below b9 | exact (B8.alloc _).below b9 | exact ((B8.alloc _).alloc _).below b9
        have S9 : At w9 w2.heap.size s := by first | exact S8.below b9 | exact (S8.alloc _).below b9 | exact ((S8.alloc _).alloc _).below b9
        have P9 : At w9 w3.heap.size p := by first | exact P8.below b9 | exact (P8.alloc _).below b9 | exact ((P8.alloc _).alloc _).below b9
        have X9 : At w9 w6.heap.size a := by first | exact X8.below b9 | exact (X8.alloc _).below b9 | exact ((X8.alloc _).alloc _).below b9
        have Y9 : At w9 w8.heap.size a := by first | exact (At.new w8 a _ _ rfl).below b9 | exact ((At.new w8 a _ _ rfl).alloc _).below b9
        have c9 : Below w.heap.size w w9 := by have z := c8.size; first | exact chain c8 b9 | exact chain (c8.alloc z _) b9 | exact chain ((c8.alloc z _).alloc (by simp; omega) _) b9
        clear b9 c8 A8 B8 S8 P8 X8
        clear sa pa qa sb pb qb ss ps qs sp pp qp sx px qx
        obtain ⟨sa, pa, qa⟩ := id A9
        obtain ⟨sb, pb, qb⟩ := id B9
        obtain ⟨ss, ps, qs⟩ := id S9
        obtain ⟨sp, pp, qp⟩ := id P9
        obtain ⟨sx, px, qx⟩ := id X9
        obtain ⟨sy, py, qy⟩ := id Y9
        go_wp2_with fail
        go_ret
        have z := c9.size
        first | exact ⟨rfl, c9⟩ | exact ⟨rfl, c9.alloc z _⟩ | exact ⟨rfl, (c9.alloc z _).alloc (by simp; omega) _⟩
      · have E2 := Lib.hid e2
        clear e2
        go_enter Try.func5, Try.ntmps5
        go_wp2_with fail
        refine (sane_x h _).mono ?_
        rintro e w1 ⟨rfl, b1⟩
        have A1 := ((At.new w a _ _ rfl).alloc _).below b1
        have B1 := (At.new (w.alloc _) b _ (w.heap.size + 1) (by simp)).below b1
        have c1 := chain (((Below.refl w.heap.size w).alloc (Nat.le_refl _) _).alloc (by simp) _) b1
        clear b1
        obtain ⟨sa, pa, qa⟩ := id A1
        obtain ⟨sb, pb, qb⟩ := id B1
        go_wp2_with fail
        refine (h.add a b _ ha hb).mono ?_
        rintro e w2 ⟨rfl, b2⟩
        rw [E1.out]
        simp only [rok]
        have A2 : At w2 w.heap.size a := by first | exact A1.below b2 | exact (A1.alloc _).below b2 | exact ((A1.alloc _).alloc _).below b2
        have B2 : At w2 (w.heap.size + 1) b := by first | exact B1.below b2 | exact (B1.alloc _).below b2 | exact ((B1.alloc _).alloc _).below b2
        have c2 : Below w.heap.size w w2 := by have z := c1.size; first | exact chain c1 b2 | exact chain (c1.alloc z _) b2 | exact chain ((c1.alloc z _).alloc (by simp; omega) _) b2
        clear b2 c1 A1 B1
        clear sa pa qa sb pb qb
        obtain ⟨sa, pa, qa⟩ := id A2
        obtain ⟨sb, pb, qb⟩ := id B2
        go_wp2_with fail
        refine (h.mul a b _ ha hb).mono ?_
        rintro e w3 ⟨rfl, b3⟩
        rw [E2.out]
        simp only [rok]
        have A3 : At w3 w.heap.size a := by first | exact A2.below b3 | exact (A2.alloc _).below b3 | exact ((A2.alloc _).alloc _).below b3
        have B3 : At w3 (w.heap.size + 1) b := by first | exact B2.below b3 | exact (B2.alloc _).below b3 | exact ((B2.alloc _).alloc _).below b3
        have S3 : At w3 w2.heap.size s := by first | exact (At.new w2 s _ _ rfl).below b3 | exact ((At.new w2 s _ _ rfl).alloc _).below b3
        have c3 : Below w.heap.size w w3 := by have z := c2.size; first | exact chain c2 b3 | exact chain (c2.alloc z _) b3 | exact chain ((c2.alloc z _).alloc (by simp; omega) _) b3
        clear b3 c2 A2 B2
        clear sa pa qa sb pb qb
        obtain ⟨sa, pa, qa⟩ := id A3
        obtain ⟨sb, pb, qb⟩ := id B3
        obtain ⟨ss, ps, qs⟩ := id S3
        go_wp2_with fail
        refine (h.right a _ ha).mono ?_
        rintro e w4 ⟨rfl, b4⟩
        rw [R1.out]
        have A4 : At w4 w.heap.size a := by first | exact A3.below b4 | exact (A3.alloc _).below b4 | exact ((A3.alloc _).alloc _).below b4
        have B4 : At w4 (w.heap.size + 1) b := by first | exact B3.below b4 | exact (B3.alloc _).below b4 | exact ((B3.alloc _).alloc _).below b4
        have S4 : At w4 w2.heap.size s := by first | exact S3.below b4 | exact (S3.alloc _).below b4 | exact ((S3.alloc _).alloc _).below b4
        have P4 : At w4 w3.heap.size p := by first | exact (At.new w3 p _ _ rfl).below b4 | exact ((At.new w3 p _ _ rfl).alloc _).below b4
        have c4 : Below w.heap.size w w4 := by have z := c3.size; first | exact chain c3 b4 | exact chain (c3.alloc z _) b4 | exact chain ((c3.alloc z _).alloc (by simp; omega) _) b4
        clear b4 c3 A3 B3 S3
        clear sa pa qa sb pb qb ss ps qs
        obtain ⟨sa, pa, qa⟩ := id A4
        obtain ⟨sb, pb, qb⟩ := id B4
        obtain ⟨ss, ps, qs⟩ := id S4
        obtain ⟨sp, pp, qp⟩ := id P4
        go_wp2_with fail
        refine (h.right b _ hb).mono ?_
        rintro e w5 ⟨rfl, b5⟩
        rw [R2.out]
        have A5 : At w5 w.heap.size a := by first | exact A4.below b5 | exact (A4.alloc _).below b5 | exact ((A4.alloc _).alloc _).below b5
        have B5 : At w5 (w.heap.size + 1) b := by first | exact B4.below b5 | exact (B4.alloc _).below b5 | exact ((B4.alloc _).alloc _).below b5
        have S5 : At w5 w2.heap.size s := by first | exact S4.below b5 | exact (S4.alloc _).below b5 | exact ((S4.alloc _).alloc _).below b5
        have P5 : At w5 w3.heap.size p := by first | exact P4.below b5 | exact (P4.alloc _).below b5 | exact ((P4.alloc _).alloc _).below b5
        have c5 : Below w.heap.size w w5 := by have z := c4.size; first | exact chain c4 b5 | exact chain (c4.alloc z _) b5 | exact chain ((c4.alloc z _).alloc (by simp; omega) _) b5
        clear b5 c4 A4 B4 S4 P4
        clear sa pa qa sb pb qb ss ps qs sp pp qp
        obtain ⟨sa, pa, qa⟩ := id A5
        obtain ⟨sb, pb, qb⟩ := id B5
        obtain ⟨ss, ps, qs⟩ := id S5
        obtain ⟨sp, pp, qp⟩ := id P5
        go_wp2_with fail
        refine (h.sub s b _ hs hb).mono ?_
        rintro e w6 ⟨rfl, b6⟩
        rw [E3.out]
        simp only [rok]
        have A6 : At w6 w.heap.size a := by first | exact A5.below b6 | exact (A5.alloc _).below b6 | exact ((A5.alloc _).alloc _).below b6
        have B6 : At w6 (w.heap.size + 1) b := by first | exact B5.below b6 | exact (B5.alloc _).below b6 | exact ((B5.alloc _).alloc _).below b6
        have S6 : At w6 w2.heap.size s := by first | exact S5.below b6 | exact (S5.alloc _).below b6 | exact ((S5.alloc _).alloc _).below b6
        have P6 : At w6 w3.heap.size p := by first | exact P5.below b6 | exact (P5.alloc _).below b6 | exact ((P5.alloc _).alloc _).below b6
        have c6 : Below w.heap.size w w6 := by have z := c5.size; first | exact chain c5 b6 | exact chain (c5.alloc z _) b6 | exact chain ((c5.alloc z _).alloc (by simp; omega) _) b6
        clear b6 c5 A5 B5 S5 P5
        clear sa pa qa sb pb qb ss ps qs sp pp qp
        obtain ⟨sa, pa, qa⟩ := id A6
        obtain ⟨sb, pb, qb⟩ := id B6
        obtain ⟨ss, ps, qs⟩ := id S6
        obtain ⟨sp, pp, qp⟩ := id P6
        go_wp2_with fail
        refine (h.right s _ hs).mono ?_
        rintro e w7 ⟨rfl, b7⟩
        rw [RS.out]
        have A7 : At w7 w.heap.size a := by first | exact A6.below b7 | exact (A6.alloc _).below b7 | exact ((A6.alloc _).alloc _).below b7
        have B7 : At w7 (w.heap.size + 1) b := by first | exact B6.below b7 | exact (B6.alloc _).below b7 | exact ((B6.alloc _).alloc _).below b7
        have S7 : At w7 w2.heap.size s := by first | exact S6.below b7 | exact (S6.alloc _).below b7 | exact ((S6.alloc _).alloc _).below b7
        have P7 : At w7 w3.heap.size p := by first | exact P6.below b7 | exact (P6.alloc _).below b7 | exact ((P6.alloc _).alloc _).below b7
        have X7 : At w7 w6.heap.size a := by first | exact (At.new w6 a _ _ rfl).below b7 | exact ((At.new w6 a _ _ rfl).alloc _).below b7
        have c7 : Below w.heap.size w w7 := by have z := c6.size; first | exact chain c6 b7 | exact chain (c6.alloc z _) b7 | exact chain ((c6.alloc z _).alloc (by simp; omega) _) b7
        clear b7 c6 A6 B6 S6 P6
        clear sa pa qa sb pb qb ss ps qs sp pp qp
        obtain ⟨sa, pa, qa⟩ := id A7
        obtain ⟨sb, pb, qb⟩ := id B7
        obtain ⟨ss, ps, qs⟩ := id S7
        obtain ⟨sp, pp, qp⟩ := id P7
        obtain ⟨sx, px, qx⟩ := id X7
        go_wp2_with fail
        go_ret
        have z := c7.size
        first | exact ⟨rfl, c7⟩ | exact ⟨rfl, c7.alloc z _⟩ | exact ⟨rfl, (c7.alloc z _).alloc (by simp; omega) _⟩
      · have E2 := Lib.hid e2
        clear e2
        go_enter Try.func5, Try.ntmps5
        go_wp2_with fail
        refine (sane_x h _).mono ?_
        rintro e w1 ⟨rfl, b1⟩
        have A1 := ((At.new w a _ _ rfl).alloc _).below b1
        have B1 := (At.new (w.alloc _) b _ (w.heap.size + 1) (by simp)).below b1
        have c1 := chain (((Below.refl w.heap.size w).alloc (Nat.le_refl _) _).alloc (by simp) _) b1
        clear b1
        obtain ⟨sa, pa, qa⟩ := id A1
        obtain ⟨sb, pb, qb⟩ := id B1
        go_wp2_with fail
        refine (h.add a b _ ha hb).mono ?_
        rintro e w2 ⟨rfl, b2⟩
        rw [E1.out]
        simp only [rok]
        have A2 : At w2 w.heap.size a := by first | exact A1.below b2 | exact (A1.alloc _).below b2 | exact ((A1.alloc _).alloc _).below b2
        have B2 : At w2 (w.heap.size + 1) b := by first | exact B1.below b2 | exact (B1.alloc _).below b2 | exact ((B1.alloc _).alloc _).below b2
        have c2 : Below w.heap.size w w2 := by have z := c1.size; first | exact chain c1 b2 | exact chain (c1.alloc z _) b2 | exact chain ((c1.alloc z _).alloc (by simp; omega) _) b2
        clear b2 c1 A1 B1
        clear sa pa qa sb pb qb
        obtain ⟨sa, pa, qa⟩ := id A2
        obtain ⟨sb, pb, qb⟩ := id B2
        go_wp2_with fail
        refine (h.mul a b _ ha hb).mono ?_
        rintro e w3 ⟨rfl, b3⟩
        rw [E2.out]
        simp only [rok]
        have A3 : At w3 w.heap.size a := by first | exact A2.below b3 | exact (A2.alloc _).below b3 | exact ((A2.alloc _).alloc _).below b3
        have B3 : At w3 (w.heap.size + 1) b := by first | exact B2.below b3 | exact (B2.alloc _).below b3 | exact ((B2.alloc _).alloc _).below b3
        have S3 : At w3 w2.heap.size s := by first | exact (At.new w2 s _ _ rfl).below b3 | exact ((At.new w2 s _ _ rfl).alloc _).below b3
        have c3 : Below w.heap.size w w3 := by have z := c2.size; first | exact chain c2 b3 | exact chain (c2.alloc z _) b3 | exact chain ((c2.alloc z _).alloc (by simp; omega) _) b3
        clear b3 c2 A2 B2
        clear sa pa qa sb pb qb
        obtain ⟨sa, pa, qa⟩ := id A3
        obtain ⟨sb, pb, qb⟩ := id B3
        obtain ⟨ss, ps, qs⟩ := id S3
        go_wp2_with fail
        refine (h.right a _ ha).mono ?_
        rintro e w4 ⟨rfl, b4⟩
        rw [R1.out]
        have A4 : At w4 w.heap.size a := by first | exact A3.below b4 | exact (A3.alloc _).below b4 | exact ((A3.alloc _).alloc _).below b4
        have B4 : At w4 (w.heap.size + 1) b := by first | exact B3.below b4 | exact (B3.alloc _).below b4 | exact ((B3.alloc _).alloc _).below b4
        have S4 : At w4 w2.heap.size s := by first | exact S3.below b4 | exact (S3.alloc _).below b4 | exact ((S3.alloc _).alloc _).below b4
        have P4 : At w4 w3.heap.size ⟨0, 0⟩ := by first | exact (At.new w3 ⟨0, 0⟩ _ _ rfl).below b4 | exact ((At.new w3 ⟨0, 0⟩ _ _ rfl).alloc _).below b4
        have c4 : Below w.heap.size w w4 := by have z := c3.size; first | exact chain c3 b4 | exact chain (c3.alloc z _) b4 | exact chain ((c3.alloc z _).alloc (by simp; omega) _) b4
        clear b4 c3 A3 B3 S3
        clear sa pa qa sb pb qb ss ps qs
        obtain ⟨sa, pa, qa⟩ := id A4
        obtain ⟨sb, pb, qb⟩ := id B4
        obtain ⟨ss, ps, qs⟩ := id S4
        obtain ⟨sp, pp, qp⟩ := id P4
        go_wp2_with fail
        refine (h.right b _ hb).mono ?_
        rintro e w5 ⟨rfl, b5⟩
        rw [R2.out]
        have A5 : At w5 w.heap.size a := by first | exact A4.below b5 | exact (A4.alloc _).below b5 | exact ((A4.alloc _).alloc _).below b5
        have B5 : At w5 (w.heap.size + 1) b := by first | exact B4.below b5 | exact (B4.alloc _).below b5 | exact ((B4.alloc _).alloc _).below b5
        have S5 : At w5 w2.heap.size s := by first | exact S4.below b5 | exact (S4.alloc _).below b5 | exact ((S4.alloc _).alloc _).below b5
        have P5 : At w5 w3.heap.size ⟨0, 0⟩ := by first | exact P4.below b5 | exact (P4.alloc _).below b5 | exact ((P4.alloc _).alloc _).below b5
        have c5 : Below w.heap.size w w5 := by have z := c4.size; first | exact chain c4 b5 | exact chain (c4.alloc z _) b5 | exact chain ((c4.alloc z _).alloc (by simp; omega) _) b5
        clear b5 c4 A4 B4 S4 P4
        clear sa pa qa sb pb qb ss ps qs sp pp qp
        obtain ⟨sa, pa, qa⟩ := id A5
        obtain ⟨sb, pb, qb⟩ := id B5
        obtain ⟨ss, ps, qs⟩ := id S5
        obtain ⟨sp, pp, qp⟩ := id P5
        go_wp2_with fail
        refine (h.sub s b _ hs hb).mono ?_
        rintro e w6 ⟨rfl, b6⟩
        rw [E3.out]
        simp only [rok]
        have A6 : At w6 w.heap.size a := by first | exact A5.below b6 | exact (A5.alloc _).below b6 | exact ((A5.alloc _).alloc _).below b6
        have B6 : At w6 (w.heap.size + 1) b := by first | exact B5.below b6 | exact (B5.alloc _).below b6 | exact ((B5.alloc _).alloc _).below b6
        have S6 : At w6 w2.heap.size s := by first | exact S5.below b6 | exact (S5.alloc _).below b6 | exact ((S5.alloc _).alloc _).below b6
        have P6 : At w6 w3.heap.size ⟨0, 0⟩ := by first | exact P5.below b6 | exact (P5.alloc _).below b6 | exact ((P5.alloc _).alloc _).below b6
        have c6 : Below w.heap.size w w6 := by have z := c5.size; first | exact chain c5 b6 | exact chain (c5.alloc z _) b6 | exact chain ((c5.alloc z _).alloc (by simp; omega) _) b6
        clear b6 c5 A5 B5 S5 P5
        clear sa pa qa sb pb qb ss ps qs sp pp qp
        obtain ⟨sa, pa, qa⟩ := id A6
        obtain ⟨sb, pb, qb⟩ := id B6
        obtain ⟨ss, ps, qs⟩ := id S6
        obtain ⟨sp, pp, qp⟩ := id P6
        go_wp2_with fail
        refine (h.right s _ hs).mono ?_
        rintro e w7 ⟨rfl, b7⟩
        rw [RS.out]
        have A7 : At w7 w.heap.size a := by first | exact A6.below b7 | exact (A6.alloc _).below b7 | exact ((A6.alloc _).alloc _).below b7
        have B7 : At w7 (w.heap.size + 1) b := by first | exact B6.below b7 | exact (B6.alloc _).below b7 | exact ((B6.alloc _).alloc _).below b7
        have S7 : At w7 w2.heap.size s := by first | exact S6.below b7 | exact (S6.alloc _).below b7 | exact ((S6.alloc _).alloc _).below b7
        have P7 : At w7 w3.heap.size ⟨0, 0⟩ := by first | exact P6.below b7 | exact (P6.alloc _).below b7 | exact ((P6.alloc _).alloc _).below b7
        have X7 : At w7 w6.heap.size a := by first | exact (At.new w6 a _ _ rfl).below b7 | exact ((At.new w6 a _ _ rfl).alloc _).below b7
        have c7 : Below w.heap.size w w7 := by have z := c6.size; first | exact chain c6 b7 | exact chain (c6.alloc z _) b7 | exact chain ((c6.alloc z _).alloc (by simp; omega) _) b7
        clear b7 c6 A6 B6 S6 P6
        clear sa pa qa sb pb qb ss ps qs sp pp qp
        obtain ⟨sa, pa, qa⟩ := id A7
        obtain ⟨sb, pb, qb⟩ := id B7
        obtain ⟨ss, ps, qs⟩ := id S7
        obtain ⟨sp, pp, qp⟩ := id P7
        obtain ⟨sx, px, qx⟩ := id X7
        go_wp2_with fail
        go_ret
        have z := c7.size
        first | exact ⟨rfl, c7⟩ | exact ⟨rfl, c7.alloc z _⟩ | exact ⟨rfl, (c7.alloc z _).alloc (by simp; omega) _⟩
    · have E1 := Lib.hid e1
      clear e1
      rcases h2 with ⟨p, e2, hp, rp, n0, e4⟩ | ⟨p, e2, hp, n0⟩ | e2
      · have E2 := Lib.hid e2
        clear e2
        have RP := Lib.hid rp
        have E4 := Lib.hid e4
        clear rp e4
        go_enter Try.func5, Try.ntmps5
        go_wp2_with fail
        refine (sane_x h _).mono ?_
        rintro e w1 ⟨rfl, b1⟩
        have A1 := ((At.new w a _ _ rfl).alloc _).below b1
        have B1 := (At.new (w.alloc _) b _ (w.heap.size + 1) (by simp)).below b1
        have c1 := chain (((Below.refl w.heap.size w).alloc (Nat.le_refl _) _).alloc (by simp) _) b1
        clear b1
        obtain ⟨sa, pa, qa⟩ := id A1
        obtain ⟨sb, pb, qb⟩ := id B1
        go_wp2_with fail
        refine (h.add a b _ ha hb).mono ?_
        rintro e w2 ⟨rfl, b2⟩
        rw [E1.out]
        simp only [rok]
        have A2 : At w2 w.heap.size a := by first | exact A1.below b2 | exact (A1.alloc _).below b2 | exact ((A1.alloc _).alloc _).below b2
        have B2 : At w2 (w.heap.size + 1) b := by first | exact B1.below b2 | exact (B1.alloc _).below b2 | exact ((B1.alloc _).alloc _).below b2
        have c2 : Below w.heap.size w w2 := by have z := c1.size; first | exact chain c1 b2 | exact chain (c1.alloc z _) b2 | exact chain ((c1.alloc z _).alloc (by simp; omega) _) b2
        clear b2 c1 A1 B1
        clear sa pa qa sb pb qb
        obtain ⟨sa, pa, qa⟩ := id A2
        obtain ⟨sb, pb, qb⟩ := id B2
        go_wp2_with fail
        refine (h.mul a b _ ha hb).mono ?_
        rintro e w3 ⟨rfl, b3⟩
        rw [E2.out]
        simp only [rok]
        have A3 : At w3 w.heap.size a := by first | exact A2.below b3 | exact (A2.alloc _).below b3 | exact ((A2.alloc _).alloc _).below b3
        have B3 : At w3 (w.heap.size + 1) b := by first | exact B2.below b3 | exact (B2.alloc _).below b3 | exact ((B2.alloc _).alloc _).below b3
        have S3 : At w3 w2.heap.size ⟨0, 0⟩ := by first | exact (At.new w2 ⟨0, 0⟩ _ _ rfl).below b3 | exact ((At.new w2 ⟨0, 0⟩ _ _ rfl).alloc _).below b3
        have c3 : Below w.heap.size w w3 := by have z := c2.size; first | exact chain c2 b3 | exact chain (c2.alloc z _) b3 | exact chain ((c2.alloc z _).alloc (by simp; omega) _) b3
        clear b3 c2 A2 B2
        clear sa pa qa sb pb qb
        obtain ⟨sa, pa, qa⟩ := id A3
        obtain ⟨sb, pb, qb⟩ := id B3
        obtain ⟨ss, ps, qs⟩ := id S3
        go_wp2_with fail
        refine (h.right a _ ha).mono ?_
        rintro e w4 ⟨rfl, b4⟩
        rw [R1.out]
        have A4 : At w4 w.heap.size a := by first | exact A3.below b4 | exact (A3.alloc _).below b4 | exact ((A3.alloc _).alloc _).below b4
        have B4 : At w4 (w.heap.size + 1) b := by first | exact B3.below b4 | exact (B3.alloc _).below b4 | exact ((B3.alloc _).alloc _).below b4
        have S4 : At w4 w2.heap.size ⟨0, 0⟩ := by first | exact S3.below b4 | exact (S3.alloc _).below b4 | exact ((S3.alloc _).alloc _).below b4
        have P4 : At w4 w3.heap.size p := by first | exact (At.new w3 p _ _ rfl).below b4 | exact ((At.new w3 p _ _ rfl).alloc _).below b4
        have c4 : Below w.heap.size w w4 := by have z := c3.size; first | exact chain c3 b4 | exact chain (c3.alloc z _) b4 | exact chain ((c3.alloc z _).alloc (by simp; omega) _) b4
        clear b4 c3 A3 B3 S3
        clear sa pa qa sb pb qb ss ps qs
        obtain ⟨sa, pa, qa⟩ := id A4
        obtain ⟨sb, pb, qb⟩ := id B4
        obtain ⟨ss, ps, qs⟩ := id S4
        obtain ⟨sp, pp, qp⟩ := id P4
        go_wp2_with fail
        refine (h.right b _ hb).mono ?_
        rintro e w5 ⟨rfl, b5⟩
        rw [R2.out]
        have A5 : At w5 w.heap.size a := by first | exact A4.below b5 | exact (A4.alloc _).below b5 | exact ((A4.alloc _).alloc _).below b5
        have B5 : At w5 (w.heap.size + 1) b := by first | exact B4.below b5 | exact (B4.alloc _).below b5 | exact ((B4.alloc _).alloc _).below b5
        have S5 : At w5 w2.heap.size ⟨0, 0⟩ := by first | exact S4.below b5 | exact (S4.alloc _).below b5 | exact ((S4.alloc _).alloc _).below b5
        have P5 : At w5 w3.heap.size p := by first | exact P4.below b5 | exact (P4.alloc _).below b5 | exact ((P4.alloc _).alloc _).below b5
        have c5 : Below w.heap.size w w5 := by have z := c4.size; first | exact chain c4 b5 | exact chain (c4.alloc z _) b5 | exact chain ((c4.alloc z _).alloc (by simp; omega) _) b5
        clear b5 c4 A4 B4 S4 P4
        clear sa pa qa sb pb qb ss ps qs sp pp qp
        obtain ⟨sa, pa, qa⟩ := id A5
        obtain ⟨sb, pb, qb⟩ := id B5
        obtain ⟨ss, ps, qs⟩ := id S5
        obtain ⟨sp, pp, qp⟩ := id P5
        go_wp2_with fail
        refine (h.div p b _ hp hb).mono ?_
        rintro e w6 ⟨rfl, b6⟩
        rw [E4.out]
        simp only [rok]
        have A6 : At w6 w.heap.size a := by first | exact A5.below b6 | exact (A5.alloc _).below b6 | exact ((A5.alloc _).alloc _).below b6
        have B6 : At w6 (w.heap.size + 1) b := by first | exact B5.below b6 | exact (B5.alloc _).below b6 | exact ((B5.alloc _).alloc _).below b6
        have S6 : At w6 w2.heap.size ⟨0, 0⟩ := by first | exact S5.below b6 | exact (S5.alloc _).below b6 | exact ((S5.alloc _).alloc _).below b6
        have P6 : At w6 w3.heap.size p := by first | exact P5.below b6 | exact (P5.alloc _).below b6 | exact ((P5.alloc _).alloc _).below b6
        have c6 : Below w.heap.size w w6 := by have z := c5.size; first | exact chain c5 b6 | exact chain (c5.alloc z _) b6 | exact chain ((c5.alloc z _).alloc (by simp; omega) _) b6
        clear b6 c5 A5 B5 S5 P5
        clear sa pa qa sb pb qb ss ps qs sp pp qp
        obtain ⟨sa, pa, qa⟩ := id A6
        obtain ⟨sb, pb, qb⟩ := id B6
        obtain ⟨ss, ps, qs⟩ := id S6
        obtain ⟨sp, pp, qp⟩ := id P6
        go_wp2_with fail
        refine (h.right p _ hp).mono ?_
        rintro e w7 ⟨rfl, b7⟩
        rw [RP.out]
        have A7 : At w7 w.heap.size a := by first | exact A6.below b7 | exact (A6.alloc _).below b7 | exact ((A6.alloc _).alloc _).below b7
        have B7 : At w7 (w.heap.size + 1) b := by first | exact B6.below b7 | exact (B6.alloc _).below b7 | exact ((B6.alloc _).alloc _).below b7
        have S7 : At w7 w2.heap.size ⟨0, 0⟩ := by first | exact S6.below b7 | exact (S6.alloc _).below b7 | exact ((S6.alloc _).alloc _).below b7
        have P7 : At w7 w3.heap.size p := by first | exact P6.below b7 | exact (P6.alloc _).below b7 | exact ((P6.alloc _).alloc _).below b7
        have Y7 : At w7 w6.heap.size a := by first | exact (At.new w6 a _ _ rfl).below b7 | exact ((At.new w6 a _ _ rfl).alloc _).below b7
        have c7 : Below w.heap.size w w7 := by have z := c6.size; first | exact chain c6 b7 | exact chain (c6.alloc z _) b7 | exact chain ((c6.alloc z _).alloc (by simp; omega) _) b7
        clear b7 c6 A6 B6 S6 P6
        clear sa pa qa sb pb qb ss ps qs sp pp qp
        obtain ⟨sa, pa, qa⟩ := id A7
        obtain ⟨sb, pb, qb⟩ := id B7
        obtain ⟨ss, ps, qs⟩ := id S7
        obtain ⟨sp, pp, qp⟩ := id P7
        obtain ⟨sy, py, qy⟩ := id Y7
        go_wp2_with fail
        go_ret
        have z := c7.size
        first | exact ⟨rfl, c7⟩ | exact ⟨rfl, c7.alloc z _⟩ | exact ⟨rfl, (c7.alloc z _).alloc (by simp; omega) _⟩
      · have E2 := Lib.hid e2
        clear e2
        go_enter Try.func5, Try.ntmps5
        go_wp2_with fail
        refine (sane_x h _).mono ?_
        rintro e w1 ⟨rfl, b1⟩
        have A1 := ((At.new w a _ _ rfl).alloc _).below b1
        have B1 := (At.new (w.alloc _) b _ (w.heap.size + 1) (by simp)).below b1
        have c1 := chain (((Below.refl w.heap.size w).alloc (Nat.le_refl _) _).alloc (by simp) _) b1
        clear b1
        obtain ⟨sa, pa, qa⟩ := id A1
        obtain ⟨sb, pb, qb⟩ := id B1
        go_wp2_with fail
        refine (h.add a b _ ha hb).mono ?_
        rintro e w2 ⟨rfl, b2⟩
        rw [E1.out]
        simp only [rok]
        have A2 : At w2 w.heap.size a := by first | exact A1.below b2 | exact (A1.alloc _).below b2 | exact ((A1.alloc _).alloc _).below b2
        have B2 : At w2 (w.heap.size + 1) b := by first | exact B1.below b2 | exact (B1.alloc _).below b2 | exact ((B1.alloc _).alloc _).below b2
        have c2 : Below w.heap.size w w2 := by have z := c1.size; first | exact chain c1 b2 | exact chain (c1.alloc z _) b2 | exact chain ((c1.alloc z _).alloc (by simp; omega) _) b2
        clear b2 c1 A1 B1
        clear sa pa qa sb pb qb
        obtain ⟨sa, pa, qa⟩ := id A2
        obtain ⟨sb, pb, qb⟩ := id B2
        go_wp2_with fail
        refine (h.mul a b _ ha hb).mono ?_
        rintro e w3 ⟨rfl, b3⟩
        rw [E2.out]
        simp only [rok]
        have A3 : At w3 w.heap.size a := by first | exact A2.below b3 | exact (A2.alloc _).below b3 | exact ((A2.alloc _).alloc _).below b3
        have B3 : At w3 (w.heap.size + 1) b := by first | exact B2.below b3 | exact (B2.alloc _).below b3 | exact ((B2.alloc _).alloc _).below b3
        have S3 : At w3 w2.heap.size ⟨0, 0⟩ := by first | exact (At.new w2 ⟨0, 0⟩ _ _ rfl).below b3 | exact ((At.new w2 ⟨0, 0⟩ _ _ rfl).alloc _).below b3
        have c3 : Below w.heap.size w w3 := by have z := c2.size; first | exact chain c2 b3 | exact chain (c2.alloc z _) b3 | exact chain ((c2.alloc z _).alloc (by simp; omega) _) b3
        clear b3 c2 A2 B2
        clear sa pa qa sb pb qb
        obtain ⟨sa, pa, qa⟩ := id A3
        obtain ⟨sb, pb, qb⟩ := id B3
        obtain ⟨ss, ps, qs⟩ := id S3
        go_wp2_with fail
        refine (h.right a _ ha).mono ?_
        rintro e w4 ⟨rfl, b4⟩
        rw [R1.out]
        have A4 : At w4 w.heap.size a := by first | exact A3.below b4 | exact (A3.alloc _).below b4 | exact ((A3.alloc _).alloc _).below b4
        have B4 : At w4 (w.heap.size + 1) b := by first | exact B3.below b4 | exact (B3.alloc _).below b4 | exact ((B3.alloc _).alloc _).below b4
        have S4 : At w4 w2.heap.size ⟨0, 0⟩ := by first | exact S3.below b4 | exact (S3.alloc _).below b4 | exact ((S3.alloc _).alloc _).below b4
        have P4 : At w4 w3.heap.size p := by first | exact (At.new w3 p _ _ rfl).below b4 | exact ((At.new w3 p _ _ rfl).alloc _).below b4
        have c4 : Below w.heap.size w w4 := by have z := c3.size; first | exact chain c3 b4 | exact chain (c3.alloc z _) b4 | exact chain ((c3.alloc z _).alloc (by simp; omega) _) b4
        clear b4 c3 A3 B3 S3
        clear sa pa qa sb pb qb ss ps qs
        obtain ⟨sa, pa, qa⟩ := id A4
        obtain ⟨sb, pb, qb⟩ := id B4
        obtain ⟨ss, ps, qs⟩ := id S4
        obtain ⟨sp, pp, qp⟩ := id P4
        go_wp2_with fail
        refine (h.right b _ hb).mono ?_
        rintro e w5 ⟨rfl, b5⟩
        rw [R2.out]
        have A5 : At w5 w.heap.size a := by first | exact A4.below b5 | exact (A4.alloc _).below b5 | exact ((A4.alloc _).alloc _).below b5
        have B5 : At w5 (w.heap.size + 1) b := by first | exact B4.below b5 | exact (B4.alloc _).below b5 | exact ((B4.alloc _).alloc _).below b5
        have S5 : At w5 w2.heap.size ⟨0, 0⟩ := by first | exact S4.below b5 | exact (S4.alloc _).below b5 | exact ((S4.alloc _).alloc _).below b5
        have P5 : At w5 w3.heap.size p := by first | exact P4.below b5 | exact (P4.alloc _).below b5 | exact ((P4.alloc _).alloc _).below b5
        have c5 : Below w.heap.size w w5 := by have z := c4.size; first | exact chain c4 b5 | exact chain (c4.alloc z _) b5 | exact chain ((c4.alloc z _).alloc (by simp; omega) _) b5
        clear b5 c4 A4 B4 S4 P4
        clear sa pa qa sb pb qb ss ps qs sp pp qp
        obtain ⟨sa, pa, qa⟩ := id A5
        obtain ⟨sb, pb, qb⟩ := id B5
        obtain ⟨ss, ps, qs⟩ := id S5
        obtain ⟨sp, pp, qp⟩ := id P5
        go_wp2_with fail
        go_ret
        have z := c5.size
        first | exact ⟨rfl, c5⟩ | exact ⟨rfl, c5.alloc z _⟩ | exact ⟨rfl, (c5.alloc z _).alloc (by simp; omega) _⟩
      · have E2 := Lib.hid e2
        clear e2
        go_enter Try.func5, Try.ntmps5
        go_wp2_with fail
        refine (sane_x h _).mono ?_
        rintro e w1 ⟨rfl, b1⟩
        have A1 := ((At.new w a _ _ rfl).alloc _).below b1
        have B1 := (At.new (w.alloc _) b _ (w.heap.size + 1) (by simp)).below b1
        have c1 := chain (((Below.refl w.heap.size w).alloc (Nat.le_refl _) _).alloc (by simp) _) b1
        clear b1
        obtain ⟨sa, pa, qa⟩ := id A1
        obtain ⟨sb, pb, qb⟩ := id B1
        go_wp2_with fail
        refine (h.add a b _ ha hb).mono ?_
        rintro e w2 ⟨rfl, b2⟩
        rw [E1.out]
        simp only [rok]
        have A2 : At w2 w.heap.size a := by first | exact A1.below b2 | exact (A1.alloc _).below b2 | exact ((A1.alloc _).alloc _).below b2
        have B2 : At w2 (w.heap.size + 1) b := by first | exact B1.below b2 | exact (B1.alloc _).below b2 | exact ((B1.alloc _).alloc _).below b2
        have c2 : Below w.heap.size w w2 := by have z := c1.size; first | exact chain c1 b2 | exact chain (c1.alloc z _) b2 | exact chain ((c1.alloc z _).alloc (by simp; omega) _) b2
        clear b2 c1 A1 B1
        clear sa pa qa sb pb qb
        obtain ⟨sa, pa, qa⟩ := id A2
        obtain ⟨sb, pb, qb⟩ := id B2
        go_wp2_with fail
        refine (h.mul a b _ ha hb).mono ?_
        rintro e w3 ⟨rfl, b3⟩
        rw [E2.out]
        simp only [rok]
        have A3 : At w3 w.heap.size a := by first | exact A2.below b3 | exact (A2.alloc _).below b3 | exact ((A2.alloc _).alloc _).below b3
        have B3 : At w3 (w.heap.size + 1) b := by first | exact B2.below b3 | exact (B2.alloc _).below b3 | exact ((B2.alloc _).alloc _).below b3
        have S3 : At w3 w2.heap.size ⟨0, 0⟩ := by first | exact (At.new w2 ⟨0, 0⟩ _ _ rfl).below b3 | exact ((At.new w2 ⟨0, 0⟩ _ _ rfl).alloc _).below b3
        have c3 : Below w.heap.size w w3 := by have z := c2.size; first | exact chain c2 b3 | exact chain (c2.alloc z _) b3 | exact chain ((c2.alloc z _).alloc (by simp; omega) _) b3
        clear b3 c2 A2 B2
        clear sa pa qa sb pb qb
        obtain ⟨sa, pa, qa⟩ := id A3
        obtain ⟨sb, pb, qb⟩ := id B3
        obtain ⟨ss, ps, qs⟩ := id S3
        go_wp2_with fail
        refine (h.right a _ ha).mono ?_
        rintro e w4 ⟨rfl, b4⟩
        rw [R1.out]
        have A4 : At w4 w.heap.size a := by first | exact A3.below b4 | exact (A3.alloc _).below b4 | exact ((A3.alloc _).alloc _).below b4
        have B4 : At w4 (w.heap.size + 1) b := by first | exact B3.below b4 | exact (B3.alloc _).below b4 | exact ((B3.alloc _).alloc _).below b4
        have S4 : At w4 w2.heap.size ⟨0, 0⟩ := by first | exact S3.below b4 | exact (S3.alloc _).below b4 | exact ((S3.alloc _).alloc _).below b4
        have P4 : At w4 w3.heap.size ⟨0, 0⟩ := by first | exact (At.new w3 ⟨0, 0⟩ _ _ rfl).below b4 | exact ((At.new w3 ⟨0, 0⟩ _ _ rfl).alloc _).below b4
        have c4 : Below w.heap.size w w4 := by have z := c3.size; first | exact chain c3 b4 | exact chain (c3.alloc z _) b4 | exact chain ((c3.alloc z _).alloc (by simp; omega) _) b4
        clear b4 c3 A3 B3 S3
        clear sa pa qa sb pb qb ss ps qs
        obtain ⟨sa, pa, qa⟩ := id A4
        obtain ⟨sb, pb, qb⟩ := id B4
        obtain ⟨ss, ps, qs⟩ := id S4
        obtain ⟨sp, pp, qp⟩ := id P4
        go_wp2_with fail
        refine (h.right b _ hb).mono ?_
        rintro e w5 ⟨rfl, b5⟩
        rw [R2.out]
        have A5 : At w5 w.heap.size a := by first | exact A4.below b5 | exact (A4.alloc _).below b5 | exact ((A4.alloc _).alloc _).below b5
        have B5 : At w5 (w.heap.size + 1) b := by first | exact B4.below b5 | exact (B4.alloc _).below b5 | exact ((B4.alloc _).alloc _).below b5
        have S5 : At w5 w2.heap.size ⟨0, 0⟩ := by first | exact S4.below b5 | exact (S4.alloc _).below b5 | exact ((S4.alloc _).alloc _).below b5
        have P5 : At w5 w3.heap.size ⟨0, 0⟩ := by first | exact P4.below b5 | exact (P4.alloc _).below b5 | exact ((P4.alloc _).alloc _).below b5
        have c5 : Below w.heap.size w w5 := by have z := c4.size; first | exact chain c4 b5 | exact chain (c4.alloc z _) b5 | exact chain ((c4.alloc z _).alloc (by simp; omega) _) b5
        clear b5 c4 A4 B4 S4 P4
        clear sa pa qa sb pb qb ss ps qs sp pp qp
        obtain ⟨sa, pa, qa⟩ := id A5
        obtain ⟨sb, pb, qb⟩ := id B5
        obtain ⟨ss, ps, qs⟩ := id S5
        obtain ⟨sp, pp, qp⟩ := id P5
        go_wp2_with fail
        go_ret
        have z := c5.size
        first | exact ⟨rfl, c5⟩ | exact ⟨rfl, c5.alloc z _⟩ | exact ⟨rfl, (c5.alloc z _).alloc (by simp; omega) _⟩
  · rcases r1 with r1 | ⟨r1, r2⟩
    · have R1 := Lib.hid r1
      have E1 := Lib.hid h1
      have E2 := Lib.hid h2
      clear r1 h1 h2 hn
      go_enter Try.func5, Try.ntmps5
      go_wp2_with fail
      refine (sane_x h _).mono ?_
      rintro e w1 ⟨rfl, b1⟩
      have A1 := ((At.new w a _ _ rfl).alloc _).below b1
      have B1 := (At.new (w.alloc _) b _ (w.heap.size + 1) (by simp)).below b1
      have c1 := chain (((Below.refl w.heap.size w).alloc (Nat.le_refl _) _).alloc (by simp) _) b1
      clear b1
      obtain ⟨sa, pa, qa⟩ := id A1
      obtain ⟨sb, pb, qb⟩ := id B1
      go_wp2_with fail
      refine (h.add a b _ ha hb).mono ?_
      rintro e w2 ⟨rfl, b2⟩
      rw [E1.out]
      simp only [rok]
      have A2 : At w2 w.heap.size a := by first | exact A1.below b2 | exact (A1.alloc _).below b2 | exact ((A1.alloc _).alloc _).below b2
      have B2 : At w2 (w.heap.size + 1) b := by first | exact B1.below b2 | exact (B1.alloc _).below b2 | exact ((B1.alloc _).alloc _).below b2
      have c2 : Below w.heap.size w w2 := by have z := c1.size; first | exact chain c1 b2 | exact chain (c1.alloc z _) b2 | exact chain ((c1.alloc z _).alloc (by simp; omega) _) b2
      clear b2 c1 A1 B1
      clear sa pa qa sb pb qb
      obtain ⟨sa, pa, qa⟩ := id A2
      obtain ⟨sb, pb, qb⟩ := id B2
      go_wp2_with fail
      refine (h.mul a b _ ha hb).mono ?_
      rintro e w3 ⟨rfl, b3⟩
      rw [E2.out]
      simp only [rok]
      have A3 : At w3 w.heap.size a := by first | exact A2.below b3 | exact (A2.alloc _).below b3 | exact ((A2.alloc _).alloc _).below b3
      have B3 : At w3 (w.heap.size + 1) b := by first | exact B2.below b3 | exact (B2.alloc _).below b3 | exact ((B2.alloc _).alloc _).below b3
      have S3 : At w3 w2.heap.size ⟨0, 0⟩ := by first | exact (At.new w2 ⟨0, 0⟩ _ _ rfl).below b3 | exact ((At.new w2 ⟨0, 0⟩ _ _ rfl).alloc _).below b3
      have c3 : Below w.heap.size w w3 := by have z := c2.size; first | exact chain c2 b3 | exact chain (c2.alloc z _) b3 | exact chain ((c2.alloc z _).alloc (by simp; omega) _) b3
      clear b3 c2 A2 B2
      clear sa pa qa sb pb qb
      obtain ⟨sa, pa, qa⟩ := id A3
      obtain ⟨sb, pb, qb⟩ := id B3
      obtain ⟨ss, ps, qs⟩ := id S3
      go_wp2_with fail
      refine (h.right a _ ha).mono ?_
      rintro e w4 ⟨rfl, b4⟩
      rw [R1.out]
      have A4 : At w4 w.heap.size a := by first | exact A3.below b4 | exact (A3.alloc _).below b4 | exact ((A3.alloc _).alloc _).below b4
      have B4 : At w4 (w.heap.size + 1) b := by first | exact B3.below b4 | exact (B3.alloc _).below b4 | exact ((B3.alloc _).alloc _).below b4
      have S4 : At w4 w2.heap.size ⟨0, 0⟩ := by first | exact S3.below b4 | exact (S3.alloc _).below b4 | exact ((S3.alloc _).alloc _).below b4
      have P4 : At w4 w3.heap.size ⟨0, 0⟩ := by first | exact (At.new w3 ⟨0, 0⟩ _ _ rfl).below b4 | exact ((At.new w3 ⟨0, 0⟩ _ _ rfl).alloc _).below b4
      have c4 : Below w.heap.size w w4 := by have z := c3.size; first | exact chain c3 b4 | exact chain (c3.alloc z _) b4 | exact chain ((c3.alloc z _).alloc (by simp; omega) _) b4
      clear b4 c3 A3 B3 S3
      clear sa pa qa sb pb qb ss ps qs
      obtain ⟨sa, pa, qa⟩ := id A4
      obtain ⟨sb, pb, qb⟩ := id B4
      obtain ⟨ss, ps, qs⟩ := id S4
      obtain ⟨sp, pp, qp⟩ := id P4
      go_wp2_with fail
      go_ret
      have z := c4.size
      first | exact ⟨rfl, c4⟩ | exact ⟨rfl, c4.alloc z _⟩ | exact ⟨rfl, (c4.alloc z _).alloc (by simp; omega) _⟩
    · have R1 := Lib.hid r1
      have E1 := Lib.hid h1
      have E2 := Lib.hid h2
      clear r1 h1 h2 hn
      have R2 := Lib.hid r2
      clear r2
      go_enter Try.func5, Try.ntmps5
      go_wp2_with fail
      refine (sane_x h _).mono ?_
      rintro e w1 ⟨rfl, b1⟩
      have A1 := ((At.new w a _ _ rfl).alloc _).below b1
      have B1 := (At.new (w.alloc _) b _ (w.heap.size + 1) (by simp)).below b1
      have c1 := chain (((Below.refl w.heap.size w).alloc (Nat.le_refl _) _).alloc (by simp) _) b1
      clear b1
      obtain ⟨sa, pa, qa⟩ := id A1
      obtain ⟨sb, pb, qb⟩ := id B1
      go_wp2_with fail
      refine (h.add a b _ ha hb).mono ?_
      rintro e w2 ⟨rfl, b2⟩
      rw [E1.out]
      simp only [rok]
      have A2 : At w2 w.heap.size a := by first | exact A1.below b2 | exact (A1.alloc _).below b2 | exact ((A1.alloc _).alloc _).below b2
      have B2 : At w2 (w.heap.size + 1) b := by first | exact B1.below b2 | exact (B1.alloc _).below b2 | exact ((B1.alloc _).alloc _).below b2
      have c2 : Below w.heap.size w w2 := by have z := c1.size; first | exact chain c1 b2 | exact chain (c1.alloc z _) b2 | exact chain ((c1.alloc z _).alloc (by simp; omega) _) b2
      clear b2 c1 A1 B1
      clear sa pa qa sb pb qb
      obtain ⟨sa, pa, qa⟩ := id A2
      obtain ⟨sb, pb, qb⟩ := id B2
      go_wp2_with fail
      refine (h.mul a b _ ha hb).mono ?_
      rintro e w3 ⟨rfl, b3⟩
      rw [E2.out]
      simp only [rok]
      have A3 : At w3 w.heap.size a := by first | exact A2.below b3 | exact (A2.alloc _).below b3 | exact ((A2.alloc _).alloc _).below b3
      have B3 : At w3 (w.heap.size + 1) b := by first | exact B2.below b3 | exact (B2.alloc _).below b3 | exact ((B2.alloc _).alloc _).below b3
      have S3 : At w3 w2.heap.size ⟨0, 0⟩ := by first | exact (At.new w2 ⟨0, 0⟩ _ _ rfl).below b3 | exact ((At.new w2 ⟨0, 0⟩ _ _ rfl).alloc _).below b3
      have c3 : Below w.heap.size w w3 := by have z := c2.size; first | exact chain c2 b3 | exact chain (c2.alloc z _) b3 | exact chain ((c2.alloc z _).alloc (by simp; omega) _) b3
      clear b3 c2 A2 B2
      clear sa pa qa sb pb qb
      obtain ⟨sa, pa, qa⟩ := id A3
      obtain ⟨sb, pb, qb⟩ := id B3
      obtain ⟨ss, ps, qs⟩ := id S3
      go_wp2_with fail
      refine (h.right a _ ha).mono ?_
      rintro e w4 ⟨rfl, b4⟩
      rw [R1.out]
      have A4 : At w4 w.heap.size a := by first | exact A3.below b4 | exact (A3.alloc _).below b4 | exact ((A3.alloc _).alloc _).below b4
      have B4 : At w4 (w.heap.size + 1) b := by first | exact B3.below b4 | exact (B3.alloc _).below b4 | exact ((B3.alloc _).alloc _).below b4
      have S4 : At w4 w2.heap.size ⟨0, 0⟩ := by first | exact S3.below b4 | exact (S3.alloc _).below b4 | exact ((S3.alloc _).alloc _).below b4
      have P4 : At w4 w3.heap.size ⟨0, 0⟩ := by first | exact (At.new w3 ⟨0, 0⟩ _ _ rfl).below b4 | exact ((At.new w3 ⟨0, 0⟩ _ _ rfl).alloc _).below b4
      have c4 : Below w.heap.size w w4 := by have z := c3.size; first | exact chain c3 b4 | exact chain (c3.alloc z _) b4 | exact chain ((c3.alloc z _).alloc (by simp; omega) _) b4
      clear b4 c3 A3 B3 S3
      clear sa pa qa sb pb qb ss ps qs
      obtain ⟨sa, pa, qa⟩ := id A4
      obtain ⟨sb, pb, qb⟩ := id B4
      obtain ⟨ss, ps, qs⟩ := id S4
      obtain ⟨sp, pp, qp⟩ := id P4
      go_wp2_with fail
      refine (h.right b _ hb).mono ?_
      rintro e w5 ⟨rfl, b5⟩
      rw [R2.out]
      have A5 : At w5 w.heap.size a := by first | exact A4.below b5 | exact (A4.alloc _).below b5 | exact ((A4.alloc _).alloc _).below b5
      have B5 : At w5 (w.heap.size + 1) b := by first | exact B4.below b5 | exact (B4.alloc _).below b5 | exact ((B4.alloc _).alloc _).below b5
      have S5 : At w5 w2.heap.size ⟨0, 0⟩ := by first | exact S4.below b5 | exact (S4.alloc _).below b5 | exact ((S4.alloc _).alloc _).below b5
      have P5 : At w5 w3.heap.size ⟨0, 0⟩ := by first | exact P4.below b5 | exact (P4.alloc _).below b5 | exact ((P4.alloc _).alloc _).below b5
      have c5 : Below w.heap.size w w5 := by have z := c4.size; first | exact chain c4 b5 | exact chain (c4.alloc z _) b5 | exact chain ((c4.alloc z _).alloc (by simp; omega) _) b5
      clear b5 c4 A4 B4 S4 P4
      clear sa pa qa sb pb qb ss ps qs sp pp qp
      obtain ⟨sa, pa, qa⟩ := id A5
      obtain ⟨sb, pb, qb⟩ := id B5
      obtain ⟨ss, ps, qs⟩ := id S5
      obtain ⟨sp, pp, qp⟩ := id P5
      go_wp2_with fail
      go_ret
      have z := c5.size
      first | exact ⟨rfl, c5⟩ | exact ⟨rfl, c5.alloc z _⟩ | exact ⟨rfl, (c5.alloc z _).alloc (by simp; omega) _⟩

end Go.Proofs.Ytnddfngdlmdmhaa
