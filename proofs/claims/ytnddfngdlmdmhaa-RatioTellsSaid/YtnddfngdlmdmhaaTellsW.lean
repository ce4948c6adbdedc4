/-
  The law RatioTells's walk.
-/
import Derived.Test.YtnddfngdlmdmhaaNumH
import Derived.Test.YtnddfngdlmdmhaaNumJ
import Derived.Test.YtnddfngdlmdmhaaNumK
import Derived.Test.YtnddfngdlmdmhaaNumL
import Derived.Test.YtnddfngdlmdmhaaNumM
namespace Go.Proofs.Ytnddfngdlmdmhaa
open Go.RowKit

/-- the blocks of the two operands and of the two results -/
structure Fv (w : World) (a b : Rt.R) (p q : Nat) (X Y : Rt.R) (W : World) : Prop where
  below : Below w.heap.size w W
  a : At W w.heap.size a
  b : At W (w.heap.size + 1) b
  x : At W p X
  y : At W q Y
  fx : ∀ o, W.frozen? ⟨p, o, none⟩ = false
  fy : ∀ o, W.frozen? ⟨q, o, none⟩ = false
  hp : w.heap.size + 1 < p
  hq : w.heap.size + 1 < q
  ne : p ≠ q
theorem Fv.next {w : World} {a b : Rt.R} {p q : Nat} {X Y : Rt.R} {W W' : World} (h : Fv w a b p q X Y W) (hb : Below W.heap.size W W') : Fv w a b p q X Y W' :=
  ⟨chain h.below hb, h.a.below hb, h.b.below hb, h.x.below hb, h.y.below hb, fun o => by rw [hb.frozen (p := ⟨p, o, none⟩) h.x.1]; exact h.fx o,
    fun o => by rw [hb.frozen (p := ⟨q, o, none⟩) h.y.1]; exact h.fy o, h.hp, h.hq, h.ne⟩
theorem Fv.drew {w : World} {a b : Rt.R} {p q : Nat} {X Y : Rt.R} {W : World} (h : Fv w a b p q X Y W) : Fv w a b p q X Y W.drew := h.next (Below.drew (Below.refl _ _))
theorem At.set {W : World} {k p : Nat} {r : Rt.R} (h : At W k r) (hk : k ≠ p) (o : Nat) (v : Value) : At (W.setCell ⟨p, o, none⟩ v) k r := by
  have ne : ∀ m, (⟨p, o, none⟩ : Addr) ≠ ⟨k, m, none⟩ := fun m e => by injection e with e _ _; exact hk e.symm
  refine ⟨by simpa using h.1, ?_, ?_⟩
  · rw [World.cell?_setCell_other _ _ _ _ (ne 0)]; exact h.2.1
  · rw [World.cell?_setCell_other _ _ _ _ (ne 1)]; exact h.2.2
theorem At.own {W : World} {p : Nat} {r : Rt.R} (h : At W p r) (r' : Rt.R) : At ((W.setCell ⟨p, 0, none⟩ (.int .i64 r'.n)).setCell ⟨p, 1, none⟩ (.int .i64 r'.d)) p r' := by
  have n01 : (⟨p, 1, none⟩ : Addr) ≠ ⟨p, 0, none⟩ := fun e => by injection e with _ e _; exact absurd e (by decide)
  have n10 : (⟨p, 0, none⟩ : Addr) ≠ ⟨p, 1, none⟩ := fun e => n01 e.symm
  refine ⟨by simpa using h.1, ?_, ?_⟩
  · rw [World.cell?_setCell_other _ _ _ _ n01]
    exact World.cell?_setCell_same _ _ _ h.2.1
  · exact World.cell?_setCell_same _ _ _ ((World.cell?_setCell_other _ _ _ _ n10).trans h.2.2)
theorem Fv.setX {w : World} {a b : Rt.R} {p q : Nat} {X Y : Rt.R} {W : World} (h : Fv w a b p q X Y W) (r : Rt.R) : Fv w a b p q r Y ((W.setCell ⟨p, 0, none⟩ (.int .i64 r.n)).setCell ⟨p, 1, none⟩ (.int .i64 r.d)) := by
  have h1 := h.hp
  have h2 := h.ne
  exact ⟨(h.below.setCell (by show w.heap.size ≤ p; omega) _).setCell (by show w.heap.size ≤ p; omega) _, (h.a.set (by omega) _ _).set (by omega) _ _, (h.b.set (by omega) _ _).set (by omega) _ _, h.x.own r,
    (h.y.set (fun e => h2 e.symm) _ _).set (fun e => h2 e.symm) _ _, fun o => by simpa using h.fx o, fun o => by simpa using h.fy o, h.hp, h.hq, h.ne⟩
theorem Fv.setY {w : World} {a b : Rt.R} {p q : Nat} {X Y : Rt.R} {W : World} (h : Fv w a b p q X Y W) (r : Rt.R) : Fv w a b p q X r ((W.setCell ⟨q, 0, none⟩ (.int .i64 r.n)).setCell ⟨q, 1, none⟩ (.int .i64 r.d)) := by
  have h1 := h.hq
  have h2 := h.ne
  exact ⟨(h.below.setCell (by show w.heap.size ≤ q; omega) _).setCell (by show w.heap.size ≤ q; omega) _, (h.a.set (by omega) _ _).set (by omega) _ _, (h.b.set (by omega) _ _).set (by omega) _ _,
    (h.x.set h2 _ _).set h2 _ _, h.y.own r, fun o => by simpa using h.fx o, fun o => by simpa using h.fy o, h.hp, h.hq, h.ne⟩
structure Fw (w : World) (a b : Rt.R) (p q : Nat) (X Y : Rt.R) (W : World) : Prop where
  out : Fv w a b p q X Y W
theorem Fw.next {w : World} {a b : Rt.R} {p q : Nat} {X Y : Rt.R} {W W' : World} (h : Fw w a b p q X Y W) (hb : Below W.heap.size W W') : Fw w a b p q X Y W' := ⟨h.out.next hb⟩
/-- the cells that the law's drawn regions read -/
theorem Fw.cells {w : World} {a b : Rt.R} {p q : Nat} {X Y : Rt.R} {w' : World} (h : Fw w a b p q X Y w') :
    w'.cell? ⟨w.heap.size, 0, none⟩ = some (.int .i64 a.n) ∧ w'.cell? ⟨w.heap.size, 1, none⟩ = some (.int .i64 a.d) ∧ w'.cell? ⟨w.heap.size + 1, 0, none⟩ = some (.int .i64 b.n) ∧ w'.cell? ⟨w.heap.size + 1, 1, none⟩ = some (.int .i64 b.d) ∧
    w'.cell? ⟨p, 0, none⟩ = some (.int .i64 X.n) ∧ w'.cell? ⟨p, 1, none⟩ = some (.int .i64 X.d) ∧ w'.cell? ⟨q, 0, none⟩ = some (.int .i64 Y.n) ∧ w'.cell? ⟨q, 1, none⟩ = some (.int .i64 Y.d) :=
  ⟨h.out.a.2.1, h.out.a.2.2, h.out.b.2.1, h.out.b.2.2, h.out.x.2.1, h.out.x.2.2, h.out.y.2.1, h.out.y.2.2⟩

set_option maxHeartbeats 12800000 in
set_option maxRecDepth 100000 in
theorem RatioTells_x (h : RatioOk) (num den : Int) (a b : Rt.R) (w : World) (hn : I64 num) (hd : I64 den) (ha : In a) (hb : In b) :
    Calls Try.prog 3 #[.int .i64 num, .int .i64 den, .agg #[.int .i64 a.n, .int .i64 a.d], .agg #[.int .i64 b.n, .int .i64 b.d]] w fun e w' => e = .returned (.bool true) ∧ Below w.heap.size w w' := by
  obtain ⟨⟨⟨n0, d0⟩, e0⟩, E⟩ : ∃ R, R = Rt.make num den := ⟨_, rfl⟩
  have H0 := Lib.hid E
  clear E
  obtain ⟨⟨⟨n1, d1⟩, e1⟩, E⟩ : ∃ R, R = Rt.add a b := ⟨_, rfl⟩
  have H1 := Lib.hid E
  clear E
  obtain ⟨⟨⟨n2, d2⟩, e2⟩, E⟩ : ∃ R, R = Rt.sub a b := ⟨_, rfl⟩
  have H2 := Lib.hid E
  clear E
  obtain ⟨⟨⟨n3, d3⟩, e3⟩, E⟩ : ∃ R, R = Rt.mul a b := ⟨_, rfl⟩
  have H3 := Lib.hid E
  clear E
  obtain ⟨⟨⟨n4, d4⟩, e4⟩, E⟩ : ∃ R, R = Rt.div a b := ⟨_, rfl⟩
  have H4 := Lib.hid E
  clear E
  obtain ⟨gr, E⟩ : ∃ R, R = Rt.right a := ⟨_, rfl⟩
  have hgr := Lib.hid E
  clear E
  obtain ⟨gc, E⟩ : ∃ R, R = Rt.cmp a b := ⟨_, rfl⟩
  have hgc := Lib.hid E
  clear E
  obtain ⟨gf, E⟩ : ∃ R, R = Rt.floor a := ⟨_, rfl⟩
  have hgf := Lib.hid E
  clear E
  obtain ⟨gl, E⟩ : ∃ R, R = Rt.ceil a := ⟨_, rfl⟩
  have hgl := Lib.hid E
  clear E
  obtain ⟨gn, E⟩ : ∃ R, R = Rt.nearest a := ⟨_, rfl⟩
  have hgn := Lib.hid E
  clear E
  have hN := Lib.hid hn
  have hD := Lib.hid hd
  have hA := Lib.hid ha
  have hB := Lib.hid hb
  clear hn hd ha hb
  go_enter Try.func3, Try.ntmps3
  go_wp2_with fail
  refine (sane_x h _).mono ?_
  rintro e w1 ⟨rfl, b1⟩
  have A1 : At w1 w.heap.size a := ((At.new w a _ _ rfl).alloc _).below b1
  have B1 : At w1 (w.heap.size + 1) b := (At.new (w.alloc _) b _ _ (by simp)).below b1
  have c1 := chain (((Below.refl w.heap.size w).alloc (Nat.le_refl _) _).alloc (by simp) _) b1
  clear b1
  go_wp2_with fail
  refine (h.make num den _ hN.out hD.out).mono ?_
  rintro e w2 ⟨rfl, b2⟩
  rw [← H0.out]
  simp only [rok]
  have A2 := A1.below b2
  have B2 := B1.below b2
  have c2 := chain c1 b2
  clear A1 B1 c1 b2
  go_wp2_with fail
  refine (MakeR_x num den _ hN.out hD.out).mono ?_
  rintro e w3 ⟨rfl, b3⟩
  rw [← H0.out]
  simp only [rok]
  have A3 := (A2.alloc _).below b3
  have B3 := (B2.alloc _).below b3
  have X3 : At w3 w2.heap.size ⟨n0, d0⟩ := (At.new w2 ⟨n0, d0⟩ _ _ rfl).below b3
  have fx3 : ∀ o, w3.frozen? ⟨w2.heap.size, o, none⟩ = false := fun o => by
    rw [b3.frozen (p := ⟨w2.heap.size, o, none⟩) (by simp)]
    exact World.frozen?_alloc_at _ _ _ _ (by simp)
  have c3 := chain (c2.alloc (by have := B2.1; omega) _) b3
  have s3 : w.heap.size + 1 < w2.heap.size := B2.1
  have s3' : w2.heap.size < w3.heap.size := X3.1
  clear A2 B2 c2 b3
  go_wp2_with fail
  have F : Fv w a b w2.heap.size w3.heap.size ⟨n0, d0⟩ ⟨n0, d0⟩ (w3.alloc (.cells #[.int .i64 n0, .int .i64 d0] 23)) :=
    ⟨c3.alloc (by omega) _, A3.alloc _, B3.alloc _, X3.alloc _, At.new w3 ⟨n0, d0⟩ _ _ rfl, fun o => by
      have hb : Below w3.heap.size w3 (w3.alloc (.cells #[.int .i64 n0, .int .i64 d0] 23)) := (Below.refl _ _).alloc (Nat.le_refl _) _
      rw [hb.frozen (p := ⟨w2.heap.size, o, none⟩) s3']; exact fx3 o, fun o => World.frozen?_alloc_at _ _ _ _ (by simp), s3, by omega, by omega⟩
  clear A3 B3 X3 fx3 c3 s3 s3'
  have s1 := F.x.1
  have s2 := F.y.1
  have s3 := F.hp
  have s4 := F.hq
  have s5 := F.ne
  have s6 := Ne.symm F.ne
  have z1 := F.a.2.1
  have z2 := F.a.2.2
  have z3 := F.b.2.1
  have z4 := F.b.2.2
  have z5 := F.x.2.1
  have z6 := F.x.2.2
  have z7 := F.y.2.1
  have z8 := F.y.2.2
  have f1 := F.fx 0
  have f2 := F.fx 1
  have f3 := F.fy 0
  have f4 := F.fy 1
  have hT : Fw w a b _ _ _ _ _ := ⟨F⟩
  have hT' : Fw w a b _ _ _ _ _ := ⟨F.drew⟩
  go_region_held3 (fun w' => w'.cell? ⟨w.heap.size, 0, none⟩ = some (.int .i64 a.n) ∧ w'.cell? ⟨w.heap.size, 1, none⟩ = some (.int .i64 a.d) ∧ w'.cell? ⟨w.heap.size + 1, 0, none⟩ = some (.int .i64 b.n) ∧ w'.cell? ⟨w.heap.size + 1, 1, none⟩ = some (.int .i64 b.d) ∧ w'.cell? ⟨w2.heap.size, 0, none⟩ = some (.int .i64 n0) ∧ w'.cell? ⟨w2.heap.size, 1, none⟩ = some (.int .i64 d0) ∧ w'.cell? ⟨w3.heap.size, 0, none⟩ = some (.int .i64 n0) ∧ w'.cell? ⟨w3.heap.size, 1, none⟩ = some (.int .i64 d0))
    (first
      | exact hT.cells
      | exact hT'.cells
      | exact Fw.cells (X := ⟨n0, d0⟩) (Y := ⟨n0, d0⟩) (by assumption))
    (first
      | (go_at_call 11; refine (h.right a _ hA.out).mono ?_; rintro e w' ⟨rfl, hb⟩; have hk : Fw w a b w2.heap.size w3.heap.size ⟨n0, d0⟩ ⟨n0, d0⟩ w' := Fw.next (by assumption) hb; rw [← hgr.out])
      | (go_at_call 12; refine (RightR_x a _ hA.out).mono ?_; rintro e w' ⟨rfl, hb⟩; have hk : Fw w a b w2.heap.size w3.heap.size ⟨n0, d0⟩ ⟨n0, d0⟩ w' := Fw.next (by assumption) hb; rw [← hgr.out]))
  rename_i hHeld
  have F' : Fv w a b w2.heap.size w3.heap.size ⟨n0, d0⟩ ⟨n0, d0⟩ w' := hk.out
  obtain ⟨v0, hw⟩ : ∃ x, x = w' := ⟨w', rfl⟩
  subst hw
  clear hHeld hT hT' hk hb
  clear s1 s2 s3 s4 s5 s6 z1 z2 z3 z4 z5 z6 z7 z8 f1 f2 f3 f4
  clear F
  have F := F'
  clear F'
  have s1 := F.x.1
  have s2 := F.y.1
  have s3 := F.hp
  have s4 := F.hq
  have s5 := F.ne
  have s6 := Ne.symm F.ne
  have z1 := F.a.2.1
  have z2 := F.a.2.2
  have z3 := F.b.2.1
  have z4 := F.b.2.2
  have z5 := F.x.2.1
  have z6 := F.x.2.2
  have z7 := F.y.2.1
  have z8 := F.y.2.2
  have f1 := F.fx 0
  have f2 := F.fx 1
  have f3 := F.fy 0
  have f4 := F.fy 1
  go_wp2_with fail
  refine (h.add a b _ hA.out hB.out).mono ?_
  rintro e u1 ⟨rfl, b1⟩
  rw [← H1.out]
  simp only [rok]
  have F' := F.next b1
  clear b1 F
  clear s1 s2 s3 s4 s5 s6 z1 z2 z3 z4 z5 z6 z7 z8 f1 f2 f3 f4
  have F := F'
  clear F'
  have s1 := F.x.1
  have s2 := F.y.1
  have s3 := F.hp
  have s4 := F.hq
  have s5 := F.ne
  have s6 := Ne.symm F.ne
  have z1 := F.a.2.1
  have z2 := F.a.2.2
  have z3 := F.b.2.1
  have z4 := F.b.2.2
  have z5 := F.x.2.1
  have z6 := F.x.2.2
  have z7 := F.y.2.1
  have z8 := F.y.2.2
  have f1 := F.fx 0
  have f2 := F.fx 1
  have f3 := F.fy 0
  have f4 := F.fy 1
  go_wp2_with fail
  refine (AddR_x a b _ hA.out hB.out).mono ?_
  rintro e x1 ⟨rfl, b1⟩
  rw [← H1.out]
  simp only [rok]
  have F' := (F.setX ⟨n1, d1⟩).next b1
  clear b1 F
  clear s1 s2 s3 s4 s5 s6 z1 z2 z3 z4 z5 z6 z7 z8 f1 f2 f3 f4
  have F := F'
  clear F'
  have s1 := F.x.1
  have s2 := F.y.1
  have s3 := F.hp
  have s4 := F.hq
  have s5 := F.ne
  have s6 := Ne.symm F.ne
  have z1 := F.a.2.1
  have z2 := F.a.2.2
  have z3 := F.b.2.1
  have z4 := F.b.2.2
  have z5 := F.x.2.1
  have z6 := F.x.2.2
  have z7 := F.y.2.1
  have z8 := F.y.2.2
  have f1 := F.fx 0
  have f2 := F.fx 1
  have f3 := F.fy 0
  have f4 := F.fy 1
  go_wp2_with fail
  refine (h.sub a b _ hA.out hB.out).mono ?_
  rintro e u2 ⟨rfl, b1⟩
  rw [← H2.out]
  simp only [rok]
  have F' := (F.setY ⟨n1, d1⟩).next b1
  clear b1 F
  clear s1 s2 s3 s4 s5 s6 z1 z2 z3 z4 z5 z6 z7 z8 f1 f2 f3 f4
  have F := F'
  clear F'
  have s1 := F.x.1
  have s2 := F.y.1
  have s3 := F.hp
  have s4 := F.hq
  have s5 := F.ne
  have s6 := Ne.symm F.ne
  have z1 := F.a.2.1
  have z2 := F.a.2.2
  have z3 := F.b.2.1
  have z4 := F.b.2.2
  have z5 := F.x.2.1
  have z6 := F.x.2.2
  have z7 := F.y.2.1
  have z8 := F.y.2.2
  have f1 := F.fx 0
  have f2 := F.fx 1
  have f3 := F.fy 0
  have f4 := F.fy 1
  go_wp2_with fail
  refine (SubR_x a b _ hA.out hB.out).mono ?_
  rintro e x2 ⟨rfl, b1⟩
  rw [← H2.out]
  simp only [rok]
  have F' := (F.setX ⟨n2, d2⟩).next b1
  clear b1 F
  clear s1 s2 s3 s4 s5 s6 z1 z2 z3 z4 z5 z6 z7 z8 f1 f2 f3 f4
  have F := F'
  clear F'
  have s1 := F.x.1
  have s2 := F.y.1
  have s3 := F.hp
  have s4 := F.hq
  have s5 := F.ne
  have s6 := Ne.symm F.ne
  have z1 := F.a.2.1
  have z2 := F.a.2.2
  have z3 := F.b.2.1
  have z4 := F.b.2.2
  have z5 := F.x.2.1
  have z6 := F.x.2.2
  have z7 := F.y.2.1
  have z8 := F.y.2.2
  have f1 := F.fx 0
  have f2 := F.fx 1
  have f3 := F.fy 0
  have f4 := F.fy 1
  go_wp2_with fail
  refine (h.mul a b _ hA.out hB.out).mono ?_
  rintro e u3 ⟨rfl, b1⟩
  rw [← H3.out]
  simp only [rok]
  have F' := (F.setY ⟨n2, d2⟩).next b1
  clear b1 F
  clear s1 s2 s3 s4 s5 s6 z1 z2 z3 z4 z5 z6 z7 z8 f1 f2 f3 f4
  have F := F'
  clear F'
  have s1 := F.x.1
  have s2 := F.y.1
  have s3 := F.hp
  have s4 := F.hq
  have s5 := F.ne
  have s6 := Ne.symm F.ne
  have z1 := F.a.2.1
  have z2 := F.a.2.2
  have z3 := F.b.2.1
  have z4 := F.b.2.2
  have z5 := F.x.2.1
  have z6 := F.x.2.2
  have z7 := F.y.2.1
  have z8 := F.y.2.2
  have f1 := F.fx 0
  have f2 := F.fx 1
  have f3 := F.fy 0
  have f4 := F.fy 1
  go_wp2_with fail
  refine (MulR_x a b _ hA.out hB.out).mono ?_
  rintro e x3 ⟨rfl, b1⟩
  rw [← H3.out]
  simp only [rok]
  have F' := (F.setX ⟨n3, d3⟩).next b1
  clear b1 F
  clear s1 s2 s3 s4 s5 s6 z1 z2 z3 z4 z5 z6 z7 z8 f1 f2 f3 f4
  have F := F'
  clear F'
  have s1 := F.x.1
  have s2 := F.y.1
  have s3 := F.hp
  have s4 := F.hq
  have s5 := F.ne
  have s6 := Ne.symm F.ne
  have z1 := F.a.2.1
  have z2 := F.a.2.2
  have z3 := F.b.2.1
  have z4 := F.b.2.2
  have z5 := F.x.2.1
  have z6 := F.x.2.2
  have z7 := F.y.2.1
  have z8 := F.y.2.2
  have f1 := F.fx 0
  have f2 := F.fx 1
  have f3 := F.fy 0
  have f4 := F.fy 1
  go_wp2_with fail
  refine (h.div a b _ hA.out hB.out).mono ?_
  rintro e u4 ⟨rfl, b1⟩
  rw [← H4.out]
  simp only [rok]
  have F' := (F.setY ⟨n3, d3⟩).next b1
  clear b1 F
  clear s1 s2 s3 s4 s5 s6 z1 z2 z3 z4 z5 z6 z7 z8 f1 f2 f3 f4
  have F := F'
  clear F'
  have s1 := F.x.1
  have s2 := F.y.1
  have s3 := F.hp
  have s4 := F.hq
  have s5 := F.ne
  have s6 := Ne.symm F.ne
  have z1 := F.a.2.1
  have z2 := F.a.2.2
  have z3 := F.b.2.1
  have z4 := F.b.2.2
  have z5 := F.x.2.1
  have z6 := F.x.2.2
  have z7 := F.y.2.1
  have z8 := F.y.2.2
  have f1 := F.fx 0
  have f2 := F.fx 1
  have f3 := F.fy 0
  have f4 := F.fy 1
  go_wp2_with fail
  refine (DivR_x a b _ hA.out hB.out).mono ?_
  rintro e x4 ⟨rfl, b1⟩
  rw [← H4.out]
  simp only [rok]
  have F' := (F.setX ⟨n4, d4⟩).next b1
  clear b1 F
  clear s1 s2 s3 s4 s5 s6 z1 z2 z3 z4 z5 z6 z7 z8 f1 f2 f3 f4
  have F := F'
  clear F'
  have s1 := F.x.1
  have s2 := F.y.1
  have s3 := F.hp
  have s4 := F.hq
  have s5 := F.ne
  have s6 := Ne.symm F.ne
  have z1 := F.a.2.1
  have z2 := F.a.2.2
  have z3 := F.b.2.1
  have z4 := F.b.2.2
  have z5 := F.x.2.1
  have z6 := F.x.2.2
  have z7 := F.y.2.1
  have z8 := F.y.2.2
  have f1 := F.fx 0
  have f2 := F.fx 1
  have f3 := F.fy 0
  have f4 := F.fy 1
  go_wp2_with fail
  have F' := F.setY ⟨n4, d4⟩
  clear F
  clear s1 s2 s3 s4 s5 s6 z1 z2 z3 z4 z5 z6 z7 z8 f1 f2 f3 f4
  have F := F'
  clear F'
  have s1 := F.x.1
  have s2 := F.y.1
  have s3 := F.hp
  have s4 := F.hq
  have s5 := F.ne
  have s6 := Ne.symm F.ne
  have z1 := F.a.2.1
  have z2 := F.a.2.2
  have z3 := F.b.2.1
  have z4 := F.b.2.2
  have z5 := F.x.2.1
  have z6 := F.x.2.2
  have z7 := F.y.2.1
  have z8 := F.y.2.2
  have f1 := F.fx 0
  have f2 := F.fx 1
  have f3 := F.fy 0
  have f4 := F.fy 1
  have hT : Fw w a b _ _ _ _ _ := ⟨F⟩
  have hT' : Fw w a b _ _ _ _ _ := ⟨F.drew⟩
  go_region_held3 (fun w' => w'.cell? ⟨w.heap.size, 0, none⟩ = some (.int .i64 a.n) ∧ w'.cell? ⟨w.heap.size, 1, none⟩ = some (.int .i64 a.d) ∧ w'.cell? ⟨w.heap.size + 1, 0, none⟩ = some (.int .i64 b.n) ∧ w'.cell? ⟨w.heap.size + 1, 1, none⟩ = some (.int .i64 b.d) ∧ w'.cell? ⟨w2.heap.size, 0, none⟩ = some (.int .i64 n4) ∧ w'.cell? ⟨w2.heap.size, 1, none⟩ = some (.int .i64 d4) ∧ w'.cell? ⟨w3.heap.size, 0, none⟩ = some (.int .i64 n4) ∧ w'.cell? ⟨w3.heap.size, 1, none⟩ = some (.int .i64 d4))
    (first
      | exact hT.cells
      | exact hT'.cells
      | exact Fw.cells (X := ⟨n4, d4⟩) (Y := ⟨n4, d4⟩) (by assumption))
    (first
      | (go_at_call 21; refine (h.cmp a b _ hA.out hB.out).mono ?_; rintro e w' ⟨rfl, hb⟩; have hk : Fw w a b w2.heap.size w3.heap.size ⟨n4, d4⟩ ⟨n4, d4⟩ w' := Fw.next (by assumption) hb; rw [← hgc.out])
      | (go_at_call 22; refine (CompareR_x a b _ hA.out hB.out).mono ?_; rintro e w' ⟨rfl, hb⟩; have hk : Fw w a b w2.heap.size w3.heap.size ⟨n4, d4⟩ ⟨n4, d4⟩ w' := Fw.next (by assumption) hb; rw [← hgc.out]))
  rename_i hHeld
  have F' : Fv w a b w2.heap.size w3.heap.size ⟨n4, d4⟩ ⟨n4, d4⟩ w' := hk.out
  obtain ⟨v4, hw⟩ : ∃ x, x = w' := ⟨w', rfl⟩
  subst hw
  clear hHeld hT hT' hk hb
  clear s1 s2 s3 s4 s5 s6 z1 z2 z3 z4 z5 z6 z7 z8 f1 f2 f3 f4
  clear F
  have F := F'
  clear F'
  have s1 := F.x.1
  have s2 := F.y.1
  have s3 := F.hp
  have s4 := F.hq
  have s5 := F.ne
  have s6 := Ne.symm F.ne
  have z1 := F.a.2.1
  have z2 := F.a.2.2
  have z3 := F.b.2.1
  have z4 := F.b.2.2
  have z5 := F.x.2.1
  have z6 := F.x.2.2
  have z7 := F.y.2.1
  have z8 := F.y.2.2
  have f1 := F.fx 0
  have f2 := F.fx 1
  have f3 := F.fy 0
  have f4 := F.fy 1
  go_wp2_with fail
  have hT : Fw w a b _ _ _ _ _ := ⟨F⟩
  have hT' : Fw w a b _ _ _ _ _ := ⟨F.drew⟩
  go_region_held3 (fun w' => w'.cell? ⟨w.heap.size, 0, none⟩ = some (.int .i64 a.n) ∧ w'.cell? ⟨w.heap.size, 1, none⟩ = some (.int .i64 a.d) ∧ w'.cell? ⟨w.heap.size + 1, 0, none⟩ = some (.int .i64 b.n) ∧ w'.cell? ⟨w.heap.size + 1, 1, none⟩ = some (.int .i64 b.d) ∧ w'.cell? ⟨w2.heap.size, 0, none⟩ = some (.int .i64 n4) ∧ w'.cell? ⟨w2.heap.size, 1, none⟩ = some (.int .i64 d4) ∧ w'.cell? ⟨w3.heap.size, 0, none⟩ = some (.int .i64 n4) ∧ w'.cell? ⟨w3.heap.size, 1, none⟩ = some (.int .i64 d4))
    (first
      | exact hT.cells
      | exact hT'.cells
      | exact Fw.cells (X := ⟨n4, d4⟩) (Y := ⟨n4, d4⟩) (by assumption))
    (first
      | (go_at_call 23; refine (h.floor a _ hA.out).mono ?_; rintro e w' ⟨rfl, hb⟩; have hk : Fw w a b w2.heap.size w3.heap.size ⟨n4, d4⟩ ⟨n4, d4⟩ w' := Fw.next (by assumption) hb; rw [← hgf.out])
      | (go_at_call 24; refine (FloorR_x a _ hA.out).mono ?_; rintro e w' ⟨rfl, hb⟩; have hk : Fw w a b w2.heap.size w3.heap.size ⟨n4, d4⟩ ⟨n4, d4⟩ w' := Fw.next (by assumption) hb; rw [← hgf.out])
      | (go_at_call 25; refine (h.ceil a _ hA.out).mono ?_; rintro e w' ⟨rfl, hb⟩; have hk : Fw w a b w2.heap.size w3.heap.size ⟨n4, d4⟩ ⟨n4, d4⟩ w' := Fw.next (by assumption) hb; rw [← hgl.out])
      | (go_at_call 26; refine (CeilR_x a _ hA.out).mono ?_; rintro e w' ⟨rfl, hb⟩; have hk : Fw w a b w2.heap.size w3.heap.size ⟨n4, d4⟩ ⟨n4, d4⟩ w' := Fw.next (by assumption) hb; rw [← hgl.out])
      | (go_at_call 27; refine (h.nearest a _ hA.out).mono ?_; rintro e w' ⟨rfl, hb⟩; have hk : Fw w a b w2.heap.size w3.heap.size ⟨n4, d4⟩ ⟨n4, d4⟩ w' := Fw.next (by assumption) hb; rw [← hgn.out])
      | (go_at_call 28; refine (NearestR_x a _ hA.out).mono ?_; rintro e w' ⟨rfl, hb⟩; have hk : Fw w a b w2.heap.size w3.heap.size ⟨n4, d4⟩ ⟨n4, d4⟩ w' := Fw.next (by assumption) hb; rw [← hgn.out]))
  rename_i hHeld
  have F' : Fv w a b w2.heap.size w3.heap.size ⟨n4, d4⟩ ⟨n4, d4⟩ w' := hk.out
  obtain ⟨v4, hw⟩ : ∃ x, x = w' := ⟨w', rfl⟩
  subst hw
  clear hHeld hT hT' hk hb
  clear s1 s2 s3 s4 s5 s6 z1 z2 z3 z4 z5 z6 z7 z8 f1 f2 f3 f4
  clear F
  have F := F'
  clear F'
  go_wp2_with fail
  go_ret
  exact ⟨by try rfl, F.below⟩

end Go.Proofs.Ytnddfngdlmdmhaa
