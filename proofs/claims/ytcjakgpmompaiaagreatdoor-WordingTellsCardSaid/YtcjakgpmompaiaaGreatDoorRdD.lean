/-
  The program's reader: the first line, the tenor, the payee, the sum, the last lines.
-/
import Derived.Test.YtcjakgpmompaiaaGreatDoorRdC
namespace Go.Proofs.YtcjakgpmompaiaaGreatDoor
open Go.RowKit Rl Wd

/-- the cells of a bill -/
def cB (b : Bl) : List Value := [.int .i64 b.drawer, .int .i64 b.drawee, .int .i64 b.payee, .int .i64 b.sum, .int .i64 b.cur, .int .i64 b.tk, .int .i64 b.tn, .int .i64 b.tu, .int .i64 b.day, .int .i64 b.city, .int .i64 b.pay, .int .i64 b.need, .int .i64 b.rate, .int .i64 b.flags, .int .i64 b.parts]
/-- a bill's box -/
def BB (w : World) (h : Nat) (b : Bl) : Prop := w.heap[h]? = some (.cells (cB b).toArray 35 (0, 0))
theorem BB.lt {w : World} {h : Nat} {b : Bl} (e : BB w h b) : h < w.heap.size := (Array.getElem?_eq_some_iff.1 e).1
theorem BB.at {w : World} {h : Nat} {b : Bl} (e : BB w h b) {i : Nat} {v : Value} (hv : (cB b)[i]? = some v) : w.cell? ⟨h, i, none⟩ = some v := by
  unfold BB at e
  unfold World.cell?
  rw [e]
  simp [hv]
theorem BB.free {w : World} {h : Nat} {b : Bl} (e : BB w h b) (i : Nat) : w.frozen? ⟨h, i, none⟩ = false := by
  unfold BB at e
  unfold World.frozen?
  rw [e]
  simp
theorem BB.all {w : World} {h : Nat} {b : Bl} (e : BB w h b) : w.cell? ⟨h, 0, none⟩ = some (.int .i64 b.drawer) ∧ w.cell? ⟨h, 1, none⟩ = some (.int .i64 b.drawee) ∧ w.cell? ⟨h, 2, none⟩ = some (.int .i64 b.payee) ∧ w.cell? ⟨h, 3, none⟩ = some (.int .i64 b.sum) ∧ w.cell? ⟨h, 4, none⟩ = some (.int .i64 b.cur) ∧ w.cell? ⟨h, 5, none⟩ = some (.int .i64 b.tk) ∧ w.cell? ⟨h, 6, none⟩ = some (.int .i64 b.tn) ∧ w.cell? ⟨h, 7, none⟩ = some (.int .i64 b.tu) ∧ w.cell? ⟨h, 8, none⟩ = some (.int .i64 b.day) ∧ w.cell? ⟨h, 9, none⟩ = some (.int .i64 b.city) ∧ w.cell? ⟨h, 10, none⟩ = some (.int .i64 b.pay) ∧ w.cell? ⟨h, 11, none⟩ = some (.int .i64 b.need) ∧ w.cell? ⟨h, 12, none⟩ = some (.int .i64 b.rate) ∧ w.cell? ⟨h, 13, none⟩ = some (.int .i64 b.flags) ∧ w.cell? ⟨h, 14, none⟩ = some (.int .i64 b.parts) :=
  ⟨e.at (i := 0) rfl, e.at (i := 1) rfl, e.at (i := 2) rfl, e.at (i := 3) rfl, e.at (i := 4) rfl, e.at (i := 5) rfl, e.at (i := 6) rfl, e.at (i := 7) rfl, e.at (i := 8) rfl, e.at (i := 9) rfl, e.at (i := 10) rfl, e.at (i := 11) rfl, e.at (i := 12) rfl, e.at (i := 13) rfl, e.at (i := 14) rfl⟩
theorem BB.frees {w : World} {h : Nat} {b : Bl} (e : BB w h b) : w.frozen? ⟨h, 0, none⟩ = false ∧ w.frozen? ⟨h, 1, none⟩ = false ∧ w.frozen? ⟨h, 2, none⟩ = false ∧ w.frozen? ⟨h, 3, none⟩ = false ∧ w.frozen? ⟨h, 4, none⟩ = false ∧ w.frozen? ⟨h, 5, none⟩ = false ∧ w.frozen? ⟨h, 6, none⟩ = false ∧ w.frozen? ⟨h, 7, none⟩ = false ∧ w.frozen? ⟨h, 8, none⟩ = false ∧ w.frozen? ⟨h, 9, none⟩ = false ∧ w.frozen? ⟨h, 10, none⟩ = false ∧ w.frozen? ⟨h, 11, none⟩ = false ∧ w.frozen? ⟨h, 12, none⟩ = false ∧ w.frozen? ⟨h, 13, none⟩ = false ∧ w.frozen? ⟨h, 14, none⟩ = false :=
  ⟨e.free 0, e.free 1, e.free 2, e.free 3, e.free 4, e.free 5, e.free 6, e.free 7, e.free 8, e.free 9, e.free 10, e.free 11, e.free 12, e.free 13, e.free 14⟩
theorem BB.set {w : World} {h : Nat} {b b' : Bl} (e : BB w h b) (i : Nat) (v : Value) (hv : (cB b).set i v = cB b') : BB (w.setCell ⟨h, i, none⟩ v) h b' := by
  unfold BB at e ⊢
  unfold World.setCell
  rw [Array.getElem?_modify]
  simp [e, ← hv]
theorem BB.below {w w' : World} {h n : Nat} {b : Bl} (e : BB w h b) (hb : Below n w w') (hn : h < n) : BB w' h b := by
  unfold BB at e ⊢
  rw [hb.block _ hn]
  exact e
theorem PB.other {w : World} {g : Nat} {V : List Value} {s : B} (e : PB w g V s) {h i : Nat} (v : Value) (hg : h ≠ g) : PB (w.setCell ⟨h, i, none⟩ v) g V s := by
  refine ⟨e.1, e.2.1, ?_⟩
  rw [Below.heap_setCell _ _ _ _ (by simpa using Ne.symm hg)]
  exact e.2.2
theorem below_set {h : Nat} {w w' : World} (e : Below h w w') (i : Nat) (v : Value) : Below h w (w'.setCell ⟨h, i, none⟩ v) := e.setCell (p := ⟨h, i, none⟩) (Nat.le_refl _) _
theorem mk_miss {s : B} {x : L8} (h : false = hp s.data.toList x) : mkB (tk s.data.toList x) = s := by rw [tk_miss h.symm, mkB_of]
theorem take_c {V : List Value} {g : Nat} {s : B} (x : B) (w : World) (h : PB w g V s) :
    Calls Tryz.prog 52 #[.pointer (some ⟨g, 0, none⟩), .string x] w fun r w' => ∃ c : Bool, r = .returned (.bool c) ∧ c = hp s.data.toList x.data.toList ∧ PB w' g V (mkB (tk s.data.toList x.data.toList)) ∧ Onl g w w' := by
  refine (take_x x w h).mono ?_
  rintro r w' ⟨rfl, h1, h2⟩
  exact ⟨_, rfl, rfl, h1, h2⟩


set_option maxHeartbeats 3200000 in
set_option maxRecDepth 100000 in
theorem heading_x {V : List Value} {g h : Nat} {s : B} {b : Bl} (w : World) (hp0 : PB w g V s) (hb0 : BB w h b) (hf : b.flags = 0) (hlt : h < g) (hL : ∀ w', Below h w w' → Ev w') :
    Calls Tryz.prog 51 #[.pointer (some ⟨g, 0, none⟩), .pointer (some ⟨h, 0, none⟩)] w fun r w' => ∃ (d : Bool) (v N : Int) (t : B), r = .returned (.int .i64 v) ∧ HeadR s.data.toList d v N t.data.toList ∧ PB w' g V t ∧ BB w' h { b with flags := if d = true then 1 else 0, parts := N } ∧ Below h w w' := by
  have H0 := Lib.hid hp0
  have X0 := Lib.hid hb0
  have HLT := Lib.hid hlt
  have HL := Lib.hid hL
  have B0 := Lib.hid (Below.refl h w)
  have HF := Lib.hid hf
  clear hp0 hb0 hlt hL hf
  go_enter Tryz.func51, Tryz.ntmps51
  go_wp2_with fail
  refine (take_c ⟨#[98, 105, 108, 108, 32]⟩ _ H0.out).mono ?_
  rintro r w1 ⟨q1, rfl, e1, h1, b1⟩
  have H1 := Lib.hid h1
  have G1 := Lib.hid b1
  replace b1 := b1.low H0.out.lt
  have X1 := Lib.hid (X0.out.below b1 HLT.out)
  have B1 := Lib.hid (B0.out.trans (b1.mono (Nat.le_of_lt HLT.out)))
  clear h1 b1
  have E1 := Lib.hid e1
  clear e1
  cases q1 with
  | true =>
    have y0 := X1.out.at (i := 13) rfl
    have f0 := X1.out.free 13
    rw [HF.out] at y0
    have X2 := Lib.hid (X1.out.set 13 (.int .i64 1) (b' := { b with flags := 1 }) rfl)
    have H2 := Lib.hid (H1.out.other (h := h) (i := 13) (.int .i64 1) (Nat.ne_of_lt HLT.out))
    have B2 := Lib.hid (below_set B1.out 13 (.int .i64 1))
    go_wp2_with fail
    refine (number_x _ H2.out (HL.out _ B2.out)).mono ?_
    rintro r w3 ⟨v3, t3, rfl, p3, o3, n3, h3, b3⟩
    have N3 := Lib.hid n3
    clear n3
    have H3 := Lib.hid h3
    have G3 := Lib.hid b3
    replace b3 := b3.low H2.out.lt
    have X3 := Lib.hid (X2.out.below b3 HLT.out)
    have B3 := Lib.hid (B2.out.trans (b3.mono (Nat.le_of_lt HLT.out)))
    clear h3 b3
    go_wp2_with fail
    refine (take_c ⟨#[32, 111, 102, 32]⟩ _ H3.out).mono ?_
    rintro r w4 ⟨q4, rfl, e4, h4, b4⟩
    have H4 := Lib.hid h4
    have G4 := Lib.hid b4
    replace b4 := b4.low H3.out.lt
    have X4 := Lib.hid (X3.out.below b4 HLT.out)
    have B4 := Lib.hid (B3.out.trans (b4.mono (Nat.le_of_lt HLT.out)))
    clear h4 b4
    have E4 := Lib.hid e4
    clear e4
    go_wp2_with fail
    refine (number_x _ H4.out (HL.out _ B4.out)).mono ?_
    rintro r w5 ⟨v5, t5, rfl, p5, o5, n5, h5, b5⟩
    have N5 := Lib.hid n5
    clear n5
    have H5 := Lib.hid h5
    have G5 := Lib.hid b5
    replace b5 := b5.low H4.out.lt
    have X5 := Lib.hid (X4.out.below b5 HLT.out)
    have B5 := Lib.hid (B4.out.trans (b5.mono (Nat.le_of_lt HLT.out)))
    clear h5 b5
    have y6 := X5.out.at (i := 14) rfl
    have f6 := X5.out.free 14
    have X6 := Lib.hid (X5.out.set 14 (.int .i64 v5) (b' := { b with flags := 1, parts := v5 }) rfl)
    have H6 := Lib.hid (H5.out.other (h := h) (i := 14) (.int .i64 v5) (Nat.ne_of_lt HLT.out))
    have B6 := Lib.hid (below_set B5.out 14 (.int .i64 v5))
    go_wp2_with fail
    clear y6 f6
    refine (take_c ⟨#[10]⟩ _ H6.out).mono ?_
    rintro r w7 ⟨q7, rfl, e7, h7, b7⟩
    have H7 := Lib.hid h7
    have G7 := Lib.hid b7
    replace b7 := b7.low H6.out.lt
    have X7 := Lib.hid (X6.out.below b7 HLT.out)
    have B7 := Lib.hid (B6.out.trans (b7.mono (Nat.le_of_lt HLT.out)))
    clear h7 b7
    go_wp2
    go_ret
    exact ⟨true, _, v5, _, rfl, headR_of (v1 := v3) E1.out rfl N3.out N5.out, H7.out, X7.out, B7.out⟩
  | false =>
    rw [mk_miss E1.out] at H1
    go_wp2_with fail
    refine (take_c ⟨#[112, 97, 112, 101, 114, 32]⟩ _ H1.out).mono ?_
    rintro r w2 ⟨q2, rfl, e2, h2, b2⟩
    have H2 := Lib.hid h2
    have G2 := Lib.hid b2
    replace b2 := b2.low H1.out.lt
    have X2 := Lib.hid (X1.out.below b2 HLT.out)
    have B2 := Lib.hid (B1.out.trans (b2.mono (Nat.le_of_lt HLT.out)))
    clear h2 b2
    have E2 := Lib.hid e2
    clear e2
    have X2' := Lib.hid (show BB w2 h { b with flags := 0 } by have := X2.out; rw [show b = { b with flags := 0 } by rw [← HF.out]] at this; exact this)
    clear X2
    have X2 := X2'
    clear X2'
    go_wp2_with fail
    refine (number_x _ H2.out (HL.out _ B2.out)).mono ?_
    rintro r w3 ⟨v3, t3, rfl, p3, o3, n3, h3, b3⟩
    have N3 := Lib.hid n3
    clear n3
    have H3 := Lib.hid h3
    have G3 := Lib.hid b3
    replace b3 := b3.low H2.out.lt
    have X3 := Lib.hid (X2.out.below b3 HLT.out)
    have B3 := Lib.hid (B2.out.trans (b3.mono (Nat.le_of_lt HLT.out)))
    clear h3 b3
    go_wp2_with fail
    refine (take_c ⟨#[32, 111, 102, 32]⟩ _ H3.out).mono ?_
    rintro r w4 ⟨q4, rfl, e4, h4, b4⟩
    have H4 := Lib.hid h4
    have G4 := Lib.hid b4
    replace b4 := b4.low H3.out.lt
    have X4 := Lib.hid (X3.out.below b4 HLT.out)
    have B4 := Lib.hid (B3.out.trans (b4.mono (Nat.le_of_lt HLT.out)))
    clear h4 b4
    have E4 := Lib.hid e4
    clear e4
    go_wp2_with fail
    refine (number_x _ H4.out (HL.out _ B4.out)).mono ?_
    rintro r w5 ⟨v5, t5, rfl, p5, o5, n5, h5, b5⟩
    have N5 := Lib.hid n5
    clear n5
    have H5 := Lib.hid h5
    have G5 := Lib.hid b5
    replace b5 := b5.low H4.out.lt
    have X5 := Lib.hid (X4.out.below b5 HLT.out)
    have B5 := Lib.hid (B4.out.trans (b5.mono (Nat.le_of_lt HLT.out)))
    clear h5 b5
    have y6 := X5.out.at (i := 14) rfl
    have f6 := X5.out.free 14
    have X6 := Lib.hid (X5.out.set 14 (.int .i64 v5) (b' := { b with flags := 0, parts := v5 }) rfl)
    have H6 := Lib.hid (H5.out.other (h := h) (i := 14) (.int .i64 v5) (Nat.ne_of_lt HLT.out))
    have B6 := Lib.hid (below_set B5.out 14 (.int .i64 v5))
    go_wp2_with fail
    clear y6 f6
    refine (take_c ⟨#[10]⟩ _ H6.out).mono ?_
    rintro r w7 ⟨q7, rfl, e7, h7, b7⟩
    have H7 := Lib.hid h7
    have G7 := Lib.hid b7
    replace b7 := b7.low H6.out.lt
    have X7 := Lib.hid (X6.out.below b7 HLT.out)
    have B7 := Lib.hid (B6.out.trans (b7.mono (Nat.le_of_lt HLT.out)))
    clear h7 b7
    go_wp2
    go_ret
    exact ⟨false, _, v5, _, rfl, headR_of (v1 := v3) E1.out rfl N3.out N5.out, H7.out, X7.out, B7.out⟩


/-- a box of cells -/
def CBx (w : World) (z : Nat) (L : List Value) : Prop := w.heap[z]? = some (.cells L.toArray 33 (0, 0))
theorem CBx.lt {w : World} {h : Nat} {b : List Value} (e : CBx w h b) : h < w.heap.size := (Array.getElem?_eq_some_iff.1 e).1
theorem CBx.at {w : World} {h : Nat} {b : List Value} (e : CBx w h b) {i : Nat} {v : Value} (hv : b[i]? = some v) : w.cell? ⟨h, i, none⟩ = some v := by
  unfold CBx at e
  unfold World.cell?
  rw [e]
  simp [hv]
theorem CBx.free {w : World} {h : Nat} {b : List Value} (e : CBx w h b) (i : Nat) : w.frozen? ⟨h, i, none⟩ = false := by
  unfold CBx at e
  unfold World.frozen?
  rw [e]
  simp
theorem CBx.set {w : World} {h : Nat} {b : List Value} (e : CBx w h b) (i : Nat) (v : Value) : CBx (w.setCell ⟨h, i, none⟩ v) h (b.set i v) := by
  unfold CBx at e ⊢
  unfold World.setCell
  rw [Array.getElem?_modify]
  simp [e]
theorem CBx.below {w w' : World} {h n : Nat} {b : List Value} (e : CBx w h b) (hb : Below n w w') (hn : h < n) : CBx w' h b := by
  unfold CBx at e ⊢
  rw [hb.block _ hn]
  exact e
theorem CBx.new (w : World) (L : List Value) : CBx (w.alloc (.cells L.toArray 33)) w.heap.size L := by
  unfold CBx
  rw [heap_alloc_new]

end Go.Proofs.YtcjakgpmompaiaaGreatDoor
