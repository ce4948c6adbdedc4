/-
  Disks in boxes of the law's own; the examples (small).
-/
import Derived.Test.YtcbeodhopimmlaaLawA
namespace Go.Proofs.Ytcbeodhopimmlaa
open Go.RowKit Dk

abbrev put4 (W : World) (g : Nat) (sv pv : Value) (l : Int) (b : Bool) : World := (((W.setCell ⟨g, 0, none⟩ sv).setCell ⟨g, 1, none⟩ pv).setCell ⟨g, 2, none⟩ (.int .i64 l)).setCell ⟨g, 3, none⟩ (.bool b)
theorem cell_set_ne (W : World) {g o g' o' : Nat} (u : Value) (h : g' ≠ g ∨ o' ≠ o) : (W.setCell ⟨g, o, none⟩ u).cell? ⟨g', o', none⟩ = W.cell? ⟨g', o', none⟩ :=
  World.cell?_setCell_other _ _ _ _ (by intro e; injection e with e1 e2 _; rcases h with h | h; exact h e1.symm; exact h e2.symm)
theorem put4_other (W : World) {g g' o' : Nat} (sv pv : Value) (l : Int) (b : Bool) (h : g' ≠ g ∨ 3 < o') : (put4 W g sv pv l b).cell? ⟨g', o', none⟩ = W.cell? ⟨g', o', none⟩ := by
  rw [cell_set_ne _ _ (by omega), cell_set_ne _ _ (by omega), cell_set_ne _ _ (by omega), cell_set_ne _ _ (by omega)]
theorem Bx.put {sv0 pv0 : Value} {l0 : Int} {b0 : Bool} {g : Nat} {W : World} (h : Bx sv0 pv0 l0 b0 g W) (sv pv : Value) (l : Int) (b : Bool) : Bx sv pv l b g (put4 W g sv pv l b) := by
  have h0 : (W.setCell ⟨g, 0, none⟩ sv).cell? ⟨g, 0, none⟩ = some sv := World.cell?_setCell_same _ _ _ h.c0
  have h1 : ((W.setCell ⟨g, 0, none⟩ sv).setCell ⟨g, 1, none⟩ pv).cell? ⟨g, 1, none⟩ = some pv := World.cell?_setCell_same _ _ _ (by rw [cell_set_ne _ _ (by omega)]; exact h.c1)
  have h2 : (((W.setCell ⟨g, 0, none⟩ sv).setCell ⟨g, 1, none⟩ pv).setCell ⟨g, 2, none⟩ (.int .i64 l)).cell? ⟨g, 2, none⟩ = some (.int .i64 l) := World.cell?_setCell_same _ _ _ (by rw [cell_set_ne _ _ (by omega), cell_set_ne _ _ (by omega)]; exact h.c2)
  refine ⟨by simpa using h.lt, ?_, ?_, ?_, ?_, fun o => by simpa using h.fz o⟩
  · rw [cell_set_ne _ _ (by omega), cell_set_ne _ _ (by omega), cell_set_ne _ _ (by omega)]; exact h0
  · rw [cell_set_ne _ _ (by omega), cell_set_ne _ _ (by omega)]; exact h1
  · rw [cell_set_ne _ _ (by omega)]; exact h2
  · exact World.cell?_setCell_same _ _ _ (by rw [cell_set_ne _ _ (by omega), cell_set_ne _ _ (by omega), cell_set_ne _ _ (by omega)]; exact h.c3)
theorem Bx.putO {sv0 pv0 : Value} {l0 : Int} {b0 : Bool} {g' : Nat} {W : World} (h : Bx sv0 pv0 l0 b0 g' W) {g : Nat} (hne : g' ≠ g) (sv pv : Value) (l : Int) (b : Bool) : Bx sv0 pv0 l0 b0 g' (put4 W g sv pv l b) := by
  refine ⟨by simpa using h.lt, ?_, ?_, ?_, ?_, fun o => by simpa using h.fz o⟩
  · rw [put4_other _ _ _ _ _ (.inl hne)]; exact h.c0
  · rw [put4_other _ _ _ _ _ (.inl hne)]; exact h.c1
  · rw [put4_other _ _ _ _ _ (.inl hne)]; exact h.c2
  · rw [put4_other _ _ _ _ _ (.inl hne)]; exact h.c3
/-- a box holds slices, a number and a truth value: no disk that is read lies in it -/
theorem DAt.put {svb pvb : Value} {l0 : Int} {b0 : Bool} {g : Nat} {W : World} {v : Value} {d : D} (h : DAt W v d) (hb : Bx svb pvb l0 b0 g W) (hs : ∀ s, svb ≠ .string s) (hp : ∀ s, pvb ≠ .string s) (sv pv : Value) (l : Int) (b : Bool) : DAt (put4 W g sv pv l b) v d := by
  have str : ∀ (g' o : Nat) (s : B), W.cell? ⟨g', o, none⟩ = some (.string s) → g' ≠ g ∨ 3 < o := by
    intro g' o s h
    apply Classical.byContradiction
    intro hc
    have e1 : g' = g := Classical.byContradiction fun e => hc (.inl e)
    subst e1
    have e2 : o ≤ 3 := by omega
    match o, e2 with
    | 0, _ => rw [hb.c0] at h; simp only [Option.some.injEq] at h; exact hs s h
    | 1, _ => rw [hb.c1] at h; simp only [Option.some.injEq] at h; exact hp s h
    | 2, _ => rw [hb.c2] at h; simp at h
    | 3, _ => rw [hb.c3] at h; simp at h
  obtain ⟨sv', pv', e, ⟨a, c, e1, h1, h2⟩, ⟨a2, c2, e2, h3, h4⟩⟩ := h
  refine ⟨sv', pv', e, ⟨a, c, e1, h1, fun j x hx => ?_⟩, ⟨a2, c2, e2, h3, fun j p hp' => ?_⟩⟩
  · obtain ⟨q, off, e3, hlt, hcell⟩ := h2 j x hx
    rw [List.getElem?_map] at hx
    obtain ⟨s, -, rfl⟩ := Option.map_eq_some_iff.1 hx
    exact ⟨q, off, e3, by simpa using hlt, by rw [put4_other _ _ _ _ _ (str _ _ _ hcell)]; exact hcell⟩
  · obtain ⟨q, off, e3, hlt, hc1, hc2⟩ := h4 j p hp'
    have k2 := str _ _ _ hc2
    have k1 : q ≠ g ∨ 3 < off + j * 2 := by
      apply Classical.byContradiction
      intro hc
      have e1 : q = g := Classical.byContradiction fun e => hc (.inl e)
      subst e1
      have e5 : off + j * 2 = 3 := by omega
      rw [e5, hb.c3] at hc1
      simp at hc1
    exact ⟨q, off, e3, by simpa using hlt, by rw [put4_other _ _ _ _ _ k1]; exact hc1, by rw [put4_other _ _ _ _ _ k2]; exact hc2⟩
theorem below_put {w W : World} (h : Below w.heap.size w W) {g : Nat} (hg : w.heap.size ≤ g) (sv pv : Value) (l : Int) (b : Bool) : Below w.heap.size w (put4 W g sv pv l b) :=
  (((h.setCell (p := ⟨g, 0, none⟩) hg _).setCell (p := ⟨g, 1, none⟩) hg _).setCell (p := ⟨g, 2, none⟩) hg _).setCell (p := ⟨g, 3, none⟩) hg _
/-- a disk in a box -/
structure Vr (d : D) (g : Nat) (w W : World) : Prop where
  ex : ∃ a c b c2, Bx (.slice a d.secs.length c) (.slice b d.pend.length c2) d.left d.down g W ∧ DAt W (.agg #[.slice a d.secs.length c, .slice b d.pend.length c2, .int .i64 d.left, .bool d.down]) d
  lo : w.heap.size ≤ g
theorem Vr.next {d : D} {g : Nat} {w W W' : World} (h : Vr d g w W) (hb : Below W.heap.size W W') : Vr d g w W' := by
  obtain ⟨a, c, b, c2, h1, h2⟩ := h.ex
  exact ⟨⟨a, c, b, c2, h1.next hb, h2.next hb⟩, h.lo⟩
theorem Vr.lt {d : D} {g : Nat} {w W : World} (h : Vr d g w W) : g < W.heap.size := by
  obtain ⟨a, c, b, c2, h1, h2⟩ := h.ex
  exact h1.lt
/-- a new box -/
theorem Vr.new {d : D} {w W : World} {sv pv : Value} (h : DAt W (.agg #[sv, pv, .int .i64 d.left, .bool d.down]) d) (hw : w.heap.size ≤ W.heap.size) (T : TypeId) : Vr d W.heap.size w (W.alloc (.cells #[sv, pv, .int .i64 d.left, .bool d.down] T)) := by
  obtain ⟨a, c, b, c2, e, -, -, -, -⟩ := h.form
  simp at e
  obtain ⟨rfl, rfl⟩ := e
  exact ⟨⟨a, c, b, c2, Bx.new _ _ _ _ _ _, h.next (Below.new1 _)⟩, hw⟩
/-- a box written again -/
theorem Vr.put {d0 d : D} {g : Nat} {w W : World} {sv pv : Value} (h0 : Vr d0 g w W) (h : DAt W (.agg #[sv, pv, .int .i64 d.left, .bool d.down]) d) : Vr d g w (put4 W g sv pv d.left d.down) := by
  obtain ⟨a, c, b, c2, e, -, -, -, -⟩ := h.form
  simp at e
  obtain ⟨rfl, rfl⟩ := e
  obtain ⟨a0, c0, b0, c20, h1, h2⟩ := h0.ex
  exact ⟨⟨a, c, b, c2, h1.put _ _ _ _, h.put h1 (fun s => by simp) (fun s => by simp) _ _ _ _⟩, h0.lo⟩
theorem Vr.putO {d0 d1 : D} {g g1 : Nat} {w W : World} (h : Vr d0 g w W) (h1 : Vr d1 g1 w W) (hne : g ≠ g1) (sv pv : Value) (l : Int) (b : Bool) : Vr d0 g w (put4 W g1 sv pv l b) := by
  obtain ⟨a, c, b', c2, h2, h3⟩ := h.ex
  obtain ⟨a0, c0, b0, c20, h4, -⟩ := h1.ex
  exact ⟨⟨a, c, b', c2, h2.putO hne _ _ _ _, h3.put h4 (fun s => by simp) (fun s => by simp) _ _ _ _⟩, h.lo⟩

/-! the values of the examples -/
def sAB : B := ⟨#[97, 98]⟩
def sX : B := ⟨#[120]⟩
def sN : B := ⟨#[48, 49, 50, 51, 52, 53, 54, 55, 56, 57]⟩
def sY : B := ⟨#[121]⟩
def k1 : D := ⟨[zb 16, zb 16], [], -1, false⟩
def k2 : D := ⟨[zb 16, zb 16], [(0, pad sAB)], -1, false⟩
def k3 : D := ⟨[pad sAB, zb 16], [], -1, false⟩
def k4 : D := ⟨[pad sAB, zb 16], [(0, pad sX)], -1, false⟩
def k5 : D := ⟨[pad sAB, zb 16], [], -1, true⟩
def k6 : D := ⟨[pad sAB, zb 16], [], -1, false⟩
def l1 : D := ⟨[zb 16, zb 16], [(0, pad sN)], -1, false⟩
def l2 : D := ⟨[zb 16, zb 16], [(0, pad sN), (1, pad sY)], -1, false⟩
def l3 : D := ⟨[zb 16, zb 16], [(0, pad sN), (1, pad sY)], 0, false⟩
def l4 : D := ⟨[torn (pad sN) (zb 16), zb 16], [], -1, true⟩
def l5 : D := ⟨[torn (pad sN) (zb 16), zb 16], [], -1, false⟩
theorem eq0 : newV 2 = (k1, 0) := by kernel_rfl
theorem eq1 : wrV k1 0 sAB = (k2, 0) := by kernel_rfl
theorem eq2 : flV k2 = (k3, 0) := by kernel_rfl
theorem eq3 : wrV k3 0 sX = (k4, 0) := by kernel_rfl
theorem eq4 : cutV k4 = (k5, 0) := by kernel_rfl
theorem eq5 : stV k5 = (k6, 0) := by kernel_rfl
theorem eq6 : wrV k1 0 sN = (l1, 0) := by kernel_rfl
theorem eq7 : wrV l1 1 sY = (l2, 0) := by kernel_rfl
theorem eq8 : armV l2 0 = (l3, 0) := by kernel_rfl
theorem eq9 : flV l3 = (l4, 8) := by kernel_rfl
theorem eq10 : stV l4 = (l5, 0) := by kernel_rfl
theorem eq11 : stV l5 = (D0, 7) := by kernel_rfl
theorem rd0 : rdV k6 0 = (⟨#[97, 98, 0, 0, 0, 0, 0, 0, 0, 0, 0, 0, 0, 0, 0, 0]⟩, 0) := by kernel_rfl
theorem rd1 : rdV l5 0 = (⟨#[48, 49, 50, 51, 52, 53, 54, 55, 0, 0, 0, 0, 0, 0, 0, 0]⟩, 0) := by kernel_rfl
theorem rd2 : rdV l5 1 = (⟨#[0, 0, 0, 0, 0, 0, 0, 0, 0, 0, 0, 0, 0, 0, 0, 0]⟩, 0) := by kernel_rfl
theorem rd3 : rdV l4 0 = (⟨#[]⟩, 8) := by kernel_rfl
theorem fit_k : Fit k1 ∧ Fit k2 ∧ Fit k3 ∧ Fit k4 ∧ Fit k5 ∧ Fit k6 ∧ Fit l1 ∧ Fit l2 ∧ Fit l3 ∧ Fit l4 ∧ Fit l5 :=
  ⟨fit_right (by kernel_rfl), fit_right (by kernel_rfl), fit_right (by kernel_rfl), fit_right (by kernel_rfl), fit_right (by kernel_rfl), fit_right (by kernel_rfl), fit_right (by kernel_rfl), fit_right (by kernel_rfl), fit_right (by kernel_rfl), fit_right (by kernel_rfl), fit_right (by kernel_rfl)⟩
theorem chk_l4 : chk l4 = 0 := by kernel_rfl
theorem chk_0 : chk D0 = 1 := by kernel_rfl

theorem conv_v {P : Program} {f : FuncId} {args : Array Value} {w : World} {v l : List B} (h : Calls P f args w fun r w' => ∃ x, r = .returned (.tuple #[x, .bool true]) ∧ SAt w' x (strs v) ∧ Below w.heap.size w w') (hv : v = l) :
    Calls P f args w fun r w' => ∃ a c, r = .returned (.tuple #[.slice a l.length c, .bool true]) ∧ SAt w' (.slice a l.length c) (strs l) ∧ Below w.heap.size w w' := by
  subst hv
  refine h.mono ?_
  rintro r w' ⟨x, rfl, hx, hb⟩
  obtain ⟨a, c, rfl, h1, h2⟩ := id hx
  rw [strs_len] at *
  exact ⟨a, c, rfl, hx, hb⟩
theorem DAt.secs_at {W : World} {sv pv : Value} {l : Int} {b : Bool} {d : D} (h : DAt W (.agg #[sv, pv, .int .i64 l, .bool b]) d) : SAt W sv (strs d.secs) := by
  obtain ⟨sv', pv', e, h1, h2⟩ := h
  simp at e
  obtain ⟨rfl, rfl, -, -⟩ := e
  exact h1
theorem conv_d {P : Program} {f : FuncId} {args : Array Value} {w : World} {v : D × Int} {d : D} {e : Int} (h : Calls P f args w fun r w' => ∃ x, r = .returned (.tuple #[x, .int .i64 v.2]) ∧ DAt w' x v.1 ∧ Below w.heap.size w w') (hv : v = (d, e)) :
    Calls P f args w fun r w' => ∃ a c b c2, r = .returned (.tuple #[.agg #[.slice a d.secs.length c, .slice b d.pend.length c2, .int .i64 d.left, .bool d.down], .int .i64 e]) ∧ DAt w' (.agg #[.slice a d.secs.length c, .slice b d.pend.length c2, .int .i64 d.left, .bool d.down]) d ∧ Below w.heap.size w w' := by
  subst hv
  refine h.mono ?_
  rintro r w' ⟨x, rfl, hx, hb⟩
  obtain ⟨a, c, b, c2, rfl, -, -, -, -⟩ := hx.form
  exact ⟨a, c, b, c2, rfl, hx, hb⟩
theorem conv_r {P : Program} {f : FuncId} {args : Array Value} {w : World} {v : B × Int} {s : B} {e : Int} (h : Calls P f args w fun r w' => r = .returned (.tuple #[.string v.1, .int .i64 v.2]) ∧ Below w.heap.size w w') (hv : v = (s, e)) :
    Calls P f args w fun r w' => r = .returned (.tuple #[.string s, .int .i64 e]) ∧ Below w.heap.size w w' := by
  subst hv
  exact h
theorem conv_c {P : Program} {f : FuncId} {args : Array Value} {w : World} {n e : Int} (h : Calls P f args w fun r w' => r = .returned (.int .i64 n) ∧ Below w.heap.size w w') (hv : n = e) :
    Calls P f args w fun r w' => r = .returned (.int .i64 e) ∧ Below w.heap.size w w' := by
  subst hv
  exact h
/-- what a law asks of the examples -/
def SmallOk : Prop := ∀ w : World, Calls Try.prog 8 #[] w fun r w' => r = .returned (.bool true) ∧ Below w.heap.size w w'

end Go.Proofs.Ytcbeodhopimmlaa
