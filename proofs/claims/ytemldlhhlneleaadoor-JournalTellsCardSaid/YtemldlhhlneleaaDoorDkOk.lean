/-
  What later laws ask of disk (DiskOk).
-/
import Derived.Test.YtemldlhhlneleaaDoorRefG
namespace Go.Proofs.YtemldlhhlneleaaDoor
open Go.RowKit Dk

/-- THE PROGRAM's CONTRACTS. -/
structure DiskOk : Prop where
  check : ∀ (v : Value) (d : D) (w : World), DAt w v d → Fit d → Calls Tryd.prog 50 #[v] w fun r w' => r = .returned (.int .i64 (chk d)) ∧ Below w.heap.size w w'
  write : ∀ (v : Value) (d : D) (n : Int) (s : B) (w : World), DAt w v d → Fit d → I64 n → s.size ≤ 9223372036854775807 → Calls Tryd.prog 58 #[v, .int .i64 n, .string s] w fun r w' => ∃ x, r = .returned (.tuple #[x, .int .i64 (wrV d n s).2]) ∧ DAt w' x (wrV d n s).1 ∧ Below w.heap.size w w'
  flush : ∀ (v : Value) (d : D) (w : World), DAt w v d → Fit d → Calls Tryd.prog 59 #[v] w fun r w' => ∃ x, r = .returned (.tuple #[x, .int .i64 (flV d).2]) ∧ DAt w' x (flV d).1 ∧ Below w.heap.size w w'
  arm : ∀ (v : Value) (d : D) (n : Int) (w : World), DAt w v d → Fit d → I64 n → Calls Tryd.prog 27 #[v, .int .i64 n] w fun r w' => ∃ x, r = .returned (.tuple #[x, .int .i64 (armV d n).2]) ∧ DAt w' x (armV d n).1 ∧ Below w.heap.size w w'
  cut : ∀ (v : Value) (d : D) (w : World), DAt w v d → Fit d → Calls Tryd.prog 29 #[v] w fun r w' => ∃ x, r = .returned (.tuple #[x, .int .i64 (cutV d).2]) ∧ DAt w' x (cutV d).1 ∧ Below w.heap.size w w'
  start : ∀ (v : Value) (d : D) (w : World), DAt w v d → Fit d → Calls Tryd.prog 28 #[v] w fun r w' => ∃ x, r = .returned (.tuple #[x, .int .i64 (stV d).2]) ∧ DAt w' x (stV d).1 ∧ Below w.heap.size w w'

/-- a right disk fits -/
theorem fit_right {d : D} (h : checkB d = true) : Fit d := by
  obtain ⟨h1, h2, h3, -⟩ := check_iff.1 h
  refine ⟨by omega, by omega, by unfold I64; omega, fun p hp => ?_, fun s hs => by rw [h2 s hs]; decide, fun p hp => by rw [(h3 p hp).2.2]; decide⟩
  have := h3 p hp
  unfold I64
  omega
theorem fit_zero : Fit D0 := ⟨Nat.zero_le _, Nat.zero_le _, (by unfold I64; decide), fun p hp => absurd hp (List.not_mem_nil), fun s hs => absurd hs (List.not_mem_nil), fun p hp => absurd hp (List.not_mem_nil)⟩

/-- what is true of a disk that comes in, however long -/
structure FitW (d : D) : Prop where
  left : I64 d.left
  at_ : ∀ p ∈ d.pend, I64 p.1
  s1 : ∀ s ∈ d.secs, s.size ≤ 9223372036854775807
  s2 : ∀ p ∈ d.pend, p.2.size ≤ 9223372036854775807
theorem FitW.fit {d : D} (h : FitW d) (h1 : d.secs.length ≤ 1099511627776) (h2 : d.pend.length ≤ 1099511627776) : Fit d := ⟨h1, h2, h.left, h.at_, h.s1, h.s2⟩

end Go.Proofs.YtemldlhhlneleaaDoor

/-
  Disks in boxes of the law's own.
-/
namespace Go.Proofs.YtemldlhhlneleaaDoor
open Go.RowKit Dk

abbrev put4 (W : World) (g : Nat) (sv pv : Value) (l : Int) (b : Bool) : World := (((W.setCell ⟨g, 0, none⟩ sv).setCell ⟨g, 1, none⟩ pv).setCell ⟨g, 2, none⟩ (.int .i64 l)).setCell ⟨g, 3, none⟩ (.bool b)
theorem cell_set_ne (W : World) {g o g' o' : Nat} (u : Value) (h : g' ≠ g ∨ o' ≠ o) : (W.setCell ⟨g, o, none⟩ u).cell? ⟨g', o', none⟩ = W.cell? ⟨g', o', none⟩ :=
  World.cell?_setCell_other _ _ _ _ (by intro e; injection e with e1 e2 _; rcases h with h | h; exact h e1.symm; exact h e2.symm)
theorem put4_other (W : World) {g g' o' : Nat} (sv pv : Value) (l : Int) (b : Bool) (h : g' ≠ g ∨ 3 < o') : (put4 W g sv pv l b).cell? ⟨g', o', none⟩ = W.cell? ⟨g', o', none⟩ := by
  rw [cell_set_ne _ _ (by omega), cell_set_ne _ _ (by omega), cell_set_ne _ _ (by omega), cell_set_ne _ _ (by omega)]
theorem Bx.put {sv0 pv0 : Value} {l0 : Int} {b0 : Bool} {g : Nat} {W : World} (h : Bx sv0 pv0 l0 b0 g W) (sv pv : Value) (l : Int) (b : Bool) : Bx sv pv l b g (put4 W g sv pv l b) := by
  have h0 : (W.setCell ⟨g, 0, none⟩ sv).cell? ⟨g, 0, none⟩ = some sv := World.cell?_setCell_same _ _ _ h.c0
  have h1 : ((W.setCell ⟨g, 0, none⟩ sv).setCell ⟨g, 1, none⟩ pv).cell? ⟨g, 1, none⟩ = some pv := World.cell?_setCell_same _ _ _ (by rw [cell_set_ne _ _ (by omega)]; exact h.c1)
  have h2 : (((W.setCell ⟨g, 0, none⟩ sv).setCell ⟨g, 1, none⟩ pv).setCell ⟨g, 2, none⟩ (.int .i64 l)).cell? ⟨g, 2, none⟩ = some (.int .i64 l) := World.cell?_setCell_same _ _ _ (by rw [cell_set_ne _ _ (by omega), cell_set_ne _ _ (by omega)]; exact h.c2)
  refine ⟨by simpa using h.lt, ?_, ?_, ?_, ?_, fun o => by simpa using h.fz o⟩
  · rw [cell_set_ne _ _ (by omega), cell_set_ne _ _ (by omega), cell_set_ne _ _ (by omega)]; exact h0
  · rw [cell_set_ne _ _ (by omega), cell_set_ne _ _ (by omega)]; exact h1
  · rw [cell_set_ne _ _ (by omega)]; exact h2
  · exact World.cell?_setCell_same _ _ _ (by rw [cell_set_ne _ _ (by omega), cell_set_ne _ _ (by omega), cell_set_ne _ _ (by omega)]; exact h.c3)
theorem Bx.putO {sv0 pv0 : Value} {l0 : Int} {b0 : Bool} {g' : Nat} {W : World} (h : Bx sv0 pv0 l0 b0 g' W) {g : Nat} (hne : g' ≠ g) (sv pv : Value) (l : Int) (b : Bool) : Bx sv0 pv0 l0 b0 g' (put4 W g sv pv l b) := by
  refine ⟨by simpa using h.lt, ?_, ?_, ?_, ?_, fun o => by simpa using h.fz o⟩
  · rw [put4_other _ _ _ _ _ (.inl hne)]; exact h.c0
  · rw [put4_other _ _ _ _ _ (.inl hne)]; exact h.c1
  · rw [put4_other _ _ _ _ _ (.inl hne)]; exact h.c2
  · rw [put4_other _ _ _ _ _ (.inl hne)]; exact h.c3
/-- a box holds slices, a number and a truth value: no disk that is read lies in it -/
theorem DAt.put {svb pvb : Value} {l0 : Int} {b0 : Bool} {g : Nat} {W : World} {v : Value} {d : D} (h : DAt W v d) (hb : Bx svb pvb l0 b0 g W) (hs : ∀ s, svb ≠ .string s) (hp : ∀ s, pvb ≠ .string s) (sv pv : Value) (l : Int) (b : Bool) : DAt (put4 W g sv pv l b) v d := by
  have str : ∀ (g' o : Nat) (s : B), W.cell? ⟨g', o, none⟩ = some (.string s) → g' ≠ g ∨ 3 < o := by
    intro g' o s h
    apply Classical.byContradiction
    intro hc
    have e1 : g' = g := Classical.byContradiction fun e => hc (.inl e)
    subst e1
    have e2 : o ≤ 3 := by omega
    match o, e2 with
    | 0, _ => rw [hb.c0] at h; simp only [Option.some.injEq] at h; exact hs s h
    | 1, _ => rw [hb.c1] at h; simp only [Option.some.injEq] at h; exact hp s h
    | 2, _ => rw [hb.c2] at h; simp at h
    | 3, _ => rw [hb.c3] at h; simp at h
  obtain ⟨sv', pv', e, ⟨a, c, e1, h1, h2⟩, ⟨a2, c2, e2, h3, h4⟩⟩ := h
  refine ⟨sv', pv', e, ⟨a, c, e1, h1, fun j x hx => ?_⟩, ⟨a2, c2, e2, h3, fun j p hp' => ?_⟩⟩
  · obtain ⟨q, off, e3, hlt, hcell⟩ := h2 j x hx
    rw [List.getElem?_map] at hx
    obtain ⟨s, -, rfl⟩ := Option.map_eq_some_iff.1 hx
    exact ⟨q, off, e3, by simpa using hlt, by rw [put4_other _ _ _ _ _ (str _ _ _ hcell)]; exact hcell⟩
  · obtain ⟨q, off, e3, hlt, hc1, hc2⟩ := h4 j p hp'
    have k2 := str _ _ _ hc2
    have k1 : q ≠ g ∨ 3 < off + j * 2 := by
      apply Classical.byContradiction
      intro hc
      have e1 : q = g := Classical.byContradiction fun e => hc (.inl e)
      subst e1
      have e5 : off + j * 2 = 3 := by omega
      rw [e5, hb.c3] at hc1
      simp at hc1
    exact ⟨q, off, e3, by simpa using hlt, by rw [put4_other _ _ _ _ _ k1]; exact hc1, by rw [put4_other _ _ _ _ _ k2]; exact hc2⟩
theorem below_put {w W : World} (h : Below w.heap.size w W) {g : Nat} (hg : w.heap.size ≤ g) (sv pv : Value) (l : Int) (b : Bool) : Below w.heap.size w (put4 W g sv pv l b) :=
  (((h.setCell (p := ⟨g, 0, none⟩) hg _).setCell (p := ⟨g, 1, none⟩) hg _).setCell (p := ⟨g, 2, none⟩) hg _).setCell (p := ⟨g, 3, none⟩) hg _
/-- a disk in a box -/
structure Vr (d : D) (g : Nat) (w W : World) : Prop where
  ex : ∃ a c b c2, Bx (.slice a d.secs.length c) (.slice b d.pend.length c2) d.left d.down g W ∧ DAt W (.agg #[.slice a d.secs.length c, .slice b d.pend.length c2, .int .i64 d.left, .bool d.down]) d
  lo : w.heap.size ≤ g
theorem Vr.next {d : D} {g : Nat} {w W W' : World} (h : Vr d g w W) (hb : Below W.heap.size W W') : Vr d g w W' := by
  obtain ⟨a, c, b, c2, h1, h2⟩ := h.ex
  exact ⟨⟨a, c, b, c2, h1.next hb, h2.next hb⟩, h.lo⟩
theorem Vr.lt {d : D} {g : Nat} {w W : World} (h : Vr d g w W) : g < W.heap.size := by
  obtain ⟨a, c, b, c2, h1, h2⟩ := h.ex
  exact h1.lt
/-- a new box -/
theorem Vr.new {d : D} {w W : World} {sv pv : Value} (h : DAt W (.agg #[sv, pv, .int .i64 d.left, .bool d.down]) d) (hw : w.heap.size ≤ W.heap.size) (T : TypeId) : Vr d W.heap.size w (W.alloc (.cells #[sv, pv, .int .i64 d.left, .bool d.down] T)) := by
  obtain ⟨a, c, b, c2, e, -, -, -, -⟩ := h.form
  simp at e
  obtain ⟨rfl, rfl⟩ := e
  exact ⟨⟨a, c, b, c2, Bx.new _ _ _ _ _ _, h.next (Below.new1 _)⟩, hw⟩
/-- a box written again -/
theorem Vr.put {d0 d : D} {g : Nat} {w W : World} {sv pv : Value} (h0 : Vr d0 g w W) (h : DAt W (.agg #[sv, pv, .int .i64 d.left, .bool d.down]) d) : Vr d g w (put4 W g sv pv d.left d.down) := by
  obtain ⟨a, c, b, c2, e, -, -, -, -⟩ := h.form
  simp at e
  obtain ⟨rfl, rfl⟩ := e
  obtain ⟨a0, c0, b0, c20, h1, h2⟩ := h0.ex
  exact ⟨⟨a, c, b, c2, h1.put _ _ _ _, h.put h1 (fun s => by simp) (fun s => by simp) _ _ _ _⟩, h0.lo⟩
theorem Vr.putO {d0 d1 : D} {g g1 : Nat} {w W : World} (h : Vr d0 g w W) (h1 : Vr d1 g1 w W) (hne : g ≠ g1) (sv pv : Value) (l : Int) (b : Bool) : Vr d0 g w (put4 W g1 sv pv l b) := by
  obtain ⟨a, c, b', c2, h2, h3⟩ := h.ex
  obtain ⟨a0, c0, b0, c20, h4, -⟩ := h1.ex
  exact ⟨⟨a, c, b', c2, h2.putO hne _ _ _ _, h3.put h4 (fun s => by simp) (fun s => by simp) _ _ _ _⟩, h.lo⟩

theorem DAt.secs_at {W : World} {sv pv : Value} {l : Int} {b : Bool} {d : D} (h : DAt W (.agg #[sv, pv, .int .i64 l, .bool b]) d) : SAt W sv (strs d.secs) := by
  obtain ⟨sv', pv', e, h1, h2⟩ := h
  simp at e
  obtain ⟨rfl, rfl, -, -⟩ := e
  exact h1
theorem conv_d {P : Program} {f : FuncId} {args : Array Value} {w : World} {v : D × Int} {d : D} {e : Int} (h : Calls P f args w fun r w' => ∃ x, r = .returned (.tuple #[x, .int .i64 v.2]) ∧ DAt w' x v.1 ∧ Below w.heap.size w w') (hv : v = (d, e)) :
    Calls P f args w fun r w' => ∃ a c b c2, r = .returned (.tuple #[.agg #[.slice a d.secs.length c, .slice b d.pend.length c2, .int .i64 d.left, .bool d.down], .int .i64 e]) ∧ DAt w' (.agg #[.slice a d.secs.length c, .slice b d.pend.length c2, .int .i64 d.left, .bool d.down]) d ∧ Below w.heap.size w w' := by
  subst hv
  refine h.mono ?_
  rintro r w' ⟨x, rfl, hx, hb⟩
  obtain ⟨a, c, b, c2, rfl, -, -, -, -⟩ := hx.form
  exact ⟨a, c, b, c2, rfl, hx, hb⟩
theorem conv_r {P : Program} {f : FuncId} {args : Array Value} {w : World} {v : B × Int} {s : B} {e : Int} (h : Calls P f args w fun r w' => r = .returned (.tuple #[.string v.1, .int .i64 v.2]) ∧ Below w.heap.size w w') (hv : v = (s, e)) :
    Calls P f args w fun r w' => r = .returned (.tuple #[.string s, .int .i64 e]) ∧ Below w.heap.size w w' := by
  subst hv
  exact h
theorem conv_c {P : Program} {f : FuncId} {args : Array Value} {w : World} {n e : Int} (h : Calls P f args w fun r w' => r = .returned (.int .i64 n) ∧ Below w.heap.size w w') (hv : n = e) :
    Calls P f args w fun r w' => r = .returned (.int .i64 e) ∧ Below w.heap.size w w' := by
  subst hv
  exact h

end Go.Proofs.YtemldlhhlneleaaDoor

