/-
  What the laws that take a city share: its box, and the test of short lists at lists of whatever length.
-/
import Derived.Test.YtmlelmknbddkjaaDoorLawB
namespace Go.Proofs.YtmlelmknbddkjaaDoor
open Go.RowKit

/-- the lists of a city, of whatever length -/
structure CityI (w : World) (v3 v4 v5 : Value) (C : Lists) : Prop where
  r : Ints w v3 C.r
  f : Ints w v4 C.f
  s : Ints w v5 C.s
  okf : ∀ x ∈ C.f, I64 x
  z5 : ∀ n cap, v5 = .slice none n cap → cap = 0
theorem CityI.below {w w' : World} {v3 v4 v5 : Value} {C : Lists} (h : CityI w v3 v4 v5 C) (hb : Below w.heap.size w w') : CityI w' v3 v4 v5 C :=
  ⟨h.r.below hb, h.f.below hb, h.s.below hb, h.okf, h.z5⟩
theorem CityI.short {w : World} {v3 v4 v5 : Value} {C : Lists} (h : CityI w v3 v4 v5 C) (hf : fewB C = true) : CityAt w v3 v4 v5 C := by
  obtain ⟨h1, h2, h3⟩ := fewB_iff.1 hf
  exact ⟨h.r, h.f, h.s, by omega, by omega, by omega, h.okf⟩
theorem few_i (nm : ByteArray) (o c : Int) (v3 v4 v5 : Value) (C : Lists) (w : World) (h : CityI w v3 v4 v5 C) :
    Calls Tryd.prog 10 #[cityV nm o c v3 v4 v5] w fun e w' => e = .returned (.bool (fewB C)) ∧ Below w.heap.size w w' := by
  obtain ⟨r, f, s, -, -⟩ := h
  obtain ⟨ar, cr, rfl, -⟩ := r
  obtain ⟨af, cf, rfl, -⟩ := f
  obtain ⟨a5, cs, rfl, -⟩ := s
  have hv : Hid (fewB C = (decide ((C.r.length : Int) ≤ 40) && (decide ((C.f.length : Int) ≤ 40) && decide ((C.s.length : Int) ≤ 40)))) := by
    show _ = _
    unfold fewB
    congr 1
    · simp; omega
    · congr 1 <;> (simp; omega)
  obtain ⟨g1, h1⟩ : ∃ g, decide ((C.r.length : Int) ≤ 40) = g := ⟨_, rfl⟩
  obtain ⟨g2, h2⟩ : ∃ g, decide ((C.f.length : Int) ≤ 40) = g := ⟨_, rfl⟩
  obtain ⟨g3, h3⟩ : ∃ g, decide ((C.s.length : Int) ≤ 40) = g := ⟨_, rfl⟩
  rw [h1, h2, h3] at hv
  cases g1 <;> cases g2 <;> cases g3
  all_goals
    go_enter Tryd.func10, Tryd.ntmps10
    go_wp2_with fail
    go_ret
    exact ⟨by rw [hv.out]; try rfl, (Below.refl _ _).alloc (Nat.le_refl _) _⟩

/-- the city in a new block, its lists of whatever length -/
structure BxI (w : World) (nm : ByteArray) (o c : Int) (v3 v4 v5 : Value) (C : Lists) (W : World) : Prop where
  below : Below w.heap.size w W
  size : w.heap.size < W.heap.size
  c0 : W.cell? ⟨w.heap.size, 0, none⟩ = some (.string nm)
  c1 : W.cell? ⟨w.heap.size, 1, none⟩ = some (.int .i64 o)
  c2 : W.cell? ⟨w.heap.size, 2, none⟩ = some (.int .i64 c)
  c3 : W.cell? ⟨w.heap.size, 3, none⟩ = some v3
  c4 : W.cell? ⟨w.heap.size, 4, none⟩ = some v4
  c5 : W.cell? ⟨w.heap.size, 5, none⟩ = some v5
  city : CityI W v3 v4 v5 C
theorem BxI.next {w : World} {nm : ByteArray} {o c : Int} {v3 v4 v5 : Value} {C : Lists} {W W' : World} (h : BxI w nm o c v3 v4 v5 C W) (hb : Below W.heap.size W W') : BxI w nm o c v3 v4 v5 C W' := by
  have s := h.size
  refine ⟨chain h.below hb, by have := hb.size; omega, ?_, ?_, ?_, ?_, ?_, ?_, h.city.below hb⟩
  · rw [hb.cell (p := ⟨w.heap.size, 0, none⟩) s]; exact h.c0
  · rw [hb.cell (p := ⟨w.heap.size, 1, none⟩) s]; exact h.c1
  · rw [hb.cell (p := ⟨w.heap.size, 2, none⟩) s]; exact h.c2
  · rw [hb.cell (p := ⟨w.heap.size, 3, none⟩) s]; exact h.c3
  · rw [hb.cell (p := ⟨w.heap.size, 4, none⟩) s]; exact h.c4
  · rw [hb.cell (p := ⟨w.heap.size, 5, none⟩) s]; exact h.c5
theorem BxI.start {w : World} {nm : ByteArray} {o c : Int} {v3 v4 v5 : Value} {C : Lists} (h : CityI w v3 v4 v5 C) (T : TypeId) : BxI w nm o c v3 v4 v5 C (w.alloc (.cells #[.string nm, .int .i64 o, .int .i64 c, v3, v4, v5] T)) := by
  refine ⟨(Below.refl _ _).alloc (Nat.le_refl _) _, by simp, ?_, ?_, ?_, ?_, ?_, ?_, h.below ((Below.refl _ _).alloc (Nat.le_refl _) _)⟩ <;> rw [World.cell?_alloc_new] <;> rfl
theorem BxI.short {w : World} {nm : ByteArray} {o c : Int} {v3 v4 v5 : Value} {C : Lists} {W : World} (h : BxI w nm o c v3 v4 v5 C W) (hf : fewB C = true) : Bx6 w nm o c v3 v4 v5 C W :=
  ⟨h.below, h.size, h.c0, h.c1, h.c2, h.c3, h.c4, h.c5, h.city.short hf⟩

theorem openV_of {C : Lists} {t : Int} (h : valid t = true) : openV C t = (isOpen C t, 0) := by unfold openV; rw [h]; rfl

end Go.Proofs.YtmlelmknbddkjaaDoor
