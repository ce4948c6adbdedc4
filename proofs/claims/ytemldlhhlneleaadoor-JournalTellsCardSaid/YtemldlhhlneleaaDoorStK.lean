/-
  What reads a list of steps among a law's arguments.
-/
import Derived.Test.YtemldlhhlneleaaDoorLawKit
namespace Go.Proofs.YtemldlhhlneleaaDoor
open Go.ChangeShapes Go.WideShapes Go.ChangeAt Go.RowKit
open Go.Deep Dk

theorem cellsStep : Tryd.prog.cellsOf 34 = 3 := by kernel_rfl
section
variable {H : Type} {enc : TypeId × Value → H} {W : World} {v : Value} {d : DataW H} {p : List MemPlace}

set_option maxRecDepth 100000 in
/-- the cells of one step -/
theorem open_stepC {sp : Nat → Bool} {held : Bool} {n : Nat} {cs : List Value} {y : DataW H × List MemPlace} (h : DataW.trod enc Tryd.prog W 0 sp held n 34 cs = some y) :
    ∃ q : Int × B × Int, cs = [.int .i64 q.1, .string q.2.1, .int .i64 q.2.2] ∧ I64 q.1 ∧ q.2.1.size ≤ 9223372036854775807 ∧ I64 q.2.2 := by
  obtain ⟨ys, n', _, _, hlen, _, hf⟩ := DataW.trod_struct Tryd.underlying34 h
  rw [cellsStep] at hlen
  match cs, hlen with
  | [c0, c1, c2], _ =>
    have hl : ys.length = 3 := by assumption
    have hy : ∀ (j : Nat) {x : Option (DataW H × List MemPlace)}, x = ys[j]? → j < ys.length → x = some (ys[j]?.getD (.nil, [])) := by
      intro j x hx hj
      rw [hx, List.getElem?_eq_getElem hj]
      rfl
    have h0 := hf 0 _ rfl
    have h1 := hf 1 _ rfl
    have h2 := hf 2 _ rfl
    have g0 : DataW.trod enc Tryd.prog W 0 sp held n' 3 [c0] = _ := hy 0 h0 (by omega)
    have g1 : DataW.trod enc Tryd.prog W 0 sp held n' 9 [c1] = _ := hy 1 h1 (by omega)
    have g2 : DataW.trod enc Tryd.prog W 0 sp held n' 3 [c2] = _ := hy 2 h2 (by omega)
    obtain ⟨k0, e0, _, o0⟩ := DataW.trod_int Tryd.underlying3 g0
    obtain ⟨s, e1, _, o1⟩ := DataW.trod_string Tryd.underlying9 g1
    obtain ⟨k2, e2, _, o2⟩ := DataW.trod_int Tryd.underlying3 g2
    simp only [List.cons.injEq, and_true] at e0 e1 e2
    exact ⟨(k0, s, k2), by rw [e0, e1, e2], int_of o0, len_max o1, int_of o2⟩
set_option maxRecDepth 100000 in
/-- a list of steps -/
theorem open_steps {fuel : Nat} {x : DataW H × List MemPlace} (h : DataW.trod enc Tryd.prog W 0 (fun _ => true) true fuel 22 [v] = some x) :
    ∃ l : List (Int × B × Int), (∃ a cap, v = .slice a l.length cap ∧ ∀ (j : Nat) (t : Int × B × Int), l[j]? = some t → ∃ b off, a = some ⟨b, off, none⟩ ∧ b < W.heap.size ∧
      W.cell? ⟨b, off + j * 3, none⟩ = some (.int .i64 t.1) ∧ W.cell? ⟨b, off + j * 3 + 1, none⟩ = some (.string t.2.1) ∧ W.cell? ⟨b, off + j * 3 + 2, none⟩ = some (.int .i64 t.2.2)) ∧ ∀ t ∈ l, I64 t.1 ∧ t.2.1.size ≤ 9223372036854775807 ∧ I64 t.2.2 := by
  rcases open_slice Tryd.underlying22 h with ⟨hcs, hx⟩ | ⟨a, len, cap, m, n, D, Pl, hcs, _, hl, _, hm, hx, hi⟩
  · simp only [List.cons.injEq, and_true] at hcs
    subst hcs
    exact ⟨[], ⟨none, 0, rfl, fun j t hj => by simp at hj⟩, fun s hs => absurd hs (List.not_mem_nil)⟩
  · simp only [List.cons.injEq, and_true] at hcs
    subst hcs
    simp only [if_true] at hm
    have hall : ∀ i : Fin len, ∃ q : Int × B × Int, (I64 q.1 ∧ q.2.1.size ≤ 9223372036854775807 ∧ I64 q.2.2) ∧ ∀ j, j < 3 → W.cell? ((a.add (i.val * 3)).add j) = [Value.int .i64 q.1, Value.string q.2.1, Value.int .i64 q.2.2][j]? := by
      intro i
      obtain ⟨cs', hc, ht⟩ := hi i.val (by have := i.isLt; omega)
      obtain ⟨q, rfl, hw⟩ := open_stepC ht
      rw [cellsStep] at hc
      exact ⟨q, hw, (World.cells?_some hc).2.2⟩
    let f : Fin len → Int × B × Int := fun i => Classical.choose (hall i)
    have hfs : ∀ i : Fin len, (I64 (f i).1 ∧ (f i).2.1.size ≤ 9223372036854775807 ∧ I64 (f i).2.2) ∧ ∀ j, j < 3 → W.cell? ((a.add (i.val * 3)).add j) = [Value.int .i64 (f i).1, Value.string (f i).2.1, Value.int .i64 (f i).2.2][j]? := fun i => Classical.choose_spec (hall i)
    have hlen : (List.ofFn f).length = len := by simp
    refine ⟨List.ofFn f, ⟨some a, cap, by rw [hlen], fun j t hj => ?_⟩, fun t ht => ?_⟩
    · have hjl : j < len := by
        have := (List.getElem?_eq_some_iff.1 hj).1
        rw [hlen] at this
        exact this
      have het : f ⟨j, hjl⟩ = t := by
        rw [List.getElem?_eq_getElem (by rw [hlen]; exact hjl)] at hj
        simpa using hj
      have hsp : a.spot = none := by
        have h0 := (hfs ⟨0, by omega⟩).2 0 (by omega)
        have e : (a.add (0 * 3)).add 0 = a := by simp [Addr.add]
        rw [e] at h0
        exact World.cell?_spot (v := .int .i64 (f ⟨0, by omega⟩).1) h0
      have hc := (hfs ⟨j, hjl⟩).2
      rw [het] at hc
      obtain ⟨b, off, spot⟩ := a
      simp only at hsp
      subst hsp
      have q0 := hc 0 (by omega)
      have q1 := hc 1 (by omega)
      have q2 := hc 2 (by omega)
      rw [add_plain, add_plain] at q0 q1 q2
      exact ⟨b, off, rfl, World.block_lt_of_cell? W ⟨b, off + j * 3 + 0, none⟩ q0, q0, q1, q2⟩
    · obtain ⟨i, rfl⟩ := List.mem_ofFn.1 ht
      exact (hfs i).1
end

end Go.Proofs.YtemldlhhlneleaaDoor
