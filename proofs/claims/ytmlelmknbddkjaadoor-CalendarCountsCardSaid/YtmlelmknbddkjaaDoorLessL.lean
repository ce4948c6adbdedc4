/-
  The city with one more closed day, in memory.
-/
import Derived.Test.YtmlelmknbddkjaaDoorCountL
import Derived.Laws.AppendOwnNone
namespace Go.Proofs.YtmlelmknbddkjaaDoor
open Go.RowKit

theorem lessInfo : (Tryd.prog.info? 3).map (fun i => (i.zero, i.size, i.bytes)) = some (some (.int .i64 0), 1, 8) := by kernel_rfl

theorem lessAdd (b k j : Nat) : (⟨b, k, none⟩ : Addr).add j = ⟨b, k + j, none⟩ := by unfold Addr.add; split <;> simp_all
abbrev iv (l : List Int) : List Value := l.map (Value.int .i64)
theorem less_one (l : List Int) : ∀ u ∈ iv l, u.oneCell' = true := by
  intro u hu
  simp only [iv, List.mem_map] at hu
  obtain ⟨b, _, rfl⟩ := hu
  rfl
theorem Ints.lessNil {w : World} {n cap : Nat} {l : List Int} (h : Ints w (.slice none n cap) l) : l = [] := by
  obtain ⟨a, k, e, hc⟩ := h
  cases l with
  | nil => rfl
  | cons x l =>
    obtain ⟨b, off, rfl, -⟩ := hc 0 x rfl
    cases e
theorem Ints.lessCells {w : World} {ad : Addr} {n cap : Nat} {l : List Int} (h : Ints w (.slice (some ad) n cap) l) : ∀ j u, (iv l)[j]? = some u → ad.block < w.heap.size ∧ w.cell? (ad.add j) = some u := by
  obtain ⟨a, k, e, hc⟩ := h
  intro j u hu
  rw [List.getElem?_map] at hu
  cases hx : l[j]? with
  | none => rw [hx] at hu; cases hu
  | some x =>
    rw [hx] at hu
    cases hu
    obtain ⟨b, off, rfl, h1, h2⟩ := hc j x hx
    injection e with e
    injection e with e
    subst e
    exact ⟨h1, by rw [lessAdd]; exact h2⟩
theorem Ints.lessOwn {w : World} {base : Nat} {e : TypeId} {v : Value} {n : Nat} {l : List Int} (h : w.ownsRow base e 1 v (n + 1) (iv l)) : ∃ g cap, v = .slice (some ⟨g, 0, none⟩) (n + 1) cap ∧ base ≤ g ∧ l.length = n + 1 ∧ ∀ w' : World, w'.heap[g]? = w.heap[g]? → w.heap.size ≤ w'.heap.size → Ints w' v l := by
  have hl : l.length = n + 1 := by have := h.1; simpa using this
  rcases h.2 with ⟨-, h0⟩ | ⟨g, cap, cur, rfl, hg, hh, h1, h2, h3, h4⟩
  · omega
  · have hlt : g < w.heap.size := (Array.getElem?_eq_some_iff.1 hh).1
    refine ⟨g, cap, rfl, hg, hl, fun w' hw hs => ⟨some ⟨g, 0, none⟩, cap, by rw [hl], fun j x hx => ⟨g, 0, rfl, by omega, ?_⟩⟩⟩
    have h5 := h.cells rfl j (.int .i64 x) (by rw [List.getElem?_map, hx]; rfl)
    rw [World.cell?_of_block (w := w) (by exact hw)]
    rw [← h5]
    exact congrArg _ (lessAdd g 0 j).symm
/-- behind the two appends: the city's copy in its block, its last list's field about to be stored -/
structure LessAt (w w1 w3 : World) (nm : ByteArray) (o c : Int) (v3 v4 v5 v : Value) (C : Lists) (x : Int) : Prop where
  lt : w1.heap.size < w3.heap.size
  c0 : w3.cell? ⟨w1.heap.size, 0, none⟩ = some (.string nm)
  c1 : w3.cell? ⟨w1.heap.size, 1, none⟩ = some (.int .i64 o)
  c2 : w3.cell? ⟨w1.heap.size, 2, none⟩ = some (.int .i64 c)
  c3 : w3.cell? ⟨w1.heap.size, 3, none⟩ = some v3
  c4 : w3.cell? ⟨w1.heap.size, 4, none⟩ = some v4
  c5 : w3.cell? ⟨w1.heap.size, 5, none⟩ = some v5
  fz : w3.frozen? ⟨w1.heap.size, 5, none⟩ = false
  city : CityAt (w3.setCell ⟨w1.heap.size, 5, none⟩ v) v3 v4 v (lessC C x)
  below : Below w.heap.size w (w3.setCell ⟨w1.heap.size, 5, none⟩ v)
theorem less_at {w w1 w3 : World} {nm : ByteArray} {o c : Int} {v3 v4 v5 v : Value} {C : Lists} {x : Int} {T e : TypeId} {n : Nat} (hf : fewB C = true) (H : Bx6 w nm o c v3 v4 v5 C w1)
    (hb : Below (w1.heap.size + 1) (w1.alloc (.cells #[.string nm, .int .i64 o, .int .i64 c, v3, v4, v5] T)) w3)
    (hown : w3.ownsRow (w1.heap.size + 1) e 1 v (n + 1) (iv C.s ++ [.int .i64 x])) :
    ∃ g cap, v = .slice (some ⟨g, 0, none⟩) (n + 1) cap ∧ LessAt w w1 w3 nm o c v3 v4 v5 v C x := by
  have e0 : iv C.s ++ [.int .i64 x] = iv (C.s ++ [x]) := by simp [iv]
  rw [e0] at hown
  obtain ⟨g, cap, hv, hg, hl, hints⟩ := Ints.lessOwn hown
  have hcell : ∀ (i : Nat) (u : Value), (#[.string nm, .int .i64 o, .int .i64 c, v3, v4, v5] : Array Value)[i]? = some u → w3.cell? ⟨w1.heap.size, i, none⟩ = some u := fun i u hu => by
    rw [hb.cell (p := ⟨w1.heap.size, i, none⟩) (Nat.lt_succ_self _), World.cell?_alloc_new]
    exact hu
  have hsz := hb.size
  have hs2 : (w1.alloc (.cells #[.string nm, .int .i64 o, .int .i64 c, v3, v4, v5] T)).heap.size = w1.heap.size + 1 := by simp
  have h14 : Below w1.heap.size w1 (w3.setCell ⟨w1.heap.size, 5, none⟩ v) :=
    ((((Below.refl _ _).alloc (Nat.le_refl _) _).trans (hb.mono (Nat.le_succ _))).setCell (p := ⟨w1.heap.size, 5, none⟩) (Nat.le_refl _) v)
  obtain ⟨f1, f2, f3⟩ := fewB_iff.1 hf
  refine ⟨g, cap, hv, ?_, hcell 0 _ rfl, hcell 1 _ rfl, hcell 2 _ rfl, hcell 3 _ rfl, hcell 4 _ rfl, hcell 5 _ rfl, ?_, ?_, chain H.below h14⟩
  · omega
  · rw [hb.frozen (p := ⟨w1.heap.size, 5, none⟩) (Nat.lt_succ_self _)]
    exact World.frozen?_alloc_new _ _ _ _
  · refine ⟨H.city.r.below h14, H.city.f.below h14, hints _ (Below.heap_setCell _ _ _ _ (by show g ≠ w1.heap.size; omega)) (by simp), H.city.lr, H.city.lf, ?_, H.city.okf⟩
    show (C.s ++ [x]).length ≤ _
    rw [List.length_append]
    show _ + 1 ≤ _
    omega

/-- the same, where no day was closed: four new blocks -/
theorem less_new {w1 : World} {x : Int} {T : TypeId} {O1 O2 O3 : Obj} {zs : Array Value} : Below w1.heap.size w1 ((((w1.alloc O1).alloc O2).alloc O3).alloc (.cells (#[.int .i64 x] ++ zs) T)).drew := by
  have e0 : (((w1.alloc O1).alloc O2).alloc O3).heap.size = w1.heap.size + 1 + 1 + 1 := by simp
  exact (((((Below.refl _ _).alloc (Nat.le_refl _) _).alloc (by simp) _).alloc (by simp; omega) _).alloc (by omega) _).drew
theorem less_none {w w1 : World} {nm : ByteArray} {o c : Int} {v3 v4 v5 : Value} {C : Lists} {x : Int} {T : TypeId} {cap : Nat} {O1 O2 O3 : Obj} {zs : Array Value} (H : Bx6 w nm o c v3 v4 v5 C w1) (hs : C.s = []) :
    CityAt ((((w1.alloc O1).alloc O2).alloc O3).alloc (.cells (#[.int .i64 x] ++ zs) T)).drew v3 v4 (.slice (some ⟨w1.heap.size + 1 + 1 + 1, 0, none⟩) 1 cap) (lessC C x) := by
  have e0 : (((w1.alloc O1).alloc O2).alloc O3).heap.size = w1.heap.size + 1 + 1 + 1 := by simp
  have b0 := less_new (w1 := w1) (x := x) (T := T) (O1 := O1) (O2 := O2) (O3 := O3) (zs := zs)
  refine ⟨H.city.r.below b0, H.city.f.below b0, ?_, H.city.lr, H.city.lf, ?_, H.city.okf⟩
  · show Ints _ _ (C.s ++ [x])
    rw [hs]
    refine ⟨some ⟨w1.heap.size + 1 + 1 + 1, 0, none⟩, cap, rfl, fun j y hy => ⟨_, 0, rfl, by simp, ?_⟩⟩
    cases j with
    | zero =>
      cases hy
      show World.cell? (World.alloc _ _) _ = _
      rw [← e0, World.cell?_alloc_new]
      show (#[Value.int .i64 x] ++ zs)[0]? = _
      rw [Array.getElem?_append_left Nat.zero_lt_one]
      rfl
    | succ j => cases hy
  · show (C.s ++ [x]).length ≤ _
    rw [hs]
    show 1 ≤ _
    omega

end Go.Proofs.YtmlelmknbddkjaaDoor
