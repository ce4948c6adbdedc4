/-
  The program's offices: their cells, and what they say of the lists of a city.
-/
import Derived.Test.YtmlelmknbddkjaaDoorProC
import Derived.Deep.WholeRow
import Derived.Laws.Rows
namespace Go.Proofs.YtmlelmknbddkjaaDoor
open Go.RowKit

/-- the cells of an offices: 391 truth values, and a slice -/
def offC (f : Nat → Bool) (s : Value) : Array Value := ((List.range 391).map (fun i => Value.bool (f i)) ++ [s]).toArray
theorem offC_size (f : Nat → Bool) (s : Value) : (offC f s).size = 392 := by simp [offC]
theorem offC_get (f : Nat → Bool) (s : Value) (i : Nat) (h : i < 391) : (offC f s)[i]? = some (.bool (f i)) := by
  simp [offC, List.getElem?_append, h]
theorem offC_last (f : Nat → Bool) (s : Value) : (offC f s)[391]? = some s := by
  simp [offC]
theorem offC_ext {f : Nat → Bool} {s : Value} {A : Array Value} (h0 : A.size = 392) (h1 : ∀ i, i < 391 → A[i]? = some (.bool (f i))) (h2 : A[391]? = some s) : A = offC f s := by
  apply Array.ext_getElem?
  intro i
  rcases Nat.lt_trichotomy i 391 with h | h | h
  · rw [h1 i h, offC_get _ _ _ h]
  · subst h; rw [h2, offC_last]
  · rw [Array.getElem?_eq_none (by omega), Array.getElem?_eq_none (by rw [offC_size]; omega)]
def upd (f : Nat → Bool) (p : Nat) : Nat → Bool := fun i => if i = p then true else f i
theorem offC_set (f : Nat → Bool) (s : Value) (p : Nat) (h : p < 391) : (offC f s).setIfInBounds p (.bool true) = offC (upd f p) s := by
  apply offC_ext
  · simp [offC_size]
  · intro i hi
    rw [Array.getElem?_setIfInBounds]
    unfold upd
    by_cases e : p = i
    · subst e
      simp [offC_size, show p < 392 by omega]
    · rw [if_neg e, offC_get _ _ _ hi, if_neg (fun h => e h.symm)]
  · rw [Array.getElem?_setIfInBounds, if_neg (by omega), offC_last]
theorem offC_setLast (f : Nat → Bool) (s s' : Value) : (offC f s).setIfInBounds 391 s' = offC f s' := by
  apply offC_ext
  · simp [offC_size]
  · intro i hi
    rw [Array.getElem?_setIfInBounds, if_neg (by omega), offC_get _ _ _ hi]
  · rw [Array.getElem?_setIfInBounds]
    simp [offC_size]
theorem one_bool (b : Bool) : (Value.bool b).oneCell' = true := rfl
theorem offC_one (f : Nat → Bool) (s : Value) (h : s.oneCell' = true) : (offC f s).all (·.oneCell') = true := by
  simp [offC, one_bool, h]

/-- an offices in a block -/
def Ofc (w : World) (b : Nat) (f : Nat → Bool) (s : Value) : Prop := w.heap[b]? = some (.cells (offC f s) 53 (0, 0))
theorem Ofc.lt {w : World} {b : Nat} {f : Nat → Bool} {s : Value} (h : Ofc w b f s) : b < w.heap.size := (Array.getElem?_eq_some_iff.1 h).1
theorem Ofc.cell {w : World} {b : Nat} {f : Nat → Bool} {s : Value} (h : Ofc w b f s) (i : Nat) (hi : i < 391) : w.cell? ⟨b, i, none⟩ = some (.bool (f i)) := by
  rw [cell_of_row w b i _ _ _ h, offC_get _ _ _ hi]
theorem Ofc.last {w : World} {b : Nat} {f : Nat → Bool} {s : Value} (h : Ofc w b f s) : w.cell? ⟨b, 391, none⟩ = some s := by
  rw [cell_of_row w b 391 _ _ _ h, offC_last]
theorem Ofc.frozen {w : World} {b : Nat} {f : Nat → Bool} {s : Value} (h : Ofc w b f s) (i : Nat) : w.frozen? ⟨b, i, none⟩ = false := frozen_of_row w b i _ _ h
theorem Ofc.below {w w' : World} {b n : Nat} {f : Nat → Bool} {s : Value} (h : Ofc w b f s) (hb : Below n w w') (hn : b < n) : Ofc w' b f s := (hb.block b hn).trans h
theorem Ofc.next {w w' : World} {b : Nat} {f : Nat → Bool} {s : Value} (h : Ofc w b f s) (hb : Below w.heap.size w w') : Ofc w' b f s := h.below hb h.lt
theorem Ofc.set {w : World} {b : Nat} {f : Nat → Bool} {s : Value} (h : Ofc w b f s) (p : Nat) (hp : p < 391) : Ofc (w.setCell ⟨b, p, none⟩ (.bool true)) b (upd f p) s := by
  unfold Ofc
  rw [heap_setCell_same w b p _ _ _ h, offC_set _ _ _ hp]
theorem Ofc.setLast {w : World} {b : Nat} {f : Nat → Bool} {s : Value} (h : Ofc w b f s) (s' : Value) : Ofc (w.setCell ⟨b, 391, none⟩ s') b f s' := by
  unfold Ofc
  rw [heap_setCell_same w b 391 _ _ _ h, offC_setLast]

theorem infoO : (Tryd.prog.info? 53).map (fun i => (i.zero, i.size)) = some (some (.agg (offC (fun _ => false) (.slice none 0 0))), 392) := by kernel_rfl

/-- what the offices of a city say -/
def restF (l : List Int) (i : Nat) : Bool := decide (i < 7) && hasB l (i : Int)
def fullF (C : Lists) (i : Nat) : Bool := if i < 7 then hasB C.r (i : Int) else hasB C.f (100 * (((i - 7) / 32 : Nat) : Int) + 100 + (((i - 7) % 32 : Nat) : Int))

end Go.Proofs.YtmlelmknbddkjaaDoor
