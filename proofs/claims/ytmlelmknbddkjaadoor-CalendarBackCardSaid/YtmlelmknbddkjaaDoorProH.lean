/-
  The library's Clone, Sort and BinarySearch at what the program hands them.
-/
import Derived.Test.YtmlelmknbddkjaaDoorShelf
import Derived.Test.YtmlelmknbddkjaaDoorProG
import Derived.Sort.OwnSortedInts
namespace Go.Proofs.YtmlelmknbddkjaaDoor
open Go.RowKit Go.Sort

/-- a slice of the call's own that holds the numbers l -/
def Sh (base : Nat) (w : World) (v : Value) (l : List Int) : Prop := w.ownsRow base 3 1 v l.length (l.map (Value.int .i64))
theorem Sh.kept {base : Nat} {w w' : World} {v : Value} {l : List Int} (h : Sh base w v l) (n : Nat) (hb : Below n w w') (hk : ∀ k, v.ownBlock = some k → k < n) : Sh base w' v l := by
  refine ⟨h.1, ?_⟩
  rcases h.2 with hn | ⟨g, cap, cur, rfl, hg, hgg, rest⟩
  · exact .inl hn
  · exact .inr ⟨g, cap, cur, rfl, hg, (hb.block g (hk g rfl)).trans hgg, rest⟩
/-- what lies in another block doesn't matter -/
theorem Sh.set {base : Nat} {w : World} {v : Value} {l : List Int} (h : Sh base w v l) (b p : Nat) (x : Value) (hb : b < base) : Sh base (w.setCell ⟨b, p, none⟩ x) v l := by
  refine ⟨h.1, ?_⟩
  rcases h.2 with hn | ⟨g, cap, cur, rfl, hg, hgg, rest⟩
  · exact .inl hn
  · exact .inr ⟨g, cap, cur, rfl, hg, by rw [heap_setCell_other w ⟨b, p, none⟩ g x (by show g ≠ b; omega)]; exact hgg, rest⟩
theorem Sh.row {base : Nat} {w : World} {v : Value} {l : List Int} (h : Sh base w v l) (b : Nat) (cs : Array Value) (hb : b < base) : Sh base (w.setRow b cs) v l := by
  refine ⟨h.1, ?_⟩
  rcases h.2 with hn | ⟨g, cap, cur, rfl, hg, hgg, rest⟩
  · exact .inl hn
  · exact .inr ⟨g, cap, cur, rfl, hg, (setRow_other w b g cs (by omega)).trans hgg, rest⟩
theorem Sh.ints {base : Nat} {w : World} {v : Value} {l : List Int} (h : Sh base w v l) : Ints w v l := by
  have hc := fun g cap (e : v = .slice (some ⟨g, 0, none⟩) l.length cap) => World.ownsRow.cellAt (w := w) (base := base) (e := 3) (size := 1) (g := g) (n := l.length) (cap := cap) (xs := l.map (Value.int .i64)) (e ▸ h)
  rcases h.2 with ⟨rfl, hn⟩ | ⟨g, cap, cur, rfl, hg, hgg, rest⟩
  · exact ⟨none, 0, by rw [hn], fun j x hx => by rw [List.eq_nil_of_length_eq_zero hn] at hx; simp at hx⟩
  · refine ⟨some ⟨g, 0, none⟩, cap, rfl, fun j x hx => ⟨g, 0, rfl, (Array.getElem?_eq_some_iff.1 hgg).1, ?_⟩⟩
    have hj : j < l.length := by
      rcases Nat.lt_or_ge j l.length with c | c
      · exact c
      · rw [List.getElem?_eq_none c] at hx; cases hx
    rw [Nat.zero_add, hc g cap rfl j (by omega)]
    simp [hx]
theorem Sh.one {base : Nat} {w : World} {v : Value} {l : List Int} (h : Sh base w v l) : v.oneCell' = true := by
  rcases h.2 with ⟨rfl, hn⟩ | ⟨g, cap, cur, rfl, hg, hgg, rest⟩ <;> rfl
/-- a slice that is known by its cells -/
theorem Ints.cells {w : World} {a : Option Addr} {l : List Int} {cap : Nat} (h : Ints w (.slice a l.length cap) l) (hl : l ≠ []) : ∃ b off, a = some ⟨b, off, none⟩ ∧ b < w.heap.size ∧ ∀ j, j < l.length → w.cell? ⟨b, off + j, none⟩ = some (.int .i64 (l.getD j 0)) := by
  obtain ⟨a', cap', e, h⟩ := h
  cases e
  obtain ⟨x, hx⟩ : ∃ x, l[0]? = some x := by
    cases l with
    | nil => exact absurd rfl hl
    | cons x t => exact ⟨x, rfl⟩
  obtain ⟨b, off, rfl, hb, -⟩ := h 0 x hx
  refine ⟨b, off, rfl, hb, fun j hj => ?_⟩
  obtain ⟨b', off', e, -, hc⟩ := h j l[j] (List.getElem?_eq_getElem hj)
  cases e
  rw [hc, List.getD_eq_getElem?_getD, List.getElem?_eq_getElem hj]
  rfl

theorem clone_x (v : Value) (l : List Int) (w : World) (h : Ints w v l) (hl : l.length ≤ 1099511627776) :
    Calls Tryd.prog 43 #[v] w fun e w' => ∃ v', e = .returned v' ∧ Sh w.heap.size w' v' l ∧ Below w.heap.size w w' := by
  obtain ⟨a, cap, rfl, hc⟩ := id h
  by_cases e : l = []
  · subst e
    cases a with
    | none => exact (Tryd.slices_Clone_int_nil _ _ w).mono fun _ _ ⟨h1, h2⟩ => ⟨_, h1, World.ownsRow_nil _ _ _ _, h2 ▸ Below.refl _ _⟩
    | some a => exact (Tryd.slices_Clone_int_zero a cap w).mono fun _ _ ⟨v', h1, h2, _, h3⟩ => ⟨_, h1, h2, h3⟩
  · obtain ⟨b, off, rfl, hb, hcc⟩ := h.cells e
    refine (Tryd.slices_Clone_int b off l.length cap l w (Nat.le_refl _) (by omega) hcc).mono fun _ _ ⟨v', h1, h2, _, h3⟩ => ⟨_, h1, ?_, h3⟩
    rw [List.take_length] at h2
    exact h2

/-- the numbers in order -/
def srt (l : List Int) : List Int := l.mergeSort fun x y => decide (x ≤ y)
theorem srt_length (l : List Int) : (srt l).length = l.length := List.length_mergeSort _
theorem srt_mem (l : List Int) (x : Int) : x ∈ srt l ↔ x ∈ l := List.mem_mergeSort
theorem srt_sorted (l : List Int) : (srt l).Pairwise (· ≤ ·) := by
  have := List.pairwise_mergeSort (le := fun x y : Int => decide (x ≤ y)) (fun a b c h1 h2 => by simp at h1 h2 ⊢; omega) (fun a b => by simp; omega) l
  exact this.imp fun h => by simpa using h
theorem srt_has (l : List Int) (x : Int) : hasB (srt l) x = hasB l x := by
  rw [Bool.eq_iff_iff, hasB_iff, hasB_iff, srt_mem]

theorem sort_x (base : Nat) (v : Value) (l : List Int) (w : World) (h : Sh base w v l) (hl : l.length ≤ 1099511627776) :
    Calls Tryd.prog 44 #[v] w fun e w' => e = .returned (.tuple #[]) ∧ Sh base w' v (srt l) ∧ Below base w w' := by
  rcases h.2 with ⟨rfl, hn⟩ | ⟨g, cap, cur, rfl, hg, hgg, h1, h2, h3, h4⟩
  · refine (Tryd.slices_Sort_int_none none 0 w).mono fun _ _ ⟨e1, e2⟩ => ⟨e1, ?_, e2 ▸ Below.refl _ _⟩
    rw [List.eq_nil_of_length_eq_zero hn, show srt [] = [] by simp [srt]]
    exact World.ownsRow_nil _ _ _ _
  · refine (Tryd.slices_Sort_int g 0 cap l w (holds_of_blockI hgg (by rw [Nat.mul_one] at h4; exact h4)) (Array.getElem?_eq_some_iff.1 hgg).1 (by omega)).mono ?_
    rintro e w' ⟨rfl, n, os, rfl⟩
    refine ⟨rfl, ?_, ?_⟩
    · have := ownsRow_sortedI (n := n) (os := os) (srt_length l) hg hgg h1 h2 h3
      unfold Sh
      rw [srt_length]
      exact this
    · have hgr := grownBy_sortedI (w := w) (g := g) (n := n) (os := os) (srt l).toArray
      exact ⟨hgr.os, hgr.tape, hgr.output, hgr.size, fun k hk => by
        rcases Nat.lt_or_ge k w.heap.size with c | c
        · exact hgr.block k c (fun e => by cases e; omega)
        · exact absurd (Array.getElem?_eq_some_iff.1 hgg).1 (by omega)⟩

theorem search_x (v : Value) (l : List Int) (x : Int) (w : World) (h : Ints w v l) (hl : l.length ≤ 1099511627776) (hs : l.Pairwise (· ≤ ·)) :
    Calls Tryd.prog 45 #[v, .int .i64 x] w fun e w' => ∃ n : Int, e = .returned (.tuple #[.int .i64 n, .bool (hasB l x)]) ∧ ∃ q, w' = w.drewN q := by
  obtain ⟨a, cap, rfl, hc⟩ := id h
  by_cases e : l = []
  · subst e
    exact (Tryd.slices_BinarySearch_int_empty a cap x w).mono fun _ _ ⟨h1, h2⟩ => ⟨0, h1, 0, h2⟩
  · obtain ⟨b, off, rfl, hb, hcc⟩ := h.cells e
    refine (Tryd.slices_BinarySearch_int b off l.length cap l x w (Nat.le_refl _) (by omega) hcc (by rw [List.take_length]; exact hs)).mono ?_
    rintro e w' ⟨h1, h2⟩
    rw [List.take_length] at h1
    exact ⟨_, h1, h2⟩

end Go.Proofs.YtmlelmknbddkjaaDoor
