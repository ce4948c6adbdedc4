/-
  What GraphOrders' walk needs.
-/
import Derived.Test.YtndcbhgdlaemaaaShortW
namespace Go.Proofs.Ytndcbhgdlaemaaa
open Go.RowKit Gr

/-- the places of the first k nodes of the order -/
structure PS (N : Nat) (l : List Int) (k : Nat) (P : List Int) : Prop where
  len : P.length = N
  done : ∀ (i : Nat) (a : Nat), l[i]? = some (a : Int) → i < k → P[a]? = some ((i : Int) + 1)
  todo : ∀ (i : Nat) (a : Nat), l[i]? = some (a : Int) → k ≤ i → P[a]? = some 0
theorem PS.start {N : Nat} {l : List Int} (hn : ∀ x ∈ l, 0 ≤ x ∧ x < (N : Int)) : PS N l 0 (List.replicate N 0) := by
  refine ⟨by simp, fun i a _ h => absurd h (by omega), fun i a h _ => ?_⟩
  have := (hn _ (List.mem_of_getElem? h)).2
  rw [List.getElem?_replicate, if_pos (by omega)]
theorem PS.next {N : Nat} {e : E} {l : List Int} (ho : Ok N e l) {k : Nat} {P : List Int} (h : PS N l k P) {a : Nat} (ha : l[k]? = some (a : Int)) : PS N l (k + 1) (P.set a ((k : Int) + 1)) := by
  have haN := (ho.node _ (List.mem_of_getElem? ha)).2
  refine ⟨by simpa using h.len, fun i b hb hi => ?_, fun i b hb hi => ?_⟩
  · rw [List.getElem?_set]
    by_cases c : a = b
    · subst c
      have := ho.get_inj ha hb
      subst this
      rw [if_pos rfl, if_pos (by rw [h.len]; omega)]
    · rw [if_neg c]
      refine h.done i b hb ?_
      apply Classical.byContradiction
      intro hik
      have : i = k := by omega
      subst this
      rw [ha] at hb
      simp at hb
      omega
  · rw [List.getElem?_set]
    by_cases c : a = b
    · subst c
      have := ho.get_inj ha hb
      omega
    · rw [if_neg c]
      exact h.todo i b hb (by omega)
/-- a node's place -/
theorem PS.at {N : Nat} {e : E} {l : List Int} (ho : Ok N e l) (hl : l.length = N) {P : List Int} (h : PS N l N P) {a : Nat} (ha : a < N) : ∃ i : Nat, i < N ∧ l[i]? = some (a : Int) ∧ P[a]? = some ((i : Int) + 1) := by
  obtain ⟨i, hi⟩ := List.mem_iff_getElem?.1 (ho.all (n := (N : Int)) (by rw [hl]; simp) (a := (a : Int)) ⟨by omega, by omega⟩)
  have := (List.getElem?_eq_some_iff.1 hi).1
  exact ⟨i, by omega, hi, h.done i a hi (by omega)⟩
/-- no lesser node could have come earlier -/
theorem ok_greedy {n : Int} {e : E} {l : List Int} (ho : Ok n e l) {a b : Int} {i j : Nat} (hj : l[j]? = some a) (hi : l[i]? = some b) (hij : i < j) (hp : ∀ p ∈ e, p.2 = a → ∃ t, t < i ∧ l[t]? = some p.1) : b ≤ a := by
  apply Classical.byContradiction
  intro hc
  have ha := ho.node a (List.mem_of_getElem? hj)
  have h1 := ho.least i b hi a ha.1 (by omega)
  have h2 : freeB e (l.take i) a = true := by
    rw [free_iff]
    constructor
    · intro hm
      obtain ⟨t, ht⟩ := List.mem_iff_getElem?.1 hm
      have htl := (List.getElem?_eq_some_iff.1 ht).1
      rw [List.length_take] at htl
      rw [List.getElem?_take_of_lt (by omega)] at ht
      have := ho.get_inj ht hj
      omega
    · intro p hp1 hp2
      obtain ⟨t, ht, ht2⟩ := hp p hp1 hp2
      refine List.mem_iff_getElem?.2 ⟨t, ?_⟩
      rw [List.getElem?_take_of_lt ht]
      exact ht2
  rw [h1] at h2
  cases h2
/-- what lies in memory behind the first loop -/
structure OW (w : World) (e : E) (l : List Int) (v x : Value) (g : Nat) (P : List Int) (W : World) : Prop where
  row : Row W g (ints P)
  ed : EAt W v e
  li : SAt W x (ints l)
  below : Below w.heap.size w W
theorem OW.drewN {w : World} {e : E} {l : List Int} {v x : Value} {g : Nat} {P : List Int} {W : World} (h : OW w e l v x g P W) (q : Nat) : OW w e l v x g P (W.drewN q) :=
  ⟨h.row.below (below_drewN (Below.refl _ _) q) h.row.lt, h.ed.drewN q, h.li.drewN q, below_drewN h.below q⟩
theorem OW.drew {w : World} {e : E} {l : List Int} {v x : Value} {g : Nat} {P : List Int} {W : World} (h : OW w e l v x g P W) : OW w e l v x g P W.drew :=
  ⟨h.row.below (Below.drew (Below.refl _ _)) h.row.lt, h.ed.below (Below.drew (Below.refl _ _)) (Nat.le_refl _), h.li.below (Below.drew (Below.refl _ _)) (Nat.le_refl _), Below.drew h.below⟩
theorem ints_set (l : List Int) (k : Nat) (b : Int) : (ints l).set k (.int .i64 b) = ints (l.set k b) := by simp [ints, List.map_set]
theorem made_ints (N : Nat) : (madeCells #[Value.int .i64 0] N).toList = ints (List.replicate N 0) := by
  rw [toList_madeCells_one]
  simp
/-- a list that lies in older blocks stays as it is -/
structure OX (w : World) (e : E) (l : List Int) (v x : Value) (g : Nat) (P : List Int) (W0 W : World) : Prop where
  row : Row W g (ints P)
  old : Below g W0 W
  ed : EAt W0 v e
  li : SAt W0 x (ints l)
  lt : W0.heap.size = g
  below : Below w.heap.size w W0
theorem OX.ow {w : World} {e : E} {l : List Int} {v x : Value} {g : Nat} {P : List Int} {W0 W : World} (h : OX w e l v x g P W0 W) : OW w e l v x g P W :=
  ⟨h.row, h.ed.below h.old (by rw [h.lt]; exact Nat.le_refl _), h.li.below h.old (by rw [h.lt]; exact Nat.le_refl _), h.below.trans (h.old.mono (by have := h.below.size; have := h.lt; omega))⟩
theorem OX.set {w : World} {e : E} {l : List Int} {v x : Value} {g : Nat} {P : List Int} {W0 W : World} (h : OX w e l v x g P W0 W) (k : Nat) (hk : k < P.length) (b : Int) : OX w e l v x g (P.set k b) W0 (W.setCell ⟨g, k, none⟩ (.int .i64 b)) :=
  ⟨by rw [← ints_set]; exact h.row.set k _ (by simpa using hk), h.old.setCell (Nat.le_refl _) _, h.ed, h.li, h.lt, h.below⟩
theorem OX.drewN {w : World} {e : E} {l : List Int} {v x : Value} {g : Nat} {P : List Int} {W0 W : World} (h : OX w e l v x g P W0 W) (q : Nat) : OX w e l v x g P W0 (W.drewN q) :=
  ⟨h.row.below (below_drewN (Below.refl _ _) q) h.row.lt, below_drewN h.old q, h.ed, h.li, h.lt, h.below⟩
theorem OX.drew {w : World} {e : E} {l : List Int} {v x : Value} {g : Nat} {P : List Int} {W0 W : World} (h : OX w e l v x g P W0 W) : OX w e l v x g P W0 W.drew :=
  ⟨h.row.below (Below.drew (Below.refl _ _)) h.row.lt, Below.drew h.old, h.ed, h.li, h.lt, h.below⟩
def Cy6 (len : Nat) (W : World) (i : Value) (wr : World) : Prop := ∃ k : Nat, k ≤ len ∧ i = .int .i64 (k : Int) ∧ ∃ q, wr = W.drewN q
def Lp2 (N : Nat) (w : World) (e : E) (l : List Int) (v x : Value) (g : Nat) (W0 : World) (i : Value) (wr : World) : Prop := ∃ (k : Nat) (P : List Int), k ≤ N ∧ i = .int .i64 (k : Int) ∧ PS N l k P ∧ OX w e l v x g P W0 wr
def Lp3 (M : Nat) (w : World) (e : E) (l : List Int) (v x : Value) (g : Nat) (P : List Int) (i : Value) (wr : World) : Prop := ∃ k : Nat, k ≤ M ∧ i = .int .i64 (k : Int) ∧ OW w e l v x g P wr
/-- the first place that is possible for a, after k edges -/
def Lp6 (N : Nat) (w : World) (e : E) (l : List Int) (v x : Value) (g : Nat) (P : List Int) (a : Nat) (f i : Value) (wr : World) : Prop := ∃ (k F : Nat), k ≤ e.length ∧ i = .int .i64 (k : Int) ∧ f = .int .i64 ((F : Int) + 1) ∧ F ≤ N ∧ (∀ p ∈ e.take k, p.2 = (a : Int) → ∃ t, t < F ∧ l[t]? = some p.1) ∧ OW w e l v x g P wr
def Lp7 (w : World) (e : E) (l : List Int) (v x : Value) (g : Nat) (P : List Int) (F N : Nat) (i : Value) (wr : World) : Prop := ∃ m : Nat, F ≤ m ∧ m ≤ N ∧ i = .int .i64 ((m : Int) + 1) ∧ OW w e l v x g P wr

end Go.Proofs.Ytndcbhgdlaemaaa
