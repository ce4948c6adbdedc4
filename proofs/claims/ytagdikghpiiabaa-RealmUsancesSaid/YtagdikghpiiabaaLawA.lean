/-
  What a right realm is like (plain).
-/
import Derived.Test.YtagdikghpiiabaaProI
import Derived.Test.YtagdikghpiiabaaRefB
namespace Go.Proofs.Ytagdikghpiiabaa
open Go.RowKit Rl

theorem nmE_zero {nms : List B} {s : B} {ok : Bool} (h : nmE nms s ok = 0) : nameB s = true ∧ findV nms s = -1 ∧ ok = true := by
  unfold nmE at h
  split at h
  · rename_i h1
    split at h
    · rename_i h2
      split at h
      · rename_i h3
        exact ⟨h1, h2, h3⟩
      · simp at h
    · simp at h
  · simp at h
theorem named_find {T : Type} {nm : T → B} {p : T → Bool} {l : List T} (h : ∀ i, i < l.length → namedE (l.map nm) (at_ l p) i = 0) {i : Nat} {x : T} (hx : l[i]? = some x) : findV (l.map nm) (nm x) = i ∧ p x = true := by
  have h0 := h i (List.getElem?_eq_some_iff.1 hx).1
  rw [named_at hx] at h0
  obtain ⟨-, h2, h3⟩ := nmE_zero h0
  rw [List.map_take] at h2
  refine ⟨find_at (map_at hx) (fun j y hj hy e => ?_), h3⟩
  subst e
  exact find_in hj hy h2
theorem named_ok {T : Type} {nm : T → B} {p : T → Bool} {l : List T} (h : ∀ i, i < l.length → namedE (l.map nm) (at_ l p) i = 0) {i : Nat} {x : T} (hx : l[i]? = some x) : nameB (nm x) = true := by
  have h0 := h i (List.getElem?_eq_some_iff.1 hx).1
  rw [named_at hx] at h0
  exact (nmE_zero h0).1
theorem zero_at {R : Rlm} (h : checkP R = 0) {i : Nat} (hi : i < 8) : lstE R i = 0 := first_zero.1 h i hi
theorem right_city {R : Rlm} (h : checkP R = 0) {i : Nat} {x : Cty} (hx : R.cities[i]? = some x) : findV (R.cities.map Cty.nm) x.nm = i ∧ ix x.o R.orders.length = true := by
  have h1 := (list_zero.1 (show cityE R = 0 from zero_at h (i := 1) (by decide))).2
  obtain ⟨h2, h3⟩ := named_find h1 hx
  refine ⟨h2, ?_⟩
  unfold cityB at h3
  rw [Bool.and_eq_true] at h3
  exact h3.1
theorem right_firm {R : Rlm} (h : checkP R = 0) {i : Nat} {x : Frm} (hx : R.firms[i]? = some x) : findV (R.firms.map Frm.nm) x.nm = i ∧ ix x.city R.cities.length = true ∧ ix x.grp R.groups.length = true := by
  have h1 := (list_zero.1 (show firmE R = 0 from zero_at h (i := 3) (by decide))).2
  obtain ⟨h2, h3⟩ := named_find h1 hx
  refine ⟨h2, ?_⟩
  unfold firmB at h3
  rw [Bool.and_eq_true] at h3
  exact h3
theorem right_group {R : Rlm} (h : checkP R = 0) {i : Nat} {g : Int} (hx : R.groups[i]? = some g) : 0 ≤ g ∧ g ≤ 9 := by
  have h1 := (list_zero.1 (show groupE R = 0 from zero_at h (i := 2) (by decide))).2 i (List.getElem?_eq_some_iff.1 hx).1
  rw [plain_at (p := fun g => wi g 0 9) hx] at h1
  split at h1
  · rename_i h2
    exact wi_iff.1 h2
  · simp at h1
/-- the grade of a firm of a right realm -/
theorem right_grade {R : Rlm} (h : checkP R = 0) {i : Nat} {x : Frm} (hx : R.firms[i]? = some x) : ∃ (q : Nat) (g : Int), x.grp = (q : Int) ∧ R.groups[q]? = some g ∧ gradeP R (i : Int) = g ∧ 0 ≤ g ∧ g ≤ 9 := by
  obtain ⟨-, -, h2⟩ := right_firm h hx
  obtain ⟨q, hq, hqm⟩ := ix_nat h2
  obtain ⟨g, hg⟩ : ∃ g, R.groups[q]? = some g := ⟨_, List.getElem?_eq_getElem hqm⟩
  have hi := (List.getElem?_eq_some_iff.1 hx).1
  exact ⟨q, g, hq, hg, grade_yes hx (ix_iff.2 ⟨by omega, by omega⟩) hq hg h2, right_group h hg⟩
theorem order_at {R : Rlm} (h : checkP R = 0) {i : Nat} {x : Cty} (hx : R.cities[i]? = some x) : ∃ q : Nat, orderAt R (i : Int) = (q : Int) ∧ q < R.orders.length := by
  obtain ⟨-, h2⟩ := right_city h hx
  obtain ⟨q, hq, hqm⟩ := ix_nat h2
  have hi := (List.getElem?_eq_some_iff.1 hx).1
  exact ⟨q, by rw [orderAt_yes hx (ix_iff.2 ⟨by omega, by omega⟩), hq], hqm⟩
end Go.Proofs.Ytagdikghpiiabaa
