/-
  The members of the groups of a right realm (plain).
-/
import Derived.Test.YtagdikghpiiabaaLawA
namespace Go.Proofs.Ytagdikghpiiabaa
open Go.RowKit Rl

theorem filter_split : ∀ (l : List Nat) (p q r : Nat → Bool), (∀ i ∈ l, r i = (p i || q i)) → (∀ i ∈ l, ¬ (p i = true ∧ q i = true)) → (l.filter r).length = (l.filter p).length + (l.filter q).length
  | [], _, _, _, _, _ => rfl
  | a :: l, p, q, r, h, hd => by
    have ih := filter_split l p q r (fun i hi => h i (by simp [hi])) (fun i hi => hd i (by simp [hi]))
    have h1 := h a (by simp)
    have h2 := hd a (by simp)
    rw [List.filter_cons, List.filter_cons, List.filter_cons, h1]
    cases hp : p a <;> cases hq : q a
    · simpa using ih
    · simp only [Bool.or_true, Bool.false_eq_true, if_true, if_false, List.length_cons]
      omega
    · simp only [Bool.or_false, Bool.false_eq_true, if_true, if_false, List.length_cons]
      omega
    · exact absurd ⟨hp, hq⟩ h2
/-- how many firms are in the first k groups -/
def cntK (F : List Frm) (k : Nat) : Nat := ((List.range F.length).filter (fun i => at_ F (fun f => decide (f.grp < (k : Int))) i)).length
theorem mem_length (F : List Frm) (g : Int) : (memP F g).length = ((List.range F.length).filter (fun i => at_ F (fun f => decide (f.grp = g)) i)).length := by
  unfold memP
  rw [List.length_map]
theorem cnt_succ (F : List Frm) (k : Nat) : cntK F (k + 1) = cntK F k + (memP F (k : Int)).length := by
  rw [mem_length]
  unfold cntK
  refine filter_split _ _ _ _ (fun i hi => ?_) (fun i hi => ?_)
  · have hlt := List.mem_range.1 hi
    unfold at_
    rw [List.getElem?_eq_getElem hlt]
    show decide _ = (decide _ || decide _)
    rw [Bool.eq_iff_iff, Bool.or_eq_true, decide_eq_true_iff, decide_eq_true_iff, decide_eq_true_iff]
    omega
  · have hlt := List.mem_range.1 hi
    unfold at_
    rw [List.getElem?_eq_getElem hlt]
    show ¬ (decide _ = true ∧ decide _ = true)
    rw [decide_eq_true_iff, decide_eq_true_iff]
    omega
theorem cnt_zero {F : List Frm} (h : ∀ f ∈ F, 0 ≤ f.grp) : cntK F 0 = 0 := by
  unfold cntK
  rw [List.length_eq_zero_iff, List.filter_eq_nil_iff]
  intro i hi
  have hlt := List.mem_range.1 hi
  unfold at_
  rw [List.getElem?_eq_getElem hlt]
  have := h _ (List.getElem_mem hlt)
  simp
  exact this
theorem cnt_all {F : List Frm} {n : Nat} (h : ∀ f ∈ F, f.grp < (n : Int)) : cntK F n = F.length := by
  unfold cntK
  have e : (List.range F.length).filter (fun i => at_ F (fun f => decide (f.grp < (n : Int))) i) = List.range F.length := by
    rw [List.filter_eq_self]
    intro i hi
    have hlt := List.mem_range.1 hi
    unfold at_
    rw [List.getElem?_eq_getElem hlt]
    exact decide_eq_true (h _ (List.getElem_mem hlt))
  rw [e, List.length_range]
theorem mem_none {F : List Frm} {g : Int} (h : ∀ f ∈ F, f.grp ≠ g) : memP F g = [] := by
  unfold memP
  rw [List.map_eq_nil_iff, List.filter_eq_nil_iff]
  intro i hi
  have hlt := List.mem_range.1 hi
  unfold at_
  rw [List.getElem?_eq_getElem hlt]
  simpa using h _ (List.getElem_mem hlt)
theorem mem_get {F : List Frm} {g v : Int} {j : Nat} (h : (memP F g)[j]? = some v) : ∃ (m : Nat) (x : Frm), v = (m : Int) ∧ F[m]? = some x ∧ x.grp = g := by
  have hm := List.mem_of_getElem? h
  unfold memP at hm
  obtain ⟨m, hm2, rfl⟩ := List.mem_map.1 hm
  obtain ⟨h1, h2⟩ := List.mem_filter.1 hm2
  have hlt := List.mem_range.1 h1
  unfold at_ at h2
  rw [List.getElem?_eq_getElem hlt] at h2
  exact ⟨m, F[m], rfl, List.getElem?_eq_getElem hlt, of_decide_eq_true h2⟩
theorem mem_asc {F : List Frm} {g y z : Int} {j : Nat} (hz : (memP F g)[j]? = some z) (hy : (memP F g)[j + 1]? = some y) : z < y := by
  have hp : (memP F g).Pairwise (fun a b => a < b) := by
    unfold memP
    rw [List.pairwise_map]
    refine List.Pairwise.imp (fun {a b} (h : a < b) => ?_) (List.Pairwise.filter _ List.pairwise_lt_range)
    show (a : Int) < (b : Int)
    omega
  obtain ⟨h1, h2⟩ := List.getElem?_eq_some_iff.1 hz
  obtain ⟨h3, h4⟩ := List.getElem?_eq_some_iff.1 hy
  have := List.pairwise_iff_getElem.1 hp j (j + 1) h1 h3 (by omega)
  rw [h2, h4] at this
  exact this
theorem grp_range {R : Rlm} (h : checkP R = 0) : ∀ f ∈ R.firms, 0 ≤ f.grp ∧ f.grp < (R.groups.length : Int) := by
  intro f hf
  obtain ⟨i, hi⟩ := List.getElem?_of_mem hf
  exact ix_iff.1 (right_firm h hi).2.2
end Go.Proofs.Ytagdikghpiiabaa
