/-
  A bill with a number that is out of its range in one place (plain).
-/
import Derived.Test.YtcjakgpmompaiaaGreatDoorLwA
namespace Go.Proofs.YtcjakgpmompaiaaGreatDoor
open Go.RowKit Rl Wd

theorem wi_no {n a b : Int} (h : n < a ∨ b < n) : wi n a b = false := by
  cases e : wi n a b
  · rfl
  · have := wi_iff.1 e; omega
theorem ix_no {n : Int} {l : Nat} (h : n < 0 ∨ (l : Int) ≤ n) : ix n l = false := by
  cases e : ix n l
  · rfl
  · have := ix_iff.1 e; omega
theorem chk1 {R : Rlm} {x : Bl} (hc : checkP R = 0) (h : placedB R x = false) : checkW R x = 1 := by
  unfold checkW
  rw [hc, if_neg (by rw [h]; decide)]
  rfl
theorem chk3 {R : Rlm} {x : Bl} (hc : checkP R = 0) (h : placedB R x = true) (h2 : rangedB x = false) : checkW R x = 3 := by
  unfold checkW
  rw [hc, if_pos h, if_neg (by rw [h2]; decide)]
  rfl
theorem chk15 {R : Rlm} {x : Bl} (hc : checkP R = 0) (h : placedB R x = true) (h2 : rangedB x = true) (h3 : wi x.parts 1 4 = false) : checkW R x = 15 := by
  unfold checkW
  rw [hc, if_pos h, if_pos h2, if_neg (by rw [h3]; decide)]
  rfl
theorem chk2 {R : Rlm} {x : Bl} (hc : checkP R = 0) (h : placedB R x = true) (h2 : rangedB x = true) (h3 : wi x.parts 1 4 = true) (h4 : flaggedB x = false ∨ termedB x = false) : checkW R x = 2 := by
  unfold checkW
  rw [hc, if_pos h, if_pos h2, if_pos h3, if_neg (by rcases h4 with h | h <;> rw [h] <;> simp)]
  rfl
theorem no_word {R : Rlm} {x : Bl} {e : Int} (h : checkW R x = e) (he : e ≠ 0) (p : Int) : textP R x p = ByteArray.empty := textP_no (fun hh => he (h.symm.trans hh.ok))
theorem bad_drawer {R : Rlm} {b : Bl} (h : checkW R b = 0) {v : Int} (hv : v < 0 ∨ (R.firms.length : Int) ≤ v) : checkW R { b with drawer := v } = 1 :=
  chk1 (rt_parts h).1 (by unfold placedB; rw [show ix ({ b with drawer := v } : Bl).drawer R.firms.length = false from ix_no hv]; rfl)
theorem bad_pay {R : Rlm} {b : Bl} (h : checkW R b = 0) {v : Int} (hv : v < 0 ∨ (R.cities.length : Int) ≤ v) : checkW R { b with pay := v } = 1 :=
  chk1 (rt_parts h).1 (by unfold placedB; rw [show ix ({ b with pay := v } : Bl).pay R.cities.length = false from ix_no hv]; simp)
theorem bad_need {R : Rlm} {b : Bl} (h : checkW R b = 0) {v : Int} (hv : v < -1 ∨ (R.firms.length : Int) ≤ v) : checkW R { b with need := v } = 1 := by
  have e1 : ix v R.firms.length = false := ix_no (by omega)
  have e2 : ¬ v = -1 := by omega
  have e3 : noneB v R.firms.length = false := by unfold noneB; rw [e1, decide_eq_false e2]; rfl
  refine chk1 (rt_parts h).1 ?_
  unfold placedB
  rw [show noneB ({ b with need := v } : Bl).need R.firms.length = false from e3]
  simp
theorem bad_sum {R : Rlm} {b : Bl} (h : checkW R b = 0) {v : Int} (hv : v < 1 ∨ 1099511627776 < v) : checkW R { b with sum := v } = 3 := by
  obtain ⟨h0, h1, h2, h3, h4, h5⟩ := rt_parts h
  exact chk3 h0 h1 (by unfold rangedB; rw [show wi ({ b with sum := v } : Bl).sum 1 1099511627776 = false from wi_no hv]; rfl)
theorem bad_rate {R : Rlm} {b : Bl} (h : checkW R b = 0) {v : Int} (hv : v < 0 ∨ 1000 < v) : checkW R { b with rate := v } = 3 := by
  obtain ⟨h0, h1, h2, h3, h4, h5⟩ := rt_parts h
  exact chk3 h0 h1 (by unfold rangedB; rw [show wi ({ b with rate := v } : Bl).rate 0 1000 = false from wi_no hv]; simp)
theorem bad_parts {R : Rlm} {b : Bl} (h : checkW R b = 0) {v : Int} (hv : v < 1 ∨ 4 < v) : checkW R { b with parts := v } = 15 := by
  obtain ⟨h0, h1, h2, h3, h4, h5⟩ := rt_parts h
  exact chk15 h0 h1 h2 (wi_no hv)
theorem bad_flags {R : Rlm} {b : Bl} (h : checkW R b = 0) {v : Int} (hv : v < 0 ∨ 7 < v) : checkW R { b with flags := v } = 2 := by
  obtain ⟨h0, h1, h2, h3, h4, h5⟩ := rt_parts h
  exact chk2 h0 h1 h2 h3 (.inl (by unfold flaggedB; rw [show wi ({ b with flags := v } : Bl).flags 0 7 = false from wi_no hv]; rfl))
theorem bad_kind {R : Rlm} {b : Bl} (h : checkW R b = 0) {v : Int} (hv : v < 0 ∨ 4 < v) : checkW R { b with tk := v } = 2 := by
  obtain ⟨h0, h1, h2, h3, h4, h5⟩ := rt_parts h
  exact chk2 h0 h1 h2 h3 (.inr (by
    unfold termedB
    rw [if_neg (by show ¬ (v = 0 ∨ v = 4); omega), if_neg (by show ¬ (v = 1 ∨ v = 2); omega), if_neg (by show ¬ v = 3; omega)]))
end Go.Proofs.YtcjakgpmompaiaaGreatDoor
