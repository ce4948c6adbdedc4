/-
  The laws: what they share.
-/
import Derived.Test.YtcjakgpmompaiaaGreatDoorWrE
import Derived.Laws.Rows
import Derived.KernelRfl
namespace Go.Proofs.YtcjakgpmompaiaaGreatDoor
open Go.RowKit Rl Wd

/-- the examples come out true -/
def SmallOk : Prop := ∀ w : World, Ev w → Calls Tryz.prog 8 #[] w fun r w' => r = .returned (.bool true) ∧ Below w.heap.size w w'
theorem BB.next {w w' : World} {h : Nat} {b : Bl} (e : BB w h b) (hb : Below w.heap.size w w') : BB w' h b := e.below hb e.lt
theorem word_size {R : Rlm} {b : Bl} {p : Int} (h : Has R b p) : (mkB (wordW R b p)).size ≤ 4000 := by
  have hr := rt_of h.ok
  have hl := lines_le hr h.lo h.hi
  have hn : (linesW R b p).length ≤ 10 := by
    unfold linesW
    simp only [List.length_append, List.length_cons, List.length_nil]
    have e1 : (if 1 < b.parts then [tUnless ++ othB b.parts p ++ tWas] else []).length ≤ 1 := by split <;> simp
    have e2 : (if b.need = -1 then [] else [tNeed ++ firmN R b.need]).length ≤ 1 := by split <;> simp
    have e3 : (if bit b.flags 2 = true then [tWithout] else []).length ≤ 1 := by split <;> simp
    omega
  have hf : ∀ l : List L8, (∀ x ∈ l, x.length ≤ 300) → (l.flatMap (· ++ [10])).length ≤ 301 * l.length := by
    intro l
    induction l with
    | nil => intro _; simp
    | cons x t ih =>
      intro hx
      have h1 := hx x (by simp)
      have h2 := ih (fun y hy => hx y (by simp [hy]))
      simp only [List.flatMap_cons, List.length_append, List.length_cons, List.length_nil]
      omega
  rw [mkB_size]
  unfold wordW
  have := hf _ hl
  omega
theorem emp_list : (ByteArray.empty : B).toList = [] := by rw [ByteArray.toList_eq]; rfl
theorem ne_list {s : B} (h : s ≠ ByteArray.empty) : ¬ s.toList = [] := fun e => h ((Lib.bytes_beq_iff s ByteArray.empty).1 (by rw [e, emp_list]; rfl))
theorem ne_emp {s : B} (h : ¬ s.toList = []) : s.toList.isEmpty = false := by cases e : s.toList with | nil => exact absurd e h | cons a t => rfl
theorem textP_size (R : Rlm) (b : Bl) (p : Int) : (textP R b p).size ≤ 4000 := by
  by_cases h : Has R b p
  · rw [textP_yes h]; exact word_size h
  · rw [textP_no h]; decide
theorem rt_parts {R : Rlm} {b : Bl} (h : checkW R b = 0) : checkP R = 0 ∧ placedB R b = true ∧ rangedB b = true ∧ wi b.parts 1 4 = true ∧ flaggedB b = true ∧ termedB b = true := by
  unfold checkW at h
  obtain ⟨h0, h⟩ := orE_right h
  by_cases c1 : placedB R b = true
  case neg => rw [if_neg c1] at h; cases h
  rw [if_pos c1] at h
  by_cases c2 : rangedB b = true
  case neg => rw [if_neg c2] at h; cases h
  rw [if_pos c2] at h
  by_cases c3 : wi b.parts 1 4 = true
  case neg => rw [if_neg c3] at h; cases h
  rw [if_pos c3] at h
  by_cases c4 : flaggedB b = true ∧ termedB b = true
  case neg => rw [if_neg c4] at h; cases h
  exact ⟨h0, c1, c2, c3, c4.1, c4.2⟩

set_option maxHeartbeats 3200000 in
set_option maxRecDepth 100000 in
theorem few_x {a0 a1 a2 a3 a4 a5 a6 a7 : Option Addr} {c0 c1 c2 c3 c4 c5 c6 c7 : Nat} {R : Rlm} (s : B) (w : World) (hr : RS w a0 a1 a2 a3 a4 a5 a6 a7 c0 c1 c2 c3 c4 c5 c6 c7 R) (hF : FitW R) :
    Calls Tryz.prog 9 #[.agg #[.slice a0 R.cur.length c0, .slice a1 R.cities.length c1, .slice a2 R.groups.length c2, .slice a3 R.firms.length c3, .slice a4 R.orders.length c4, .slice a5 R.usances.length c5, .slice a6 R.rates.length c6, .slice a7 R.halts.length c7], .string s] w fun r w' => (∃ q : Bool, r = .returned (.bool q) ∧ (q = true → Fit R ∧ s.size ≤ 1000)) ∧ Below w.heap.size w w' := by
  have HR := Lib.hid hr
  have HF := Lib.hid hF
  have RB0 := Lib.hid (RB.new w a0 a1 a2 a3 a4 a5 a6 a7 c0 c1 c2 c3 c4 c5 c6 c7 R)
  have B0 := Lib.hid (Below.new1 (w := w) (.cells #[.slice a0 R.cur.length c0, .slice a1 R.cities.length c1, .slice a2 R.groups.length c2, .slice a3 R.firms.length c3, .slice a4 R.orders.length c4, .slice a5 R.usances.length c5, .slice a6 R.rates.length c6, .slice a7 R.halts.length c7] 31))
  clear hr hF
  go_enter Tryz.func9, Tryz.ntmps9
  have k0 := RB0.out.b0
  have k1 := RB0.out.b1
  have k2 := RB0.out.b2
  have k3 := RB0.out.b3
  have k4 := RB0.out.b4
  have k5 := RB0.out.b5
  have k6 := RB0.out.b6
  have k7 := RB0.out.b7
  go_wp2_with fail
  clear k0 k1 k2 k3 k4 k5 k6 k7
  refine (Few_x _ (HR.out.next B0.out) HF.out).mono ?_
  rintro r w2 ⟨⟨q, rfl, hq⟩, cc⟩
  have B2 := Lib.hid (chain B0.out cc)
  clear cc
  cases q
  · clear hq
    go_wp2_with fail
    go_ret
    exact ⟨⟨false, rfl, fun h => (by cases h)⟩, B2.out⟩
  · have HQ := Lib.hid (hq rfl)
    clear hq
    go_wp2_with fail
    go_ret
    exact ⟨⟨decide ((s.size : Int) ≤ 1000), rfl, fun h => ⟨HQ.out, by have := of_decide_eq_true h; omega⟩⟩, B2.out⟩
end Go.Proofs.YtcjakgpmompaiaaGreatDoor
