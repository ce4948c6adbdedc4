/-
  The program at the example; the example with a cell turned.
-/
import Derived.Test.YtagdikghpiiabaaSanA
namespace Go.Proofs.Ytagdikghpiiabaa
open Go.RowKit Rl

theorem Fl.other {w : World} {g : Nat} {vs : List Value} (h : Fl w g vs) {p : Addr} (hp : p.block ≠ g) (u : Value) : Fl (w.setCell p u) g vs := by
  refine ⟨by simpa using h.1, fun j v hv => ?_⟩
  rw [World.cell?_setCell_other _ _ _ _ (by intro e; subst e; exact hp rfl)]
  exact h.2 j v hv
theorem Fl.set {w : World} {g k : Nat} {vs : List Value} (h : Fl w g vs) (hk : k < vs.length) (u : Value) : Fl (w.setCell ⟨g, k, none⟩ u) g (vs.set k u) := by
  refine ⟨by simpa using h.1, fun j v hv => ?_⟩
  have hc := h.2 k _ (List.getElem?_eq_getElem hk)
  rw [List.getElem?_set] at hv
  by_cases hjk : k = j
  · subst hjk
    rw [if_pos rfl, if_pos hk] at hv
    simp only [Option.some.injEq] at hv
    subst hv
    exact World.cell?_setCell_same _ _ _ hc
  · rw [if_neg hjk] at hv
    rw [World.cell?_setCell_other _ _ _ _ (by intro e; injection e with _ e _; exact hjk e)]
    exact h.2 j v hv
theorem ExB.name {w : World} {n q : Nat} {s : B} {x y : Int} (h : ExB w n q s x y) (hq : q ≠ n + 6) (s' : B) : ExB (w.setCell ⟨n + 6, 3, none⟩ (.string s')) n q s' x y :=
  ⟨h.cur.other (by show n + 6 ≠ _; omega) _, h.r1.other (by show n + 6 ≠ _; omega) _, h.r2.other (by show n + 6 ≠ _; omega) _, h.cities.other (by show n + 6 ≠ _; omega) _, h.groups.other (by show n + 6 ≠ _; omega) _,
    h.firms.set (k := 3) (by simp [EX, cFrm]) _, h.orders.other (by show n + 6 ≠ _; omega) _, h.usances.other (by show n + 6 ≠ _; omega) _⟩
theorem ExB.rest {w : World} {n q q' : Nat} {s : B} {x y x' y' : Int} (h : ExB w n q s x y) (hq : q' ≠ n + 4) (hr : Fl w q' (([x', y'] : List Int).map cInt).flatten) : ExB (w.setCell ⟨n + 4, 3, none⟩ (.slice (some ⟨q', 0, none⟩) 2 2)) n q' s x' y' :=
  ⟨h.cur.other (by show n + 4 ≠ _; omega) _, hr.other (by show n + 4 ≠ _; omega) _, h.r2.other (by show n + 4 ≠ _; omega) _, h.cities.set (k := 3) (by simp [EX, cCty]) _, h.groups.other (by show n + 4 ≠ _; omega) _,
    h.firms.other (by show n + 4 ≠ _; omega) _, h.orders.other (by show n + 4 ≠ _; omega) _, h.usances.other (by show n + 4 ≠ _; omega) _⟩
theorem exU1 {w : World} {n q : Nat} (h : ExB w n q sHope 5 6) :
    Calls Try.prog 10 #[vEX n, .int .i64 0, .int .i64 1] w fun r w' => r = .returned (.tuple #[.int .i64 60, .int .i64 0]) ∧ Below w.heap.size w w' :=
  (Usance_x 0 1 w h.rs (ex_fit n q sHope 5 6)).mono (fun r w' ⟨e, b⟩ => ⟨by rw [e, ex_us1 n q], b⟩)
theorem exU2 {w : World} {n q : Nat} (h : ExB w n q sHope 5 6) :
    Calls Try.prog 10 #[vEX n, .int .i64 1, .int .i64 0] w fun r w' => r = .returned (.tuple #[.int .i64 0, .int .i64 4]) ∧ Below w.heap.size w w' :=
  (Usance_x 1 0 w h.rs (ex_fit n q sHope 5 6)).mono (fun r w' ⟨e, b⟩ => ⟨by rw [e, ex_us2 n q], b⟩)
theorem exC0 {w : World} {n q : Nat} (h : ExB w n q sHope 5 6) :
    Calls Try.prog 12 #[vEX n] w fun r w' => r = .returned (.int .i64 0) ∧ Below w.heap.size w w' :=
  (Check_x w h.rs (ex_fit n q sHope 5 6)).mono (fun r w' ⟨e, b⟩ => ⟨by rw [e, ex_ok n q], b⟩)
theorem exC1 {w : World} {n q : Nat} (h : ExB w n q sBodmer 5 6) :
    Calls Try.prog 12 #[vEX n] w fun r w' => r = .returned (.int .i64 5) ∧ Below w.heap.size w w' :=
  (Check_x w h.rs (ex_fit n q sBodmer 5 6)).mono (fun r w' ⟨e, b⟩ => ⟨by rw [e, ex_twice n q], b⟩)
theorem exC2 {w : World} {n q : Nat} (h : ExB w n q s2nd 5 6) :
    Calls Try.prog 12 #[vEX n] w fun r w' => r = .returned (.int .i64 2) ∧ Below w.heap.size w w' :=
  (Check_x w h.rs (ex_fit n q s2nd 5 6)).mono (fun r w' ⟨e, b⟩ => ⟨by rw [e, ex_form n q], b⟩)
theorem exC3 {w : World} {n q : Nat} (h : ExB w n q sHope 6 5) :
    Calls Try.prog 12 #[vEX n] w fun r w' => r = .returned (.int .i64 1) ∧ Below w.heap.size w w' :=
  (Check_x w h.rs (ex_fit n q sHope 6 5)).mono (fun r w' ⟨e, b⟩ => ⟨by rw [e, ex_arg n q], b⟩)
theorem exO1 {w : World} {n q : Nat} (h : ExB w n q sHope 5 6) :
    Calls Try.prog 14 #[vEX n, .int .i64 1] w fun r w' => r = .returned (.int .i64 1) ∧ Below w.heap.size w w' :=
  (OrderAt_x 1 w h.rs (ex_fit n q sHope 5 6)).mono (fun r w' ⟨e, b⟩ => ⟨by rw [e, ex_at1 n q], b⟩)
theorem exO2 {w : World} {n q : Nat} (h : ExB w n q sHope 5 6) :
    Calls Try.prog 14 #[vEX n, .int .i64 2] w fun r w' => r = .returned (.int .i64 (-1)) ∧ Below w.heap.size w w' :=
  (OrderAt_x 2 w h.rs (ex_fit n q sHope 5 6)).mono (fun r w' ⟨e, b⟩ => ⟨by rw [e, ex_at2 n q], b⟩)
theorem exG1 {w : World} {n q : Nat} (h : ExB w n q sHope 5 6) :
    Calls Try.prog 19 #[vEX n, .int .i64 1] w fun r w' => r = .returned (.int .i64 3) ∧ Below w.heap.size w w' :=
  (Grade_x 1 w h.rs (ex_fit n q sHope 5 6)).mono (fun r w' ⟨e, b⟩ => ⟨by rw [e, ex_grade n q], b⟩)
theorem exF1 {w : World} {n q : Nat} (h : ExB w n q sHope 5 6) :
    Calls Try.prog 23 #[vEX n, .string sHope] w fun r w' => r = .returned (.int .i64 1) ∧ Below w.heap.size w w' :=
  (Firm_x sHope w h.rs (ex_fit n q sHope 5 6)).mono (fun r w' ⟨e, b⟩ => ⟨by rw [e, ex_firm n q], b⟩)
theorem exY1 {w : World} {n q : Nat} (h : ExB w n q sHope 5 6) :
    Calls Try.prog 21 #[vEX n, .string sHope] w fun r w' => r = .returned (.int .i64 (-1)) ∧ Below w.heap.size w w' :=
  (City_x sHope w h.rs (ex_fit n q sHope 5 6)).mono (fun r w' ⟨e, b⟩ => ⟨by rw [e, ex_city n q], b⟩)
theorem exM1 {w : World} {n q : Nat} (h : ExB w n q sHope 5 6) :
    Calls Try.prog 17 #[vEX n, .int .i64 0] w fun r w' => (∃ v, r = .returned v ∧ IAt w' v [0, 1]) ∧ Below w.heap.size w w' :=
  (Members_x 0 w h.rs (ex_fit n q sHope 5 6)).mono (fun r w' ⟨⟨v, e, hv⟩, b⟩ => ⟨⟨v, e, by rw [ex_mem n q] at hv; exact hv⟩, b⟩)
end Go.Proofs.Ytagdikghpiiabaa
