/-
  A realm without its last firms: plain, and in memory.
-/
import Derived.Test.YtagdikghpiiabaaSanC
import Derived.Test.YtagdikghpiiabaaLawA
namespace Go.Proofs.Ytagdikghpiiabaa
open Go.RowKit Rl

def lessR (R : Rlm) (M : Nat) : Rlm := { R with firms := R.firms.take M }
theorem less_len {R : Rlm} {M : Nat} (h : M ≤ R.firms.length) : (lessR R M).firms.length = M := by
  show (R.firms.take M).length = M
  rw [List.length_take, Nat.min_eq_left h]
theorem less_get {R : Rlm} {M i : Nat} {x : Frm} (hi : i < M) (hx : R.firms[i]? = some x) : (lessR R M).firms[i]? = some x := by
  show (R.firms.take M)[i]? = some x
  rw [List.getElem?_take_of_lt hi]
  exact hx
theorem less_zero {R : Rlm} {M : Nat} (h : checkP R = 0) (hM : M ≤ R.firms.length) : checkP (lessR R M) = 0 := by
  refine first_zero.2 (fun i hi => ?_)
  by_cases c : i = 3
  · subst c
    obtain ⟨h1, h2⟩ := list_zero.1 (show firmE R = 0 from zero_at h (i := 3) (by decide))
    refine list_zero.2 ⟨by rw [less_len hM]; omega, fun j hj => ?_⟩
    rw [less_len hM] at hj
    obtain ⟨x, hx⟩ : ∃ x, R.firms[j]? = some x := ⟨_, List.getElem?_eq_getElem (by omega)⟩
    have h3 := h2 j (by omega)
    rw [named_at (nm := Frm.nm) hx] at h3
    have h4 := named_at (nm := Frm.nm) (p := firmB (lessR R M).cities.length (lessR R M).groups.length) (less_get hj hx)
    show namedE ((lessR R M).firms.map Frm.nm) (at_ (lessR R M).firms (firmB (lessR R M).cities.length (lessR R M).groups.length)) j = 0
    rw [h4]
    have e : (lessR R M).firms.take j = R.firms.take j := by
      show (R.firms.take M).take j = _
      rw [List.take_take, Nat.min_eq_left (by omega)]
    rw [e]
    exact h3
  · have h0 := zero_at h hi
    match i, c, hi with
    | 0, _, _ => exact h0
    | 1, _, _ => exact h0
    | 2, _, _ => exact h0
    | 4, _, _ => exact h0
    | 5, _, _ => exact h0
    | 6, _, _ => exact h0
    | 7, _, _ => exact h0
theorem less_grade {R : Rlm} {M i : Nat} {x : Frm} (h : checkP R = 0) (hM : M ≤ R.firms.length) (hi : i < M) (hx : R.firms[i]? = some x) : gradeP (lessR R M) (i : Int) = gradeP R (i : Int) := by
  obtain ⟨q, g, hq, hg, hgr, -, -⟩ := right_grade h hx
  obtain ⟨q', g', hq', hg', hgr', -, -⟩ := right_grade (less_zero h hM) (less_get hi hx)
  rw [hgr, hgr']
  have e : q = q' := by rw [hq] at hq'; omega
  subst e
  have hg2 : R.groups[q]? = some g' := hg'
  rw [hg] at hg2
  exact (Option.some.inj hg2).symm
theorem less_find {R : Rlm} {M i : Nat} {x : Frm} (h : checkP R = 0) (hM : M ≤ R.firms.length) (hi : i < M) (hx : R.firms[i]? = some x) : findV ((lessR R M).firms.map Frm.nm) x.nm = (i : Int) := (right_firm (less_zero h hM) (less_get hi hx)).1
theorem less_last {R : Rlm} {M : Nat} {y : Frm} (h : checkP R = 0) (hy : R.firms[M]? = some y) : findV ((lessR R M).firms.map Frm.nm) y.nm = -1 := by
  have h1 := (list_zero.1 (show firmE R = 0 from zero_at h (i := 3) (by decide))).2 M (List.getElem?_eq_some_iff.1 hy).1
  rw [named_at (nm := Frm.nm) hy] at h1
  exact (nmE_zero h1).2.1
theorem less_none {R : Rlm} {M : Nat} (hM : M ≤ R.firms.length) : gradeP (lessR R M) (M : Int) = -1 := grade_no (by
  rw [← Bool.not_eq_true, ix_iff, less_len hM]
  omega)
theorem less_fit {R : Rlm} {M : Nat} (h : Fit R) (hM : M ≤ R.firms.length) : Fit (lessR R M) :=
  ⟨⟨h.cur, h.cities, h.groups, by rw [less_len hM]; have := h.firms; unfold Sz at *; omega, h.orders, h.usances, h.rates, h.halts, h.inC, h.inO⟩, h.s1, h.s2, h.s3, by rw [less_len hM]; have := h.s4; omega, h.s5, h.s6, h.s7, h.s8, h.sO⟩
theorem less_rs {w : World} {a0 a1 a2 a3 a4 a5 a6 a7 : Option Addr} {c0 c1 c2 c3 c4 c5 c6 c7 M : Nat} {R : Rlm} (h : RS w a0 a1 a2 a3 a4 a5 a6 a7 c0 c1 c2 c3 c4 c5 c6 c7 R) (hM : M ≤ R.firms.length) : RS w a0 a1 a2 a3 a4 a5 a6 a7 c0 c1 c2 c3 c4 c5 c6 c7 (lessR R M) := by
  refine ⟨h.cur, h.cities, h.groups, ?_, h.orders, h.usances, h.rates, h.halts, h.inC, h.inO⟩
  rw [less_len hM]
  exact h.firms.take hM
theorem lessCheck_x {a0 a1 a2 a3 a4 a5 a6 a7 : Option Addr} {c0 c1 c2 c3 c4 c5 c6 c7 : Nat} {R : Rlm} {M : Nat} (w : World) (h : RS w a0 a1 a2 a3 a4 a5 a6 a7 c0 c1 c2 c3 c4 c5 c6 c7 R) (hF : Fit R) (hM : M ≤ R.firms.length) :
    Calls Try.prog 12 #[.agg #[.slice a0 R.cur.length c0, .slice a1 R.cities.length c1, .slice a2 R.groups.length c2, .slice a3 M c3, .slice a4 R.orders.length c4, .slice a5 R.usances.length c5, .slice a6 R.rates.length c6, .slice a7 R.halts.length c7]] w fun r w' => r = .returned (.int .i64 (checkP (lessR R M))) ∧ Below w.heap.size w w' := by
  have e := less_len hM
  have q := Check_x w (less_rs h hM) (less_fit hF hM)
  rw [e] at q
  exact q
theorem lessGrade_x {a0 a1 a2 a3 a4 a5 a6 a7 : Option Addr} {c0 c1 c2 c3 c4 c5 c6 c7 : Nat} {R : Rlm} {M : Nat} (n : Int) (w : World) (h : RS w a0 a1 a2 a3 a4 a5 a6 a7 c0 c1 c2 c3 c4 c5 c6 c7 R) (hF : Fit R) (hM : M ≤ R.firms.length) :
    Calls Try.prog 19 #[.agg #[.slice a0 R.cur.length c0, .slice a1 R.cities.length c1, .slice a2 R.groups.length c2, .slice a3 M c3, .slice a4 R.orders.length c4, .slice a5 R.usances.length c5, .slice a6 R.rates.length c6, .slice a7 R.halts.length c7], .int .i64 n] w fun r w' => r = .returned (.int .i64 (gradeP (lessR R M) n)) ∧ Below w.heap.size w w' := by
  have e := less_len hM
  have q := Grade_x n w (less_rs h hM) (less_fit hF hM)
  rw [e] at q
  exact q
theorem lessFirm_x {a0 a1 a2 a3 a4 a5 a6 a7 : Option Addr} {c0 c1 c2 c3 c4 c5 c6 c7 : Nat} {R : Rlm} {M : Nat} (s : B) (w : World) (h : RS w a0 a1 a2 a3 a4 a5 a6 a7 c0 c1 c2 c3 c4 c5 c6 c7 R) (hF : Fit R) (hM : M ≤ R.firms.length) :
    Calls Try.prog 23 #[.agg #[.slice a0 R.cur.length c0, .slice a1 R.cities.length c1, .slice a2 R.groups.length c2, .slice a3 M c3, .slice a4 R.orders.length c4, .slice a5 R.usances.length c5, .slice a6 R.rates.length c6, .slice a7 R.halts.length c7], .string s] w fun r w' => r = .returned (.int .i64 (findV ((lessR R M).firms.map Frm.nm) s)) ∧ Below w.heap.size w w' := by
  have e := less_len hM
  have q := Firm_x s w (less_rs h hM) (less_fit hF hM)
  rw [e] at q
  exact q

end Go.Proofs.Ytagdikghpiiabaa
