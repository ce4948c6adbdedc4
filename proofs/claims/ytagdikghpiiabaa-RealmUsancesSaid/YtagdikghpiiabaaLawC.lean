/-
  A realm with its usances in another order: plain, and in memory.
-/
import Derived.Test.YtagdikghpiiabaaSanC
import Derived.Test.YtagdikghpiiabaaLawA
namespace Go.Proofs.Ytagdikghpiiabaa
open Go.RowKit Rl

def turnR (R : Rlm) (f : Nat) : Rlm := { R with usances := R.usances.drop f ++ R.usances.take f }
theorem turn_len {R : Rlm} {f : Nat} : (turnR R f).usances.length = R.usances.length := by
  show (R.usances.drop f ++ R.usances.take f).length = _
  rw [List.length_append, List.length_drop, List.length_take]
  omega
theorem turn_mem {R : Rlm} {f : Nat} {u : Usn} : u ∈ (turnR R f).usances ↔ u ∈ R.usances := by
  show u ∈ R.usances.drop f ++ R.usances.take f ↔ _
  rw [List.mem_append, Or.comm, ← List.mem_append, List.take_append_drop]
theorem usEv_zero {l : List Usn} {u : Usn} {ok : Bool} : usEv l u ok = 0 ↔ ok = true ∧ ∀ x ∈ l, sameU x u = false := by
  unfold usEv
  cases ok with
  | false => simp
  | true =>
    rw [if_pos rfl]
    constructor
    · intro h
      refine ⟨rfl, fun x hx => ?_⟩
      rw [← Bool.not_eq_true]
      intro e
      rw [if_pos (List.any_eq_true.2 ⟨x, hx, e⟩)] at h
      simp at h
    · rintro ⟨-, h⟩
      rw [if_neg]
      rw [List.any_eq_true]
      rintro ⟨x, hx, e⟩
      rw [h x hx] at e
      cases e
theorem us_iff {R : Rlm} : usanceE R = 0 ↔ R.usances.length ≤ 100 ∧ (∀ u ∈ R.usances, usB R.cities.length u = true) ∧ R.usances.Pairwise (fun a b => sameU a b = false) := by
  unfold usanceE
  rw [list_zero]
  refine and_congr_right fun _ => ?_
  constructor
  · intro h
    refine ⟨fun u hu => ?_, List.pairwise_iff_getElem.2 (fun i j hi hj hij => ?_)⟩
    · obtain ⟨i, hi⟩ := List.getElem?_of_mem hu
      have := h i (List.getElem?_eq_some_iff.1 hi).1
      rw [us_at hi] at this
      exact (usEv_zero.1 this).1
    · have := h j hj
      rw [us_at (List.getElem?_eq_getElem hj)] at this
      exact (usEv_zero.1 this).2 _ (List.mem_of_getElem? (i := i) (by rw [List.getElem?_take_of_lt hij, List.getElem?_eq_getElem hi]))
  · rintro ⟨h1, h2⟩ i hi
    rw [us_at (List.getElem?_eq_getElem hi)]
    refine usEv_zero.2 ⟨h1 _ (List.getElem_mem hi), fun x hx => ?_⟩
    obtain ⟨j, hj⟩ := List.getElem?_of_mem hx
    rw [List.getElem?_take] at hj
    split at hj
    · rename_i hji
      obtain ⟨hj1, rfl⟩ := List.getElem?_eq_some_iff.1 hj
      exact List.pairwise_iff_getElem.1 h2 j i hj1 hi hji
    · cases hj
theorem same_comm (a b : Usn) : sameU a b = sameU b a := by
  unfold sameU
  rw [Bool.eq_iff_iff]
  simp only [Bool.and_eq_true, decide_eq_true_iff]
  exact ⟨fun h => ⟨h.1.symm, h.2.symm⟩, fun h => ⟨h.1.symm, h.2.symm⟩⟩
theorem turn_pair {l : List Usn} {f : Nat} (h : l.Pairwise (fun a b => sameU a b = false)) : (l.drop f ++ l.take f).Pairwise (fun a b => sameU a b = false) := by
  rw [← List.take_append_drop f l, List.pairwise_append] at h
  rw [List.pairwise_append]
  exact ⟨h.2.1, h.1, fun a ha b hb => by rw [same_comm]; exact h.2.2 b hb a ha⟩
theorem turn_zero {R : Rlm} {f : Nat} (h : checkP R = 0) : checkP (turnR R f) = 0 := by
  refine first_zero.2 (fun i hi => ?_)
  by_cases c : i = 5
  · subst c
    obtain ⟨h1, h2, h3⟩ := us_iff.1 (show usanceE R = 0 from zero_at h (i := 5) (by decide))
    exact us_iff.2 ⟨by rw [turn_len]; exact h1, fun u hu => h2 u (turn_mem.1 hu), turn_pair h3⟩
  · have h0 := zero_at h hi
    match i, c, hi with
    | 0, _, _ => exact h0
    | 1, _, _ => exact h0
    | 2, _, _ => exact h0
    | 3, _, _ => exact h0
    | 4, _, _ => exact h0
    | 6, _, _ => exact h0
    | 7, _, _ => exact h0
theorem us_val {R : Rlm} (h : usanceE R = 0) {a b : Int} {u : Usn} (hu : u ∈ R.usances) (h1 : u.fr = a ∧ u.to = b) : usAt R a b = (u.days, 0) := by
  obtain ⟨k, hk⟩ := List.getElem?_of_mem hu
  refine usAt_yes (fun j y hj hy e => ?_) hk h1
  obtain ⟨hk1, hk2⟩ := List.getElem?_eq_some_iff.1 hk
  obtain ⟨hj1, hj2⟩ := List.getElem?_eq_some_iff.1 hy
  have := List.pairwise_iff_getElem.1 (us_iff.1 h).2.2 j k hj1 hk1 hj
  rw [hj2, hk2] at this
  unfold sameU at this
  rw [e.1, e.2, h1.1, h1.2] at this
  simp at this
theorem us_none {R : Rlm} {a b : Int} (h : ∀ u ∈ R.usances, ¬ (u.fr = a ∧ u.to = b)) : usAt R a b = (0, 4) := usAt_no (k := R.usances.length) (fun _ u _ hu => h u (List.mem_of_getElem? hu)) (Nat.le_refl _)
theorem us_cases {R : Rlm} (h : checkP R = 0) (f : Nat) (a b : Int) : (∃ u ∈ R.usances, (u.fr = a ∧ u.to = b) ∧ usAt R a b = (u.days, 0) ∧ usAt (turnR R f) a b = (u.days, 0)) ∨ ((∀ u ∈ R.usances, ¬ (u.fr = a ∧ u.to = b)) ∧ usAt R a b = (0, 4) ∧ usAt (turnR R f) a b = (0, 4)) := by
  have h1 : usanceE R = 0 := zero_at h (i := 5) (by decide)
  have h2 : usanceE (turnR R f) = 0 := zero_at (turn_zero h) (i := 5) (by decide)
  by_cases c : ∃ u ∈ R.usances, u.fr = a ∧ u.to = b
  · obtain ⟨u, hu, hab⟩ := c
    exact .inl ⟨u, hu, hab, us_val h1 hu hab, us_val h2 (turn_mem.2 hu) hab⟩
  · have c1 : ∀ u ∈ R.usances, ¬ (u.fr = a ∧ u.to = b) := fun u hu e => c ⟨u, hu, e⟩
    exact .inr ⟨c1, us_none c1, us_none (fun u hu => c1 u (turn_mem.1 hu))⟩
/-- one of the usances is that one -/
def eqU (a b d : Int) (u : Usn) : Bool := decide (u.fr = a ∧ u.to = b ∧ u.days = d)
theorem any_yes {l : List Usn} {a b : Int} {u : Usn} (hu : u ∈ l) (h : u.fr = a ∧ u.to = b) : l.any (eqU a b u.days) = true := List.any_eq_true.2 ⟨u, hu, decide_eq_true ⟨h.1, h.2, rfl⟩⟩
theorem any_no {l : List Usn} {a b d : Int} (h : ∀ u ∈ l, ¬ (u.fr = a ∧ u.to = b)) : l.any (eqU a b d) = false := by
  rw [List.any_eq_false]
  intro u hu e
  have := of_decide_eq_true e
  exact h u hu ⟨this.1, this.2.1⟩
theorem any_take {l : List Usn} {a b d : Int} {k : Nat} {u : Usn} (hu : l[k]? = some u) : (l.take (k + 1)).any (eqU a b d) = ((l.take k).any (eqU a b d) || eqU a b d u) := by
  rw [List.take_add_one, hu, List.any_append]
  simp
theorem turn_fit {R : Rlm} {f : Nat} (h : Fit R) : Fit (turnR R f) :=
  ⟨⟨h.cur, h.cities, h.groups, h.firms, h.orders, by rw [turn_len]; exact h.usances, h.rates, h.halts, h.inC, h.inO⟩, h.s1, h.s2, h.s3, h.s4, h.s5, by rw [turn_len]; exact h.s6, h.s7, h.s8, h.sO⟩
theorem turn_rs {w : World} {a0 a1 a2 a3 a4 a5 a6 a7 : Option Addr} {c0 c1 c2 c3 c4 c5 c6 c7 : Nat} {R : Rlm} {a5' : Option Addr} {c5' f : Nat} (h : RS w a0 a1 a2 a3 a4 a5 a6 a7 c0 c1 c2 c3 c4 c5 c6 c7 R) (hu : UAt w (.slice a5' R.usances.length c5') (turnR R f).usances) : RS w a0 a1 a2 a3 a4 a5' a6 a7 c0 c1 c2 c3 c4 c5' c6 c7 (turnR R f) := by
  refine ⟨h.cur, h.cities, h.groups, h.firms, h.orders, ?_, h.rates, h.halts, h.inC, h.inO⟩
  rw [turn_len]
  exact hu
theorem turnCheck_x {a0 a1 a2 a3 a4 a5 a6 a7 : Option Addr} {c0 c1 c2 c3 c4 c5 c6 c7 : Nat} {R : Rlm} {f : Nat} (w : World) (h : RS w a0 a1 a2 a3 a4 a5 a6 a7 c0 c1 c2 c3 c4 c5 c6 c7 (turnR R f)) (hF : Fit R) :
    Calls Try.prog 12 #[.agg #[.slice a0 R.cur.length c0, .slice a1 R.cities.length c1, .slice a2 R.groups.length c2, .slice a3 R.firms.length c3, .slice a4 R.orders.length c4, .slice a5 R.usances.length c5, .slice a6 R.rates.length c6, .slice a7 R.halts.length c7]] w fun r w' => r = .returned (.int .i64 (checkP (turnR R f))) ∧ Below w.heap.size w w' := by
  have q := Check_x w h (turn_fit hF)
  rw [turn_len] at q
  exact q
theorem turnUs_x {a0 a1 a2 a3 a4 a5 a6 a7 : Option Addr} {c0 c1 c2 c3 c4 c5 c6 c7 : Nat} {R : Rlm} {f : Nat} (a b : Int) (w : World) (h : RS w a0 a1 a2 a3 a4 a5 a6 a7 c0 c1 c2 c3 c4 c5 c6 c7 (turnR R f)) (hF : Fit R) :
    Calls Try.prog 10 #[.agg #[.slice a0 R.cur.length c0, .slice a1 R.cities.length c1, .slice a2 R.groups.length c2, .slice a3 R.firms.length c3, .slice a4 R.orders.length c4, .slice a5 R.usances.length c5, .slice a6 R.rates.length c6, .slice a7 R.halts.length c7], .int .i64 a, .int .i64 b] w fun r w' => r = .returned (.tuple #[.int .i64 (usAt (turnR R f) a b).1, .int .i64 (usAt (turnR R f) a b).2]) ∧ Below w.heap.size w w' := by
  have q := Usance_x a b w h (turn_fit hF)
  rw [turn_len] at q
  exact q

end Go.Proofs.Ytagdikghpiiabaa
