/-
  What is reached, by sweeps over the edges.
-/
import Derived.Test.YtndcbhgdlaemaaaGra
namespace Go.Proofs.Ytndcbhgdlaemaaa.Gr

/-- one edge, in the set so far -/
def stepS (l : List Bool) (p : Int × Int) : List Bool := if (l[p.1.toNat]?).getD false = true then l.set p.2.toNat true else l
def sweep (e : E) (l : List Bool) : List Bool := e.foldl stepS l
def sweeps (e : E) (l : List Bool) : Nat → List Bool
  | 0 => l
  | k + 1 => sweep e (sweeps e l k)
def seed (n a : Int) : List Bool := (List.replicate n.toNat false).set a.toNat true

def Has (l : List Bool) (i : Nat) : Prop := l[i]? = some true
def Le (l m : List Bool) : Prop := l.length = m.length ∧ ∀ i, Has l i → Has m i
theorem Le.refl (l : List Bool) : Le l l := ⟨rfl, fun _ h => h⟩
theorem Le.trans {a b c : List Bool} (h : Le a b) (k : Le b c) : Le a c := ⟨h.1.trans k.1, fun i hi => k.2 i (h.2 i hi)⟩
theorem Le.anti {a b : List Bool} (h : Le a b) (k : Le b a) : a = b := by
  apply List.ext_getElem h.1
  intro i h1 h2
  have e1 : Has a i ↔ Has b i := ⟨h.2 i, k.2 i⟩
  unfold Has at e1
  rw [List.getElem?_eq_getElem h1, List.getElem?_eq_getElem h2] at e1
  simp only [Option.some.injEq] at e1
  cases ha : a[i] <;> cases hb : b[i] <;> simp_all
theorem has_set {l : List Bool} {i j : Nat} : Has (l.set j true) i ↔ Has l i ∨ (i = j ∧ j < l.length) := by
  unfold Has
  rw [List.getElem?_set]
  by_cases c : j = i
  · subst c
    by_cases d : j < l.length
    · simp [d]
    · simp [d]
  · simp only [if_neg c]
    constructor
    · exact .inl
    · rintro (h | ⟨rfl, -⟩)
      · exact h
      · exact absurd rfl c
theorem has_iff {l : List Bool} {i : Nat} : (l[i]?).getD false = true ↔ Has l i := by
  unfold Has
  cases l[i]? <;> simp
theorem stepS_len (l : List Bool) (p : Int × Int) : (stepS l p).length = l.length := by unfold stepS; split <;> simp
theorem stepS_le (l : List Bool) (p : Int × Int) : Le l (stepS l p) := by
  refine ⟨(stepS_len l p).symm, fun i h => ?_⟩
  unfold stepS
  split
  · exact has_set.2 (.inl h)
  · exact h
theorem sweep_le : ∀ (e : E) (l : List Bool), Le l (sweep e l)
  | [], l => Le.refl l
  | p :: t, l => (stepS_le l p).trans (sweep_le t (stepS l p))
theorem sweep_len (e : E) (l : List Bool) : (sweep e l).length = l.length := (sweep_le e l).1.symm
theorem sweeps_len (e : E) (l : List Bool) : ∀ k, (sweeps e l k).length = l.length
  | 0 => rfl
  | k + 1 => by show (sweep e _).length = _; rw [sweep_len, sweeps_len e l k]
theorem sweep_fixed : ∀ {e : E} {l : List Bool}, sweep e l = l → ∀ p ∈ e, stepS l p = l
  | [], _, _, _, hp => absurd hp (by simp)
  | q :: t, l, h, p, hp => by
    have h1 : stepS l q = l := by
      have h2 : Le (stepS l q) l := by
        have := sweep_le t (stepS l q)
        rwa [show sweep t (stepS l q) = l from h] at this
      exact h2.anti (stepS_le l q)
    rcases List.mem_cons.1 hp with rfl | hp
    · exact h1
    · exact sweep_fixed (e := t) (l := l) (by have h3 : sweep t (stepS l q) = l := h; rwa [h1] at h3) p hp
/-- how many there are -/
def cnt : List Bool → Nat
  | [] => 0
  | true :: l => cnt l + 1
  | false :: l => cnt l
theorem cnt_len : ∀ l : List Bool, cnt l ≤ l.length
  | [] => Nat.le_refl _
  | true :: l => by have := cnt_len l; simp only [cnt, List.length_cons]; omega
  | false :: l => by have := cnt_len l; simp only [cnt, List.length_cons]; omega
theorem has_succ {x : Bool} {l : List Bool} {i : Nat} : Has (x :: l) (i + 1) ↔ Has l i := by unfold Has; rw [List.getElem?_cons_succ]
theorem cnt_le : ∀ {l m : List Bool}, Le l m → cnt l ≤ cnt m ∧ (cnt l = cnt m → l = m)
  | [], [], _ => ⟨Nat.le_refl _, fun _ => rfl⟩
  | [], _ :: _, h => by have := h.1; simp at this
  | _ :: _, [], h => by have := h.1; simp at this
  | x :: l, y :: m, h => by
    have hl : Le l m := ⟨by simpa using h.1, fun i hi => has_succ.1 (h.2 (i + 1) (has_succ.2 hi))⟩
    obtain ⟨h1, h2⟩ := cnt_le hl
    have h0 : x = true → y = true := fun e => by
      have := h.2 0 (by subst e; rfl)
      unfold Has at this
      simpa using this
    cases x <;> cases y
    · exact ⟨h1, fun e => by rw [h2 e]⟩
    · simp only [cnt]
      exact ⟨by omega, fun e => by omega⟩
    · exact absurd (h0 rfl) (by simp)
    · simp only [cnt]
      exact ⟨by omega, fun e => by rw [h2 (by omega)]⟩
theorem cnt_pos {l : List Bool} {i : Nat} (h : Has l i) : 1 ≤ cnt l := by
  induction l generalizing i with
  | nil => unfold Has at h; simp at h
  | cons x l ih =>
    cases x with
    | true => simp only [cnt]; omega
    | false =>
      cases i with
      | zero => unfold Has at h; simp at h
      | succ i => exact ih (has_succ.1 h)
theorem sweeps_grow (e : E) (l : List Bool) (h : 1 ≤ cnt l) : ∀ k, sweep e (sweeps e l k) = sweeps e l k ∨ k + 1 ≤ cnt (sweeps e l k)
  | 0 => .inr h
  | k + 1 => by
    rcases sweeps_grow e l h k with c | c
    · refine .inl ?_
      show sweep e (sweep e _) = sweep e _
      rw [c, c]
    · have h1 := sweep_le e (sweeps e l k)
      obtain ⟨h2, h3⟩ := cnt_le h1
      by_cases d : cnt (sweeps e l k) = cnt (sweep e (sweeps e l k))
      · refine .inl ?_
        have h4 := h3 d
        show sweep e (sweep e _) = sweep e _
        rw [← h4, ← h4]
      · refine .inr ?_
        show k + 1 + 1 ≤ cnt (sweep e _)
        omega
theorem seed_len (n a : Int) : (seed n a).length = n.toNat := by unfold seed; simp
theorem has_seed {n a : Int} (ha : 0 ≤ a ∧ a < n) {i : Nat} : Has (seed n a) i ↔ i = a.toNat := by
  unfold seed
  rw [has_set]
  constructor
  · rintro (h | h)
    · unfold Has at h
      rw [List.getElem?_replicate] at h
      split at h <;> simp at h
    · exact h.1
  · intro h
    exact .inr ⟨h, by simp; omega⟩
theorem sweep_sound {e : E} {a : Int} : ∀ {f : E} {l : List Bool}, (∀ p ∈ f, p ∈ e ∧ 0 ≤ p.1 ∧ 0 ≤ p.2) → (∀ i : Nat, Has l i → Reach e a i) → ∀ i : Nat, Has (sweep f l) i → Reach e a i
  | [], _, _, h => h
  | p :: t, l, hf, h => by
    refine sweep_sound (f := t) (l := stepS l p) (fun q hq => hf q (List.mem_cons_of_mem _ hq)) fun i hi => ?_
    unfold stepS at hi
    split at hi
    · rename_i c
      rcases has_set.1 hi with hi | ⟨rfl, -⟩
      · exact h i hi
      · obtain ⟨hm, h1, h2⟩ := hf p (by simp)
        have := h _ (has_iff.1 c)
        rw [Int.toNat_of_nonneg h1] at this
        rw [Int.toNat_of_nonneg h2]
        exact this.step hm
    · exact h i hi
/-- as many sweeps as there are nodes find all that is reached -/
theorem reach_sweeps {n : Int} {e : E} {a : Int} (hr : rightB n e = true) (ha : 0 ≤ a ∧ a < n) : reach n e a = sweeps e (seed n a) n.toNat := by
  have hp := (right_iff.1 hr).2.2
  have hlen := sweeps_len e (seed n a)
  have hsound : ∀ k (i : Nat), Has (sweeps e (seed n a) k) i → Reach e a i := by
    intro k
    induction k with
    | zero =>
      intro i hi
      have := (has_seed ha).1 hi
      subst this
      rw [Int.toNat_of_nonneg ha.1]
      exact .refl
    | succ k ih => exact sweep_sound (fun p hm => ⟨hm, (hp p hm).1.1, (hp p hm).2.1⟩) ih
  have hle : ∀ k, Le (seed n a) (sweeps e (seed n a) k) := by
    intro k
    induction k with
    | zero => exact Le.refl _
    | succ k ih => exact ih.trans (sweep_le e _)
  have hs : Has (seed n a) a.toNat := (has_seed ha).2 rfl
  have hfix : sweep e (sweeps e (seed n a) n.toNat) = sweeps e (seed n a) n.toNat := by
    rcases sweeps_grow e (seed n a) (cnt_pos hs) n.toNat with h | h
    · exact h
    · have h1 := cnt_len (sweeps e (seed n a) n.toNat)
      rw [hlen, seed_len] at h1
      omega
  have hcl := sweep_fixed hfix
  have hcomp : ∀ i : Nat, Reach e a i → Has (sweeps e (seed n a) n.toNat) i := by
    have key : ∀ b : Int, Reach e a b → 0 ≤ b ∧ b < n ∧ Has (sweeps e (seed n a) n.toNat) b.toNat := by
      intro b hb
      refine hb.closed (S := fun b => 0 ≤ b ∧ b < n ∧ Has (sweeps e (seed n a) n.toNat) b.toNat) (fun p hm h => ?_) ⟨ha.1, ha.2, (hle _).2 _ hs⟩
      obtain ⟨h1, h2⟩ := (hp p hm).2
      refine ⟨h1, h2, ?_⟩
      rw [← hcl p hm]
      unfold stepS
      rw [if_pos (has_iff.2 h.2.2)]
      exact has_set.2 (.inr ⟨rfl, by rw [hlen, seed_len]; omega⟩)
    intro i hi
    have := (key _ hi).2.2
    simpa using this
  apply List.ext_getElem?
  intro i
  by_cases c : i < n.toNat
  · rw [reach_get hr ha c]
    have hi : i < (sweeps e (seed n a) n.toNat).length := by rw [hlen, seed_len]; exact c
    rw [List.getElem?_eq_getElem hi]
    congr 1
    have h1 : reachB e a i = true ↔ (sweeps e (seed n a) n.toNat)[i] = true := by
      rw [reachB_iff]
      constructor
      · intro h
        have := hcomp i h
        unfold Has at this
        rw [List.getElem?_eq_getElem hi] at this
        simpa using this
      · intro h
        refine hsound n.toNat i ?_
        unfold Has
        rw [List.getElem?_eq_getElem hi, h]
    exact Bool.eq_iff_iff.2 h1
  · rw [List.getElem?_eq_none (by rw [reach_len hr ha]; omega), List.getElem?_eq_none (by rw [hlen, seed_len]; omega)]
/-- .. in a form that can be calculated -/
def reachC (n : Int) (e : E) (a : Int) : List Bool := if rightB n e = true ∧ nodeB n a = true then sweeps e (seed n a) n.toNat else []
theorem reach_eq (n : Int) (e : E) (a : Int) : reach n e a = reachC n e a := by
  by_cases h : rightB n e = true ∧ nodeB n a = true
  · unfold reachC
    rw [if_pos h]
    exact reach_sweeps h.1 (of_decide_eq_true h.2)
  · unfold reachC
    rw [if_neg h, reach_not h]

/-- the sweeps of a loop -/
theorem sweep_take {e : E} {i : Nat} {p : Int × Int} (h : e[i]? = some p) (l : List Bool) : sweep (e.take (i + 1)) l = stepS (sweep (e.take i) l) p := by
  unfold sweep
  rw [List.take_add_one, h, List.foldl_append]
  rfl

end Go.Proofs.Ytndcbhgdlaemaaa.Gr
