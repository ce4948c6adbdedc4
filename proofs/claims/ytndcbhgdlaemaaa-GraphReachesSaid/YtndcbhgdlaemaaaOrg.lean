/-
  The program's Order and Groups; plain.
-/
import Derived.Test.YtndcbhgdlaemaaaBfs
import Derived.Test.YtndcbhgdlaemaaaGrD
import Derived.Test.YtndcbhgdlaemaaaGrE
namespace Go.Proofs.Ytndcbhgdlaemaaa.Gr

/-! the order: by node, the edges that are open -/
def opn (e : E) (l : List Int) (a : Int) : Int := if a ∈ l then -1 else ((e.countP (fun p => decide (p.2 = a ∧ p.1 ∉ l)) : Nat) : Int)
theorem opn_bd (e : E) (l : List Int) (a : Int) : -1 ≤ opn e l a ∧ opn e l a ≤ e.length := by
  unfold opn
  have := List.countP_le_length (p := fun p : Int × Int => decide (p.2 = a ∧ p.1 ∉ l)) (l := e)
  split <;> omega
theorem opn_zero {e : E} {l : List Int} {a : Int} : opn e l a = 0 ↔ freeB e l a = true := by
  unfold opn
  rw [free_iff]
  by_cases c : a ∈ l
  · rw [if_pos c]; simp [c]
  · rw [if_neg c]
    constructor
    · intro h
      have h' : e.countP (fun p => decide (p.2 = a ∧ p.1 ∉ l)) = 0 := by omega
      rw [List.countP_eq_zero] at h'
      refine ⟨c, fun p hp h2 => Classical.byContradiction fun h3 => h' p hp (decide_eq_true ⟨h2, h3⟩)⟩
    · rintro ⟨-, h⟩
      have : e.countP (fun p => decide (p.2 = a ∧ p.1 ∉ l)) = 0 := List.countP_eq_zero.2 fun p hp h2 => by
        have := of_decide_eq_true h2
        exact this.2 (h p hp this.1)
      rw [this]; rfl
/-- at the start: the edges to it -/
def inn (e : E) (a : Int) : Int := ((e.countP (fun p => decide (p.2 = a)) : Nat) : Int)
theorem inn_next {e : E} {k : Nat} {p : Int × Int} (h : e[k]? = some p) (a : Int) : inn (e.take (k + 1)) a = if a = p.2 then inn (e.take k) a + 1 else inn (e.take k) a := by
  unfold inn
  rw [List.take_add_one, h, List.countP_append]
  by_cases c : a = p.2
  · subst c; simp
  · have : ¬ p.2 = a := fun h => c h.symm
    simp [c, this]
theorem inn_bd (e : E) (a : Int) : 0 ≤ inn e a ∧ inn e a ≤ e.length := by
  unfold inn
  have := List.countP_le_length (p := fun p : Int × Int => decide (p.2 = a)) (l := e)
  omega
theorem inn_opn (e : E) (a : Int) : inn e a = opn e [] a := by unfold inn opn; simp
/-- a node of the order, and the first of its neighbours, are done -/
def dec (e : E) (l : List Int) (v : Int) (k : Nat) (a : Int) : Int := if a = v then -1 else opn e l a - (((adj e v).take k).count a : Nat)
theorem dec_next {e : E} {l : List Int} {v x : Int} {k : Nat} (hx : (adj e v)[k]? = some x) (hv : x ≠ v) (a : Int) : dec e l v (k + 1) a = if a = x then dec e l v k a - 1 else dec e l v k a := by
  unfold dec
  rw [List.take_add_one, hx, List.count_append]
  by_cases c : a = x
  · subst c
    rw [if_neg hv, if_neg hv, if_pos rfl]
    simp
    omega
  · have : x ≠ a := fun h => c h.symm
    simp [c, this]
theorem dec_bd (e : E) (l : List Int) (v : Int) (k : Nat) (a : Int) : -1 - (e.length : Int) ≤ dec e l v k a ∧ dec e l v k a ≤ e.length := by
  unfold dec
  have h1 := opn_bd e l a
  have h2 := List.count_le_length (a := a) (l := (adj e v).take k)
  rw [List.length_take] at h2
  have h3 := adj_len e v
  split <;> omega
theorem cnt_adj (e : E) (v a : Int) : (adj e v).count a = e.countP (fun p => decide (p.2 = a ∧ p.1 = v)) := by
  unfold adj
  rw [(srt_perm _).count_eq]
  unfold nbr
  rw [List.count, List.countP_map, List.countP_filter]
  apply List.countP_congr
  intro p _
  simp
theorem cnt_split (e : E) (l : List Int) (v a : Int) (hv : v ∉ l) : e.countP (fun p => decide (p.2 = a ∧ p.1 ∉ l)) = e.countP (fun p => decide (p.2 = a ∧ p.1 ∉ l ++ [v])) + e.countP (fun p => decide (p.2 = a ∧ p.1 = v)) := by
  induction e with
  | nil => rfl
  | cons p t ih =>
    simp only [List.countP_cons]
    rw [ih]
    by_cases c1 : p.2 = a
    · by_cases c2 : p.1 = v
      · have : p.1 ∉ l := by rw [c2]; exact hv
        simp [c1, c2, hv]
        omega
      · by_cases c3 : p.1 ∈ l <;> simp [c1, c2, c3]
        omega
    · simp [c1]
/-- the neighbours of a node that stands in the order, or comes next, stand not yet in it -/
theorem next_out {n : Int} {e : E} {l : List Int} {v : Int} (h : Ok n e (l ++ [v])) {x : Int} (hx : (v, x) ∈ e) : x ∉ l ++ [v] := by
  intro hm
  obtain ⟨i, hi⟩ := List.getElem?_of_mem hm
  obtain ⟨j, hj, hjv⟩ := h.edge hx hi
  have h0 : (l ++ [v])[l.length]? = some v := by simp
  have := h.get_inj hjv h0
  have := (List.getElem?_eq_some_iff.1 hi).1
  simp at this
  omega
theorem dec_all {n : Int} {e : E} {l : List Int} {v : Int} (hv : v ∉ l) (h : Ok n e (l ++ [v])) {k : Nat} (hk : (adj e v).length ≤ k) (a : Int) : dec e l v k a = opn e (l ++ [v]) a := by
  unfold dec
  rw [List.take_of_length_le hk]
  by_cases c : a = v
  · subst c
    unfold opn
    rw [if_pos rfl, if_pos (by simp)]
  · rw [if_neg c]
    unfold opn
    by_cases d : a ∈ l
    · rw [if_pos d, if_pos (by simp [d])]
      have : (adj e v).count a = 0 := List.count_eq_zero.2 fun hm => next_out h (mem_adj.1 hm) (by simp [d])
      omega
    · rw [if_neg d, if_neg (by simp [d, c]), cnt_adj, cnt_split e l v a hv]
      omega
theorem dec_zero {e : E} {l : List Int} {v : Int} (a : Int) : dec e l v 0 a = if a = v then -1 else opn e l a := by unfold dec; simp
/-- slices.Index: the first node that is free -/
theorem pick_idx {n : Nat} {e : E} {l : List Int} {i : Nat} (hi : i < n) (h0 : opn e l i = 0) (hl : ∀ j, j < i → opn e l (j : Int) ≠ 0) : pickO n e l = some (i : Int) := by
  unfold pickO
  rw [List.find?_eq_some_iff_append]
  refine ⟨opn_zero.1 h0, (nodes n).take i, (nodes n).drop (i + 1), ?_, fun a ha => ?_⟩
  · have hg := nodes_get (n := (n : Int)) (i := i) (by simpa using hi)
    have hlt := (List.getElem?_eq_some_iff.1 hg).1
    have hge := (List.getElem?_eq_some_iff.1 hg).2
    rw [← hge, List.getElem_cons_drop]
    exact (List.take_append_drop i _).symm
  · obtain ⟨j, hj⟩ := List.getElem?_of_mem ha
    have hjl := (List.getElem?_eq_some_iff.1 hj).1
    rw [List.length_take] at hjl
    rw [List.getElem?_take_of_lt (by omega), nodes_get (by simp; omega)] at hj
    simp only [Option.some.injEq] at hj
    subst hj
    have := hl j (by omega)
    cases hb : freeB e l (j : Int) with
    | false => rfl
    | true => exact absurd (opn_zero.2 hb) this
theorem pick_not {n : Nat} {e : E} {l : List Int} (h : ∀ i, i < n → opn e l (i : Int) ≠ 0) : pickO n e l = none := by
  unfold pickO
  rw [List.find?_eq_none]
  intro a ha
  obtain ⟨h0, h1⟩ := mem_nodes.1 ha
  have := h a.toNat (by omega)
  rw [Int.toNat_of_nonneg h0] at this
  exact fun hf => this (opn_zero.2 hf)

/-! the groups: which nodes have one -/
noncomputable def gb (e : E) (k : Nat) (w : Int) : Bool := (nodes k).any (fun h => mutB e h w)
theorem gb_iff {e : E} {k : Nat} {w : Int} : gb e k w = true ↔ ∃ h : Nat, h < k ∧ mutB e (h : Int) w = true := by
  unfold gb
  rw [List.any_eq_true]
  constructor
  · rintro ⟨x, hx, hm⟩
    obtain ⟨h0, h1⟩ := mem_nodes.1 hx
    exact ⟨x.toNat, by omega, by rw [Int.toNat_of_nonneg h0]; exact hm⟩
  · rintro ⟨h, hk, hm⟩
    exact ⟨(h : Int), mem_nodes.2 ⟨by omega, by omega⟩, hm⟩
theorem gb_least {n : Nat} {e : E} {k : Nat} (hk : k < n) : gb e k k = !leastB n e k := by
  cases hl : leastB n e (k : Int) with
  | true =>
    rw [Bool.not_true, ← Bool.not_eq_true]
    intro hg
    obtain ⟨h, hh, hm⟩ := gb_iff.1 hg
    have := least_iff.1 hl (h : Int) (by omega) (by omega) (mut_symm hm)
    omega
  | false =>
    rw [Bool.not_false]
    apply Classical.byContradiction
    intro hg
    rw [← Bool.not_eq_true, least_iff] at hl
    refine hl fun b h0 h1 hm => Classical.byContradiction fun c => hg (gb_iff.2 ⟨b.toNat, by omega, by rw [Int.toNat_of_nonneg h0]; exact mut_symm hm⟩)
theorem gb_skip {e : E} {k : Nat} (h : gb e k k = true) (w : Int) : gb e (k + 1) w = gb e k w := by
  rw [Bool.eq_iff_iff, gb_iff, gb_iff]
  constructor
  · rintro ⟨a, ha, hm⟩
    rcases Nat.lt_or_ge a k with c | c
    · exact ⟨a, c, hm⟩
    · obtain rfl : a = k := by omega
      obtain ⟨b, hb, hm2⟩ := gb_iff.1 h
      exact ⟨b, hb, mut_trans hm2 hm⟩
  · rintro ⟨a, ha, hm⟩
    exact ⟨a, by omega, hm⟩
/-- the nodes from k to j have been looked at -/
noncomputable def gq (e : E) (k j : Nat) (w : Int) : Bool := gb e k w || (decide ((k : Int) ≤ w ∧ w < (j : Int)) && mutB e k w)
theorem gq_start (e : E) (k : Nat) (w : Int) : gq e k k w = gb e k w := by
  unfold gq
  rw [decide_eq_false (by omega), Bool.false_and, Bool.or_false]
theorem gq_next {e : E} {k j : Nat} (hk : k ≤ j) (w : Int) : gq e k (j + 1) w = if w = (j : Int) ∧ mutB e k j = true then true else gq e k j w := by
  unfold gq
  by_cases c : w = (j : Int)
  · subst c
    rw [decide_eq_true (show (k : Int) ≤ (j : Int) ∧ (j : Int) < ((j + 1 : Nat) : Int) by omega), decide_eq_false (show ¬ ((k : Int) ≤ (j : Int) ∧ (j : Int) < (j : Int)) by omega)]
    cases mutB e k j <;> simp
  · have : decide ((k : Int) ≤ w ∧ w < ((j + 1 : Nat) : Int)) = decide ((k : Int) ≤ w ∧ w < (j : Int)) := decide_eq_decide.2 (by omega)
    rw [this, if_neg (fun h => c h.1)]
theorem gq_all {n : Nat} {e : E} {k : Nat} (hk : k < n) (hl : leastB n e k = true) {w : Int} (hw : 0 ≤ w ∧ w < (n : Int)) : gq e k n w = gb e (k + 1) w := by
  rw [Bool.eq_iff_iff]
  unfold gq
  rw [Bool.or_eq_true, Bool.and_eq_true, decide_eq_true_iff, gb_iff, gb_iff]
  constructor
  · rintro (⟨a, ha, hm⟩ | ⟨-, hm⟩)
    · exact ⟨a, by omega, hm⟩
    · exact ⟨k, by omega, hm⟩
  · rintro ⟨a, ha, hm⟩
    rcases Nat.lt_or_ge a k with c | c
    · exact .inl ⟨a, c, hm⟩
    · obtain rfl : a = k := by omega
      exact .inr ⟨⟨least_iff.1 hl w hw.1 hw.2 hm, hw.2⟩, hm⟩

end Go.Proofs.Ytndcbhgdlaemaaa.Gr
