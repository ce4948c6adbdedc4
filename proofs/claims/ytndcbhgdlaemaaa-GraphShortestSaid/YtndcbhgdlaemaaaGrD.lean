/-
  The order: always the least node that is free.
-/
import Derived.Test.YtndcbhgdlaemaaaGra
namespace Go.Proofs.Ytndcbhgdlaemaaa.Gr

def freeB (e : E) (l : List Int) (a : Int) : Bool := decide (a ∉ l) && e.all (fun p => decide (p.2 ≠ a) || decide (p.1 ∈ l))
theorem free_iff {e : E} {l : List Int} {a : Int} : freeB e l a = true ↔ a ∉ l ∧ ∀ p ∈ e, p.2 = a → p.1 ∈ l := by
  unfold freeB
  rw [Bool.and_eq_true, decide_eq_true_iff, List.all_eq_true]
  simp only [Bool.or_eq_true, decide_eq_true_iff]
  refine and_congr_right fun _ => ⟨fun h p hp ha => (h p hp).resolve_left (fun hn => hn ha), fun h p hp => ?_⟩
  by_cases c : p.2 = a
  · exact .inr (h p hp c)
  · exact .inl c
def pickO (n : Int) (e : E) (l : List Int) : Option Int := (nodes n).find? (freeB e l)
def ord (n : Int) (e : E) : Nat → List Int → Option (List Int)
  | 0, l => some l
  | k + 1, l => match pickO n e l with
    | none => none
    | some a => ord n e k (l ++ [a])
def order (n : Int) (e : E) : Option (List Int) := if rightB n e = true then ord n e n.toNat [] else none

theorem pick_some {n : Int} {e : E} {l : List Int} {a : Int} (h : pickO n e l = some a) : (0 ≤ a ∧ a < n) ∧ freeB e l a = true ∧ ∀ b, 0 ≤ b → b < a → freeB e l b = false := by
  obtain ⟨hf, s, t, hst, hs⟩ := List.find?_eq_some_iff_append.1 h
  have ha : a ∈ nodes n := by rw [hst]; simp
  refine ⟨mem_nodes.1 ha, hf, fun b h0 hb => ?_⟩
  have hbm : b ∈ nodes n := mem_nodes.2 ⟨h0, by have := (mem_nodes.1 ha).2; omega⟩
  have hbs : b ∈ s := by
    rw [hst, List.mem_append, List.mem_cons] at hbm
    rcases hbm with h4 | rfl | h4
    · exact h4
    · exact absurd hb (Int.lt_irrefl _)
    · have hp := nodes_pair n
      rw [hst, List.pairwise_append, List.pairwise_cons] at hp
      have := hp.2.1.1 b h4
      omega
  have := hs b hbs
  simpa using this
theorem pick_none {n : Int} {e : E} {l : List Int} (h : pickO n e l = none) : ∀ a, 0 ≤ a → a < n → freeB e l a = false := by
  intro a h0 h1
  have := List.find?_eq_none.1 h a (mem_nodes.2 ⟨h0, h1⟩)
  simpa using this
/-- what stands in the list so far -/
structure Ok (n : Int) (e : E) (l : List Int) : Prop where
  nodup : l.Nodup
  node : ∀ x ∈ l, 0 ≤ x ∧ x < n
  free : ∀ i a, l[i]? = some a → freeB e (l.take i) a = true
  least : ∀ i a, l[i]? = some a → ∀ b, 0 ≤ b → b < a → freeB e (l.take i) b = false
theorem Ok.nil (n : Int) (e : E) : Ok n e [] := ⟨List.nodup_nil, by simp, by simp, by simp⟩
theorem Ok.next {n : Int} {e : E} {l : List Int} {a : Int} (h : Ok n e l) (hp : pickO n e l = some a) : Ok n e (l ++ [a]) := by
  obtain ⟨h1, h2, h3⟩ := pick_some hp
  have ha := (free_iff.1 h2).1
  have key : ∀ i x, (l ++ [a])[i]? = some x → (i < l.length ∧ l[i]? = some x ∧ (l ++ [a]).take i = l.take i) ∨ (i = l.length ∧ x = a ∧ (l ++ [a]).take i = l) := by
    intro i x hx
    by_cases c : i < l.length
    · rw [List.getElem?_append_left c] at hx
      exact .inl ⟨c, hx, List.take_append_of_le_length (Nat.le_of_lt c)⟩
    · rw [List.getElem?_append_right (by omega)] at hx
      have h4 : i - l.length = 0 := by
        have := (List.getElem?_eq_some_iff.1 hx).1
        simp at this
        omega
      rw [h4] at hx
      simp at hx
      have h5 : i = l.length := by omega
      subst h5
      exact .inr ⟨rfl, hx.symm, by simp⟩
  refine ⟨List.nodup_append.2 ⟨h.nodup, by simp, fun x hx y hy => ?_⟩, fun x hx => ?_, fun i x hx => ?_, fun i x hx => ?_⟩
  · rw [List.mem_singleton.1 hy]
    exact fun hxa => ha (hxa ▸ hx)
  · rcases List.mem_append.1 hx with hx | hx
    · exact h.node x hx
    · rw [List.mem_singleton.1 hx]; exact h1
  · rcases key i x hx with ⟨-, k1, k2⟩ | ⟨-, rfl, k2⟩
    · rw [k2]; exact h.free i x k1
    · rw [k2]; exact h2
  · rcases key i x hx with ⟨-, k1, k2⟩ | ⟨-, rfl, k2⟩
    · rw [k2]; exact h.least i x k1
    · rw [k2]; exact h3
theorem ord_ok {n : Int} {e : E} : ∀ {k : Nat} {l r : List Int}, Ok n e l → ord n e k l = some r → Ok n e r ∧ r.length = l.length + k
  | 0, l, r, h, hr => by
    simp only [ord, Option.some.injEq] at hr
    subst hr
    exact ⟨h, rfl⟩
  | k + 1, l, r, h, hr => by
    unfold ord at hr
    split at hr
    · cases hr
    · rename_i a ha
      obtain ⟨h1, h2⟩ := ord_ok (h.next ha) hr
      exact ⟨h1, by rw [h2]; simp; omega⟩
theorem ord_stuck {n : Int} {e : E} : ∀ {k : Nat} {l : List Int}, Ok n e l → ord n e k l = none → ∃ r, Ok n e r ∧ r.length < l.length + k ∧ pickO n e r = none
  | 0, l, h, hr => by simp [ord] at hr
  | k + 1, l, h, hr => by
    unfold ord at hr
    split at hr
    · rename_i hp
      exact ⟨l, h, by omega, hp⟩
    · rename_i a ha
      obtain ⟨r, h1, h2, h3⟩ := ord_stuck (h.next ha) hr
      exact ⟨r, h1, by simp at h2; omega, h3⟩
theorem order_ok {n : Int} {e : E} {l : List Int} (h : order n e = some l) : rightB n e = true ∧ Ok n e l ∧ l.length = n.toNat := by
  unfold order at h
  split at h
  · rename_i hr
    obtain ⟨h1, h2⟩ := ord_ok (Ok.nil n e) h
    exact ⟨hr, h1, by simpa using h2⟩
  · cases h
/-- all nodes stand in the order -/
theorem Ok.all {n : Int} {e : E} {l : List Int} (h : Ok n e l) (hl : n.toNat ≤ l.length) {a : Int} (ha : 0 ≤ a ∧ a < n) : a ∈ l := by
  apply Classical.byContradiction
  intro hc
  have := nodup_len (n := n) (List.nodup_cons.2 ⟨hc, h.nodup⟩) (fun x hx => (List.mem_cons.1 hx).elim (fun e => by rw [e]; exact ha) (h.node x))
  simp at this
  omega
theorem Ok.get_inj {n : Int} {e : E} {l : List Int} (h : Ok n e l) {i j : Nat} {a : Int} (hi : l[i]? = some a) (hj : l[j]? = some a) : i = j := by
  obtain ⟨i1, i2⟩ := List.getElem?_eq_some_iff.1 hi
  obtain ⟨j1, j2⟩ := List.getElem?_eq_some_iff.1 hj
  have hp := List.pairwise_iff_getElem.1 h.nodup
  rcases Nat.lt_trichotomy i j with c | c | c
  · exact absurd (i2.trans j2.symm) (hp i j i1 j1 c)
  · exact c
  · exact absurd (j2.trans i2.symm) (hp j i j1 i1 c)
/-- an edge leads on -/
theorem Ok.edge {n : Int} {e : E} {l : List Int} (h : Ok n e l) {x y : Int} (hm : (x, y) ∈ e) {j : Nat} (hj : l[j]? = some y) : ∃ i, i < j ∧ l[i]? = some x := by
  have hf := (free_iff.1 (h.free j y hj)).2 _ hm rfl
  obtain ⟨i, hi⟩ := List.mem_iff_getElem?.1 hf
  have hlt : i < (l.take j).length := (List.getElem?_eq_some_iff.1 hi).1
  rw [List.length_take] at hlt
  rw [List.getElem?_take_of_lt (by omega)] at hi
  exact ⟨i, by omega, hi⟩
theorem Ok.path {n : Int} {e : E} {l : List Int} (h : Ok n e l) : ∀ {t : List Int} {a b : Int}, Path e (a :: t) b → ∀ {j : Nat}, l[j]? = some b → ∃ i, i < j ∧ l[i]? = some a
  | [], a, b, hp, j, hj => h.edge hp.1 hj
  | c :: t, a, b, hp, j, hj => by
    obtain ⟨i, hi, hc⟩ := Ok.path h hp.2 hj
    obtain ⟨k, hk, ha⟩ := h.edge hp.1 hc
    exact ⟨k, by omega, ha⟩
theorem order_acyclic {n : Int} {e : E} {l : List Int} (h : order n e = some l) (d : List Int) : ¬ Closed e d := by
  obtain ⟨hr, ho, hl⟩ := order_ok h
  intro hd
  cases d with
  | nil => exact hd.1 rfl
  | cons a t =>
    have ha := hd.2.node hr a (by simp)
    obtain ⟨j, hj⟩ := List.mem_iff_getElem?.1 (ho.all (by omega) ha)
    obtain ⟨i, hi, hi2⟩ := ho.path hd.2 hj
    have := ho.get_inj hi2 hj
    omega
theorem order_none {n : Int} {e : E} (hr : rightB n e = true) (h : order n e = none) : ∃ d, Closed e d := by
  unfold order at h
  rw [if_pos hr] at h
  obtain ⟨r, ho, hlen, hp⟩ := ord_stuck (Ok.nil n e) h
  have hno := pick_none hp
  have hpred : ∀ a, (0 ≤ a ∧ a < n) → a ∉ r → ∃ b, (0 ≤ b ∧ b < n) ∧ b ∉ r ∧ (b, a) ∈ e := by
    intro a ha har
    have h1 := hno a ha.1 ha.2
    apply Classical.byContradiction
    intro hc
    have h2 : freeB e r a = true := free_iff.2 ⟨har, fun p hp hpa => by
      apply Classical.byContradiction
      intro hpr
      refine hc ⟨p.1, ((right_iff.1 hr).2.2 p hp).1, hpr, ?_⟩
      rw [← hpa]
      exact hp⟩
    rw [h1] at h2
    cases h2
  have hback : ∀ k a, (0 ≤ a ∧ a < n) → a ∉ r → ∃ l : List Int, l.length = k ∧ (∀ x ∈ l, 0 ≤ x ∧ x < n) ∧ Path e l a := by
    intro k
    induction k with
    | zero => exact fun a _ _ => ⟨[], rfl, by simp, trivial⟩
    | succ k ih =>
      intro a ha har
      obtain ⟨b, hb, hbr, hba⟩ := hpred a ha har
      obtain ⟨l, h1, h2, h3⟩ := ih b hb hbr
      refine ⟨l ++ [b], by simp [h1], fun x hx => ?_, path_app.2 ⟨h3, hba, trivial⟩⟩
      rcases List.mem_append.1 hx with hx | hx
      · exact h2 x hx
      · rw [List.mem_singleton.1 hx]; exact hb
  have hex : ∃ a, (0 ≤ a ∧ a < n) ∧ a ∉ r := by
    apply Classical.byContradiction
    intro hc
    have hsub : ∀ x ∈ nodes n, x ∈ r := fun x hx => by
      apply Classical.byContradiction
      intro hxr
      exact hc ⟨x, mem_nodes.1 hx, hxr⟩
    have := List.Nodup.length_le_of_subset (nodes_nodup n) hsub
    rw [nodes_len] at this
    simp at hlen
    omega
  obtain ⟨a, ha, har⟩ := hex
  obtain ⟨l, h1, h2, h3⟩ := hback (n.toNat + 1) a ha har
  have hdup : ¬ l.Nodup := fun hn => by
    have := nodup_len hn h2
    omega
  obtain ⟨x, p, q, s, rfl⟩ := dup_parts hdup
  exact ⟨x :: q, by simp, (path_app.1 (path_app.1 h3).2).1⟩
/-- there is an order exactly if there is no cycle -/
theorem order_cycle {n : Int} {e : E} (hr : rightB n e = true) : (order n e).isSome = true ↔ cycle n e = [] := by
  rw [cycle_none hr]
  constructor
  · intro h
    obtain ⟨l, hl⟩ := Option.isSome_iff_exists.1 h
    exact order_acyclic hl
  · intro h
    cases ho : order n e with
    | some l => rfl
    | none =>
      obtain ⟨d, hd⟩ := order_none hr ho
      exact absurd hd (h d)

end Go.Proofs.Ytndcbhgdlaemaaa.Gr
