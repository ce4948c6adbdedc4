/-
  The groups of nodes that reach each other; a further edge.
-/
import Derived.Test.YtndcbhgdlaemaaaGra
namespace Go.Proofs.Ytndcbhgdlaemaaa.Gr

noncomputable def mutB (e : E) (a b : Int) : Bool := reachB e a b && reachB e b a
theorem mut_iff {e : E} {a b : Int} : mutB e a b = true ↔ Reach e a b ∧ Reach e b a := by unfold mutB; rw [Bool.and_eq_true, reachB_iff, reachB_iff]
theorem mut_refl (e : E) (a : Int) : mutB e a a = true := mut_iff.2 ⟨.refl, .refl⟩
theorem mut_symm {e : E} {a b : Int} (h : mutB e a b = true) : mutB e b a = true := mut_iff.2 (mut_iff.1 h).symm
theorem mut_trans {e : E} {a b c : Int} (h : mutB e a b = true) (k : mutB e b c = true) : mutB e a c = true := by
  rw [mut_iff] at *
  exact ⟨h.1.trans k.1, k.2.trans h.2⟩
noncomputable def leastB (n : Int) (e : E) (a : Int) : Bool := (nodes n).all (fun b => !mutB e a b || decide (a ≤ b))
theorem least_iff {n : Int} {e : E} {a : Int} : leastB n e a = true ↔ ∀ b, 0 ≤ b → b < n → mutB e a b = true → a ≤ b := by
  unfold leastB
  rw [List.all_eq_true]
  simp only [Bool.or_eq_true, Bool.not_eq_true', decide_eq_true_iff]
  constructor
  · intro h b h0 h1 hm
    rcases h b (mem_nodes.2 ⟨h0, h1⟩) with h2 | h2
    · rw [hm] at h2; cases h2
    · exact h2
  · intro h b hb
    obtain ⟨h0, h1⟩ := mem_nodes.1 hb
    cases hm : mutB e a b with
    | false => exact .inl rfl
    | true => exact .inr (h b h0 h1 hm)
noncomputable def groupOf (n : Int) (e : E) (a : Int) : List Int := (nodes n).filter (mutB e a)
noncomputable def heads (n : Int) (e : E) : List Int := (nodes n).filter (leastB n e)
noncomputable def groups (n : Int) (e : E) : List (List Int) := if rightB n e = true then (heads n e).map (groupOf n e) else []
theorem mem_group {n : Int} {e : E} {a b : Int} : b ∈ groupOf n e a ↔ (0 ≤ b ∧ b < n) ∧ mutB e a b = true := by unfold groupOf; rw [List.mem_filter, mem_nodes]
theorem mem_heads {n : Int} {e : E} {a : Int} : a ∈ heads n e ↔ (0 ≤ a ∧ a < n) ∧ leastB n e a = true := by unfold heads; rw [List.mem_filter, mem_nodes]
theorem group_pair (n : Int) (e : E) (a : Int) : (groupOf n e a).Pairwise (· < ·) := (nodes_pair n).filter _
theorem heads_pair (n : Int) (e : E) : (heads n e).Pairwise (· < ·) := (nodes_pair n).filter _
/-- each node has a head -/
theorem head_of {n : Int} (e : E) {b : Int} (hb : 0 ≤ b ∧ b < n) : ∃ a, a ∈ heads n e ∧ mutB e a b = true := by
  obtain ⟨m, ⟨h1, h2⟩, hmin⟩ := least_nat (fun k => (k : Int) < n ∧ mutB e k b = true) b.toNat ⟨by omega, by rw [Int.toNat_of_nonneg hb.1]; exact mut_refl e b⟩
  refine ⟨(m : Int), mem_heads.2 ⟨⟨by omega, h1⟩, least_iff.2 fun c h0 hc hm => ?_⟩, h2⟩
  have := hmin c.toNat ⟨by omega, by rw [Int.toNat_of_nonneg h0]; exact mut_trans (mut_symm hm) h2⟩
  omega
theorem head_unique {n : Int} {e : E} {a c : Int} (ha : a ∈ heads n e) (hc : c ∈ heads n e) (h : mutB e a c = true) : a = c := by
  obtain ⟨a1, a2⟩ := mem_heads.1 ha
  obtain ⟨c1, c2⟩ := mem_heads.1 hc
  have h1 := least_iff.1 a2 c c1.1 c1.2 h
  have h2 := least_iff.1 c2 a a1.1 a1.2 (mut_symm h)
  omega
/-- the head stands first in its group -/
theorem group_head {n : Int} {e : E} {a : Int} (ha : a ∈ heads n e) : ∃ t, groupOf n e a = a :: t := by
  obtain ⟨a1, a2⟩ := mem_heads.1 ha
  have hm : a ∈ groupOf n e a := mem_group.2 ⟨a1, mut_refl e a⟩
  have hp := group_pair n e a
  cases hg : groupOf n e a with
  | nil => rw [hg] at hm; simp at hm
  | cons x t =>
    rw [hg] at hm hp
    have hx : x ∈ groupOf n e a := by rw [hg]; simp
    obtain ⟨x1, x2⟩ := mem_group.1 hx
    have h1 := least_iff.1 a2 x x1.1 x1.2 x2
    rcases List.mem_cons.1 hm with rfl | hm
    · exact ⟨t, rfl⟩
    · have := (List.pairwise_cons.1 hp).1 a hm
      omega
theorem groups_of {n : Int} {e : E} (hr : rightB n e = true) : groups n e = (heads n e).map (groupOf n e) := if_pos hr
theorem groups_get {n : Int} {e : E} (hr : rightB n e = true) {i : Nat} {l : List Int} (h : (groups n e)[i]? = some l) : ∃ a, (heads n e)[i]? = some a ∧ l = groupOf n e a := by
  rw [groups_of hr, List.getElem?_map] at h
  cases ha : (heads n e)[i]? with
  | none => rw [ha] at h; simp at h
  | some a => rw [ha] at h; simp at h; exact ⟨a, rfl, h.symm⟩
/-- each node stands in one group, at one place -/
theorem groups_at {n : Int} {e : E} (hr : rightB n e = true) {b : Int} (hb : 0 ≤ b ∧ b < n) : ∃ (i : Nat) (l : List Int), (groups n e)[i]? = some l ∧ b ∈ l := by
  obtain ⟨a, ha, hm⟩ := head_of e hb
  obtain ⟨i, hi⟩ := List.mem_iff_getElem?.1 ha
  exact ⟨i, groupOf n e a, by rw [groups_of hr, List.getElem?_map, hi]; rfl, mem_group.2 ⟨hb, hm⟩⟩
theorem groups_same {n : Int} {e : E} (hr : rightB n e = true) {b c : Int} {i j : Nat} {l m : List Int} (hi : (groups n e)[i]? = some l) (hb : b ∈ l) (hj : (groups n e)[j]? = some m) (hc : c ∈ m) : i = j ↔ mutB e b c = true := by
  obtain ⟨a, ha, rfl⟩ := groups_get hr hi
  obtain ⟨d, hd, rfl⟩ := groups_get hr hj
  have hb2 := (mem_group.1 hb).2
  have hc2 := (mem_group.1 hc).2
  constructor
  · intro hij
    subst hij
    rw [ha] at hd
    cases hd
    exact mut_trans (mut_symm hb2) hc2
  · intro hm
    have h1 : mutB e a d = true := mut_trans hb2 (mut_trans hm (mut_symm hc2))
    have h2 : a = d := head_unique (List.mem_of_getElem? ha) (List.mem_of_getElem? hd) h1
    subst h2
    have hp := heads_pair n e
    obtain ⟨i1, i2⟩ := List.getElem?_eq_some_iff.1 ha
    obtain ⟨j1, j2⟩ := List.getElem?_eq_some_iff.1 hd
    have hp := List.pairwise_iff_getElem.1 hp
    rcases Nat.lt_trichotomy i j with c | c | c
    · have := hp i j i1 j1 c; omega
    · exact c
    · have := hp j i j1 i1 c; omega
theorem groups_nodup {n : Int} {e : E} (hr : rightB n e = true) : (groups n e).flatten.Nodup := by
  unfold List.Nodup
  rw [List.pairwise_flatten]
  constructor
  · intro l hl
    obtain ⟨i, hi⟩ := List.mem_iff_getElem?.1 hl
    obtain ⟨a, -, rfl⟩ := groups_get hr hi
    exact (group_pair n e a).imp (fun h => by omega)
  · rw [List.pairwise_iff_getElem]
    intro i j hi hj hij x hx y hy hxy
    subst hxy
    have := (groups_same hr (List.getElem?_eq_getElem hi) hx (List.getElem?_eq_getElem hj) hy).2 (mut_refl e x)
    omega
/-- all nodes stand in the groups -/
theorem groups_count {n : Int} {e : E} (hr : rightB n e = true) : (groups n e).flatten.length = n.toNat := by
  apply Nat.le_antisymm
  · refine nodup_len (groups_nodup hr) fun x hx => ?_
    obtain ⟨l, hl, hxl⟩ := List.mem_flatten.1 hx
    obtain ⟨i, hi⟩ := List.mem_iff_getElem?.1 hl
    obtain ⟨a, -, rfl⟩ := groups_get hr hi
    exact (mem_group.1 hxl).1
  · have := List.Nodup.length_le_of_subset (nodes_nodup n) (l₂ := (groups n e).flatten) (fun x hx => by
      obtain ⟨i, l, hi, hm⟩ := groups_at hr (mem_nodes.1 hx)
      exact List.mem_flatten.2 ⟨l, List.mem_of_getElem? hi, hm⟩)
    rwa [nodes_len] at this
theorem groups_len {n : Int} {e : E} (hr : rightB n e = true) : (groups n e).length ≤ n.toNat := by
  rw [groups_of hr, List.length_map]
  exact nodup_len ((heads_pair n e).imp (fun h => by omega)) (fun x hx => (mem_heads.1 hx).1)
theorem groups_pos {n : Int} {e : E} (hr : rightB n e = true) (hn : 0 < n) : 0 < (groups n e).length := by
  obtain ⟨i, l, hi, -⟩ := groups_at hr (b := 0) ⟨Int.le_refl _, hn⟩
  have := (List.getElem?_eq_some_iff.1 hi).1
  omega
theorem groups_wrong {n : Int} {e : E} (hr : rightB n e = false) : groups n e = [] := by unfold groups; rw [if_neg (by rw [hr]; exact Bool.false_ne_true)]

/-! a further edge -/
theorem mut_mono {e e' : E} (he : ∀ p ∈ e, p ∈ e') {a b : Int} (h : mutB e a b = true) : mutB e' a b = true := by
  rw [mut_iff] at *
  exact ⟨h.1.mono he, h.2.mono he⟩
theorem groups_fewer {n : Int} {e e' : E} (he : ∀ p ∈ e, p ∈ e') (hr : rightB n e = true) (hr' : rightB n e' = true) : (groups n e').length ≤ (groups n e).length := by
  rw [groups_of hr, groups_of hr', List.length_map, List.length_map]
  refine List.Nodup.length_le_of_subset ((heads_pair n e').imp (fun h => by omega)) fun x hx => ?_
  obtain ⟨h1, h2⟩ := mem_heads.1 hx
  exact mem_heads.2 ⟨h1, least_iff.2 fun b h0 hb hm => least_iff.1 h2 b h0 hb (mut_mono he hm)⟩
theorem cycle_shorter {n : Int} {e e' : E} (he : ∀ p ∈ e, p ∈ e') (hr : rightB n e = true) (hr' : rightB n e' = true) (hc : cycle n e ≠ []) : cycle n e' ≠ [] ∧ (cycle n e').length ≤ (cycle n e).length := by
  have h1 := cycle_some hr hc
  have h2 : Closed e' (cycle n e) := ⟨h1.1.1, h1.1.2.mono he⟩
  have h3 : cycle n e' ≠ [] := fun h => (cycle_none hr').1 h _ h2
  exact ⟨h3, (cycle_some hr' h3).2.1 _ h2⟩
theorem cycle_short {n : Int} {e : E} (hr : rightB n e = true) {d : List Int} (hd : Closed e d) : cycle n e ≠ [] ∧ (cycle n e).length ≤ d.length := by
  have h3 : cycle n e ≠ [] := fun h => (cycle_none hr).1 h _ hd
  exact ⟨h3, (cycle_some hr h3).2.1 _ hd⟩

/-! the graph of the groups has no cycle -/
/-- idx says of each node its group's place -/
def IsIdx (n : Int) (e : E) (idx : Int → Int) : Prop := ∀ (i : Nat) (l : List Int) (b : Int), (groups n e)[i]? = some l → b ∈ l → idx b = i
theorem between_reach {n : Int} {e : E} (hr : rightB n e = true) {idx : Int → Int} (hi : IsIdx n e idx) {f : E} (hf : ∀ p ∈ f, ∃ q ∈ e, p.1 = idx q.1 ∧ p.2 = idx q.2) :
    ∀ {l : List Int} {b : Int}, Path f l b → ∀ x ∈ l, ∀ u v : Int, (0 ≤ u ∧ u < n) → (0 ≤ v ∧ v < n) → idx u = x → idx v = b → Reach e u v := by
  have same : ∀ u v : Int, (0 ≤ u ∧ u < n) → (0 ≤ v ∧ v < n) → idx u = idx v → Reach e u v := by
    intro u v hu hv huv
    obtain ⟨i, l, h1, h2⟩ := groups_at hr hu
    obtain ⟨j, m, h3, h4⟩ := groups_at hr hv
    have e1 := hi i l u h1 h2
    have e2 := hi j m v h3 h4
    exact (mut_iff.1 ((groups_same hr h1 h2 h3 h4).1 (by omega))).1
  have hp := (right_iff.1 hr).2.2
  intro l
  induction l with
  | nil => intro b _ x hx; exact absurd hx (by simp)
  | cons a t ih =>
    intro b h x hx u v hu hv hux hvb
    rcases List.mem_cons.1 hx with rfl | hx
    · obtain ⟨q, hq, q1, q2⟩ := hf _ h.1
      obtain ⟨n1, n2⟩ := hp q hq
      have r1 := same u q.1 hu n1 (hux.trans q1)
      have r2 : Reach e u q.2 := r1.step hq
      cases t with
      | nil => exact r2.trans (same q.2 v n2 hv (q2.symm.trans hvb.symm))
      | cons c s => exact r2.trans (ih h.2 c (by simp) q.2 v n2 hv q2.symm hvb)
    · exact ih h.2 x hx u v hu hv hux hvb
theorem between_acyclic {n : Int} {e : E} (hr : rightB n e = true) {idx : Int → Int} (hi : IsIdx n e idx) {f : E} (hf : ∀ p ∈ f, p.1 ≠ p.2 ∧ ∃ q ∈ e, p.1 = idx q.1 ∧ p.2 = idx q.2) (d : List Int) : ¬ Closed f d := by
  have hf' : ∀ p ∈ f, ∃ q ∈ e, p.1 = idx q.1 ∧ p.2 = idx q.2 := fun p hp => (hf p hp).2
  have hp := (right_iff.1 hr).2.2
  rintro ⟨h0, h1⟩
  cases d with
  | nil => exact h0 rfl
  | cons a t =>
    have h1 : Path f (a :: t) a := h1
    obtain ⟨hne, q, hq, q1, q2⟩ := hf _ h1.1
    obtain ⟨n1, n2⟩ := hp q hq
    simp only at q1 q2 hne
    -- q.2 reaches q.1
    have hback : Reach e q.2 q.1 := by
      cases t with
      | nil => exact absurd rfl hne
      | cons c s => exact between_reach hr hi hf' h1.2 c (by simp) q.2 q.1 n2 n1 q2.symm q1.symm
    have hm : mutB e q.1 q.2 = true := mut_iff.2 ⟨Reach.edge hq, hback⟩
    obtain ⟨i, l, h3, h4⟩ := groups_at hr n1
    obtain ⟨j, m, h5, h6⟩ := groups_at hr n2
    have hij := (groups_same hr h3 h4 h5 h6).2 hm
    have e1 := hi i l _ h3 h4
    have e2 := hi j m _ h5 h6
    have k1 := q1.trans e1
    have k2 := q2.trans e2
    rw [← hij] at k2
    exact hne (k1.trans k2.symm)

end Go.Proofs.Ytndcbhgdlaemaaa.Gr
