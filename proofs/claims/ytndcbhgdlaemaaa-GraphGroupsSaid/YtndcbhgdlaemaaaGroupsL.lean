/-
  What GraphGroups' and GraphGrows' walks need.
-/
import Derived.Test.YtndcbhgdlaemaaaOrdersL
namespace Go.Proofs.Ytndcbhgdlaemaaa
open Go.RowKit Gr

/-- which nodes have been marked with their group's number (plus off): all of the first i groups, and the first k of group i -/
structure QS (N : Nat) (L : List (List Int)) (off : Int) (i k : Nat) (Q : List Int) : Prop where
  len : Q.length = N
  done : ∀ (j t : Nat) (m : List Int) (x : Nat), L[j]? = some m → m[t]? = some (x : Int) → (j < i ∨ (j = i ∧ t < k)) → Q[x]? = some ((j : Int) + off)
  todo : ∀ (j t : Nat) (m : List Int) (x : Nat), L[j]? = some m → m[t]? = some (x : Int) → ¬ (j < i ∨ (j = i ∧ t < k)) → Q[x]? = some 0
/-- a list of lists in which each node stands once -/
structure Once (N : Nat) (L : List (List Int)) : Prop where
  node : ∀ (j : Nat) (m : List Int) (x : Int), L[j]? = some m → x ∈ m → 0 ≤ x ∧ x < (N : Int)
  once : ∀ (j j' t t' : Nat) (m m' : List Int) (x : Int), L[j]? = some m → L[j']? = some m' → m[t]? = some x → m'[t']? = some x → j = j' ∧ t = t'
theorem once_groups {N : Nat} {e : E} (hr : rightB N e = true) : Once N (groups N e) := by
  refine ⟨fun j m x hm hx => ?_, fun j j' t t' m m' x hm hm' ht ht' => ?_⟩
  · obtain ⟨a, -, rfl⟩ := groups_get hr hm
    exact (mem_group.1 hx).1
  · have e1 : j = j' := (groups_same hr hm (List.mem_of_getElem? ht) hm' (List.mem_of_getElem? ht')).2 (mut_refl e x)
    subst e1
    rw [hm] at hm'
    cases hm'
    obtain ⟨a, -, rfl⟩ := groups_get hr hm
    have hp := List.pairwise_iff_getElem.1 (group_pair (N : Int) e a)
    obtain ⟨i1, i2⟩ := List.getElem?_eq_some_iff.1 ht
    obtain ⟨j1, j2⟩ := List.getElem?_eq_some_iff.1 ht'
    refine ⟨rfl, ?_⟩
    rcases Nat.lt_trichotomy t t' with c | c | c
    · have := hp t t' i1 j1 c; omega
    · exact c
    · have := hp t' t j1 i1 c; omega
theorem QS.start {N : Nat} {L : List (List Int)} (h : Once N L) (off : Int) : QS N L off 0 0 (List.replicate N 0) := by
  refine ⟨by simp, fun j t m x _ _ hc => by omega, fun j t m x hm ht _ => ?_⟩
  have := (h.node j m x hm (List.mem_of_getElem? ht)).2
  rw [List.getElem?_replicate, if_pos (by omega)]
theorem QS.next {N : Nat} {L : List (List Int)} (h : Once N L) {off : Int} {i k : Nat} {Q : List Int} (hq : QS N L off i k Q) {l : List Int} {a : Nat} (hl : L[i]? = some l) (ha : l[k]? = some (a : Int)) : QS N L off i (k + 1) (Q.set a ((i : Int) + off)) := by
  have haN := (h.node i l a hl (List.mem_of_getElem? ha)).2
  refine ⟨by simpa using hq.len, fun j t m x hm ht hc => ?_, fun j t m x hm ht hc => ?_⟩
  · rw [List.getElem?_set]
    by_cases c : a = x
    · subst c
      obtain ⟨rfl, rfl⟩ := h.once i j k t l m a hl hm ha ht
      rw [if_pos rfl, if_pos (by rw [hq.len]; omega)]
    · rw [if_neg c]
      refine hq.done j t m x hm ht ?_
      rcases hc with hc | ⟨hc, hc2⟩
      · exact .inl hc
      · refine .inr ⟨hc, ?_⟩
        apply Classical.byContradiction
        intro hk
        have : t = k := by omega
        subst this hc
        rw [hl] at hm
        cases hm
        rw [ha] at ht
        simp at ht
        omega
  · rw [List.getElem?_set]
    by_cases c : a = x
    · subst c
      obtain ⟨rfl, rfl⟩ := h.once i j k t l m a hl hm ha ht
      exact absurd (.inr ⟨rfl, Nat.lt_succ_self _⟩) hc
    · rw [if_neg c]
      exact hq.todo j t m x hm ht (fun h2 => hc (h2.imp id (fun h3 => ⟨h3.1, by omega⟩)))
theorem QS.turn {N : Nat} {L : List (List Int)} {off : Int} {i : Nat} {Q l : List Int} (hl : L[i]? = some l) (hq : QS N L off i l.length Q) : QS N L off (i + 1) 0 Q := by
  refine ⟨hq.len, fun j t m x hm ht hc => ?_, fun j t m x hm ht hc => ?_⟩
  · refine hq.done j t m x hm ht ?_
    by_cases c : j = i
    · subst c
      rw [hl] at hm
      cases hm
      exact .inr ⟨rfl, (List.getElem?_eq_some_iff.1 ht).1⟩
    · exact .inl (by omega)
  · exact hq.todo j t m x hm ht (fun h2 => hc (.inl (by omega)))
/-- each node's group -/
theorem QS.at {N : Nat} {e : E} (hr : rightB N e = true) {off : Int} {Q : List Int} (h : QS N (groups N e) off (groups N e).length 0 Q) {x : Nat} (hx : x < N) :
    ∃ (j t : Nat) (m : List Int), (groups N e)[j]? = some m ∧ m[t]? = some (x : Int) ∧ Q[x]? = some ((j : Int) + off) := by
  obtain ⟨j, m, hj, hm⟩ := groups_at hr (b := (x : Int)) ⟨by omega, by omega⟩
  obtain ⟨t, ht⟩ := List.mem_iff_getElem?.1 hm
  exact ⟨j, t, m, hj, ht, h.done j t m x hj ht (.inl (List.getElem?_eq_some_iff.1 hj).1)⟩
/-- how many stand in the first i groups -/
def sumTo (L : List (List Int)) (i : Nat) : Nat := (L.take i).flatten.length
theorem sum_next {L : List (List Int)} {i : Nat} {l : List Int} (h : L[i]? = some l) : sumTo L (i + 1) = sumTo L i + l.length := by
  unfold sumTo
  rw [List.take_add_one, h, List.flatten_append, List.length_append]
  simp
theorem sum_le (L : List (List Int)) (i : Nat) : sumTo L i ≤ L.flatten.length := by
  unfold sumTo
  conv => rhs; rw [← List.take_append_drop i L, List.flatten_append, List.length_append]
  omega
theorem sum_all (L : List (List Int)) : sumTo L L.length = L.flatten.length := by unfold sumTo; rw [List.take_length]

theorem LAt.get {W : World} {x : Value} {L : List (List Int)} (h : LAt W x L) : ∃ a cap, x = .slice a L.length cap ∧ L.length ≤ cap ∧ ∀ (i : Nat) (l : List Int), L[i]? = some l → ∃ b off la lc, a = some ⟨b, off, none⟩ ∧ b < W.heap.size ∧ W.cell? ⟨b, off + i, none⟩ = some (.slice la l.length lc) ∧ l.length ≤ lc ∧ SAt W (.slice la l.length lc) (ints l) := by
  obtain ⟨vs, ⟨a, cap, rfl, hcap, hc⟩, hlen, hel⟩ := h
  rw [hlen] at hcap ⊢
  refine ⟨a, cap, rfl, hcap, fun i l hl => ?_⟩
  obtain ⟨x, hx⟩ : ∃ x, vs[i]? = some x := ⟨_, List.getElem?_eq_getElem (by have := (List.getElem?_eq_some_iff.1 hl).1; omega)⟩
  obtain ⟨b, off, rfl, hb, h0⟩ := hc i x hx
  have hs := hel i x l hx hl
  obtain ⟨la, lc, e, hlc, -⟩ := id hs
  rw [List.length_map] at e hlc
  subst e
  exact ⟨b, off, la, lc, rfl, hb, h0, hlc, hs⟩
/-- the marks, and what is older -/
structure GX (w : World) (e : E) (L : List (List Int)) (v x : Value) (g : Nat) (Q : List Int) (W0 W : World) : Prop where
  row : Row W g (ints Q)
  old : Below g W0 W
  ed : EAt W0 v e
  li : LAt W0 x L
  lt : W0.heap.size = g
  below : Below w.heap.size w W0
theorem GX.all {w : World} {e : E} {L : List (List Int)} {v x : Value} {g : Nat} {Q : List Int} {W0 W : World} (h : GX w e L v x g Q W0 W) : EAt W v e ∧ LAt W x L ∧ Below w.heap.size w W :=
  ⟨h.ed.below h.old (by rw [h.lt]; exact Nat.le_refl _), h.li.below h.old (by rw [h.lt]; exact Nat.le_refl _), h.below.trans (h.old.mono (by have := h.below.size; have := h.lt; omega))⟩
theorem GX.set {w : World} {e : E} {L : List (List Int)} {v x : Value} {g : Nat} {Q : List Int} {W0 W : World} (h : GX w e L v x g Q W0 W) (k : Nat) (hk : k < Q.length) (b : Int) : GX w e L v x g (Q.set k b) W0 (W.setCell ⟨g, k, none⟩ (.int .i64 b)) :=
  ⟨by rw [← ints_set]; exact h.row.set k _ (by simpa using hk), h.old.setCell (Nat.le_refl _) _, h.ed, h.li, h.lt, h.below⟩
theorem GX.drewN {w : World} {e : E} {L : List (List Int)} {v x : Value} {g : Nat} {Q : List Int} {W0 W : World} (h : GX w e L v x g Q W0 W) (q : Nat) : GX w e L v x g Q W0 (W.drewN q) :=
  ⟨h.row.below (below_drewN (Below.refl _ _) q) h.row.lt, below_drewN h.old q, h.ed, h.li, h.lt, h.below⟩
theorem c4_next {W w' w'' : World} {p1 p2 p3 p4 : Addr} {v1 v2 v3 v4 : Value} (h1 : p1.block < W.heap.size) (h2 : p2.block < W.heap.size) (h3 : p3.block < W.heap.size) (h4 : p4.block < W.heap.size)
    (h : Below W.heap.size W w' ∧ w'.cell? p1 = some v1 ∧ w'.cell? p2 = some v2 ∧ w'.cell? p3 = some v3 ∧ w'.cell? p4 = some v4) (hb : Below w'.heap.size w' w'') :
    Below W.heap.size W w'' ∧ w''.cell? p1 = some v1 ∧ w''.cell? p2 = some v2 ∧ w''.cell? p3 = some v3 ∧ w''.cell? p4 = some v4 := by
  obtain ⟨b, k1, k2, k3, k4⟩ := h
  have := b.size
  exact ⟨chain b hb, by rw [hb.cell (by omega)]; exact k1, by rw [hb.cell (by omega)]; exact k2, by rw [hb.cell (by omega)]; exact k3, by rw [hb.cell (by omega)]; exact k4⟩
theorem c4_drew {W w' : World} {p1 p2 p3 p4 : Addr} {v1 v2 v3 v4 : Value} (h : Below W.heap.size W w' ∧ w'.cell? p1 = some v1 ∧ w'.cell? p2 = some v2 ∧ w'.cell? p3 = some v3 ∧ w'.cell? p4 = some v4) :
    Below W.heap.size W w'.drew ∧ w'.drew.cell? p1 = some v1 ∧ w'.drew.cell? p2 = some v2 ∧ w'.drew.cell? p3 = some v3 ∧ w'.drew.cell? p4 = some v4 :=
  ⟨h.1.drew, by simpa using h.2.1, by simpa using h.2.2.1, by simpa using h.2.2.2.1, by simpa using h.2.2.2.2⟩
def G1 (w : World) (n : Int) (e : E) (L : List (List Int)) (v x : Value) (g N : Nat) (W0 : World) (last cnt i : Value) (wr : World) : Prop := ∃ (j : Nat) (Q : List Int) (hd : Int), j ≤ L.length ∧ i = .int .i64 (j : Int) ∧ last = .int .i64 hd ∧ cnt = .int .i64 (sumTo L j : Int) ∧ (∀ a, (heads n e)[j]? = some a → hd < a) ∧ QS N L 1 j 0 Q ∧ GX w e L v x g Q W0 wr
def G2 (w : World) (e : E) (L : List (List Int)) (v x : Value) (g N : Nat) (W0 : World) (j : Nat) (l : List Int) (cnt i : Value) (wr : World) : Prop := ∃ (k : Nat) (Q : List Int), k ≤ l.length ∧ i = .int .i64 (k : Int) ∧ cnt = .int .i64 ((sumTo L j : Int) + (k : Int)) ∧ QS N L 1 j k Q ∧ GX w e L v x g Q W0 wr
def idxQ (Q : List Int) (x : Int) : Int := (Q[x.toNat]?).getD 0 - 1
/-- the edges between groups, so far -/
def FS (e : E) (Q : List Int) (f : E) : Prop := ∀ p ∈ f, p.1 ≠ p.2 ∧ ∃ q ∈ e, p.1 = idxQ Q q.1 ∧ p.2 = idxQ Q q.2
def G4 (e : E) (Q : List Int) (W7 : World) (b i : Value) (wr : World) : Prop := ∃ (k : Nat) (f : E) (va : Option Addr) (vc : Nat), k ≤ e.length ∧ i = .int .i64 (k : Int) ∧ b = .slice va f.length vc ∧ f.length ≤ k ∧ FS e Q f ∧ wr.ownsRow W7.heap.size 40 2 (.slice va f.length vc) f.length (edgesC f) ∧ Below W7.heap.size W7 wr
theorem isIdx {N : Nat} {e : E} {Q : List Int} (h : QS N (groups N e) 1 (groups N e).length 0 Q) (hr : rightB N e = true) : IsIdx N e (idxQ Q) := by
  intro i l b hi hb
  obtain ⟨t, ht⟩ := List.mem_iff_getElem?.1 hb
  obtain ⟨b0, b1⟩ := (once_groups hr).node i l b hi hb
  obtain ⟨x, rfl⟩ := Int.eq_ofNat_of_zero_le b0
  have := h.done i t l x hi ht (.inl (List.getElem?_eq_some_iff.1 hi).1)
  unfold idxQ
  rw [Int.toNat_natCast, this]
  simp

end Go.Proofs.Ytndcbhgdlaemaaa
