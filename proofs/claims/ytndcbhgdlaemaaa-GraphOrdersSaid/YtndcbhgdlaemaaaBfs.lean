/-
  What the program's search finds: the nodes that are reached, by how many steps; plain.
-/
import Derived.Test.YtndcbhgdlaemaaaGra
namespace Go.Proofs.Ytndcbhgdlaemaaa.Gr

/-! the neighbours of a node -/
def srt (l : List Int) : List Int := l.mergeSort fun x y => decide (x ≤ y)
theorem srt_length (l : List Int) : (srt l).length = l.length := List.length_mergeSort _
theorem srt_mem {l : List Int} {x : Int} : x ∈ srt l ↔ x ∈ l := List.mem_mergeSort
theorem srt_sorted (l : List Int) : (srt l).Pairwise (· ≤ ·) := by
  have := List.pairwise_mergeSort (le := fun x y : Int => decide (x ≤ y)) (fun a b c h1 h2 => by simp at h1 h2 ⊢; omega) (fun a b => by simp; omega) l
  exact this.imp fun h => by simpa using h
theorem srt_perm (l : List Int) : (srt l).Perm l := List.mergeSort_perm _ _
/-- the edges, turned about or not -/
def fl (b : Bool) (e : E) : E := match b with | false => e | true => e.map (fun p => (p.2, p.1))
theorem mem_fl {b : Bool} {e : E} {x y : Int} : (x, y) ∈ fl b e ↔ (match b with | false => (x, y) | true => (y, x)) ∈ e := by
  cases b with
  | false => exact Iff.rfl
  | true =>
    unfold fl
    simp only [List.mem_map, Prod.mk.injEq]
    constructor
    · rintro ⟨p, hp, h1, h2⟩
      subst h1 h2
      exact hp
    · intro h
      exact ⟨(y, x), h, rfl, rfl⟩
theorem fl_len (b : Bool) (e : E) : (fl b e).length = e.length := by cases b <;> simp [fl]
theorem fl_node {b : Bool} {n : Int} {e : E} (h : ∀ p ∈ e, (0 ≤ p.1 ∧ p.1 < n) ∧ 0 ≤ p.2 ∧ p.2 < n) : ∀ p ∈ fl b e, (0 ≤ p.1 ∧ p.1 < n) ∧ 0 ≤ p.2 ∧ p.2 < n := by
  intro p hp
  obtain ⟨x, y⟩ := p
  rw [mem_fl] at hp
  cases b with
  | false => exact h _ hp
  | true => exact ⟨(h _ hp).2, (h _ hp).1⟩
def nbr (es : E) (u : Int) : List Int := (es.filter (fun p => decide (p.1 = u))).map (·.2)
theorem mem_nbr {es : E} {u x : Int} : x ∈ nbr es u ↔ (u, x) ∈ es := by
  unfold nbr
  rw [List.mem_map]
  constructor
  · rintro ⟨⟨a, b⟩, h, rfl⟩
    rw [List.mem_filter] at h
    have := of_decide_eq_true h.2
    simp only at this
    subst this
    exact h.1
  · intro h
    exact ⟨(u, x), List.mem_filter.2 ⟨h, by simp⟩, rfl⟩
theorem nbr_len (es : E) (u : Int) : (nbr es u).length ≤ es.length := by
  unfold nbr
  rw [List.length_map]
  exact List.length_filter_le _ _
def adj (es : E) (u : Int) : List Int := srt (nbr es u)
theorem mem_adj {es : E} {u x : Int} : x ∈ adj es u ↔ (u, x) ∈ es := by unfold adj; rw [srt_mem, mem_nbr]
theorem adj_len (es : E) (u : Int) : (adj es u).length ≤ es.length := by unfold adj; rw [srt_length]; exact nbr_len es u
theorem adj_sorted (es : E) (u : Int) : (adj es u).Pairwise (· ≤ ·) := srt_sorted _
theorem nbr_next {es : E} {k : Nat} {p : Int × Int} (h : es[k]? = some p) (u : Int) : nbr (es.take (k + 1)) u = nbr (es.take k) u ++ (if p.1 = u then [p.2] else []) := by
  unfold nbr
  rw [List.take_add_one, h, List.filter_append, List.map_append]
  by_cases c : p.1 = u <;> simp [c]

/-! the search -/
def upd (f : Int → Int) (x d : Int) : Int → Int := fun y => if y = x then d else f y
theorem upd_same (f : Int → Int) (x d : Int) : upd f x d x = d := if_pos rfl
theorem upd_other {f : Int → Int} {x d y : Int} (h : y ≠ x) : upd f x d y = f y := if_neg h

structure Bf (es : E) (n : Nat) (s : Int) (f : Int → Int) (q : List Int) (i k : Nat) : Prop where
  nd : q.Nodup
  rg : ∀ x ∈ q, 0 ≤ x ∧ x < (n : Int)
  pos : ∀ x, 0 < f x ↔ x ∈ q
  nn : ∀ x, 0 ≤ f x
  s0 : f s = 1
  sq : s ∈ q
  one : ∀ x ∈ q, x ≠ s → ∃ u ∈ q, (u, x) ∈ es ∧ f x = f u + 1
  so : q.Pairwise (fun a b => f a ≤ f b)
  bd : ∀ x, f x ≤ q.length
  lim : ∀ v, q[i]? = some v → ∀ x ∈ q, f x ≤ f v + 1
  done : ∀ j u, j < i → q[j]? = some u → ∀ x, (u, x) ∈ es → 0 < f x ∧ f x ≤ f u + 1
  part : ∀ v, q[i]? = some v → ∀ x ∈ (adj es v).take k, 0 < f x ∧ f x ≤ f v + 1

theorem Bf.len {es : E} {n : Nat} {s : Int} {f : Int → Int} {q : List Int} {i k : Nat} (h : Bf es n s f q i k) : q.length ≤ n := by
  have := nodup_len (n := (n : Int)) h.nd h.rg
  simpa using this
theorem Bf.start (es : E) {n : Nat} {s : Int} (hs : 0 ≤ s ∧ s < (n : Int)) : Bf es n s (upd (fun _ => 0) s 1) [s] 0 0 := by
  have hf : ∀ x, upd (fun _ => 0) s 1 x = if x = s then 1 else 0 := fun x => rfl
  refine ⟨by simp, by simpa using hs, fun x => ?_, fun x => ?_, upd_same _ _ _, by simp, fun x hx hne => ?_, by simp, fun x => ?_, fun v hv x hx => ?_, fun j u hj => by omega, fun v hv x hx => by simp at hx⟩
  · rw [hf]; by_cases c : x = s <;> simp [c]
  · rw [hf]; by_cases c : x = s <;> simp [c]
  · simp at hx; exact absurd hx hne
  · rw [hf]; by_cases c : x = s <;> simp [c]
  · simp at hv hx
    subst hv hx
    omega
/-- a neighbour that was found already -/
theorem Bf.old {es : E} {n : Nat} {s : Int} {f : Int → Int} {q : List Int} {i k : Nat} (h : Bf es n s f q i k) {v x : Int} (hv : q[i]? = some v) (hx : (adj es v)[k]? = some x) (hf : f x ≠ 0) : Bf es n s f q i (k + 1) := by
  have hp : 0 < f x := by have := h.nn x; omega
  refine ⟨h.nd, h.rg, h.pos, h.nn, h.s0, h.sq, h.one, h.so, h.bd, h.lim, h.done, fun v' hv' y hy => ?_⟩
  rw [hv] at hv'
  simp only [Option.some.injEq] at hv'
  subst hv'
  rw [List.take_add_one, hx, List.mem_append] at hy
  rcases hy with hy | hy
  · exact h.part v hv y hy
  · simp at hy
    subst hy
    exact ⟨hp, h.lim v hv y ((h.pos y).1 hp)⟩
theorem Bf.new {es : E} {n : Nat} {s : Int} {f : Int → Int} {q : List Int} {i k : Nat} (h : Bf es n s f q i k) (hn : ∀ p ∈ es, (0 ≤ p.1 ∧ p.1 < (n : Int)) ∧ 0 ≤ p.2 ∧ p.2 < (n : Int)) {v x : Int} (hv : q[i]? = some v) (hx : (adj es v)[k]? = some x) (hf : f x = 0) :
    Bf es n s (upd f x (f v + 1)) (q ++ [x]) i (k + 1) := by
  have hvq : v ∈ q := List.mem_of_getElem? hv
  have hvp : 0 < f v := (h.pos v).2 hvq
  have hxq : x ∉ q := fun c => by have := (h.pos x).2 c; omega
  have hxe : (v, x) ∈ es := mem_adj.1 (List.mem_of_getElem? hx)
  have hil : i < q.length := (List.getElem?_eq_some_iff.1 hv).1
  have same : ∀ y ∈ q, upd f x (f v + 1) y = f y := fun y hy => upd_other (fun c => by subst c; exact hxq hy)
  have at' : ∀ {j : Nat}, j ≤ i → ∀ u, (q ++ [x])[j]? = some u → q[j]? = some u := fun {j} hj u hu => by rwa [List.getElem?_append_left (by omega)] at hu
  refine ⟨?_, ?_, fun y => ?_, fun y => ?_, ?_, by simp [h.sq], fun y hy hne => ?_, ?_, fun y => ?_, fun v' hv' y hy => ?_, fun j u hj hu y hy => ?_, fun v' hv' y hy => ?_⟩
  · rw [List.nodup_append]
    exact ⟨h.nd, by simp, fun a ha b hb => by simp at hb; subst hb; exact fun c => hxq (c ▸ ha)⟩
  · intro y hy
    rw [List.mem_append] at hy
    rcases hy with hy | hy
    · exact h.rg y hy
    · simp at hy; subst hy; exact (hn _ hxe).2
  · rw [List.mem_append]
    by_cases c : y = x
    · subst c; rw [upd_same]; simp; omega
    · rw [upd_other c, h.pos y]; simp [c]
  · by_cases c : y = x
    · subst c; rw [upd_same]; omega
    · rw [upd_other c]; exact h.nn y
  · rw [same s h.sq]; exact h.s0
  · rw [List.mem_append] at hy
    rcases hy with hy | hy
    · obtain ⟨u, hu, h1, h2⟩ := h.one y hy hne
      exact ⟨u, by simp [hu], h1, by rw [same y hy, same u hu]; exact h2⟩
    · simp at hy
      subst hy
      exact ⟨v, by simp [hvq], hxe, by rw [upd_same, same v hvq]⟩
  · rw [List.pairwise_append]
    refine ⟨?_, by simp, fun a ha b hb => ?_⟩
    · exact h.so.imp_of_mem fun {a b} ha hb hab => by rw [same a ha, same b hb]; exact hab
    · simp at hb
      subst hb
      rw [same a ha, upd_same]
      exact h.lim v hv a ha
  · rw [List.length_append]
    by_cases c : y = x
    · subst c
      rw [upd_same]
      have := h.bd v
      simp
      omega
    · rw [upd_other c]
      have := h.bd y
      simp
      omega
  · have hv2 := at' (Nat.le_refl i) v' hv'
    rw [hv] at hv2
    simp only [Option.some.injEq] at hv2
    subst hv2
    rw [same v hvq]
    rw [List.mem_append] at hy
    rcases hy with hy | hy
    · rw [same y hy]; exact h.lim v hv y hy
    · simp at hy; subst hy; rw [upd_same]; exact Int.le_refl _
  · have hu2 := at' (Nat.le_of_lt hj) u hu
    have := h.done j u hj hu2 y hy
    have hyq := (h.pos y).1 this.1
    rw [same y hyq, same u (List.mem_of_getElem? hu2)]
    exact this
  · have hv2 := at' (Nat.le_refl i) v' hv'
    rw [hv] at hv2
    simp only [Option.some.injEq] at hv2
    subst hv2
    rw [same v hvq]
    rw [List.take_add_one, hx, List.mem_append] at hy
    rcases hy with hy | hy
    · have := h.part v hv y hy
      rw [same y ((h.pos y).1 this.1)]
      exact this
    · simp at hy
      subst hy
      rw [upd_same]
      exact ⟨by omega, Int.le_refl _⟩
theorem Bf.next {es : E} {n : Nat} {s : Int} {f : Int → Int} {q : List Int} {i k : Nat} (h : Bf es n s f q i k) {v : Int} (hv : q[i]? = some v) (hk : (adj es v).length ≤ k) : Bf es n s f q (i + 1) 0 := by
  refine ⟨h.nd, h.rg, h.pos, h.nn, h.s0, h.sq, h.one, h.so, h.bd, fun v' hv' x hx => ?_, fun j u hj hu x hx => ?_, fun v' hv' x hx => by simp at hx⟩
  · have h1 := h.lim v hv x hx
    obtain ⟨a1, a2⟩ := List.getElem?_eq_some_iff.1 hv
    obtain ⟨b1, b2⟩ := List.getElem?_eq_some_iff.1 hv'
    have := List.pairwise_iff_getElem.1 h.so i (i + 1) a1 b1 (by omega)
    rw [a2, b2] at this
    omega
  · rcases Nat.lt_or_ge j i with c | c
    · exact h.done j u c hu x hx
    · obtain rfl : j = i := by omega
      rw [hv] at hu
      simp only [Option.some.injEq] at hu
      subst hu
      exact h.part v hv x (by rw [List.take_of_length_le hk]; exact mem_adj.2 hx)

/-- what a search leaves -/
structure Dist (es : E) (n : Nat) (s : Int) (f : Int → Int) : Prop where
  s0 : f s = 1
  nn : ∀ x, 0 ≤ f x
  node : ∀ x, 0 < f x → 0 ≤ x ∧ x < (n : Int)
  bd : ∀ x, f x ≤ n
  on : ∀ u x, 0 < f u → (u, x) ∈ es → 0 < f x ∧ f x ≤ f u + 1
  of : ∀ x, 0 < f x → x ≠ s → ∃ u, 0 < f u ∧ (u, x) ∈ es ∧ f x = f u + 1
theorem Bf.dist {es : E} {n : Nat} {s : Int} {f : Int → Int} {q : List Int} {i k : Nat} (h : Bf es n s f q i k) (hi : q.length ≤ i) : Dist es n s f := by
  refine ⟨h.s0, h.nn, fun x hx => h.rg x ((h.pos x).1 hx), fun x => ?_, fun u x hu hm => ?_, fun x hx hne => ?_⟩
  · have := h.bd x
    have := h.len
    omega
  · obtain ⟨j, hj⟩ := List.getElem?_of_mem ((h.pos u).1 hu)
    have := (List.getElem?_eq_some_iff.1 hj).1
    exact h.done j u (by omega) hj x hm
  · obtain ⟨u, hu, h1, h2⟩ := h.one x ((h.pos x).1 hx) hne
    exact ⟨u, (h.pos u).2 hu, h1, h2⟩
theorem Dist.reach {es : E} {n : Nat} {s : Int} {f : Int → Int} (h : Dist es n s f) {x : Int} : 0 < f x ↔ Reach es s x := by
  constructor
  · have key : ∀ (m : Nat) (x : Int), f x = (m : Int) + 1 → Reach es s x := by
      intro m
      induction m with
      | zero =>
        intro x hx
        by_cases c : x = s
        · subst c; exact .refl
        · obtain ⟨u, hu, -, h2⟩ := h.of x (by omega) c
          omega
      | succ m ih =>
        intro x hx
        by_cases c : x = s
        · subst c; exact .refl
        · obtain ⟨u, hu, hm, h2⟩ := h.of x (by omega) c
          exact (ih u (by omega)).step hm
    intro hx
    exact key (f x - 1).toNat x (by omega)
  · intro hx
    exact hx.closed (S := fun y => 0 < f y) (fun p hp hu => (h.on p.1 p.2 hu hp).1) (by rw [h.s0]; omega)
theorem reach_turn {e : E} {a b : Int} : Reach (fl true e) a b ↔ Reach e b a := by
  have key : ∀ (b1 : Bool) {a b : Int}, Reach (fl b1 e) a b → Reach (fl (!b1) e) b a := by
    intro b1 a b h
    induction h with
    | refl => exact .refl
    | step _ hm ih =>
      refine Reach.trans (Reach.edge ?_) ih
      rw [mem_fl] at hm ⊢
      cases b1 <;> exact hm
  exact ⟨fun h => key true h, fun h => key false h⟩

end Go.Proofs.Ytndcbhgdlaemaaa.Gr
