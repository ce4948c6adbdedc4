/-
  The plain mathematics of layer 6: graphs, what is reached, walks and cycles. It imports nothing of the program.
-/
import Derived.Below
namespace Go.Proofs.Ytndcbhgdlaemaaa.Gr

abbrev E := List (Int × Int)
def okE (n : Int) (p : Int × Int) : Bool := decide ((0 ≤ p.1 ∧ p.1 < n) ∧ 0 ≤ p.2 ∧ p.2 < n)
def rightB (n : Int) (e : E) : Bool := decide (0 ≤ n ∧ n ≤ 300) && (decide (e.length ≤ 2000) && e.all (okE n))
theorem right_iff {n : Int} {e : E} : rightB n e = true ↔ (0 ≤ n ∧ n ≤ 300) ∧ e.length ≤ 2000 ∧ ∀ p ∈ e, (0 ≤ p.1 ∧ p.1 < n) ∧ 0 ≤ p.2 ∧ p.2 < n := by
  unfold rightB okE
  rw [Bool.and_eq_true, Bool.and_eq_true, decide_eq_true_iff, decide_eq_true_iff, List.all_eq_true]
  simp only [decide_eq_true_iff]

/-- all nodes -/
def nodes (n : Int) : List Int := (List.range n.toNat).map (fun i : Nat => (i : Int))
theorem nodes_len (n : Int) : (nodes n).length = n.toNat := by unfold nodes; rw [List.length_map, List.length_range]
theorem mem_nodes {n a : Int} : a ∈ nodes n ↔ 0 ≤ a ∧ a < n := by
  unfold nodes
  rw [List.mem_map]
  constructor
  · rintro ⟨i, hi, rfl⟩
    have := List.mem_range.1 hi
    omega
  · rintro ⟨h0, h1⟩
    exact ⟨a.toNat, List.mem_range.2 (by omega), Int.toNat_of_nonneg h0⟩
theorem nodes_get {n : Int} {i : Nat} (h : i < n.toNat) : (nodes n)[i]? = some (i : Int) := by
  unfold nodes
  rw [List.getElem?_map, List.getElem?_range h]
  rfl
theorem nodes_pair (n : Int) : (nodes n).Pairwise (· < ·) := by
  unfold nodes
  rw [List.pairwise_map]
  exact List.pairwise_lt_range.imp (fun h => by omega)
theorem nodes_nodup (n : Int) : (nodes n).Nodup := (nodes_pair n).imp (fun h => by omega)

/-! what is reached -/
inductive Reach (e : E) (a : Int) : Int → Prop
  | refl : Reach e a a
  | step {b c : Int} : Reach e a b → (b, c) ∈ e → Reach e a c
theorem Reach.trans {e : E} {a b c : Int} (h : Reach e a b) (k : Reach e b c) : Reach e a c := by
  induction k with
  | refl => exact h
  | step _ hm ih => exact ih.step hm
theorem Reach.edge {e : E} {a b : Int} (h : (a, b) ∈ e) : Reach e a b := Reach.refl.step h
theorem Reach.mono {e e' : E} (he : ∀ p ∈ e, p ∈ e') {a b : Int} (h : Reach e a b) : Reach e' a b := by
  induction h with
  | refl => exact .refl
  | step _ hm ih => exact ih.step (he _ hm)
/-- what is closed under the edges has all that is reached -/
theorem Reach.closed {e : E} {S : Int → Prop} (hS : ∀ p ∈ e, S p.1 → S p.2) {a b : Int} (ha : S a) (h : Reach e a b) : S b := by
  induction h with
  | refl => exact ha
  | step _ hm ih => exact hS _ hm ih
theorem Reach.node {n : Int} {e : E} (hr : rightB n e = true) {a b : Int} (ha : 0 ≤ a ∧ a < n) (h : Reach e a b) : 0 ≤ b ∧ b < n := by
  have hp := (right_iff.1 hr).2.2
  exact h.closed (S := fun x => 0 ≤ x ∧ x < n) (fun p hm _ => (hp p hm).2) ha

open Classical in
noncomputable def reachB (e : E) (a b : Int) : Bool := decide (Reach e a b)
theorem reachB_iff {e : E} {a b : Int} : reachB e a b = true ↔ Reach e a b := by unfold reachB; exact @decide_eq_true_iff _ (Classical.propDecidable _)
def nodeB (n a : Int) : Bool := decide (0 ≤ a ∧ a < n)
noncomputable def reach (n : Int) (e : E) (a : Int) : List Bool := if rightB n e = true ∧ nodeB n a = true then (nodes n).map (reachB e a) else []
theorem reach_of {n : Int} {e : E} {a : Int} (h : rightB n e = true) (ha : 0 ≤ a ∧ a < n) : reach n e a = (nodes n).map (reachB e a) := if_pos ⟨h, decide_eq_true ha⟩
theorem reach_not {n : Int} {e : E} {a : Int} (h : ¬ (rightB n e = true ∧ nodeB n a = true)) : reach n e a = [] := if_neg h
theorem reach_len {n : Int} {e : E} {a : Int} (h : rightB n e = true) (ha : 0 ≤ a ∧ a < n) : (reach n e a).length = n.toNat := by rw [reach_of h ha, List.length_map, nodes_len]
theorem reach_get {n : Int} {e : E} {a : Int} (h : rightB n e = true) (ha : 0 ≤ a ∧ a < n) {i : Nat} (hi : i < n.toNat) : (reach n e a)[i]? = some (reachB e a i) := by
  rw [reach_of h ha, List.getElem?_map, nodes_get hi]
  rfl

/-! walks -/
def nx : List Int → Int → Int
  | [], b => b
  | c :: _, _ => c
/-- each node has an edge to the next one, the last one to b -/
def Path (e : E) : List Int → Int → Prop
  | [], _ => True
  | a :: t, b => (a, nx t b) ∈ e ∧ Path e t b
theorem nx_app (p q : List Int) (b : Int) : nx (p ++ q) b = nx p (nx q b) := by cases p <;> rfl
theorem path_app {e : E} {p q : List Int} {b : Int} : Path e (p ++ q) b ↔ Path e p (nx q b) ∧ Path e q b := by
  induction p with
  | nil => simp [Path]
  | cons a t ih => simp only [List.cons_append, Path, ih, nx_app, and_assoc]
/-- a closed walk -/
def Closed (e : E) (l : List Int) : Prop := l ≠ [] ∧ Path e l (nx l 0)
theorem nx_ne {l : List Int} (h : l ≠ []) (a b : Int) : nx l a = nx l b := by
  cases l with
  | nil => exact absurd rfl h
  | cons => rfl
/-- .. turned -/
theorem Closed.turn {e : E} {p q : List Int} (h : Closed e (p ++ q)) : Closed e (q ++ p) := by
  by_cases hp : p = []
  · subst hp; simpa using h
  by_cases hq : q = []
  · subst hq; simpa using h
  obtain ⟨h0, h1⟩ := h
  refine ⟨by simp [hq], ?_⟩
  rw [nx_app] at h1 ⊢
  rw [path_app] at h1 ⊢
  rw [nx_ne hp _ 0] at h1
  rw [nx_ne hq _ 0] at h1 ⊢
  rw [nx_ne hp _ 0]
  exact ⟨h1.2, h1.1⟩
/-- the part between two places of one node -/
theorem Closed.part {e : E} {p q r : List Int} {a : Int} (h : Closed e (p ++ (a :: q ++ a :: r))) : Closed e (a :: q) := by
  have h1 := (path_app.1 (path_app.1 h.2).2).1
  exact ⟨by simp, h1⟩
theorem dup_parts : ∀ {l : List Int}, ¬ l.Nodup → ∃ (a : Int) (p q r : List Int), l = p ++ (a :: q ++ a :: r)
  | [], h => absurd List.nodup_nil h
  | x :: t, h => by
    by_cases hx : x ∈ t
    · obtain ⟨q, r, rfl⟩ := List.append_of_mem hx
      exact ⟨x, [], q, r, by simp⟩
    · have : ¬ t.Nodup := fun ht => h (List.nodup_cons.2 ⟨hx, ht⟩)
      obtain ⟨a, p, q, r, rfl⟩ := dup_parts this
      exact ⟨a, x :: p, q, r, by simp⟩
/-- a walk as a relation of what is reached -/
theorem Path.reach {e : E} : ∀ {l : List Int} {b : Int}, Path e l b → ∀ x ∈ l, Reach e x b
  | [], _, _, _, hx => absurd hx (by simp)
  | a :: t, b, h, x, hx => by
    have ih := Path.reach (l := t) (b := b) h.2
    have ha : Reach e a b := by
      cases t with
      | nil => exact Reach.edge h.1
      | cons c s => exact (Reach.edge h.1).trans (ih c (by simp))
    rcases List.mem_cons.1 hx with rfl | hx
    · exact ha
    · exact ih x hx
/-- a reached node by a walk -/
theorem Reach.path {e : E} {a b : Int} (h : Reach e a b) : ∃ l, Path e l b ∧ nx l b = a := by
  induction h with
  | refl => exact ⟨[], trivial, rfl⟩
  | @step b c h1 h2 ih =>
    obtain ⟨l, hp, hn⟩ := ih
    refine ⟨l ++ [b], path_app.2 ⟨hp, h2, trivial⟩, ?_⟩
    rw [nx_app]
    exact hn
theorem Path.mono {e e' : E} (he : ∀ p ∈ e, p ∈ e') : ∀ {l : List Int} {b : Int}, Path e l b → Path e' l b
  | [], _, _ => trivial
  | _ :: _, _, h => ⟨he _ h.1, Path.mono he h.2⟩
theorem Path.node {n : Int} {e : E} (hr : rightB n e = true) : ∀ {l : List Int} {b : Int}, Path e l b → ∀ x ∈ l, 0 ≤ x ∧ x < n
  | [], _, _, _, hx => absurd hx (by simp)
  | _ :: _, _, h, x, hx => by
    rcases List.mem_cons.1 hx with rfl | hx
    · exact ((right_iff.1 hr).2.2 _ h.1).1
    · exact Path.node hr h.2 x hx
/-- different nodes are not more than there are -/
theorem nodup_len {n : Int} {l : List Int} (h : l.Nodup) (hn : ∀ x ∈ l, 0 ≤ x ∧ x < n) : l.length ≤ n.toNat := by
  have := List.Nodup.length_le_of_subset h (l₂ := nodes n) (fun x hx => mem_nodes.2 (hn x hx))
  rwa [nodes_len] at this

/-! the least of several lists -/
def lexLt : List Int → List Int → Prop
  | a :: s, b :: t => a < b ∨ (a = b ∧ lexLt s t)
  | _, _ => False
theorem lexLt_irrefl : ∀ l : List Int, ¬ lexLt l l
  | [], h => h
  | _ :: s, h => h.elim (fun h => Int.lt_irrefl _ h) (fun h => lexLt_irrefl s h.2)
theorem lexLt_total : ∀ {l m : List Int}, l.length = m.length → l = m ∨ lexLt l m ∨ lexLt m l
  | [], [], _ => .inl rfl
  | a :: s, b :: t, h => by
    rcases Int.lt_trichotomy a b with c | rfl | c
    · exact .inr (.inl (.inl c))
    · rcases lexLt_total (l := s) (m := t) (by simpa using h) with rfl | c | c
      · exact .inl rfl
      · exact .inr (.inl (.inr ⟨rfl, c⟩))
      · exact .inr (.inr (.inr ⟨rfl, c⟩))
    · exact .inr (.inr (.inl c))
theorem least_nat (P : Nat → Prop) : ∀ n, P n → ∃ m, P m ∧ ∀ k, P k → m ≤ k := by
  intro n
  induction n using Nat.strongRecOn with
  | ind n ih =>
    intro h
    by_cases c : ∃ k, k < n ∧ P k
    · obtain ⟨k, hk, hp⟩ := c
      exact ih k hk hp
    · exact ⟨n, h, fun k hk => by
        apply Classical.byContradiction
        intro hc
        exact c ⟨k, by omega, hk⟩⟩
theorem least_list : ∀ (m : Nat) (P : List Int → Prop), (∃ l, P l ∧ l.length = m) → (∀ l, P l → ∀ x ∈ l, 0 ≤ x) → ∃ l, P l ∧ l.length = m ∧ ∀ d, P d → d.length = m → ¬ lexLt d l
  | 0, P, ⟨l, h, hl⟩, _ => ⟨l, h, hl, fun d _ hd c => by
      have e1 := List.eq_nil_of_length_eq_zero hl
      have e2 := List.eq_nil_of_length_eq_zero hd
      subst e1 e2
      exact c⟩
  | m + 1, P, ⟨l, h, hl⟩, hpos => by
    cases l with
    | nil => simp at hl
    | cons a t =>
      have ha := hpos _ h a (by simp)
      obtain ⟨k, ⟨t', ht', hl'⟩, hk⟩ := least_nat (fun k => ∃ t, P ((k : Int) :: t) ∧ t.length = m) a.toNat ⟨t, by rw [Int.toNat_of_nonneg ha]; exact h, by simpa using hl⟩
      obtain ⟨s, hs, hsl, hmin⟩ := least_list m (fun t => P ((k : Int) :: t)) ⟨t', ht', hl'⟩ (fun l hl x hx => hpos _ hl x (by simp [hx]))
      refine ⟨(k : Int) :: s, hs, by simp [hsl], fun d hd hdl c => ?_⟩
      cases d with
      | nil => simp at hdl
      | cons b r =>
        have hb := hpos _ hd b (by simp)
        rcases c with c | ⟨rfl, c⟩
        · have := hk b.toNat ⟨r, by rw [Int.toNat_of_nonneg hb]; exact hd, by simpa using hdl⟩
          omega
        · exact hmin r hd (by simpa using hdl) c

/-! the cycle -/
def IsCyc (e : E) (c : List Int) : Prop := Closed e c ∧ (∀ d, Closed e d → c.length ≤ d.length) ∧ ∀ d, Closed e d → d.length = c.length → ¬ lexLt d c
open Classical in
noncomputable def cycle (n : Int) (e : E) : List Int := if rightB n e = true then (if h : ∃ c, IsCyc e c then Classical.choose h else []) else []
theorem IsCyc.unique {e : E} {c d : List Int} (h : IsCyc e c) (k : IsCyc e d) : c = d := by
  have e1 : c.length = d.length := Nat.le_antisymm (h.2.1 d k.1) (k.2.1 c h.1)
  rcases lexLt_total e1 with r | r | r
  · exact r
  · exact absurd r (k.2.2 c h.1 e1)
  · exact absurd r (h.2.2 d k.1 e1.symm)
theorem isCyc_of_closed {n : Int} {e : E} (hr : rightB n e = true) {d : List Int} (h : Closed e d) : ∃ c, IsCyc e c := by
  obtain ⟨m, ⟨l, hl, hm⟩, hmin⟩ := least_nat (fun k => ∃ l, Closed e l ∧ l.length = k) d.length ⟨d, h, rfl⟩
  obtain ⟨c, hc, hcm, hlex⟩ := least_list m (Closed e) ⟨l, hl, hm⟩ (fun l h x hx => (h.2.node hr x hx).1)
  exact ⟨c, hc, fun d hd => by rw [hcm]; exact hmin _ ⟨d, hd, rfl⟩, fun d hd hdl => hlex d hd (by omega)⟩
theorem cycle_none {n : Int} {e : E} (hr : rightB n e = true) : cycle n e = [] ↔ ∀ d, ¬ Closed e d := by
  unfold cycle
  rw [if_pos hr]
  constructor
  · intro h d hd
    have hex := isCyc_of_closed hr hd
    rw [dif_pos hex] at h
    exact (Classical.choose_spec hex).1.1 h
  · intro h
    rw [dif_neg (fun ⟨c, hc⟩ => h c hc.1)]
theorem cycle_is {n : Int} {e : E} (hr : rightB n e = true) {c : List Int} (h : IsCyc e c) : cycle n e = c := by
  unfold cycle
  have hex : ∃ c, IsCyc e c := ⟨c, h⟩
  rw [if_pos hr, dif_pos hex]
  exact (Classical.choose_spec hex).unique h
theorem cycle_some {n : Int} {e : E} (hr : rightB n e = true) (h : cycle n e ≠ []) : IsCyc e (cycle n e) := by
  by_cases hex : ∃ c, IsCyc e c
  · obtain ⟨c, hc⟩ := hex
    rw [cycle_is hr hc]
    exact hc
  · exact absurd ((cycle_none hr).2 (fun d hd => hex (isCyc_of_closed hr hd))) h
theorem cycle_wrong {n : Int} {e : E} (hr : rightB n e = false) : cycle n e = [] := by unfold cycle; rw [if_neg (by rw [hr]; exact Bool.false_ne_true)]
theorem IsCyc.nodup {e : E} {c : List Int} (h : IsCyc e c) : c.Nodup := by
  apply Classical.byContradiction
  intro hn
  obtain ⟨a, p, q, r, rfl⟩ := dup_parts hn
  have := h.2.1 _ h.1.part
  simp at this
  omega
theorem IsCyc.first {e : E} {a : Int} {t : List Int} (h : IsCyc e (a :: t)) : ∀ x ∈ t, a < x := by
  intro x hx
  have hne : a ≠ x := fun e => by subst e; exact (List.nodup_cons.1 h.nodup).1 hx
  apply Classical.byContradiction
  intro hc
  obtain ⟨p, q, rfl⟩ := List.append_of_mem hx
  have h1 : Closed e ((a :: p) ++ (x :: q)) := by simpa using h.1
  refine h.2.2 _ h1.turn (by simp; omega) ?_
  exact .inl (by omega)
theorem IsCyc.len {n : Int} {e : E} (hr : rightB n e = true) {c : List Int} (h : IsCyc e c) : c.length ≤ n.toNat := nodup_len h.nodup (h.1.2.node hr)

/-- a closed walk by its places -/
theorem path_get {e : E} : ∀ {l : List Int} {b : Int}, Path e l b → ∀ i x, l[i]? = some x → (x, (l[i + 1]?).getD b) ∈ e
  | [], _, _, i, x, h => by simp at h
  | a :: t, b, hp, 0, x, h => by
    simp at h
    subst h
    cases t with
    | nil => exact hp.1
    | cons c s => exact hp.1
  | a :: t, b, hp, i + 1, x, h => by
    have := path_get hp.2 i x (by simpa using h)
    simpa using this
theorem path_of {e : E} : ∀ {l : List Int} {b : Int}, (∀ i x, l[i]? = some x → (x, (l[i + 1]?).getD b) ∈ e) → Path e l b
  | [], _, _ => trivial
  | a :: t, b, h => by
    refine ⟨?_, path_of fun i x hx => ?_⟩
    · have := h 0 a rfl
      cases t with
      | nil => exact this
      | cons c s => exact this
    · have := h (i + 1) x (by simpa using hx)
      simpa using this
theorem closed_iff {e : E} {l : List Int} (h0 : l ≠ []) : Closed e l ↔ ∀ i x y, l[i]? = some x → l[(i + 1) % l.length]? = some y → (x, y) ∈ e := by
  have hl : 0 < l.length := List.length_pos_iff.2 h0
  have hh : nx l 0 = l[0] := by cases l with | nil => exact absurd rfl h0 | cons => rfl
  have key : ∀ i x, l[i]? = some x → l[(i + 1) % l.length]? = some ((l[i + 1]?).getD (nx l 0)) := by
    intro i x hx
    have hi : i < l.length := (List.getElem?_eq_some_iff.1 hx).1
    by_cases c : i + 1 < l.length
    · rw [Nat.mod_eq_of_lt c, List.getElem?_eq_getElem c]
      rfl
    · have e1 : i + 1 = l.length := by omega
      rw [e1, Nat.mod_self, List.getElem?_eq_getElem hl, List.getElem?_eq_none (Nat.le_refl _), hh]
      rfl
  constructor
  · intro h i x y hx hy
    have := path_get h.2 i x hx
    rw [key i x hx] at hy
    simp only [Option.some.injEq] at hy
    rw [hy] at this
    exact this
  · intro h
    exact ⟨h0, path_of fun i x hx => h i x _ hx (key i x hx)⟩

end Go.Proofs.Ytndcbhgdlaemaaa.Gr
