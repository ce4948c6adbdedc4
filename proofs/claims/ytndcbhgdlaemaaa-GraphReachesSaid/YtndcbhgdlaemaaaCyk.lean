/-
  What the program's shortestThrough and Cycle find; plain.
-/
import Derived.Test.YtndcbhgdlaemaaaBfs
namespace Go.Proofs.Ytndcbhgdlaemaaa.Gr

/-- the least of the positive numbers, 0 if there is none -/
def mins (f : Int → Int) : List Int → Int → Int
  | [], m => m
  | x :: t, m => mins f t (if 0 < f x ∧ (m = 0 ∨ f x < m) then f x else m)
theorem mins_app (f : Int → Int) : ∀ (l t : List Int) (m : Int), mins f (l ++ t) m = mins f t (mins f l m)
  | [], _, _ => rfl
  | x :: l, t, m => by simp only [List.cons_append, mins]; exact mins_app f l t _
theorem mins_spec (f : Int → Int) (hf : ∀ x, 0 ≤ f x) : ∀ (l : List Int) (m : Int), 0 ≤ m → 0 ≤ mins f l m ∧ (mins f l m = 0 ↔ m = 0 ∧ ∀ x ∈ l, f x = 0) ∧ (m ≠ 0 → mins f l m ≤ m) ∧ (∀ x ∈ l, 0 < f x → mins f l m ≤ f x) ∧ (mins f l m ≠ 0 → mins f l m = m ∨ ∃ x ∈ l, f x = mins f l m)
  | [], m, hm => by simp [mins, hm]
  | x :: t, m, hm => by
    simp only [mins]
    have hx := hf x
    by_cases c : 0 < f x ∧ (m = 0 ∨ f x < m)
    · rw [if_pos c]
      obtain ⟨h0, h1, h2, h3, h4⟩ := mins_spec f hf t (f x) hx
      have h2' := h2 (by omega)
      refine ⟨h0, ⟨fun h => ?_, fun h => ?_⟩, fun h => by omega, fun y hy hp => ?_, fun h => ?_⟩
      · have := h1.1 h; omega
      · have := h.2 x (by simp); omega
      · rcases List.mem_cons.1 hy with rfl | hy
        · exact h2'
        · exact h3 y hy hp
      · rcases h4 h with h5 | ⟨y, hy, h5⟩
        · exact .inr ⟨x, by simp, h5.symm⟩
        · exact .inr ⟨y, by simp [hy], h5⟩
    · rw [if_neg c]
      obtain ⟨h0, h1, h2, h3, h4⟩ := mins_spec f hf t m hm
      refine ⟨h0, ⟨fun h => ?_, fun h => ?_⟩, h2, fun y hy hp => ?_, fun h => ?_⟩
      · obtain ⟨k1, k2⟩ := h1.1 h
        exact ⟨k1, fun y hy => (List.mem_cons.1 hy).elim (fun e => by subst e; omega) (k2 y)⟩
      · exact h1.2 ⟨h.1, fun y hy => h.2 y (by simp [hy])⟩
      · rcases List.mem_cons.1 hy with rfl | hy
        · have : m ≠ 0 := fun h => c ⟨hp, .inl h⟩
          have := h2 this
          omega
        · exact h3 y hy hp
      · rcases h4 h with h5 | ⟨y, hy, h5⟩
        · exact .inl h5
        · exact .inr ⟨y, by simp [hy], h5⟩

/-- the first neighbour at this distance -/
def pick (e : E) (f : Int → Int) (a m : Int) : Int := ((adj e a).find? (fun x => decide (f x = m))).getD 0
theorem pick_spec {e : E} {f : Int → Int} {a m : Int} (h : ∃ y, (a, y) ∈ e ∧ f y = m) : (a, pick e f a m) ∈ e ∧ f (pick e f a m) = m ∧ (∀ y, (a, y) ∈ e → f y = m → pick e f a m ≤ y) ∧ (adj e a).find? (fun x => decide (f x = m)) = some (pick e f a m) := by
  cases hp : (adj e a).find? (fun x => decide (f x = m)) with
  | none =>
    obtain ⟨y, h1, h2⟩ := h
    have := List.find?_eq_none.1 hp y (mem_adj.2 h1)
    simp [h2] at this
  | some x =>
    have hx : pick e f a m = x := by unfold pick; rw [hp]; rfl
    obtain ⟨hf, s, t, hst, hs⟩ := List.find?_eq_some_iff_append.1 hp
    have hm : x ∈ adj e a := by rw [hst]; simp
    rw [hx]
    refine ⟨mem_adj.1 hm, of_decide_eq_true hf, fun y hy hfy => ?_, rfl⟩
    have hy' := mem_adj.2 hy
    rw [hst, List.mem_append, List.mem_cons] at hy'
    rcases hy' with k | rfl | k
    · have := hs y k
      simp [hfy] at this
    · exact Int.le_refl _
    · have hso := adj_sorted e a
      rw [hst, List.pairwise_append, List.pairwise_cons] at hso
      exact hso.2.1.1 y k
/-- the way back: m more nodes -/
def tl (e : E) (f : Int → Int) : Nat → Int → List Int
  | 0, _ => []
  | m + 1, a => pick e f a ((m : Int) + 2) :: tl e f m (pick e f a ((m : Int) + 2))
theorem tl_len (e : E) (f : Int → Int) : ∀ (m : Nat) (a : Int), (tl e f m a).length = m
  | 0, _ => rfl
  | m + 1, a => by simp only [tl, List.length_cons, tl_len e f m]
theorem path_dist {e : E} {n : Nat} {v : Int} {f : Int → Int} (h : Dist (fl true e) n v f) : ∀ {l : List Int}, Path e l v → 0 < f (nx l v) ∧ f (nx l v) ≤ l.length + 1
  | [], _ => ⟨by show 0 < f v; rw [h.s0]; omega, by show f v ≤ _; rw [h.s0]; simp⟩
  | a :: t, hp => by
    obtain ⟨h1, h2⟩ := path_dist h hp.2
    obtain ⟨h3, h4⟩ := h.on (nx t v) a h1 (mem_fl.2 hp.1)
    refine ⟨h3, ?_⟩
    show f a ≤ ((t.length + 1 : Nat) : Int) + 1
    omega
theorem tl_spec {e : E} {n : Nat} {v : Int} {f : Int → Int} (h : Dist (fl true e) n v f) : ∀ (m : Nat) (a : Int), (∃ y, (a, y) ∈ e ∧ f y = (m : Int) + 1) → (∀ y, (a, y) ∈ e → 0 < f y → (m : Int) + 1 ≤ f y) →
    Path e (a :: tl e f m a) v ∧ ∀ p, p.length = m → Path e (a :: p) v → ¬ lexLt p (tl e f m a)
  | 0, a, ⟨y, h1, h2⟩, _ => by
    have hy : y = v := Classical.byContradiction fun c => by
      obtain ⟨u, hu, -, h3⟩ := h.of y (by omega) c
      omega
    subst hy
    exact ⟨⟨h1, trivial⟩, fun p hp _ => by rw [List.eq_nil_of_length_eq_zero hp]; exact fun c => c⟩
  | m + 1, a, hex, hmin => by
    have hex' : ∃ y, (a, y) ∈ e ∧ f y = (m : Int) + 2 := by
      obtain ⟨y, h1, h2⟩ := hex
      exact ⟨y, h1, by omega⟩
    obtain ⟨h1, h2, h3, -⟩ := pick_spec hex'
    simp only [tl]
    generalize pick e f a ((m : Int) + 2) = x at h1 h2 h3 ⊢
    have hxv : x ≠ v := fun c => by rw [c, h.s0] at h2; omega
    obtain ⟨u, hu, hm, h4⟩ := h.of x (by omega) hxv
    obtain ⟨ih1, ih2⟩ := tl_spec h m x ⟨u, mem_fl.1 hm, by omega⟩ (fun y hy hp => by
      have := (h.on y x hp (mem_fl.2 hy)).2
      omega)
    refine ⟨⟨h1, ih1⟩, fun p hp hpath => ?_⟩
    cases p with
    | nil => simp at hp
    | cons y t =>
      have hyl : t.length = m := by simpa using hp
      obtain ⟨k1, k2⟩ := path_dist h hpath.2
      change 0 < f y at k1
      change f y ≤ ((t.length + 1 : Nat) : Int) + 1 at k2
      have k3 := hmin y hpath.1 k1
      have hyx := h3 y hpath.1 (by omega)
      rintro (c | ⟨c, c2⟩)
      · omega
      · subst c
        exact ih2 t hyl hpath.2 c2
/-- the shortest cycle through a node -/
def thr (e : E) (f : Int → Int) (v : Int) : List Int := if mins f (adj e v) 0 = 0 then [] else v :: tl e f (mins f (adj e v) 0 - 1).toNat v
structure Thr (e : E) (v : Int) (l : List Int) : Prop where
  none : l = [] → ∀ t, ¬ Closed e (v :: t)
  some : l ≠ [] → ∃ t, l = v :: t ∧ Closed e (v :: t) ∧ (∀ d, Closed e (v :: d) → t.length ≤ d.length) ∧ ∀ d, d.length = t.length → Closed e (v :: d) → ¬ lexLt d t
theorem thr_ok {e : E} {n : Nat} {v : Int} {f : Int → Int} (h : Dist (fl true e) n v f) : Thr e v (thr e f v) := by
  obtain ⟨h0, h1, -, h3, h4⟩ := mins_spec f h.nn (adj e v) 0 (Int.le_refl _)
  have low : ∀ d, Closed e (v :: d) → (v, nx d v) ∈ e ∧ 0 < f (nx d v) ∧ f (nx d v) ≤ (d.length : Int) + 1 := fun d hd => ⟨hd.2.1, path_dist h hd.2.2⟩
  unfold thr
  generalize mins f (adj e v) 0 = m at h0 h1 h3 h4 ⊢
  by_cases c : m = 0
  · rw [if_pos c]
    refine ⟨fun _ t ht => ?_, fun hn => absurd rfl hn⟩
    obtain ⟨l1, l2, -⟩ := low t ht
    have := (h1.1 c).2 _ (mem_adj.2 l1)
    omega
  · rw [if_neg c]
    refine ⟨fun hn => by simp at hn, fun _ => ?_⟩
    obtain ⟨k, hk⟩ : ∃ k : Nat, m = (k : Int) + 1 := ⟨(m - 1).toNat, by omega⟩
    subst hk
    rw [show ((k : Int) + 1 - 1).toNat = k by omega]
    obtain ⟨y, hy, hfy⟩ := (h4 c).resolve_left c
    obtain ⟨t1, t2⟩ := tl_spec h k v ⟨y, mem_adj.1 hy, hfy⟩ (fun y hy hp => h3 y (mem_adj.2 hy) hp)
    refine ⟨_, rfl, ⟨by simp, t1⟩, fun d hd => ?_, fun d hd hc => t2 d (by rw [hd, tl_len]) hc.2⟩
    obtain ⟨l1, l2, l3⟩ := low d hd
    have := h3 _ (mem_adj.2 l1) l2
    rw [tl_len]
    omega

/-! the best of all nodes -/
def better (c b : List Int) : Bool := decide (c ≠ []) && (decide (b = []) || decide (c.length < b.length))
def best (g : Nat → List Int) : Nat → List Int
  | 0 => []
  | k + 1 => if better (g k) (best g k) = true then g k else best g k
theorem better_iff {c b : List Int} : better c b = true ↔ c ≠ [] ∧ (b = [] ∨ c.length < b.length) := by simp [better]
theorem best_spec (g : Nat → List Int) : ∀ k, (best g k = [] ↔ ∀ v, v < k → g v = []) ∧ (best g k ≠ [] → ∃ v, v < k ∧ best g k = g v ∧ (∀ u, u < k → g u ≠ [] → (g v).length ≤ (g u).length) ∧ ∀ u, u < v → g u ≠ [] → (g v).length < (g u).length)
  | 0 => by simp [best]
  | k + 1 => by
    obtain ⟨h1, h2⟩ := best_spec g k
    simp only [best]
    by_cases c : better (g k) (best g k) = true
    · rw [if_pos c]
      obtain ⟨c1, c2⟩ := better_iff.1 c
      refine ⟨⟨fun h => absurd h c1, fun h => h k (by omega)⟩, fun _ => ⟨k, by omega, rfl, fun u hu hg => ?_, fun u hu hg => ?_⟩⟩
      · rcases Nat.lt_or_ge u k with d | d
        · rcases c2 with c2 | c2
          · exact absurd (h1.1 c2 u d) hg
          · by_cases d2 : best g k = []
            · exact absurd (h1.1 d2 u d) hg
            · obtain ⟨v, -, e1, e2, -⟩ := h2 d2
              have := e2 u d hg
              rw [e1] at c2
              omega
        · obtain rfl : u = k := by omega
          exact Nat.le_refl _
      · rcases c2 with c2 | c2
        · exact absurd (h1.1 c2 u hu) hg
        · by_cases d2 : best g k = []
          · exact absurd (h1.1 d2 u hu) hg
          · obtain ⟨v, -, e1, e2, -⟩ := h2 d2
            have := e2 u hu hg
            rw [e1] at c2
            omega
    · rw [if_neg c]
      have c' : g k = [] ∨ best g k ≠ [] ∧ (best g k).length ≤ (g k).length := by
        rw [better_iff] at c
        by_cases d : g k = []
        · exact .inl d
        · refine .inr ⟨fun e => c ⟨d, .inl e⟩, ?_⟩
          apply Classical.byContradiction
          intro e
          exact c ⟨d, .inr (by omega)⟩
      refine ⟨⟨fun h v hv => ?_, fun h => h1.2 fun v hv => h v (by omega)⟩, fun hne => ?_⟩
      · rcases Nat.lt_or_ge v k with d | d
        · exact h1.1 h v d
        · obtain rfl : v = k := by omega
          rcases c' with c' | c'
          · exact c'
          · exact absurd h c'.1
      · obtain ⟨v, hv, e1, e2, e3⟩ := h2 hne
        refine ⟨v, by omega, e1, fun u hu hg => ?_, e3⟩
        rcases Nat.lt_or_ge u k with d | d
        · exact e2 u d hg
        · obtain rfl : u = k := by omega
          rcases c' with c' | c'
          · exact absurd c' hg
          · rw [← e1]; exact c'.2
theorem best_cycle {n : Nat} {e : E} (hr : rightB (n : Int) e = true) {g : Nat → List Int} (hg : ∀ v, v < n → Thr e (v : Int) (g v)) : best g n = cycle (n : Int) e := by
  have head : ∀ d, Closed e d → ∃ (v : Nat) (t : List Int), v < n ∧ d = (v : Int) :: t := by
    intro d hd
    cases d with
    | nil => exact absurd rfl hd.1
    | cons a t =>
      have := hd.2.node hr a (by simp)
      exact ⟨a.toNat, t, by omega, by rw [Int.toNat_of_nonneg this.1]⟩
  obtain ⟨h1, h2⟩ := best_spec g n
  by_cases c : best g n = []
  · rw [c]
    refine ((cycle_none hr).2 fun d hd => ?_).symm
    obtain ⟨v, t, hv, rfl⟩ := head d hd
    exact (hg v hv).none (h1.1 c v hv) t hd
  · obtain ⟨v, hv, e1, e2, e3⟩ := h2 c
    have hne : g v ≠ [] := by rw [← e1]; exact c
    obtain ⟨t, k1, k2, k3, k4⟩ := (hg v hv).some hne
    rw [e1]
    refine (cycle_is hr ⟨by rw [k1]; exact k2, fun d hd => ?_, fun d hd hl => ?_⟩).symm
    · obtain ⟨u, s, hu, rfl⟩ := head d hd
      have hgu : g u ≠ [] := fun c2 => (hg u hu).none c2 s hd
      obtain ⟨t', j1, j2, j3, j4⟩ := (hg u hu).some hgu
      have := e2 u hu hgu
      have := j3 s hd
      rw [j1] at *
      simp only [List.length_cons] at *
      omega
    · obtain ⟨u, s, hu, rfl⟩ := head d hd
      have hgu : g u ≠ [] := fun c2 => (hg u hu).none c2 s hd
      obtain ⟨t', j1, j2, j3, j4⟩ := (hg u hu).some hgu
      have hs := j3 s hd
      rw [k1]
      rintro (q | ⟨q, q2⟩)
      · have h5 := e3 u (by omega) hgu
        rw [j1] at h5
        rw [List.length_cons] at h5 hl
        omega
      · obtain rfl : u = v := by omega
        rw [k1] at hl
        simp only [List.length_cons] at hl
        exact k4 s (by omega) hd q2

end Go.Proofs.Ytndcbhgdlaemaaa.Gr
