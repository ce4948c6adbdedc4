/-
  The cycle, by trying walks of each length, as a search that can be calculated.
-/
import Derived.Test.YtndcbhgdlaemaaaGra
namespace Go.Proofs.Ytndcbhgdlaemaaa.Gr

def edgeB (e : E) (a b : Int) : Bool := e.any (fun p => decide (p.1 = a ∧ p.2 = b))
theorem edgeB_iff {e : E} {a b : Int} : edgeB e a b = true ↔ (a, b) ∈ e := by
  unfold edgeB
  rw [List.any_eq_true]
  constructor
  · rintro ⟨⟨x, y⟩, hm, hd⟩
    obtain ⟨rfl, rfl⟩ := of_decide_eq_true hd
    exact hm
  · intro h
    exact ⟨(a, b), h, decide_eq_true ⟨rfl, rfl⟩⟩
theorem edgeB_not {e : E} {a b : Int} : edgeB e a b = false ↔ (a, b) ∉ e := by rw [← Bool.not_eq_true, edgeB_iff]

/-- the first that is not empty -/
def firstNe {α : Type} (f : α → List Int) : List α → List Int
  | [] => []
  | b :: t => if f b = [] then firstNe f t else f b
theorem firstNe_nil {α : Type} {f : α → List Int} : ∀ {l : List α}, firstNe f l = [] ↔ ∀ b ∈ l, f b = []
  | [] => by simp [firstNe]
  | b :: t => by
    unfold firstNe
    by_cases h : f b = []
    · rw [if_pos h, firstNe_nil (l := t)]
      simp [h]
    · rw [if_neg h]
      constructor
      · exact fun k => absurd k h
      · exact fun k => k b (by simp)
theorem firstNe_some {α : Type} {f : α → List Int} : ∀ {l : List α}, firstNe f l ≠ [] → ∃ b s t, l = s ++ b :: t ∧ (∀ x ∈ s, f x = []) ∧ firstNe f l = f b
  | [], h => absurd rfl h
  | b :: t, h => by
    unfold firstNe at h ⊢
    by_cases c : f b = []
    · rw [if_pos c] at h ⊢
      obtain ⟨x, s, r, rfl, h1, h2⟩ := firstNe_some h
      exact ⟨x, b :: s, r, rfl, fun y hy => (List.mem_cons.1 hy).elim (fun e => by rw [e]; exact c) (h1 y), h2⟩
    · rw [if_neg c]
      exact ⟨b, [], t, rfl, by simp, rfl⟩
theorem firstNe_app {α : Type} {f : α → List Int} : ∀ {s t : List α}, firstNe f (s ++ t) = if firstNe f s = [] then firstNe f t else firstNe f s
  | [], _ => by simp [firstNe]
  | b :: s, t => by
    show (if f b = [] then firstNe f (s ++ t) else f b) = _
    have e : firstNe f (b :: s) = if f b = [] then firstNe f s else f b := rfl
    rw [e]
    by_cases c : f b = []
    · rw [if_pos c, if_pos c]
      exact firstNe_app
    · rw [if_neg c, if_neg c, if_neg c]

/-- the numbers after a, below n -/
def after (a n : Int) : List Int := (List.range (n - (a + 1)).toNat).map (fun i : Nat => a + 1 + (i : Int))
theorem mem_after {a n b : Int} : b ∈ after a n ↔ a < b ∧ b < n := by
  unfold after
  rw [List.mem_map]
  constructor
  · rintro ⟨i, hi, rfl⟩
    have := List.mem_range.1 hi
    omega
  · rintro ⟨h0, h1⟩
    exact ⟨(b - (a + 1)).toNat, List.mem_range.2 (by omega), by omega⟩
theorem after_pair (a n : Int) : (after a n).Pairwise (· < ·) := by
  unfold after
  rw [List.pairwise_map]
  exact List.pairwise_lt_range.imp (fun h => by omega)

def lastOf (l : List Int) : Int := l.getLast?.getD 0
/-- the least closed walk that begins with l and has m more nodes, all greater than the first one -/
def clos (n : Int) (e : E) : Nat → List Int → List Int
  | 0, l => if edgeB e (lastOf l) (nx l 0) then l else []
  | m + 1, l => firstNe (fun b => if edgeB e (lastOf l) b then clos n e m (l ++ [b]) else []) (after (nx l 0) n)
def cycA (n : Int) (e : E) (m : Nat) : List Int := firstNe (fun a => clos n e m [a]) (nodes n)
def cycC (n : Int) (e : E) : List Int := if rightB n e = true then firstNe (cycA n e) (List.range n.toNat) else []

/-- what may follow x, so that the walk closes at a -/
def Good (n : Int) (e : E) (a x : Int) (m : Nat) (s : List Int) : Prop := s.length = m ∧ (∀ y ∈ s, a < y ∧ y < n) ∧ Path e (x :: s) a
theorem lexLt_app {p u v : List Int} : lexLt (p ++ u) (p ++ v) ↔ lexLt u v := by
  induction p with
  | nil => rfl
  | cons a t ih =>
    simp only [List.cons_append, lexLt, ih, Int.lt_irrefl, false_or, true_and]
theorem clos_spec {n : Int} {e : E} {a : Int} : ∀ (m : Nat) (p : List Int) (x : Int), nx (p ++ [x]) 0 = a →
    (clos n e m (p ++ [x]) = [] ∧ ∀ s, ¬ Good n e a x m s) ∨ ∃ s, clos n e m (p ++ [x]) = p ++ x :: s ∧ Good n e a x m s ∧ ∀ d, Good n e a x m d → ¬ lexLt d s
  | 0, p, x, ha => by
    have hl : lastOf (p ++ [x]) = x := by unfold lastOf; simp
    unfold clos
    rw [ha, hl]
    by_cases c : edgeB e x a = true
    · rw [if_pos c]
      refine .inr ⟨[], rfl, ⟨rfl, by simp, edgeB_iff.1 c, trivial⟩, fun d hd h => ?_⟩
      have := List.eq_nil_of_length_eq_zero hd.1
      subst this
      exact h
    · rw [if_neg c]
      refine .inl ⟨rfl, fun s hs => ?_⟩
      have := List.eq_nil_of_length_eq_zero hs.1
      subst this
      exact c (edgeB_iff.2 hs.2.2.1)
  | m + 1, p, x, ha => by
    have hl : lastOf (p ++ [x]) = x := by unfold lastOf; simp
    have hnx : ∀ b, nx ((p ++ [x]) ++ [b]) 0 = a := fun b => by
      rw [nx_app, nx_ne (by simp) _ 0]
      exact ha
    unfold clos
    rw [ha, hl]
    obtain ⟨F, hF⟩ : ∃ F : Int → List Int, F = fun b => if edgeB e x b then clos n e m (p ++ [x] ++ [b]) else [] := ⟨_, rfl⟩
    rw [← hF]
    have hFb : ∀ b, (F b = [] ∧ ∀ s, a < b → b < n → ¬ Good n e a x (m + 1) (b :: s)) ∨ ∃ s, F b = p ++ x :: b :: s ∧ edgeB e x b = true ∧ Good n e a b m s ∧ ∀ d, Good n e a b m d → ¬ lexLt d s := by
      intro b
      rw [hF]
      simp only
      by_cases c : edgeB e x b = true
      · rw [if_pos c]
        rcases clos_spec m (p ++ [x]) b (hnx b) with ⟨h1, h2⟩ | ⟨s, h1, h2, h3⟩
        · exact .inl ⟨h1, fun s _ _ hs => h2 s ⟨by have := hs.1; simpa using this, fun y hy => hs.2.1 y (by simp [hy]), hs.2.2.2⟩⟩
        · exact .inr ⟨s, by rw [h1]; simp, c, h2, h3⟩
      · rw [if_neg c]
        exact .inl ⟨rfl, fun s _ _ hs => c (edgeB_iff.2 hs.2.2.1)⟩
    by_cases hn : firstNe F (after a n) = []
    · refine .inl ⟨hn, fun s hs => ?_⟩
      cases s with
      | nil => have := hs.1; simp at this
      | cons b s =>
        have hb := hs.2.1 b (by simp)
        have h1 := firstNe_nil.1 hn b (mem_after.2 hb)
        rcases hFb b with ⟨-, h2⟩ | ⟨s', h2, -⟩
        · exact h2 s hb.1 hb.2 hs
        · rw [h1] at h2
          simp at h2
    · obtain ⟨b, u, v, huv, hu, hb⟩ := firstNe_some hn
      rw [hb] at hn ⊢
      rcases hFb b with ⟨h1, -⟩ | ⟨s, h1, hc, h2, h3⟩
      · exact absurd h1 hn
      have hbm : a < b ∧ b < n := mem_after.1 (by rw [huv]; simp)
      refine .inr ⟨b :: s, by rw [h1], ⟨by simp [h2.1], fun y hy => ?_, ?_⟩, fun d hd hlt => ?_⟩
      · rcases List.mem_cons.1 hy with rfl | hy
        · exact hbm
        · exact h2.2.1 y hy
      · exact ⟨edgeB_iff.1 hc, h2.2.2⟩
      · cases d with
        | nil => exact hlt
        | cons c t =>
          have hcm := hd.2.1 c (by simp)
          rcases hlt with hlt | ⟨rfl, hlt⟩
          · have hcu : c ∈ u := by
              have h4 : c ∈ after a n := mem_after.2 hcm
              rw [huv, List.mem_append, List.mem_cons] at h4
              rcases h4 with h4 | rfl | h4
              · exact h4
              · exact absurd hlt (Int.lt_irrefl _)
              · have hp := after_pair a n
                rw [huv, List.pairwise_append, List.pairwise_cons] at hp
                have := hp.2.1.1 c h4
                omega
            rcases hFb c with ⟨-, h5⟩ | ⟨s', h5, -⟩
            · exact h5 t hcm.1 hcm.2 hd
            · rw [hu c hcu] at h5
              simp at h5
          · exact h3 t ⟨by have := hd.1; simpa using this, fun y hy => hd.2.1 y (by simp [hy]), hd.2.2.2⟩ hlt

theorem clos_one {n : Int} {e : E} (m : Nat) (a : Int) : (clos n e m [a] = [] ∧ ∀ s, ¬ Good n e a a m s) ∨ ∃ s, clos n e m [a] = a :: s ∧ Good n e a a m s ∧ ∀ d, Good n e a a m d → ¬ lexLt d s :=
  clos_spec m [] a rfl
theorem good_closed {n : Int} {e : E} {a : Int} {m : Nat} {s : List Int} (h : Good n e a a m s) : Closed e (a :: s) := ⟨by simp, h.2.2⟩
theorem cyc_good {n : Int} {e : E} (hr : rightB n e = true) {a : Int} {s : List Int} (h : IsCyc e (a :: s)) : Good n e a a s.length s ∧ a ∈ nodes n ∧ s.length < n.toNat := by
  have hn := h.1.2.node hr
  refine ⟨⟨rfl, fun y hy => ⟨h.first y hy, (hn y (by simp [hy])).2⟩, h.1.2⟩, mem_nodes.2 (hn a (by simp)), ?_⟩
  have := h.len hr
  simp at this
  omega
theorem cycle_eq (n : Int) (e : E) : cycle n e = cycC n e := by
  unfold cycC
  by_cases hr : rightB n e = true
  case neg =>
    rw [if_neg hr]
    exact cycle_wrong (by simpa using hr)
  rw [if_pos hr]
  by_cases hex : ∃ c, IsCyc e c
  · obtain ⟨c, hc⟩ := hex
    cases c with
    | nil => exact absurd rfl hc.1.1
    | cons a s =>
      obtain ⟨hg, ha, hs⟩ := cyc_good hr hc
      have hA : ∀ m, cycA n e m ≠ [] → ∃ b d, cycA n e m = b :: d ∧ Good n e b b m d ∧ (∀ d', Good n e b b m d' → ¬ lexLt d' d) ∧ ∀ x ∈ nodes n, x < b → ∀ d', ¬ Good n e x x m d' := by
        intro m hm
        obtain ⟨b, u, v, huv, hu, hb⟩ := firstNe_some hm
        have hb' : cycA n e m = clos n e m [b] := hb
        rw [hb'] at hm ⊢
        rcases clos_one (n := n) (e := e) m b with ⟨h1, -⟩ | ⟨d, h1, h2, h3⟩
        · exact absurd h1 hm
        refine ⟨b, d, h1, h2, h3, fun x hx hxb d' hd' => ?_⟩
        have hxu : x ∈ u := by
          rw [huv, List.mem_append, List.mem_cons] at hx
          rcases hx with h4 | rfl | h4
          · exact h4
          · exact absurd hxb (Int.lt_irrefl _)
          · have hp := nodes_pair n
            rw [huv, List.pairwise_append, List.pairwise_cons] at hp
            have := hp.2.1.1 x h4
            omega
        rcases clos_one (n := n) (e := e) m x with ⟨-, h5⟩ | ⟨d'', h5, -⟩
        · exact h5 d' hd'
        · have := hu x hxu
          rw [h5] at this
          cases this
      have hne : cycA n e s.length ≠ [] := by
        intro h0
        have h1 := firstNe_nil.1 h0 a ha
        rcases clos_one (n := n) (e := e) s.length a with ⟨-, h5⟩ | ⟨d'', h5, -⟩
        · exact h5 s hg
        · rw [h5] at h1
          cases h1
      have hF : firstNe (cycA n e) (List.range n.toNat) ≠ [] := fun h0 => hne (firstNe_nil.1 h0 _ (List.mem_range.2 hs))
      obtain ⟨m, u, v, huv, hu, hm⟩ := firstNe_some hF
      rw [hm] at hF ⊢
      obtain ⟨b, d, h1, h2, h3, h4⟩ := hA m hF
      have hms : m = s.length := by
        have h5 := hc.2.1 _ (good_closed h2)
        simp only [List.length_cons, h2.1] at h5
        apply Classical.byContradiction
        intro hmn
        have h6 : s.length ∈ u := by
          have h7 : s.length ∈ List.range n.toNat := List.mem_range.2 hs
          rw [huv, List.mem_append, List.mem_cons] at h7
          rcases h7 with h7 | h7 | h7
          · exact h7
          · exact absurd h7.symm hmn
          · have hp := List.pairwise_lt_range (n := n.toNat)
            rw [huv, List.pairwise_append, List.pairwise_cons] at hp
            have := hp.2.1.1 _ h7
            omega
        exact hne (hu _ h6)
      subst hms
      rw [h1, cycle_is hr hc]
      have hba : ¬ a < b := fun h => h4 a ha h s hg
      have hcl := good_closed h2
      have hlen : (b :: d).length = (a :: s).length := by simp [h2.1]
      have n1 := hc.2.2 _ hcl hlen
      rcases lexLt_total hlen with r | r | r
      · exact r.symm
      · exact absurd r n1
      · rcases r with r | ⟨rfl, r⟩
        · exact absurd r hba
        · exact absurd r (h3 s hg)
  · have h1 : cycle n e = [] := by unfold cycle; rw [if_pos hr, dif_neg hex]
    rw [h1]
    symm
    apply firstNe_nil.2
    intro m _
    apply firstNe_nil.2
    intro a _
    rcases clos_one (n := n) (e := e) m a with ⟨h5, -⟩ | ⟨d, h5, h6, -⟩
    · exact h5
    · exact absurd (isCyc_of_closed hr (good_closed h6)) hex

end Go.Proofs.Ytndcbhgdlaemaaa.Gr
