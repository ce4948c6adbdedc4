/-
  What the laws of layer 5 ask, at the plain functions.
-/
import Derived.Test.YtdijhpcnlbjdaaaMon
namespace Go.Proofs.Ytdijhpcnlbjdaaa.Mon

theorem cap_ok {n a : Int} (h : cap n = (a, 0)) : a = n ∧ n ≤ 1099511627776 := by
  unfold cap at h
  split at h
  · simp at h
  · rename_i c
    exact ⟨(Prod.mk.inj h).1.symm, by omega⟩
theorem cap_of {n : Int} (h : n ≤ 1099511627776) : cap n = (n, 0) := if_neg (by omega)
theorem interest_ok {s p f t b a : Int} (h : interest s p f t b = (a, 0)) : intP s p f t b ∧ a = s * (p * (t - f)) / (1000 * b) ∧ 0 ≤ a ∧ a ≤ 1099511627776 := by
  unfold interest at h
  split at h
  · rename_i c
    obtain ⟨h1, h2⟩ := cap_ok h
    refine ⟨c, h1, ?_, by omega⟩
    rw [h1]
    obtain ⟨⟨s0, -⟩, p0, -, -, -, ft, hb⟩ := c
    exact Int.ediv_nonneg (nonneg s0 p0 (by omega)) (by omega)
  · simp at h
theorem discount_ok {s p n c : Int} (h : discount s p n = (c, 0)) : disP s p n ∧ c = ceil (s * (p * n)) ∧ 0 ≤ c ∧ c ≤ s := by
  unfold discount at h
  split at h
  · rename_i hd
    split at h
    · simp at h
    · have h1 := (Prod.mk.inj h).1
      refine ⟨hd, h1.symm, ?_, by omega⟩
      rw [← h1]
      obtain ⟨⟨s0, -⟩, p0, -, n0, -⟩ := hd
      have := nonneg s0 p0 n0
      unfold ceil
      omega
  · simp at h
theorem interest_of {s p f t b a : Int} (h : intP s p f t b) (e : s * (p * (t - f)) / (1000 * b) = a) (ha : a ≤ 1099511627776) : interest s p f t b = (a, 0) := by
  unfold interest
  rw [if_pos h, e, cap_of ha]
theorem discount_of {s p n c : Int} (h : disP s p n) (e : ceil (s * (p * n)) = c) (hc : c ≤ s) : discount s p n = (c, 0) := by
  unfold discount
  rw [if_pos h, e, if_neg (by omega)]

/-- MoneyRises -/
theorem rise_law {s s' p p' n n' a e b f c g d k : Int} (h1 : s ≤ s') (h2 : p ≤ p') (h3 : n ≤ n') (ha : interest s p 0 n 360 = (a, e)) (hb : interest s' p' 0 n' 360 = (b, f)) (hc : discount s p n = (c, g)) (hd : discount s' p' n' = (d, k)) :
    (e = 0 → f = 0 → a ≤ b) ∧ (g = 0 → k = 0 → c ≤ d) ∧ (g = 0 → e = 0 ∧ (c = a ∨ c = a + 1)) ∧ (k = 0 → f = 0 ∧ (d = b ∨ d = b + 1)) := by
  have key : ∀ {s p n a e c g : Int}, interest s p 0 n 360 = (a, e) → discount s p n = (c, g) → g = 0 → e = 0 ∧ (c = a ∨ c = a + 1) := by
    intro s p n a e c g ha hc hg
    subst hg
    obtain ⟨⟨⟨s0, s1⟩, p0, p1, n0, n1⟩, e1, c0, c1⟩ := discount_ok hc
    have hn := nonneg s0 p0 n0
    have e2 : n - 0 = n := by omega
    generalize hx : s * (p * n) = x at *
    have e3 : x / (1000 * 360) ≤ 1099511627776 := by
      unfold ceil at e1
      omega
    have := interest_of (s := s) (p := p) (f := 0) (t := n) (b := 360) ⟨⟨s0, s1⟩, p0, p1, ⟨by omega, by omega⟩, ⟨by omega, by omega⟩, by omega, by omega⟩ (by rw [e2, hx]) e3
    rw [ha] at this
    obtain ⟨h4, h5⟩ := Prod.mk.inj this
    refine ⟨h5, ?_⟩
    rw [h4, e1]
    unfold ceil
    omega
  refine ⟨?_, ?_, key ha hc, key hb hd⟩
  · intro he hf
    subst he hf
    obtain ⟨⟨⟨s0, -⟩, p0, -, -, -, n0, -⟩, e1, -⟩ := interest_ok ha
    obtain ⟨-, e2, -⟩ := interest_ok hb
    rw [e1, e2]
    have := rises s0 h1 p0 h2 (show 0 ≤ n - 0 by omega) (show n - 0 ≤ n' - 0 by omega)
    exact Int.ediv_le_ediv (by omega) this
  · intro hg hk
    subst hg hk
    obtain ⟨⟨⟨s0, -⟩, p0, -, n0, -⟩, e1, -⟩ := discount_ok hc
    obtain ⟨-, e2, -⟩ := discount_ok hd
    have := rises s0 h1 p0 h2 n0 h3
    rw [e1, e2]
    unfold ceil
    omega

/-- MoneyParts: the interest of a sum in two parts -/
theorem int_sum {s t p f u b W : Int} (hs : 0 ≤ s) (ht : 0 ≤ t) (h : interest (s + t) p f u b = (W, 0)) :
    ∃ A B, interest s p f u b = (A, 0) ∧ interest t p f u b = (B, 0) ∧ 0 ≤ A ∧ A ≤ 1099511627776 ∧ 0 ≤ B ∧ B ≤ 1099511627776 ∧ 0 ≤ W ∧ W ≤ 1099511627776 ∧ W - 1 ≤ A + B ∧ A + B ≤ W := by
  obtain ⟨⟨⟨s0, s1⟩, p0, p1, hf, hu, hfu, hb⟩, e, w0, w1⟩ := interest_ok h
  have hk : 0 ≤ p * (u - f) := Int.mul_nonneg p0 (by omega)
  rw [Int.add_mul] at e
  obtain ⟨h1, h2⟩ := floors (s * (p * (u - f))) (t * (p * (u - f))) (1000 * b) (by omega)
  rw [← e] at h1 h2
  have a0 : 0 ≤ s * (p * (u - f)) / (1000 * b) := Int.ediv_nonneg (Int.mul_nonneg hs hk) (by omega)
  have b0 : 0 ≤ t * (p * (u - f)) / (1000 * b) := Int.ediv_nonneg (Int.mul_nonneg ht hk) (by omega)
  exact ⟨_, _, interest_of ⟨⟨hs, by omega⟩, p0, p1, hf, hu, hfu, hb⟩ rfl (by omega), interest_of ⟨⟨ht, by omega⟩, p0, p1, hf, hu, hfu, hb⟩ rfl (by omega), a0, by omega, b0, by omega, w0, w1, h1, h2⟩
/-- .. and of a period in two parts -/
theorem int_time {s p f m u b W : Int} (hf : f ≤ m) (hm : m ≤ u) (h : interest s p f u b = (W, 0)) :
    ∃ A B, interest s p f m b = (A, 0) ∧ interest s p m u b = (B, 0) ∧ 0 ≤ A ∧ A ≤ 1099511627776 ∧ 0 ≤ B ∧ B ≤ 1099511627776 ∧ 0 ≤ W ∧ W ≤ 1099511627776 ∧ W - 1 ≤ A + B ∧ A + B ≤ W := by
  obtain ⟨⟨⟨s0, s1⟩, p0, p1, ⟨f0, f1⟩, ⟨u0, u1⟩, hfu, hb⟩, e, w0, w1⟩ := interest_ok h
  have e2 : s * (p * (u - f)) = s * (p * (m - f)) + s * (p * (u - m)) := by rw [← Int.mul_add, ← Int.mul_add]; congr 2; omega
  rw [e2] at e
  obtain ⟨h1, h2⟩ := floors (s * (p * (m - f))) (s * (p * (u - m))) (1000 * b) (by omega)
  rw [← e] at h1 h2
  have a0 : 0 ≤ s * (p * (m - f)) / (1000 * b) := Int.ediv_nonneg (nonneg s0 p0 (by omega)) (by omega)
  have b0 : 0 ≤ s * (p * (u - m)) / (1000 * b) := Int.ediv_nonneg (nonneg s0 p0 (by omega)) (by omega)
  exact ⟨_, _, interest_of ⟨⟨s0, s1⟩, p0, p1, ⟨f0, f1⟩, ⟨by omega, by omega⟩, hf, hb⟩ rfl (by omega), interest_of ⟨⟨s0, s1⟩, p0, p1, ⟨by omega, by omega⟩, ⟨u0, u1⟩, hm, hb⟩ rfl (by omega), a0, by omega, b0, by omega, w0, w1, h1, h2⟩
theorem dis_sum {s t p n A B : Int} (hst : s + t ≤ 1099511627776) (h1 : discount s p n = (A, 0)) (h2 : discount t p n = (B, 0)) :
    ∃ W, discount (s + t) p n = (W, 0) ∧ 0 ≤ A ∧ A ≤ 1099511627776 ∧ 0 ≤ B ∧ B ≤ 1099511627776 ∧ 0 ≤ W ∧ W ≤ 1099511627776 ∧ W ≤ A + B ∧ A + B ≤ W + 1 := by
  obtain ⟨⟨⟨s0, s1⟩, p0, p1, n0, n1⟩, e1, a0, a1⟩ := discount_ok h1
  obtain ⟨⟨⟨t0, t1⟩, -⟩, e2, b0, b1⟩ := discount_ok h2
  obtain ⟨k1, k2⟩ := ceils (s * (p * n)) (t * (p * n))
  rw [← Int.add_mul, ← e1, ← e2] at k1 k2
  have w0 : 0 ≤ ceil ((s + t) * (p * n)) := by
    have := nonneg (show 0 ≤ s + t by omega) p0 n0
    unfold ceil
    omega
  exact ⟨_, discount_of ⟨⟨by omega, hst⟩, p0, p1, n0, n1⟩ rfl (by omega), a0, by omega, b0, by omega, w0, by omega, k1, k2⟩
theorem dis_time {s p m n W : Int} (hm : 0 ≤ m) (hn : 0 ≤ n) (h : discount s p (m + n) = (W, 0)) :
    ∃ A B, discount s p m = (A, 0) ∧ discount s p n = (B, 0) ∧ 0 ≤ A ∧ A ≤ 1099511627776 ∧ 0 ≤ B ∧ B ≤ 1099511627776 ∧ 0 ≤ W ∧ W ≤ 1099511627776 ∧ W ≤ A + B ∧ A + B ≤ W + 1 := by
  obtain ⟨⟨⟨s0, s1⟩, p0, p1, n0, n1⟩, e1, w0, w1⟩ := discount_ok h
  obtain ⟨k1, k2⟩ := ceils (s * (p * m)) (s * (p * n))
  rw [← Int.mul_add, ← Int.mul_add, ← e1] at k1 k2
  have a0 : 0 ≤ ceil (s * (p * m)) := by have := nonneg s0 p0 hm; unfold ceil; omega
  have b0 : 0 ≤ ceil (s * (p * n)) := by have := nonneg s0 p0 hn; unfold ceil; omega
  have am : s * (p * m) ≤ s * (p * (m + n)) := rises s0 (Int.le_refl _) p0 (Int.le_refl _) hm (by omega)
  have bm : s * (p * n) ≤ s * (p * (m + n)) := rises s0 (Int.le_refl _) p0 (Int.le_refl _) hn (by omega)
  have a1 : ceil (s * (p * m)) ≤ W := by rw [e1]; unfold ceil; omega
  have b1 : ceil (s * (p * n)) ≤ W := by rw [e1]; unfold ceil; omega
  exact ⟨_, _, discount_of ⟨⟨s0, s1⟩, p0, p1, hm, by omega⟩ rfl (by omega), discount_of ⟨⟨s0, s1⟩, p0, p1, hn, by omega⟩ rfl (by omega), a0, by omega, b0, by omega, w0, by omega, k1, k2⟩
theorem val_ok {s a b x : Int} (h : val s a b = (x, 0)) : x = s * a / b ∧ x ≤ 1099511627776 := by
  obtain ⟨h1, h2⟩ := cap_ok h
  exact ⟨h1, by omega⟩
theorem val_of {s a b : Int} (h : s * a / b ≤ 1099511627776) : val s a b = (s * a / b, 0) := cap_of h
theorem val_sum {s t a b W : Int} (hs : 0 ≤ s) (ht : 0 ≤ t) (ha : 1 ≤ a) (hb : 1 ≤ b) (h : val (s + t) a b = (W, 0)) :
    ∃ A B, val s a b = (A, 0) ∧ val t a b = (B, 0) ∧ 0 ≤ A ∧ A ≤ 1099511627776 ∧ 0 ≤ B ∧ B ≤ 1099511627776 ∧ 0 ≤ W ∧ W ≤ 1099511627776 ∧ W - 1 ≤ A + B ∧ A + B ≤ W := by
  obtain ⟨e, w1⟩ := val_ok h
  rw [Int.add_mul] at e
  obtain ⟨h1, h2⟩ := floors (s * a) (t * a) b (by omega)
  rw [← e] at h1 h2
  have a0 : 0 ≤ s * a / b := Int.ediv_nonneg (Int.mul_nonneg hs (by omega)) (by omega)
  have b0 : 0 ≤ t * a / b := Int.ediv_nonneg (Int.mul_nonneg ht (by omega)) (by omega)
  exact ⟨_, _, val_of (by omega), val_of (by omega), a0, by omega, b0, by omega, by omega, w1, h1, h2⟩
theorem okR_parts {l : List R} (h : l.all okR = true) {r : R} (hr : r ∈ l) : partP r.n ∧ partP r.d := of_decide_eq_true (List.all_eq_true.1 h r hr)
theorem conv_good {l : List R} {s f t on x : Int} (h : conv l s f t on = (x, 0)) : l.length ≤ 100 ∧ sumP s ∧ dayP on ∧ l.all okR = true ∧
    ((f = t ∧ x = s) ∨ (f ≠ t ∧ ((∃ r, pick l f t on = some r ∧ val s r.n r.d = (x, 0)) ∨ (pick l f t on = none ∧ ∃ r, pick l t f on = some r ∧ val s r.d r.n = (x, 0))))) := by
  unfold conv at h
  split at h
  · rename_i c
    refine ⟨c.1, c.2.1, c.2.2.1, c.2.2.2, ?_⟩
    split at h
    · rename_i ft
      exact .inl ⟨ft, (Prod.mk.inj h).1.symm⟩
    · rename_i ft
      refine .inr ⟨ft, ?_⟩
      split at h
      · rename_i r hr
        exact .inl ⟨r, hr, h⟩
      · rename_i hn
        split at h
        · rename_i r hr
          exact .inr ⟨hn, r, hr, h⟩
        · simp at h
  · simp at h
theorem conv_val {l : List R} {s f t on : Int} (h : l.length ≤ 100 ∧ sumP s ∧ dayP on ∧ l.all okR = true) : conv l s f t on = if f = t then (s, 0) else match pick l f t on with
      | some r => val s r.n r.d
      | none => match pick l t f on with
        | some r => val s r.d r.n
        | none => (0, 4) := if_pos h
theorem conv_sum {l : List R} {s t f u on W : Int} (hs : 0 ≤ s) (ht : 0 ≤ t) (h : conv l (s + t) f u on = (W, 0)) :
    ∃ A B, conv l s f u on = (A, 0) ∧ conv l t f u on = (B, 0) ∧ 0 ≤ A ∧ A ≤ 1099511627776 ∧ 0 ≤ B ∧ B ≤ 1099511627776 ∧ 0 ≤ W ∧ W ≤ 1099511627776 ∧ W - 1 ≤ A + B ∧ A + B ≤ W := by
  obtain ⟨g1, g2, g3, g4, hc⟩ := conv_good h
  rw [conv_val ⟨g1, ⟨hs, by omega⟩, g3, g4⟩, conv_val ⟨g1, ⟨ht, by omega⟩, g3, g4⟩]
  rcases hc with ⟨e, rfl⟩ | ⟨e, ⟨r, hr, hv⟩ | ⟨hn, r, hr, hv⟩⟩
  · rw [if_pos e, if_pos e]
    exact ⟨s, t, rfl, rfl, hs, by omega, ht, by omega, by omega, by omega, by omega, by omega⟩
  · rw [if_neg e, if_neg e, hr]
    obtain ⟨p1, p2⟩ := okR_parts g4 (pick_mem hr).1
    exact val_sum hs ht p1.1 p2.1 hv
  · rw [if_neg e, if_neg e, hn, hr]
    obtain ⟨p1, p2⟩ := okR_parts g4 (pick_mem hr).1
    exact val_sum hs ht p2.1 p1.1 hv

end Go.Proofs.Ytdijhpcnlbjdaaa.Mon
