/-
  Days of grace and counted days in parts (plain).
-/
import Derived.Test.YtmlelmknbddkjaaDoorLawC
namespace Go.Proofs.YtmlelmknbddkjaaDoor
open Go.RowKit

theorem cntN_step (C : Lists) (k : Nat) (t : Int) : cntN C (k + 1) t = (if isOpen C t then 1 else 0) + cntN C k (t + 1) := rfl
theorem cntN_add (C : Lists) (j : Nat) : ∀ (i : Nat) (s : Int), cntN C (i + j) s = cntN C i s + cntN C j (s + i)
  | 0, s => by simp [cntN]
  | i + 1, s => by
    rw [show i + 1 + j = (i + j) + 1 by omega, cntN_step, cntN_step, cntN_add C j i (s + 1), show s + 1 + (i : Int) = s + ((i + 1 : Nat) : Int) by omega]
    omega
theorem cntN_none {C : Lists} : ∀ (j : Nat) (s : Int), (∀ x, s ≤ x → x < s + j → isOpen C x = false) → cntN C j s = 0
  | 0, _, _ => rfl
  | j + 1, s, hs => by
    rw [cntN_step, hs s (Int.le_refl _) (by omega), cntN_none j (s + 1) (fun x hx1 hx2 => hs x (by omega) (by omega))]
    rfl
theorem plusN_two (C : Lists) : ∀ (k : Nat) (t : Int), valid t = true → (∃ u, plusN C k t = (u, 0) ∧ 0 ≤ u ∧ u ≤ 100000 ∧ t ≤ u ∧ (k = 0 → u = t) ∧ (0 < k → t < u ∧ isOpen C u = true) ∧ cntN C (u - t).toNat (t + 1) = k) ∨ plusN C k t = (0, 3)
  | 0, t, h => by
    obtain ⟨h1, h2⟩ := valid_iff.1 h
    refine .inl ⟨t, rfl, h1, h2, Int.le_refl _, fun _ => rfl, fun h => absurd h (Nat.lt_irrefl _), ?_⟩
    rw [Int.sub_self]; rfl
  | k + 1, t, h => by
    obtain ⟨h1, h2⟩ := valid_iff.1 h
    rcases nextV_two C (t + 1) with ⟨u, n1, u1, u2, u3, u4, -, -, u6⟩ | ⟨n1, -⟩
    · have e : plusN C (k + 1) t = plusN C k u := by
        show (if (nextV C (t + 1)).2 = 0 then plusN C k (nextV C (t + 1)).1 else (0, 3)) = _
        rw [n1]; rfl
      rcases plusN_two C k u (valid_yes u3 u4) with ⟨v, e1, v0, v1, v2, v3, v4, v5⟩ | e1
      · refine .inl ⟨v, by rw [e, e1], v0, v1, by omega, fun h => absurd h (Nat.succ_ne_zero _), fun _ => ⟨by omega, ?_⟩, ?_⟩
        · by_cases hk : 0 < k
          · exact (v4 hk).2
          · rw [v3 (by omega)]; exact u2
        · rw [show (v - t).toNat = (u - (t + 1)).toNat + (1 + (v - u).toNat) by omega, cntN_add, cntN_add, cntN_none _ _ (fun x hx1 hx2 => u6 x hx1 (by omega)),
            show t + 1 + ((u - (t + 1)).toNat : Int) = u by omega, show u + ((1 : Nat) : Int) = u + 1 by omega, v5]
          show 0 + ((if isOpen C u = true then 1 else 0) + 0 + k) = _
          rw [u2]
          simp only [if_true]
          omega
      · exact .inr (by rw [e, e1])
    · right
      show (if (nextV C (t + 1)).2 = 0 then plusN C k (nextV C (t + 1)).1 else (0, 3)) = _
      rw [n1]
      rfl
theorem plusN_add (C : Lists) (b : Nat) : ∀ (a : Nat) (t : Int), plusN C (a + b) t = if (plusN C a t).2 = 0 then plusN C b (plusN C a t).1 else (0, 3)
  | 0, t => by rw [Nat.zero_add]; rfl
  | a + 1, t => by
    rw [show a + 1 + b = (a + b) + 1 by omega]
    show (if (nextV C (t + 1)).2 = 0 then plusN C (a + b) (nextV C (t + 1)).1 else (0, 3)) = if (if (nextV C (t + 1)).2 = 0 then plusN C a (nextV C (t + 1)).1 else (0, 3)).2 = 0 then plusN C b (if (nextV C (t + 1)).2 = 0 then plusN C a (nextV C (t + 1)).1 else (0, 3)).1 else (0, 3)
    by_cases c : (nextV C (t + 1)).2 = 0
    · rw [if_pos c, if_pos c]
      exact plusN_add C b a _
    · rw [if_neg c, if_neg c]
      rfl
/-- what the law asks, at the plain functions -/
theorem plus_law {C : Lists} {t a b : Int} (h : valid t = true) (a0 : 0 ≤ a) (a1 : a < 300) (b0 : 0 ≤ b) (b1 : b < 300) :
    (plusV C t a = (0, 3) ∧ plusV C t (a + b) = (0, 3)) ∨
    ∃ u p q, plusV C t a = (u, 0) ∧ plusV C t (a + b) = (p, q) ∧ plusV C u b = (p, q) ∧ 0 ≤ u ∧ u ≤ 100000 ∧ t ≤ u ∧ (a = 0 → u = t) ∧ (0 < a → t < u ∧ openV C u = (true, 0) ∧ countV C (t + 1) u = (a, 0)) := by
  obtain ⟨t0, t1⟩ := valid_iff.1 h
  have e0 : ∀ s n : Int, valid s = true → 0 ≤ n → n < 600 → plusV C s n = plusN C n.toNat s := fun s n h1 h2 h3 => by
    unfold plusV
    rw [if_pos ⟨h1, h2, by omega⟩]
  have e1 := plusN_add C b.toNat a.toNat t
  rw [show a.toNat + b.toNat = (a + b).toNat by omega] at e1
  rcases plusN_two C a.toNat t h with ⟨u, e2, v0, v1, v2, v3, v4, v5⟩ | e2
  · right
    rw [e2, if_pos rfl] at e1
    have hv := valid_yes v0 v1
    refine ⟨u, (plusN C b.toNat u).1, (plusN C b.toNat u).2, by rw [e0 t a h a0 (by omega), e2], by rw [e0 t _ h (by omega) (by omega), e1], by rw [e0 u b hv b0 (by omega)], v0, v1, v2, fun h => v3 (by omega), fun h0 => ?_⟩
    obtain ⟨k1, k2⟩ := v4 (by omega)
    refine ⟨k1, by rw [openV_of hv, k2], ?_⟩
    unfold countV
    rw [if_pos ⟨valid_yes (by omega) (by omega), hv⟩, show u + 1 - (t + 1) = u - t by omega, v5, show ((a.toNat : Nat) : Int) = a by omega]
  · left
    rw [e2] at e1
    rw [e0 t a h a0 (by omega), e0 t (a + b) h (by omega) (by omega), e1]
    exact ⟨e2, rfl⟩

end Go.Proofs.YtmlelmknbddkjaaDoor
