/-
  Open days counted in parts; one closed day more (plain).
-/
import Derived.Test.YtmlelmknbddkjaaDoorPlusL
namespace Go.Proofs.YtmlelmknbddkjaaDoor
open Go.RowKit

/-- the city with one more closed day -/
def lessC (C : Lists) (x : Int) : Lists := ⟨C.r, C.f, C.s ++ [x]⟩
theorem isOpen_less (C : Lists) (x t : Int) : isOpen (lessC C x) t = (isOpen C t && !(t == x)) := by
  unfold isOpen lessC hasB
  simp only [List.contains_append, List.contains_cons, List.contains_nil, Bool.or_false, Bool.not_or, Bool.and_assoc]
theorem cntN_less (C : Lists) (x : Int) : ∀ (k : Nat) (t : Int), cntN (lessC C x) k t + (if isOpen C x = true ∧ t ≤ x ∧ x < t + k then 1 else 0) = cntN C k t
  | 0, t => by
    rw [if_neg (by omega)]
    rfl
  | k + 1, t => by
    have ih := cntN_less C x k (t + 1)
    rw [cntN_step, cntN_step, isOpen_less]
    by_cases e : t = x
    · subst e
      have e0 : ¬ (isOpen C t = true ∧ t + 1 ≤ t ∧ t < t + 1 + (k : Int)) := by omega
      rw [if_neg e0] at ih
      have e3 : (isOpen C t = true ∧ t ≤ t ∧ t < t + ((k + 1 : Nat) : Int)) ↔ isOpen C t = true := ⟨fun h => h.1, fun h => ⟨h, Int.le_refl _, by omega⟩⟩
      simp only [e3, beq_self_eq_true, Bool.not_true, Bool.and_false, Bool.false_eq_true, if_false]
      omega
    · have e1 : (t == x) = false := by simp [e]
      rw [e1]
      have e2 : (isOpen C x = true ∧ t ≤ x ∧ x < t + ((k + 1 : Nat) : Int)) ↔ (isOpen C x = true ∧ t + 1 ≤ x ∧ x < t + 1 + (k : Int)) := by
        constructor
        · rintro ⟨h1, h2, h3⟩; exact ⟨h1, by omega, by omega⟩
        · rintro ⟨h1, h2, h3⟩; exact ⟨h1, by omega, by omega⟩
      simp only [e2, Bool.not_false, Bool.and_true]
      rw [← ih]
      omega
/-- what the law asks, at the plain functions -/
theorem count_parts {C : Lists} {a b m : Int} (ha : valid a = true) (hb : valid b = true) (h1 : a ≤ m) (h2 : m ≤ b) :
    ∃ p q : Int, countV C a b = (p + q, 0) ∧ countV C a m = (p, 0) ∧ 0 ≤ p ∧ p ≤ 200000 ∧ 0 ≤ q ∧ q ≤ 200000 ∧ (m = b → q = 0) ∧ (m < b → countV C (m + 1) b = (q, 0)) := by
  obtain ⟨a0, a1⟩ := valid_iff.1 ha
  obtain ⟨b0, b1⟩ := valid_iff.1 hb
  have hle : ∀ (k : Nat) (t : Int), cntN C k t ≤ k := by
    intro k
    induction k with
    | zero => intro t; exact Nat.le_refl _
    | succ k ih =>
      intro t
      have := ih (t + 1)
      rw [cntN_step]
      split <;> omega
  have e := cntN_add C (b - m).toNat (m + 1 - a).toNat a
  rw [show (m + 1 - a).toNat + (b - m).toNat = (b + 1 - a).toNat by omega, show a + ((m + 1 - a).toNat : Int) = m + 1 by omega] at e
  have l1 := hle (m + 1 - a).toNat a
  have l2 := hle (b - m).toNat (m + 1)
  have hm := valid_yes (show (0 : Int) ≤ m by omega) (by omega)
  refine ⟨(cntN C (m + 1 - a).toNat a : Nat), (cntN C (b - m).toNat (m + 1) : Nat), ?_, ?_, by omega, by omega, by omega, by omega, fun h => ?_, fun h => ?_⟩
  · unfold countV
    rw [if_pos ⟨ha, hb⟩, e]
    congr 1
  · unfold countV
    rw [if_pos ⟨ha, hm⟩]
  · subst h
    rw [Int.sub_self]
    rfl
  · unfold countV
    rw [if_pos ⟨valid_yes (by omega) (by omega), hb⟩, show b + 1 - (m + 1) = b - m by omega]
/-- the open day, one more closed day, and the count without it -/
theorem count_less {C : Lists} {a b x p : Int} (ha : valid a = true) (hb : valid b = true) (hab : a ≤ b) (hp : countV C a b = (p, 0)) :
    (∃ g f : Int, ∃ o : Bool, openV C x = (o, f) ∧ (f = 0 ∨ f = 3) ∧ (f = 3 → o = false) ∧ countV (lessC C x) a b = (g, 0) ∧ 0 ≤ p ∧ p ≤ 200000 ∧
      ((f = 0 ∧ o = true ∧ a ≤ x ∧ x ≤ b ∧ g = p - 1) ∨ (¬ (f = 0 ∧ o = true ∧ a ≤ x ∧ x ≤ b) ∧ g = p))) := by
  obtain ⟨a0, a1⟩ := valid_iff.1 ha
  obtain ⟨b0, b1⟩ := valid_iff.1 hb
  have e := cntN_less C x (b + 1 - a).toNat a
  have hle : ∀ (k : Nat) (t : Int), cntN C k t ≤ k := by
    intro k
    induction k with
    | zero => intro t; exact Nat.le_refl _
    | succ k ih =>
      intro t
      have := ih (t + 1)
      rw [cntN_step]
      split <;> omega
  have l1 := hle (b + 1 - a).toNat a
  have hp' : ((cntN C (b + 1 - a).toNat a : Nat) : Int) = p := by
    unfold countV at hp
    rw [if_pos ⟨ha, hb⟩] at hp
    exact (Prod.mk.inj hp).1
  have hg : countV (lessC C x) a b = (((cntN (lessC C x) (b + 1 - a).toNat a : Nat) : Int), 0) := by
    unfold countV
    rw [if_pos ⟨ha, hb⟩]
  cases hv : valid x with
  | false =>
    refine ⟨_, 3, false, by unfold openV; rw [hv]; rfl, .inr rfl, fun _ => rfl, hg, by omega, by omega, .inr ⟨by simp, ?_⟩⟩
    rw [if_neg (by rw [isOpen_not hv]; simp)] at e
    omega
  | true =>
    refine ⟨_, 0, isOpen C x, openV_of hv, .inl rfl, fun h => absurd h (by decide), hg, by omega, by omega, ?_⟩
    by_cases c : isOpen C x = true ∧ a ≤ x ∧ x < a + ((b + 1 - a).toNat : Int)
    · rw [if_pos c] at e
      exact .inl ⟨rfl, c.1, c.2.1, by omega, by omega⟩
    · rw [if_neg c] at e
      refine .inr ⟨fun h => c ⟨h.2.1, h.2.2.1, by omega⟩, by omega⟩
theorem countV_none {C : Lists} {a b : Int} (ha : valid a = true) (hb : valid b = true) (h : b < a) : countV C a b = (0, 0) := by
  unfold countV
  rw [if_pos ⟨ha, hb⟩, show (b + 1 - a).toNat = 0 by omega]
  rfl

end Go.Proofs.YtmlelmknbddkjaaDoor
