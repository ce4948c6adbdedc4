/-
  The plain mathematics behind the program's layer 3: fractions given in lowest terms.
-/
import Derived.Test.YtnddfngdlmdmhaaProD
namespace Go.Proofs.Ytnddfngdlmdmhaa
open Rt

theorem gp_give {p q : Int} {neg : Bool} {N D : Nat} (hq : q ≠ 0) (hD : 0 < D) (hc : Nat.gcd N D = 1) (h : (if neg then -(N : Int) else (N : Int)) * q = p * (D : Int)) : gp neg N D = Rt.give p q := by
  have e : low p q = ⟨if neg then -(N : Int) else (N : Int), (D : Int)⟩ := by
    refine low_eq hq (by show (1 : Int) ≤ (D : Int); omega) ?_ h
    show Int.gcd (if neg then -(N : Int) else (N : Int)) (D : Int) = 1
    cases neg
    · simp only [Bool.false_eq_true, if_false, Int.gcd_natCast_natCast]; exact hc
    · simp only [if_true, Int.neg_gcd, Int.gcd_natCast_natCast]; exact hc
  have f : fits ⟨if neg then -(N : Int) else (N : Int), (D : Int)⟩ = decide (N ≤ 1152921504606846976 ∧ D ≤ 1152921504606846976) := by
    unfold fits M
    rw [decide_eq_decide]
    simp only
    cases neg
    · simp only [Bool.false_eq_true, if_false]; omega
    · simp only [if_true]; omega
  unfold gp give
  rw [e, f]
  by_cases c : N ≤ 1152921504606846976 ∧ D ≤ 1152921504606846976
  · rw [if_pos c, decide_eq_true c, if_pos rfl]
  · rw [if_neg c, decide_eq_false c, if_neg (by decide)]

/-- a number is its sign and its size -/
theorem sgn_abs (n : Int) : n = if decide (n < 0) then -(n.natAbs : Int) else (n.natAbs : Int) := by
  by_cases h : n < 0
  · rw [decide_eq_true h, if_pos rfl]; omega
  · rw [decide_eq_false h, if_neg (by decide)]; omega

theorem cross {s t : Bool} {g x y z u : Int} : (if s != t then -(x * z) else x * z) * ((if t then -(g * y) else g * y) * u) = (if s then -(g * x) else g * x) * (y * (z * u)) := by
  cases s <;> cases t <;> simp <;> grind

theorem right_cop {a : R} (h : right a = true) : Nat.gcd a.n.natAbs a.d.natAbs = 1 := (right_iff.1 h).2.2.2.2

theorem make_gp {p q : Int} (hq : q ≠ 0) : gp (decide (p < 0) != decide (q < 0)) (p.natAbs / Nat.gcd p.natAbs q.natAbs) (q.natAbs / Nat.gcd p.natAbs q.natAbs) = Rt.give p q := by
  have hg : 0 < Nat.gcd p.natAbs q.natAbs := Nat.gcd_pos_of_pos_right _ (by omega)
  obtain ⟨x, hx⟩ := Nat.gcd_dvd_left p.natAbs q.natAbs
  obtain ⟨y, hy⟩ := Nat.gcd_dvd_right p.natAbs q.natAbs
  have hgcd : Nat.gcd (p.natAbs / Nat.gcd p.natAbs q.natAbs) (q.natAbs / Nat.gcd p.natAbs q.natAbs) = 1 := Nat.gcd_div_gcd_div_gcd_of_pos_right (by omega)
  have sp := sgn_abs p
  have sq := sgn_abs q
  generalize hG : Nat.gcd p.natAbs q.natAbs = G at *
  have e1 : p.natAbs / G = x := by rw [hx]; exact Nat.mul_div_cancel_left x hg
  have e2 : q.natAbs / G = y := by rw [hy]; exact Nat.mul_div_cancel_left y hg
  rw [e1, e2] at hgcd ⊢
  have hy0 : 0 < y := Nat.pos_of_ne_zero (fun h => by rw [h] at hy; omega)
  refine gp_give hq hy0 hgcd ?_
  have c := cross (s := decide (p < 0)) (t := decide (q < 0)) (g := G) (x := x) (y := y) (z := 1) (u := 1)
  simp only [Int.mul_one] at c
  rw [hx, Int.natCast_mul] at sp
  rw [hy, Int.natCast_mul] at sq
  rw [← sp, ← sq] at c
  exact c

theorem mul_gp {a b : R} (ha : right a = true) (hb : right b = true) :
    gp (decide (a.n < 0) != decide (b.n < 0)) (a.n.natAbs / Nat.gcd a.n.natAbs b.d.natAbs * (b.n.natAbs / Nat.gcd b.n.natAbs a.d.natAbs)) (b.d.natAbs / Nat.gcd a.n.natAbs b.d.natAbs * (a.d.natAbs / Nat.gcd b.n.natAbs a.d.natAbs)) = Rt.mul a b := by
  have pa := pos ha
  have pb := pos hb
  have ca := right_cop ha
  have cb := right_cop hb
  have hg : 0 < Nat.gcd a.n.natAbs b.d.natAbs := Nat.gcd_pos_of_pos_right _ (by omega)
  have hh : 0 < Nat.gcd b.n.natAbs a.d.natAbs := Nat.gcd_pos_of_pos_right _ (by omega)
  obtain ⟨x, hx⟩ := Nat.gcd_dvd_left a.n.natAbs b.d.natAbs
  obtain ⟨y, hy⟩ := Nat.gcd_dvd_right a.n.natAbs b.d.natAbs
  obtain ⟨z, hz⟩ := Nat.gcd_dvd_left b.n.natAbs a.d.natAbs
  obtain ⟨u, hu⟩ := Nat.gcd_dvd_right b.n.natAbs a.d.natAbs
  have g1 : Nat.gcd (a.n.natAbs / Nat.gcd a.n.natAbs b.d.natAbs) (b.d.natAbs / Nat.gcd a.n.natAbs b.d.natAbs) = 1 := Nat.gcd_div_gcd_div_gcd_of_pos_right (by omega)
  have g2 : Nat.gcd (b.n.natAbs / Nat.gcd b.n.natAbs a.d.natAbs) (a.d.natAbs / Nat.gcd b.n.natAbs a.d.natAbs) = 1 := Nat.gcd_div_gcd_div_gcd_of_pos_right (by omega)
  have sa := sgn_abs a.n
  have sb := sgn_abs b.n
  have da : a.d = (a.d.natAbs : Int) := by omega
  have db : b.d = (b.d.natAbs : Int) := by omega
  have hmul : Rt.mul a b = Rt.give (a.n * b.n) (a.d * b.d) := by unfold Rt.mul; rw [two_right ha hb]
  rw [hmul]
  generalize Nat.gcd a.n.natAbs b.d.natAbs = G at *
  generalize Nat.gcd b.n.natAbs a.d.natAbs = H at *
  have e1 : a.n.natAbs / G = x := by rw [hx]; exact Nat.mul_div_cancel_left x hg
  have e2 : b.d.natAbs / G = y := by rw [hy]; exact Nat.mul_div_cancel_left y hg
  have e3 : b.n.natAbs / H = z := by rw [hz]; exact Nat.mul_div_cancel_left z hh
  have e4 : a.d.natAbs / H = u := by rw [hu]; exact Nat.mul_div_cancel_left u hh
  rw [e1, e2] at g1
  rw [e3, e4] at g2
  rw [e1, e2, e3, e4]
  have hy0 : 0 < y := Nat.pos_of_ne_zero (fun h => by rw [h] at hy; omega)
  have hu0 : 0 < u := Nat.pos_of_ne_zero (fun h => by rw [h] at hu; omega)
  have g3 : Nat.Coprime x u := Nat.Coprime.coprime_dvd_left ⟨G, by rw [hx, Nat.mul_comm]⟩ (Nat.Coprime.coprime_dvd_right ⟨H, by rw [hu, Nat.mul_comm]⟩ ca)
  have g4 : Nat.Coprime z y := Nat.Coprime.coprime_dvd_left ⟨H, by rw [hz, Nat.mul_comm]⟩ (Nat.Coprime.coprime_dvd_right ⟨G, by rw [hy, Nat.mul_comm]⟩ cb)
  refine gp_give (mul_ne (ne ha) (ne hb)) (Nat.mul_pos hy0 hu0) ?_ ?_
  · exact Nat.Coprime.mul_left (Nat.Coprime.mul_right g1 g3) (Nat.Coprime.mul_right g4 g2)
  · rw [hx, Int.natCast_mul] at sa
    rw [hz, Int.natCast_mul] at sb
    rw [hu, Int.natCast_mul] at da
    rw [hy, Int.natCast_mul] at db
    generalize decide (a.n < 0) = s at *
    generalize decide (b.n < 0) = t at *
    rw [sa, sb, da, db]
    simp only [Int.natCast_mul]
    cases s <;> cases t <;> simp <;> grind

/-- a sum over the least common denominator: what can be cancelled is in the common divisor -/
theorem add_gp {a b : R} (ha : right a = true) (hb : right b = true) {c d : Nat} {S : Int} (hc : c = Nat.gcd a.d.natAbs b.d.natAbs)
    (hS : S = a.n * ((b.d.natAbs / c : Nat) : Int) + b.n * ((a.d.natAbs / c : Nat) : Int)) (hd : d = Nat.gcd (S.natAbs % c) c) :
    gp (decide (S < 0)) (S.natAbs / d) (a.d.natAbs / c * (b.d.natAbs / d)) = Rt.add a b ∧ 0 < c ∧ 0 < d ∧ d ∣ b.d.natAbs := by
  have pa := pos ha
  have pb := pos hb
  have ca := right_cop ha
  have cb := right_cop hb
  have hc0 : 0 < c := by rw [hc]; exact Nat.gcd_pos_of_pos_right _ (by omega)
  have hd' : d = Nat.gcd S.natAbs c := by rw [hd, ← Nat.gcd_rec, Nat.gcd_comm]
  have hd0 : 0 < d := by rw [hd']; exact Nat.gcd_pos_of_pos_right _ hc0
  have hxy : Nat.gcd (a.d.natAbs / c) (b.d.natAbs / c) = 1 := by rw [hc]; exact Nat.gcd_div_gcd_div_gcd_of_pos_right (by omega)
  obtain ⟨x, hx⟩ : c ∣ a.d.natAbs := by rw [hc]; exact Nat.gcd_dvd_left _ _
  obtain ⟨y, hy⟩ : c ∣ b.d.natAbs := by rw [hc]; exact Nat.gcd_dvd_right _ _
  obtain ⟨t, ht⟩ : d ∣ S.natAbs := by rw [hd']; exact Nat.gcd_dvd_left _ _
  obtain ⟨e, he⟩ : d ∣ c := by rw [hd']; exact Nat.gcd_dvd_right _ _
  have hte : Nat.gcd (S.natAbs / d) (c / d) = 1 := by rw [hd']; exact Nat.gcd_div_gcd_div_gcd_of_pos_right hc0
  have e1 : a.d.natAbs / c = x := by rw [hx]; exact Nat.mul_div_cancel_left x hc0
  have e2 : b.d.natAbs / c = y := by rw [hy]; exact Nat.mul_div_cancel_left y hc0
  have e3 : S.natAbs / d = t := by rw [ht]; exact Nat.mul_div_cancel_left t hd0
  have e4 : c / d = e := by rw [he]; exact Nat.mul_div_cancel_left e hd0
  have e5 : b.d.natAbs / d = e * y := by rw [hy, he, Nat.mul_assoc]; exact Nat.mul_div_cancel_left _ hd0
  rw [e1, e2] at hxy
  rw [e3, e4] at hte
  rw [e1, e2] at hS
  rw [e1, e3, e5]
  have hx0 : 0 < x := Nat.pos_of_ne_zero (fun h => by rw [h] at hx; omega)
  have hy0 : 0 < y := Nat.pos_of_ne_zero (fun h => by rw [h] at hy; omega)
  have he0 : 0 < e := Nat.pos_of_ne_zero (fun h => by rw [h] at he; omega)
  refine ⟨?_, hc0, hd0, ⟨e * y, by rw [hy, he, Nat.mul_assoc]⟩⟩
  have hadd : Rt.add a b = Rt.give (a.n * b.d + b.n * a.d) (a.d * b.d) := by unfold Rt.add; rw [two_right ha hb]
  rw [hadd]
  have cax : Nat.Coprime a.n.natAbs x := Nat.Coprime.coprime_dvd_right ⟨c, by rw [hx, Nat.mul_comm]⟩ ca
  have cby : Nat.Coprime b.n.natAbs y := Nat.Coprime.coprime_dvd_right ⟨c, by rw [hy, Nat.mul_comm]⟩ cb
  have tS : t ∣ S.natAbs := ⟨d, by rw [ht, Nat.mul_comm]⟩
  -- the sum has nothing in common with x, and nothing with y
  have sx : Nat.Coprime S.natAbs x := by
    have h : Int.gcd S x = 1 := by
      rw [hS, Int.gcd_add_mul_right_left]
      show Nat.gcd (a.n * (y : Int)).natAbs (x : Int).natAbs = 1
      rw [Int.natAbs_mul, Int.natAbs_natCast, Int.natAbs_natCast]
      exact Nat.Coprime.mul_left cax (Nat.Coprime.symm hxy)
    exact h
  have sy : Nat.Coprime S.natAbs y := by
    have h : Int.gcd S y = 1 := by
      rw [hS, Int.add_comm, Int.gcd_add_mul_right_left]
      show Nat.gcd (b.n * (x : Int)).natAbs (y : Int).natAbs = 1
      rw [Int.natAbs_mul, Int.natAbs_natCast, Int.natAbs_natCast]
      exact Nat.Coprime.mul_left cby hxy
    exact h
  refine gp_give (mul_ne (ne ha) (ne hb)) (Nat.mul_pos hx0 (Nat.mul_pos he0 hy0)) ?_ ?_
  · exact Nat.Coprime.mul_right (Nat.Coprime.coprime_dvd_left tS sx) (Nat.Coprime.mul_right hte (Nat.Coprime.coprime_dvd_left tS sy))
  · have da : a.d = ((c * x : Nat) : Int) := by omega
    have db : b.d = ((c * y : Nat) : Int) := by omega
    have ss := sgn_abs S
    rw [ht, Int.natCast_mul] at ss
    have hsum : a.n * b.d + b.n * a.d = (c : Int) * S := by rw [da, db, hS]; simp only [Int.natCast_mul]; grind
    rw [hsum, da, db, he]
    simp only [Int.natCast_mul]
    generalize decide (S < 0) = s at *
    rw [ss]
    cases s <;> simp <;> grind

end Go.Proofs.Ytnddfngdlmdmhaa
