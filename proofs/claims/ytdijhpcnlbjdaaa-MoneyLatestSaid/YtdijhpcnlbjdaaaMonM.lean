/-
  Converting back; one rate more (plain).
-/
import Derived.Test.YtdijhpcnlbjdaaaMonL
namespace Go.Proofs.Ytdijhpcnlbjdaaa.Mon

theorem val_range {s a b x e : Int} (hs : 0 ≤ s) (ha : 1 ≤ a) (hb : 1 ≤ b) (h : val s a b = (x, e)) : 0 ≤ x ∧ x ≤ 1099511627776 ∧ (e = 0 ∨ (e = 3 ∧ x = 0)) := by
  have h0 : 0 ≤ s * a / b := Int.ediv_nonneg (Int.mul_nonneg hs (by omega)) (by omega)
  unfold val cap at h
  split at h
  · obtain ⟨h1, h2⟩ := Prod.mk.inj h
    omega
  · obtain ⟨h1, h2⟩ := Prod.mk.inj h
    omega
theorem conv_range {l : List R} {s f t on x e : Int} (h : conv l s f t on = (x, e)) : 0 ≤ x ∧ x ≤ 1099511627776 ∧ (e = 0 ∨ ((e = 1 ∨ e = 3 ∨ e = 4) ∧ x = 0)) ∧ (e = 1 ↔ ¬ (l.length ≤ 100 ∧ sumP s ∧ dayP on ∧ l.all okR = true)) := by
  unfold conv at h
  split at h
  · rename_i c
    obtain ⟨c1, c2, c3, c4⟩ := id c
    have fin : 0 ≤ x ∧ x ≤ 1099511627776 ∧ (e = 0 ∨ ((e = 3 ∨ e = 4) ∧ x = 0)) := by
      split at h
      · obtain ⟨h1, h2⟩ := Prod.mk.inj h
        omega
      · split at h
        · rename_i r hr
          obtain ⟨p1, p2⟩ := okR_parts c4 (pick_mem hr).1
          have := val_range c2.1 p1.1 p2.1 h
          omega
        · split at h
          · rename_i r hr
            obtain ⟨p1, p2⟩ := okR_parts c4 (pick_mem hr).1
            have := val_range c2.1 p2.1 p1.1 h
            omega
          · obtain ⟨h1, h2⟩ := Prod.mk.inj h
            omega
    refine ⟨fin.1, fin.2.1, by omega, fun h1 => by omega, fun h1 => absurd c h1⟩
  · rename_i c
    obtain ⟨h1, h2⟩ := Prod.mk.inj h
    exact ⟨by omega, by omega, by omega, fun _ => c, fun _ => h2.symm⟩
/-- MoneyReturns -/
theorem back_law {l : List R} {s f t on x y g : Int} {r : R} (h : conv l s f t on = (x, 0)) (ft : f ≠ t) (hr : pick l f t on = some r) (hn : pick l t f on = none) (h2 : conv l x t f on = (y, g)) :
    g = 0 ∧ 0 ≤ y ∧ y ≤ s ∧ s ≤ 1099511627776 ∧ s - y ≤ r.d / r.n + 1 ∧ partP r.n ∧ partP r.d := by
  obtain ⟨g1, g2, g3, g4, hc⟩ := conv_good h
  obtain ⟨p1, p2⟩ := okR_parts g4 (pick_mem hr).1
  have hv : val s r.n r.d = (x, 0) := by
    rcases hc with ⟨e, -⟩ | ⟨-, ⟨q, hq, hv⟩ | ⟨hq, -⟩⟩
    · exact absurd e ft
    · rw [hr] at hq
      cases hq
      exact hv
    · rw [hr] at hq
      cases hq
  obtain ⟨hx, x1⟩ := val_ok hv
  obtain ⟨b0, b1, b2⟩ := back (s := s) g2.1 (show 0 < r.n by omega) (show 0 < r.d by omega)
  rw [← hx] at b0 b1 b2
  have y0 : 0 ≤ x * r.d / r.n := Int.ediv_nonneg (Int.mul_nonneg b0 (by omega)) (by omega)
  rw [conv_val ⟨g1, ⟨b0, x1⟩, g3, g4⟩, if_neg (fun e => ft e.symm), hn, hr] at h2
  simp only at h2
  rw [val_of (by omega)] at h2
  obtain ⟨e1, e2⟩ := Prod.mk.inj h2
  exact ⟨e2.symm, by omega, by omega, by omega, by omega, p1, p2⟩
/-- MoneyLatest: a rate that does not fit -/
theorem conv_more {l m : List R} {one : R} {s f t on : Int} (h1 : fits f t on one = false) (h2 : fits t f on one = false) (ok : okR one = true) (hl : (l ++ m).length ≤ 99) : conv (l ++ one :: m) s f t on = conv (l ++ m) s f t on := by
  unfold conv
  rw [pick_out l m h1, pick_out l m h2]
  have e1 : (l ++ one :: m).length = (l ++ m).length + 1 := by simp; omega
  have e2 : (l ++ one :: m).all okR = (l ++ m).all okR := by
    rw [List.all_append, List.all_append, List.all_cons, ok, Bool.true_and]
  rw [e1, e2]
  have e3 : ((l ++ m).length + 1 ≤ 100 ∧ sumP s ∧ dayP on ∧ (l ++ m).all okR = true) ↔ ((l ++ m).length ≤ 100 ∧ sumP s ∧ dayP on ∧ (l ++ m).all okR = true) :=
    ⟨fun h => ⟨by omega, h.2⟩, fun h => ⟨by omega, h.2⟩⟩
  simp only [e3]
/-- .. and one that decides alone -/
theorem conv_own {l : List R} {own : R} {s f t on x e : Int} (hf : own.f = f) (ht : own.t = t) (hs : own.s = on) (ok : okR own = true) (hl : l.length ≤ 99) (h : conv l s f t on = (x, e)) :
    (e = 1 → conv (own :: l) s f t on = (0, 1)) ∧ (e ≠ 1 → conv (own :: l) s f t on = conv [own] s f t on) := by
  obtain ⟨-, -, -, hv⟩ := conv_range h
  have e2 : (own :: l).all okR = l.all okR := by rw [List.all_cons, ok, Bool.true_and]
  constructor
  · intro he
    have := hv.1 he
    unfold conv
    rw [if_neg]
    rintro ⟨-, k1, k2, k3⟩
    rw [e2] at k3
    exact this ⟨by omega, k1, k2, k3⟩
  · intro he
    have hg : l.length ≤ 100 ∧ sumP s ∧ dayP on ∧ l.all okR = true := Classical.byContradiction fun h => he (hv.2 h)
    have hfit : fits f t on own = true := decide_eq_true ⟨hf, ht, by omega⟩
    rw [conv_val ⟨by rw [List.length_cons]; omega, hg.2.1, hg.2.2.1, by rw [e2]; exact hg.2.2.2⟩, conv_val ⟨by simp, hg.2.1, hg.2.2.1, by simp [ok]⟩, pick_first hfit hs, pick_first hfit hs]

end Go.Proofs.Ytdijhpcnlbjdaaa.Mon
