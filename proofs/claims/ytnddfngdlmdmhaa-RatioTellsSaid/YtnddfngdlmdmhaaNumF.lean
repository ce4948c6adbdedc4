/-
  The reference's Right, Make, Sum.
-/
import Derived.Test.YtnddfngdlmdmhaaNumE
import Derived.Deep.RegionHeld3
namespace Go.Proofs.Ytnddfngdlmdmhaa
open Go.RowKit

/-- the world behind a call -/
structure Nxt (w w' : World) : Prop where
  out : Below w.heap.size w w'
structure Nm (w : World) (v : Value) (N : Nat) : Prop where
  out : Num w v N
structure Lt5 (n : Nat) : Prop where
  out : n < Dg.pw 5
theorem Nm.nxt {w w' : World} {v : Value} {N : Nat} (h : Nm w v N) (hb : Nxt w w') : Nm w' v N := ⟨h.out.below hb.out⟩
theorem Nm.drew {w : World} {v : Value} {N : Nat} (h : Nm w v N) : Nm w.drew v N := ⟨h.out.drew⟩

theorem natAbs_sgn {p q : Int} (hq : q ≠ 0) : gv (decide (p ≠ 0) && (decide (p < 0) != decide (q < 0))) p.natAbs q.natAbs = Rt.give p q := by
  have hD : 0 < q.natAbs := by omega
  have hG : 0 < Nat.gcd p.natAbs q.natAbs := Nat.gcd_pos_of_pos_right _ hD
  obtain ⟨x, hx⟩ := Nat.gcd_dvd_left p.natAbs q.natAbs
  obtain ⟨y, hy⟩ := Nat.gcd_dvd_right p.natAbs q.natAbs
  have hgcd : Nat.gcd (p.natAbs / Nat.gcd p.natAbs q.natAbs) (q.natAbs / Nat.gcd p.natAbs q.natAbs) = 1 := Nat.gcd_div_gcd_div_gcd_of_pos_right hD
  unfold gv
  generalize Nat.gcd p.natAbs q.natAbs = G at *
  have e1 : p.natAbs / G = x := by rw [hx]; exact Nat.mul_div_cancel_left x hG
  have e2 : q.natAbs / G = y := by rw [hy]; exact Nat.mul_div_cancel_left y hG
  rw [e1, e2] at hgcd ⊢
  have hy0 : 0 < y := Nat.pos_of_ne_zero (fun h => by rw [h] at hy; omega)
  have hp1 : (p.natAbs : Int) = G * x := by rw [hx]; simp
  have hq1 : (q.natAbs : Int) = G * y := by rw [hy]; simp
  have hlow : Rt.low p q = ⟨if (decide (p ≠ 0) && (decide (p < 0) != decide (q < 0))) = true then -(x : Int) else (x : Int), (y : Int)⟩ := by
    refine Rt.low_eq hq (by show (1 : Int) ≤ y; omega) ?_ ?_
    · show Int.gcd _ (y : Int) = 1
      split
      · rw [Int.neg_gcd]; exact hgcd
      · exact hgcd
    · show (if _ then -(x : Int) else (x : Int)) * q = p * (y : Int)
      by_cases hp0 : p = 0
      · have hx0 : x = 0 := by
          rw [hp0] at hx
          have : G * x = 0 := by rw [← hx]; rfl
          exact (Nat.mul_eq_zero.1 this).resolve_left (by omega)
        subst hp0; subst hx0
        simp
      · by_cases h1 : p < 0 <;> by_cases h2 : q < 0
        · rw [if_neg (by simp [h1, h2])]
          have a1 : p = -(G * x) := by omega
          have a2 : q = -(G * y) := by omega
          rw [a1, a2]; grind
        · rw [if_pos (by simp [h1, h2, hp0])]
          have a1 : p = -(G * x) := by omega
          have a2 : q = G * y := by omega
          rw [a1, a2]; grind
        · rw [if_pos (by simp [h1, h2, hp0])]
          have a1 : p = G * x := by omega
          have a2 : q = -(G * y) := by omega
          rw [a1, a2]; grind
        · rw [if_neg (by simp [h1, h2])]
          have a1 : p = G * x := by omega
          have a2 : q = G * y := by omega
          rw [a1, a2]; grind
  unfold Rt.give
  rw [hlow]
  have hf : Rt.fits ⟨if (decide (p ≠ 0) && (decide (p < 0) != decide (q < 0))) = true then -(x : Int) else (x : Int), (y : Int)⟩ = decide (x ≤ 1152921504606846976 ∧ y ≤ 1152921504606846976) := by
    unfold Rt.fits Rt.M
    rw [decide_eq_decide]
    simp only
    split <;> omega
  rw [hf]
  by_cases h : x ≤ 1152921504606846976 ∧ y ≤ 1152921504606846976
  · rw [if_pos h, if_pos (decide_eq_true h)]
  · rw [if_neg h, if_neg (by simpa using h)]

/-- of a positive denominator -/
theorem gv_pos {v : Int} {D : Nat} (hD : 0 < D) : gv (decide (v < 0)) v.natAbs D = Rt.give v (D : Int) := by
  have h := natAbs_sgn (p := v) (q := (D : Int)) (by omega)
  rw [Int.natAbs_natCast] at h
  rw [← h]
  congr 1
  by_cases h1 : v < 0
  · simp [h1]; omega
  · simp [h1]

theorem right_eq (a : Rt.R) : Rt.right a = (decide (1 ≤ a.d) && decide (a.d.natAbs ≤ 1152921504606846976) && decide (a.n.natAbs ≤ 1152921504606846976) && (CmpB (Nat.gcd a.n.natAbs a.d.natAbs) 1 == 0)) := by
  rw [Bool.eq_iff_iff, Rt.right_iff]
  simp only [Bool.and_eq_true, decide_eq_true_eq, beq_iff_eq]
  have hc : CmpB (Nat.gcd a.n.natAbs a.d.natAbs) 1 = 0 ↔ Int.gcd a.n a.d = 1 := by
    show CmpB (Int.gcd a.n a.d) 1 = 0 ↔ _
    unfold CmpB
    constructor
    · intro h
      split at h
      · cases h
      · split at h
        · cases h
        · omega
    · intro h; rw [h]; decide
  rw [hc]
  unfold Rt.M
  constructor
  · rintro ⟨h1, h2, h3, h4, h5⟩; exact ⟨⟨⟨h1, by omega⟩, by omega⟩, h5⟩
  · rintro ⟨⟨⟨h1, h2⟩, h3⟩, h5⟩; exact ⟨h1, by omega, by omega, by omega, h5⟩

theorem cmpB_le {A C : Nat} (h : A ≤ C) : decide (0 < CmpB A C) = false := by
  apply decide_eq_false
  unfold CmpB
  split
  · decide
  · rw [if_neg (by omega)]; decide

set_option maxHeartbeats 1600000 in
set_option maxRecDepth 100000 in
theorem RightR_x (a : Rt.R) (w : World) (ha : In a) : Calls Try.prog 12 #[rv a] w fun e w' => e = .returned (.bool (Rt.right a)) ∧ Below w.heap.size w w' := by
  have hE := right_eq a
  obtain ⟨in1, id1⟩ := ha
  have I1 := Lib.hid in1
  have I2 := Lib.hid id1
  have iM : Hid (I64 1152921504606846976) := small_i (by decide) (by decide)
  have i1 : Hid (I64 1) := small_i (by decide) (by decide)
  have LN : Hid (a.n.natAbs < 2 ^ 140 ∧ a.d.natAbs < 2 ^ 140) := by
    unfold I64 at in1 id1
    have : (2 : Nat) ^ 64 < 2 ^ 140 := by decide
    show _ ∧ _
    omega
  have LG : Hid (Nat.gcd a.n.natAbs a.d.natAbs < Dg.pw 5 ∨ a.d.natAbs = 0) := by
    by_cases h : a.d.natAbs = 0
    · exact .inr h
    · exact .inl (lt_pw (Nat.lt_of_le_of_lt (Nat.gcd_le_right _ (by omega)) LN.out.2))
  clear in1 id1
  have A0 := At.new w a 23 _ rfl
  by_cases h1 : 1 ≤ a.d
  · rw [decide_eq_true h1, Bool.true_and] at hE
    have hn1 : ¬ a.d < 1 := by omega
    by_cases h2 : a.d.natAbs ≤ 1152921504606846976
    · rw [decide_eq_true h2, Bool.true_and] at hE
      have c2 := Lib.hid (cmpB_le h2)
      by_cases h3 : a.n.natAbs ≤ 1152921504606846976
      · rw [decide_eq_true h3, Bool.true_and] at hE
        have c3 := Lib.hid (cmpB_le h3)
        have HE := Lib.hid hE
        have HA0 := Lib.hid A0
        have lg : Hid (Nat.gcd a.n.natAbs a.d.natAbs < Dg.pw 5) := LG.out.resolve_right (by omega)
        clear hE h2 h3 A0 LG
        go_enter Try.func12, Try.ntmps12
        go_wp2_with fail
        refine (Of_x _ _ I2.out).mono ?_
        rintro e w2 ⟨v2, rfl, n2, l2, b2⟩
        have k2 := chain ((Below.refl w.heap.size w).alloc (Nat.le_refl _) _) b2
        have A2 := HA0.out.below b2
        clear b2
        go_wp2_with fail
        refine (Of_x _ _ iM.out).mono ?_
        rintro e w3 ⟨v3, rfl, n3, l3, b3⟩
        have k3 := chain k2 b3
        have A3 := A2.below b3
        have n2' := n2.below b3
        clear b3 k2 A2 n2
        go_wp2_with fail
        refine (Cmp_x _ _ _ _ _ n2' n3 l2 l3).mono ?_
        rintro e w4 ⟨rfl, b4⟩
        have k4 := chain k3 b4
        have A4 := A3.below b4
        clear b4 k3 A3 n2' n3 l2 l3
        rw [M_num]
        have c2' := c2.out
        generalize CmpB a.d.natAbs 1152921504606846976 = cc at c2 c2' ⊢
        obtain ⟨sa, pa, qa⟩ := id A4
        go_wp2_with fail
        refine (Of_x _ _ I1.out).mono ?_
        rintro e w5 ⟨v5, rfl, n5, l5, b5⟩
        have k5 := chain k4 b5
        have A5 := A4.below b5
        clear b5 k4 A4 sa pa qa
        go_wp2_with fail
        refine (Of_x _ _ iM.out).mono ?_
        rintro e w6 ⟨v6, rfl, n6, l6, b6⟩
        have k6 := chain k5 b6
        have A6 := A5.below b6
        have n5' := n5.below b6
        clear b6 k5 A5 n5
        go_wp2_with fail
        refine (Cmp_x _ _ _ _ _ n5' n6 l5 l6).mono ?_
        rintro e w7 ⟨rfl, b7⟩
        have k7 := chain k6 b7
        have A7 := A6.below b7
        clear b7 k6 A6 n5' n6 l5 l6
        rw [M_num]
        have c3' := c3.out
        generalize CmpB a.n.natAbs 1152921504606846976 = cd at c3 c3' ⊢
        obtain ⟨sa, pa, qa⟩ := id A7
        go_wp2_with fail
        go_region_held3 (fun w' => Below w.heap.size w w' ∧ w.heap.size < w'.heap.size ∧ w'.cell? ⟨w.heap.size, 0, none⟩ = some (.int .i64 a.n) ∧ w'.cell? ⟨w.heap.size, 1, none⟩ = some (.int .i64 a.d))
          (first
            | exact ⟨Below.drew k7, by simpa using sa, by simpa using pa, by simpa using qa⟩
            | exact ⟨k7, sa, pa, qa⟩
            | (go_split_ands
               exact ⟨chain (by assumption) hb, by have := hb.size; omega, by rw [hb.cell (p := ⟨w.heap.size, 0, none⟩) (by assumption)]; assumption, by rw [hb.cell (p := ⟨w.heap.size, 1, none⟩) (by assumption)]; assumption⟩))
          (first
            | (go_at_call 36; refine (Of_x _ _ (by first | exact I1.out | exact I2.out | exact i1.out)).mono ?_; rintro e w' ⟨v, rfl, hn, hl, hb⟩; have hx : Nxt _ w' := ⟨hb⟩; have hm : Nm w' v _ := ⟨hn⟩; have hy : Lt5 _ := ⟨hl⟩; clear hn hl)
            | (go_at_call 39; refine (Gcd_x _ _ _ _ _ (Nm.out (by repeat (first | assumption | refine Nm.drew ?_ | refine Nm.nxt ?_ (by assumption)))) (Nm.out (by repeat (first | assumption | refine Nm.drew ?_ | refine Nm.nxt ?_ (by assumption)))) LN.out.1 LN.out.2).mono ?_; rintro e w' ⟨v, rfl, hn, hb⟩; have hx : Nxt _ w' := ⟨hb⟩; have hm : Nm w' v _ := ⟨hn⟩; clear hn)
            | (go_at_call 38; refine (Cmp_x _ _ _ _ _ (Nm.out (by repeat (first | assumption | refine Nm.drew ?_ | refine Nm.nxt ?_ (by assumption)))) (Nm.out (by repeat (first | assumption | refine Nm.drew ?_ | refine Nm.nxt ?_ (by assumption)))) lg.out (Lt5.out (by assumption))).mono ?_; rintro e w' ⟨rfl, hb⟩; have hx : Nxt _ w' := ⟨hb⟩))
        rename_i hHeld
        have kz := hHeld.1
        clear hHeld
        go_wp2_with fail
        go_ret
        exact ⟨by rw [HE.out]; rfl, kz⟩
      · have hv : Hid (Rt.right a = false) := by show _ = _; rw [hE, decide_eq_false h3, Bool.false_and]
        have c3 : Hid (decide (0 < CmpB a.n.natAbs 1152921504606846976) = true) := by rw [cmpB_gt (by omega)]; rfl
        have HA0 := Lib.hid A0
        clear hE h2 h3 A0 LG
        go_enter Try.func12, Try.ntmps12
        go_wp2_with fail
        refine (Of_x _ _ I2.out).mono ?_
        rintro e w2 ⟨v2, rfl, n2, l2, b2⟩
        have k2 := chain ((Below.refl w.heap.size w).alloc (Nat.le_refl _) _) b2
        have A2 := HA0.out.below b2
        clear b2
        go_wp2_with fail
        refine (Of_x _ _ iM.out).mono ?_
        rintro e w3 ⟨v3, rfl, n3, l3, b3⟩
        have k3 := chain k2 b3
        have A3 := A2.below b3
        have n2' := n2.below b3
        clear b3 k2 A2 n2
        go_wp2_with fail
        refine (Cmp_x _ _ _ _ _ n2' n3 l2 l3).mono ?_
        rintro e w4 ⟨rfl, b4⟩
        have k4 := chain k3 b4
        have A4 := A3.below b4
        clear b4 k3 A3 n2' n3 l2 l3
        rw [M_num]
        have c2' := c2.out
        generalize CmpB a.d.natAbs 1152921504606846976 = cc at c2 c2' ⊢
        obtain ⟨sa, pa, qa⟩ := id A4
        go_wp2_with fail
        refine (Of_x _ _ I1.out).mono ?_
        rintro e w5 ⟨v5, rfl, n5, l5, b5⟩
        have k5 := chain k4 b5
        clear b5 k4 A4 sa pa qa
        go_wp2_with fail
        refine (Of_x _ _ iM.out).mono ?_
        rintro e w6 ⟨v6, rfl, n6, l6, b6⟩
        have k6 := chain k5 b6
        have n5' := n5.below b6
        clear b6 k5 n5
        go_wp2_with fail
        refine (Cmp_x _ _ _ _ _ n5' n6 l5 l6).mono ?_
        rintro e w7 ⟨rfl, b7⟩
        have k7 := chain k6 b7
        clear b7 k6 n5' n6 l5 l6
        rw [M_num]
        have c3' := c3.out
        generalize CmpB a.n.natAbs 1152921504606846976 = cd at c3 c3' ⊢
        go_wp2_with fail
        go_ret
        exact ⟨by rw [hv.out]; rfl, k7⟩
    · have hv : Hid (Rt.right a = false) := by show _ = _; rw [hE, decide_eq_false h2, Bool.false_and, Bool.false_and]
      have c2 : Hid (decide (0 < CmpB a.d.natAbs 1152921504606846976) = true) := by rw [cmpB_gt (by omega)]; rfl
      have HA0 := Lib.hid A0
      clear hE h2 A0 LG
      go_enter Try.func12, Try.ntmps12
      go_wp2_with fail
      refine (Of_x _ _ I2.out).mono ?_
      rintro e w2 ⟨v2, rfl, n2, l2, b2⟩
      have k2 := chain ((Below.refl w.heap.size w).alloc (Nat.le_refl _) _) b2
      clear b2
      go_wp2_with fail
      refine (Of_x _ _ iM.out).mono ?_
      rintro e w3 ⟨v3, rfl, n3, l3, b3⟩
      have k3 := chain k2 b3
      have n2' := n2.below b3
      clear b3 k2 n2
      go_wp2_with fail
      refine (Cmp_x _ _ _ _ _ n2' n3 l2 l3).mono ?_
      rintro e w4 ⟨rfl, b4⟩
      have k4 := chain k3 b4
      clear b4 k3 n2' n3 l2 l3
      rw [M_num]
      have c2' := c2.out
      generalize CmpB a.d.natAbs 1152921504606846976 = cc at c2 c2' ⊢
      go_wp2_with fail
      go_ret
      exact ⟨by rw [hv.out]; rfl, k4⟩
  · have hv : Hid (Rt.right a = false) := by show _ = _; rw [hE, decide_eq_false h1, Bool.false_and, Bool.false_and, Bool.false_and]
    have hn1 : a.d < 1 := by omega
    clear hE LG A0
    go_enter Try.func12, Try.ntmps12
    go_wp2_with fail
    go_ret
    exact ⟨by rw [hv.out]; rfl, (Below.refl _ _).alloc (Nat.le_refl _) _⟩

theorem sum_val (A C : Nat) (minus less : Bool) : ∀ va vb : Int, va = (if minus then -(A : Int) else A) → vb = (if less then -(C : Int) else C) →
    (minus = less → (va + vb).natAbs = A + C ∧ (minus = true → va + vb ≤ 0) ∧ (minus = false → 0 ≤ va + vb)) ∧
    (minus ≠ less → (C ≤ A → (va + vb).natAbs = A - C ∧ (minus = true → va + vb ≤ 0) ∧ (minus = false → 0 ≤ va + vb)) ∧ (A < C → (va + vb).natAbs = C - A ∧ (less = true → va + vb ≤ 0) ∧ (less = false → 0 ≤ va + vb))) := by
  intro va vb h1 h2
  cases minus <;> cases less <;> simp at h1 h2 <;> subst h1 <;> subst h2 <;> refine ⟨fun h => ?_, fun h => ?_⟩ <;> (try cases h) <;> (try exact absurd rfl h) <;> (first | (refine ⟨by omega, ?_, ?_⟩ <;> intro hh <;> (first | omega | cases hh)) | (refine ⟨fun hc => ⟨by omega, ?_, ?_⟩, fun hc => ⟨by omega, ?_, ?_⟩⟩ <;> intro hh <;> (first | omega | cases hh)))

/-- the sum of two numbers with signs -/
def SumPost (v : Int) (w : World) (e : Ending) (w' : World) : Prop := ∃ (u : Value) (f : Bool), e = .returned (.tuple #[u, .bool f]) ∧ Num w' u v.natAbs ∧ (f = true → v ≤ 0) ∧ (f = false → 0 ≤ v) ∧ Below w.heap.size w w'

set_option maxHeartbeats 1600000 in
theorem Sum_x (va vc : Value) (A C : Nat) (minus less : Bool) (x y : Int) (w : World) (hx : x = (if minus then -(A : Int) else A)) (hy : y = (if less then -(C : Int) else C)) (ha : Num w va A) (hc : Num w vc C) (hA : A < Dg.pw 5) (hC : C < Dg.pw 5) :
    Calls Try.prog 47 #[va, .bool minus, vc, .bool less] w (SumPost (x + y) w) := by
  obtain ⟨s1, s2⟩ := sum_val A C minus less x y hx hy
  have Ha := Lib.hid ha
  have Hc := Lib.hid hc
  have HA := Lib.hid hA
  have HC := Lib.hid hC
  clear ha hc hA hC hx hy
  by_cases hml : minus = less
  · obtain ⟨t1, t2, t3⟩ := s1 hml
    have T1 := Lib.hid t1
    have T2 := Lib.hid t2
    have T3 := Lib.hid t3
    clear s1 s2 t1 t2 t3
    subst hml
    go_enter Try.func47, Try.ntmps47
    go_wp2_with fail
    refine (Plus_x _ _ A C _ Ha.out Hc.out).mono ?_
    rintro e w2 ⟨v, rfl, ⟨b, rfl, -, ho⟩, b2⟩
    have hn := Lib.hid (ho.num (fun j _ => rfl))
    clear ho
    go_wp2_with fail
    go_ret2
    exact ⟨_, _, rfl, by rw [T1.out]; exact hn.out, T2.out, T3.out, b2⟩
  · have hne : (minus == less) = false := by cases minus <;> cases less <;> first | rfl | exact absurd rfl hml
    obtain ⟨t1, t2⟩ := s2 hml
    clear s1 s2
    by_cases hle : C ≤ A
    · obtain ⟨t1, t2, t3⟩ := t1 hle
      have T1 := Lib.hid t1
      have T2 := Lib.hid t2
      have T3 := Lib.hid t3
      have hcm := cmpB_ge hle
      clear t1 t2 t3 hml
      go_enter Try.func47, Try.ntmps47
      go_wp2_with fail
      refine (Cmp_x _ _ A C _ Ha.out Hc.out HA.out HC.out).mono ?_
      rintro e w2 ⟨rfl, b2⟩
      have Ha2 := Lib.hid (Ha.out.below b2)
      have Hc2 := Lib.hid (Hc.out.below b2)
      generalize CmpB A C = cc at hcm ⊢
      go_wp2_with fail
      refine (Minus_x _ _ A C _ Ha2.out Hc2.out hle).mono ?_
      rintro e w3 ⟨v, rfl, -, hn, b3⟩
      have b4 := chain b2 b3
      have Hn := Lib.hid hn
      clear hn b2 b3
      go_wp2_with fail
      go_ret2
      exact ⟨_, _, rfl, by rw [T1.out]; exact Hn.out, T2.out, T3.out, b4⟩
    · obtain ⟨t1, t2, t3⟩ := t2 (by omega)
      have T1 := Lib.hid t1
      have T2 := Lib.hid t2
      have T3 := Lib.hid t3
      have hcm := cmpB_nge (A := A) (C := C) (by omega)
      have hle2 : A ≤ C := by omega
      clear t1 t2 t3 hml hle
      go_enter Try.func47, Try.ntmps47
      go_wp2_with fail
      refine (Cmp_x _ _ A C _ Ha.out Hc.out HA.out HC.out).mono ?_
      rintro e w2 ⟨rfl, b2⟩
      have Ha2 := Lib.hid (Ha.out.below b2)
      have Hc2 := Lib.hid (Hc.out.below b2)
      generalize CmpB A C = cc at hcm ⊢
      go_wp2_with fail
      refine (Minus_x _ _ C A _ Hc2.out Ha2.out hle2).mono ?_
      rintro e w3 ⟨v, rfl, -, hn, b3⟩
      have b4 := chain b2 b3
      have Hn := Lib.hid hn
      clear hn b2 b3
      go_wp2_with fail
      go_ret2
      exact ⟨_, _, rfl, by rw [T1.out]; exact Hn.out, T2.out, T3.out, b4⟩

end Go.Proofs.Ytnddfngdlmdmhaa
