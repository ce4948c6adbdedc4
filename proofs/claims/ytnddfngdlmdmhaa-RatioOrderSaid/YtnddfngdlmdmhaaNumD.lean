/-
  The reference's Over.
-/
import Derived.Test.YtnddfngdlmdmhaaNumC
import Derived.Test.YtnddfngdlmdmhaaDig2
import Derived.RegionTactic
import Derived.ChangeAlike
import Derived.StillTailTactics
import Derived.Outline
namespace Go.Proofs.Ytnddfngdlmdmhaa
open Go.RowKit

theorem Num.drew {w : World} {v : Value} {N : Nat} (h : Num w v N) : Num w.drew v N := h.below (Below.drew (Below.refl _ _))
theorem Own5.drew {w : World} {b : Nat} {f : Nat → Int} (h : Own5 w b f) : Own5 w.drew b f := h.below (B := w.heap.size) (Below.drew (Below.refl _ _)) h.1
theorem Own5.other {w : World} {b c k : Nat} {f : Nat → Int} {v : Value} (h : Own5 w b f) (hne : c ≠ b) : Own5 (w.setCell ⟨c, k, none⟩ v) b f := by
  obtain ⟨h0, h1, h2⟩ := h
  refine ⟨by simp; exact h0, fun j hj => ?_, fun j => by simp; exact h2 j⟩
  rw [World.cell?_setCell_other _ _ _ _ (by intro e; injection e with e _ _; exact hne e)]
  exact h1 j hj
theorem Num.other {w : World} {b c k N : Nat} {v : Value} (h : Num w (.slice (some ⟨b, 0, none⟩) 5 5) N) (hne : c ≠ b) : Num (w.setCell ⟨c, k, none⟩ v) (.slice (some ⟨b, 0, none⟩) 5 5) N := by
  obtain ⟨b', e, h0, h1⟩ := h
  injection e with e _ _
  injection e with e
  injection e with e _ _
  subst e
  refine ⟨b, rfl, by simp; exact h0, fun j hj => ?_⟩
  rw [World.cell?_setCell_other _ _ _ _ (by intro e; injection e with e _ _; exact hne e)]
  exact h1 j hj
theorem cmpB_ge {A C : Nat} (h : C ≤ A) : decide (0 ≤ CmpB A C) = true := by
  apply decide_eq_true
  unfold CmpB
  rw [if_neg (by omega)]
  split <;> decide
theorem cmpB_nge {A C : Nat} (h : A < C) : decide (0 ≤ CmpB A C) = false := by rw [cmpB_lt h]; rfl

def OvRel (A C bq : Nat) (w : World) (rv iv : Value) (wr : World) : Prop := ∃ (t br : Nat), t ≤ 150 ∧ iv = .int .i64 ((t : Int) - 1) ∧ rv = .slice (some ⟨br, 0, none⟩) 5 5 ∧ br < wr.heap.size ∧ br ≠ bq ∧
  (∀ j, j < 5 → wr.cell? ⟨br, j, none⟩ = some (.int .i64 (Dg.dig (A / 2 ^ t % C) j : Nat))) ∧ Own5 wr bq (fun j => (Dg.dig ((A / 2 ^ t / C) * 2 ^ t) j : Nat)) ∧ Below w.heap.size w wr

set_option maxHeartbeats 6400000 in
set_option maxRecDepth 100000 in
theorem Over_x (va vc : Value) (A C : Nat) (w : World) (ha : Num w va A) (hc : Num w vc C) (hA : A < Dg.pw 5) (hC : 0 < C) (hC2 : C < 2 ^ 140) :
    Calls Try.prog 54 #[va, vc] w fun e w' => ∃ v u, e = .returned (.tuple #[v, u]) ∧ Num w' v (A / C) ∧ Num w' u (A % C) ∧ Below w.heap.size w w' := by
  have hc' := hc
  obtain ⟨ba, rfl, la, ca⟩ := ha
  have Ca := Lib.hid ca
  have Hc := Lib.hid hc
  clear ca hc hc'
  have hmk := make5
  have h150 : Hid (A / 2 ^ 150 = 0) := by
    show _ = _
    have e : Dg.pw 5 = 2 ^ 150 := Dg.pw_two 5
    rw [e] at hA
    exact Nat.div_eq_of_lt hA
  have h00 : Hid (∀ j, Dg.dig (A / 2 ^ 150 % C) j = 0 ∧ Dg.dig ((A / 2 ^ 150 / C) * 2 ^ 150) j = 0) := by
    intro j
    rw [h150.out, Nat.zero_mod, Nat.zero_div, Nat.zero_mul, Dg.sh_dig_zero]
    exact ⟨rfl, rfl⟩
  have HA := Lib.hid hA
  have HC2 := Lib.hid hC2
  clear hA hC2
  have hst : Hid (Own5 ((w.alloc (.cells #[.int .i64 0, .int .i64 0, .int .i64 0, .int .i64 0, .int .i64 0] 3)).alloc (.cells #[.int .i64 0, .int .i64 0, .int .i64 0, .int .i64 0, .int .i64 0] 3)) w.heap.size (fun j => (Dg.dig ((A / 2 ^ 150 / C) * 2 ^ 150) j : Nat))) := by
    have e2 : (fun j => ((Dg.dig ((A / 2 ^ 150 / C) * 2 ^ 150) j : Nat) : Int)) = fun _ => 0 := by funext j; rw [(h00.out j).2]; rfl
    show Own5 _ _ _
    rw [e2]
    exact (Own5.new w _).below (B := w.heap.size + 1) ((Below.refl _ _).alloc (by simp) _) (by omega)
  have hst2 : Hid (∀ j, j < 5 → ((w.alloc (.cells #[.int .i64 0, .int .i64 0, .int .i64 0, .int .i64 0, .int .i64 0] 3)).alloc (.cells #[.int .i64 0, .int .i64 0, .int .i64 0, .int .i64 0, .int .i64 0] 3)).cell? ⟨w.heap.size + 1, j, none⟩ = some (.int .i64 (Dg.dig (A / 2 ^ 150 % C) j : Nat))) := by
    intro j hj
    have := (Own5.new (w.alloc (.cells #[.int .i64 0, .int .i64 0, .int .i64 0, .int .i64 0, .int .i64 0] 3)) 3).2.1 j hj
    rw [World.size_alloc] at this
    rw [this, (h00.out j).1]; rfl
  go_enter Try.func54, Try.ntmps54
  go_wp2_with fail
  go_loopw [7, 8] (fun rv iv wr => OvRel A C w.heap.size w rv iv wr) (fun _ i _ => (intOf i + 1).toNat)
  case atStart => exact ⟨150, w.heap.size + 1, Nat.le_refl _, rfl, rfl, by simp, by omega, hst2.out, hst.out, ((Below.refl _ _).alloc (Nat.le_refl _) _).alloc (by simp) _⟩
  case round =>
    obtain ⟨t, br, ht, rfl, rfl, hbr, hne, hr, ho, hb⟩ := hrel
    have Ho := Lib.hid ho
    have Hr := Lib.hid hr
    clear ho hr hst hst2 h00
    cases t with
    | zero =>
      have q1 : Hid (Num wr (.slice (some ⟨w.heap.size, 0, none⟩) 5 5) (A / C)) := by
        have h := Ho.out
        rw [Nat.pow_zero, Nat.div_one, Nat.mul_one] at h
        exact h.num (fun j _ => rfl)
      have q2 : Hid (Num wr (.slice (some ⟨br, 0, none⟩) 5 5) (A % C)) := by
        have h := Hr.out
        rw [Nat.pow_zero, Nat.div_one] at h
        exact ⟨br, rfl, hbr, h⟩
      go_wp2_with fail
      go_ret2
      exact ⟨_, _, rfl, q1.out, q2.out, hb⟩
    | succ i =>
      have e : ((i + 1 : Nat) : Int) - 1 = (i : Int) := by omega
      rw [e]
      clear e
      have hnr : Num wr (.slice (some ⟨br, 0, none⟩) 5 5) (A / 2 ^ (i + 1) % C) := ⟨br, rfl, hbr, Hr.out⟩
      have Hnr := Lib.hid hnr
      clear hnr Hr
      have hrl : A / 2 ^ (i + 1) % C < C := Nat.mod_lt _ hC
      obtain ⟨st1, st2⟩ := Dg.over_step (a := A) (i := i) hC
      have hbit : A / 2 ^ i % 2 < 2 := Nat.mod_lt _ (by decide)
      have hbd := Lib.hid (Dg.bit_dig A i)
      have hev := Lib.hid (fun b hb => Dg.dig_even (A / 2 ^ (i + 1) % C) b hb)
      go_wp2_with fail
      refine (Plus_x _ _ _ _ _ Hnr.out Hnr.out).mono ?_
      rintro e w2 ⟨v2, rfl, ⟨b2, rfl, hb2, ho2⟩, hbb⟩
      have Ho2 := Lib.hid ho2
      clear ho2 Hnr
      have hi0 : (0 : Int) ≤ (i : Int) := by omega
      have hi1 : (i : Int) < 150 := by omega
      have hm : i / 30 < 5 := by omega
      have hba : ba < wr.heap.size := by have := hb.size; omega
      have p := (hbb.cell (p := ⟨ba, i / 30, none⟩) hba).trans ((hb.cell (p := ⟨ba, i / 30, none⟩) la).trans (Ca.out (i / 30) hm))
      have c0 : w2.cell? ⟨b2, 0, none⟩ = some (.int .i64 ((Dg.dig (A / 2 ^ (i + 1) % C + A / 2 ^ (i + 1) % C) 0 : Nat) : Int)) := Ho2.out.2.1 0 (by omega)
      have f0 := Ho2.out.2.2 0
      have ud := Dg.dig_lt A (i / 30)
      obtain ⟨m, em⟩ : ∃ m, m = i / 30 := ⟨_, rfl⟩
      obtain ⟨e, ee⟩ : ∃ e, e = i % 30 := ⟨_, rfl⟩
      have k1 : (i : Int).tdiv 30 = (m : Int) := by rw [Int.tdiv_eq_ediv_of_nonneg (by omega)]; omega
      have k2 : (i : Int).tmod 30 = (e : Int) := by rw [Int.tmod_eq_emod_of_nonneg (by omega)]; omega
      have k3 : (i : Int) / 30 = (m : Int) := by omega
      have k4 : (i : Int) % 30 = (e : Int) := by omega
      have k5 : (m : Int) < 5 := by omega
      have k6 : (0 : Int) ≤ (m : Int) := by omega
      have k7 : (e : Int) ≤ 64 := by omega
      have k8 : (0 : Int) ≤ (e : Int) := by omega
      have k9 : IntKind.i64.wrap (m : Int) = (m : Int) := IntWalk.i64_in _ (by omega)
      have k10 : IntKind.i64.wrap (e : Int) = (e : Int) := IntWalk.i64_in _ (by omega)
      rw [← em] at p ud
      have hbd2 := hbd.out
      rw [← em, ← ee] at hbd2
      obtain ⟨b, eb⟩ : ∃ b, b = A / 2 ^ i % 2 := ⟨_, rfl⟩
      rw [← eb] at hbd2 hbit st1 st2
      have hy := Dg.dig_lt (A / 2 ^ (i + 1) % C + A / 2 ^ (i + 1) % C) 0
      generalize hY : Dg.dig (A / 2 ^ (i + 1) % C + A / 2 ^ (i + 1) % C) 0 = y at c0 hy
      generalize hX : Dg.dig A m = x at p ud hbd2
      have k11 : (x : Int) / 2 ^ e % 2 = (b : Int) := by rw [← hbd2]; simp
      have k12 : 0 ≤ (x : Int) / 2 ^ e := Int.ediv_nonneg (by omega) (Int.pow_nonneg (by decide))
      have k13 : ((x : Int) / 2 ^ e).tmod 2 = (b : Int) := by rw [Int.tmod_eq_emod_of_nonneg k12]; exact k11
      have k14 : IntKind.i64.wrap ((y : Int) + (b : Int)) = (y : Int) + (b : Int) := IntWalk.i64_in _ (by omega)
      have k15 : IntKind.i64.wrap (b : Int) = (b : Int) := IntWalk.i64_in _ (by omega)
      have Hem := Lib.hid em
      have Hee := Lib.hid ee
      have Heb := Lib.hid eb
      have HY := Lib.hid hY
      have HX := Lib.hid hX
      have St1 := Lib.hid st1
      have St2 := Lib.hid st2
      have Hbd := Lib.hid hbd2
      clear em ee eb hY hX st1 st2 hbd2 hbd
      go_wp2_with fail
      go_region
      -- the remainder with its new bit
      have hR2 : Hid (Own5 (w2.setCell ⟨b2, 0, none⟩ (.int .i64 ((y : Int) + (b : Int)))) b2 (fun j => (Dg.dig (2 * (A / 2 ^ (i + 1) % C) + b) j : Nat))) := by
        have h := Ho2.out.set 0 (by omega) ((y : Int) + (b : Int))
        have ef : (fun j => if j = 0 then ((y : Int) + (b : Int)) else ((Dg.dig (A / 2 ^ (i + 1) % C + A / 2 ^ (i + 1) % C) j : Nat) : Int)) = fun j => ((Dg.dig (2 * (A / 2 ^ (i + 1) % C) + b) j : Nat) : Int) := by
          funext j
          rw [hev.out b (by omega) j]
          by_cases hj : j = 0
          · subst hj
            rw [if_pos rfl, if_pos rfl, ← HY.out, Nat.two_mul]
            omega
          · rw [if_neg hj, if_neg hj, Nat.two_mul]
        rw [ef] at h
        exact h
      have hb2' : w.heap.size ≤ b2 := by have := hb.size; omega
      have hqb : w.heap.size < b2 := by have := Ho.out.1; omega
      have cS : Hid (Below w.heap.size w (w2.setCell ⟨b2, 0, none⟩ (.int .i64 ((y : Int) + (b : Int))))) := Below.setCell (chain hb hbb) (by simpa using hb2') _
      have hN : Hid (Num (w2.setCell ⟨b2, 0, none⟩ (.int .i64 ((y : Int) + (b : Int)))) (.slice (some ⟨b2, 0, none⟩) 5 5) (2 * (A / 2 ^ (i + 1) % C) + b)) := hR2.out.num (fun j _ => rfl)
      have hvc : Hid (Num (w2.setCell ⟨b2, 0, none⟩ (.int .i64 ((y : Int) + (b : Int)))) vc C) := Hc.out.below cS.out
      have hq : Hid (Own5 (w2.setCell ⟨b2, 0, none⟩ (.int .i64 ((y : Int) + (b : Int)))) w.heap.size (fun j => (Dg.dig ((A / 2 ^ (i + 1) / C) * 2 ^ (i + 1)) j : Nat))) := (Ho.out.below hbb Ho.out.1).other (by omega)
      have hlim : Hid (2 * (A / 2 ^ (i + 1) % C) + b < Dg.pw 5 ∧ C < Dg.pw 5) := by
        have e5 : Dg.pw 5 = 2 ^ 150 := Dg.pw_two 5
        have := HC2.out
        have h10 : (2 : Nat) ^ 150 = 1024 * 2 ^ 140 := by decide
        show _ ∧ _
        rw [e5, h10]
        omega
      generalize hW : w2.setCell ⟨b2, 0, none⟩ (.int .i64 ((y : Int) + (b : Int))) = wS at cS hN hvc hq ⊢
      have HW := Lib.hid hW
      clear hW hR2 c0 f0 p hbb Ho2 Ho
      go_wp2_with fail
      refine (Cmp_x _ _ _ C _ (by first | exact hN.out | exact hN.out.drew) (by first | exact hvc.out | exact hvc.out.drew) hlim.out.1 hlim.out.2).mono ?_
      rintro e' w3 ⟨rfl, b3⟩
      have c3 : Below w.heap.size w w3 := by first | exact chain cS.out b3 | exact chain (Below.drew cS.out) b3
      have hN3 : Hid (Num w3 (.slice (some ⟨b2, 0, none⟩) 5 5) (2 * (A / 2 ^ (i + 1) % C) + b)) := by first | exact hN.out.below b3 | exact hN.out.drew.below b3
      have hvc3 : Hid (Num w3 vc C) := by first | exact hvc.out.below b3 | exact hvc.out.drew.below b3
      have hq3 : Hid (Own5 w3 w.heap.size (fun j => (Dg.dig ((A / 2 ^ (i + 1) / C) * 2 ^ (i + 1)) j : Nat))) := by first | exact hq.out.below b3 hq.out.1 | exact hq.out.drew.below b3 hq.out.1
      have hw3 : w.heap.size < w3.heap.size := hq3.out.1
      clear b3 cS hN hvc hq HW
      by_cases hge : C ≤ 2 * (A / 2 ^ (i + 1) % C) + b
      · have hcm := cmpB_ge hge
        obtain ⟨s1, s2⟩ := St1.out hge
        have hmul : Hid ((Dg.dig ((A / 2 ^ (i + 1) / C) * 2 ^ (i + 1)) m + 2 ^ e : Nat) < 1073741824) := by
          have := Dg.bit_room (A / 2 ^ (i + 1) / C) i
          rw [← Hem.out, ← Hee.out] at this
          exact this
        have S1 := Lib.hid s1
        have S2 := Lib.hid s2
        have Hge := Lib.hid hge
        clear s1 s2 hge
        generalize CmpB (2 * (A / 2 ^ (i + 1) % C) + b) C = cc at hcm ⊢
        go_wp2_with fail
        refine (Minus_x _ _ _ C _ hN3.out hvc3.out Hge.out).mono ?_
        rintro e' w4 ⟨v4, rfl, ⟨q4, rfl, hq4'⟩, hv4, b4⟩
        have c4 := chain c3 b4
        have hq4 := hq3.out.below b4 hq3.out.1
        have Hv4 := Lib.hid hv4
        have Hq4 := Lib.hid hq4
        have cq : w4.cell? ⟨w.heap.size, m, none⟩ = some (.int .i64 ((Dg.dig ((A / 2 ^ (i + 1) / C) * 2 ^ (i + 1)) m : Nat) : Int)) := hq4.2.1 m (by omega)
        have fq := hq4.2.2 m
        clear hv4 hq4 b4 hN3 hvc3 hq3
        generalize hU : Dg.dig ((A / 2 ^ (i + 1) / C) * 2 ^ (i + 1)) m = u at cq hmul
        have HU := Lib.hid hU
        clear hU
        have g0 : 0 ≤ (2 : Int) ^ e := Int.pow_nonneg (by decide)
        have g1 : (2 : Int) ^ e < 1073741824 := by have := hmul.out; have e2 : ((2 ^ e : Nat) : Int) = (2 : Int) ^ e := (by simp); omega
        have g2 : (u : Int) + (2 : Int) ^ e < 1073741824 := by have := hmul.out; have e2 : ((2 ^ e : Nat) : Int) = (2 : Int) ^ e := (by simp); omega
        have g3 : IntKind.i64.wrap ((2 : Int) ^ e) = (2 : Int) ^ e := IntWalk.i64_in _ (by omega)
        have g4 : IntKind.i64.wrap ((u : Int) + (2 : Int) ^ e) = (u : Int) + (2 : Int) ^ e := IntWalk.i64_in _ (by omega)
        go_wp2_with fail
        go_region
        have hT1 : Hid (Own5 (w4.setCell ⟨w.heap.size, m, none⟩ (.int .i64 ((u : Int) + (2 : Int) ^ e))) w.heap.size (fun j => (Dg.dig ((A / 2 ^ i / C) * 2 ^ i) j : Nat))) := by
          have h := Hq4.out.set m (by omega) ((u : Int) + (2 : Int) ^ e)
          have ef : (fun j => if j = m then ((u : Int) + (2 : Int) ^ e) else ((Dg.dig ((A / 2 ^ (i + 1) / C) * 2 ^ (i + 1)) j : Nat) : Int)) = fun j => ((Dg.dig ((A / 2 ^ i / C) * 2 ^ i) j : Nat) : Int) := by
            funext j
            rw [S2.out, Dg.dig_bit, ← Hem.out, ← Hee.out]
            by_cases hj : j = m
            · subst hj
              rw [if_pos rfl, if_pos rfl, HU.out]
              simp
            · rw [if_neg hj, if_neg hj]; rfl
          rw [ef] at h
          exact h
        have hlt4 : w.heap.size < q4 := by have := c3.size; have := hq4'; omega
        have hT2 : Hid (Num (w4.setCell ⟨w.heap.size, m, none⟩ (.int .i64 ((u : Int) + (2 : Int) ^ e))) (.slice (some ⟨q4, 0, none⟩) 5 5) (A / 2 ^ i % C)) := by
          have h := Hv4.out
          rw [← S1.out] at h
          exact h.other (by omega)
        have hT3 : Hid (Below w.heap.size w (w4.setCell ⟨w.heap.size, m, none⟩ (.int .i64 ((u : Int) + (2 : Int) ^ e)))) := Below.setCell c4 (Nat.le_refl _) _
        have hT4 : Hid (q4 < (w4.setCell ⟨w.heap.size, m, none⟩ (.int .i64 ((u : Int) + (2 : Int) ^ e))).heap.size ∧ ∀ j, j < 5 → (w4.setCell ⟨w.heap.size, m, none⟩ (.int .i64 ((u : Int) + (2 : Int) ^ e))).cell? ⟨q4, j, none⟩ = some (.int .i64 (Dg.dig (A / 2 ^ i % C) j : Nat))) := by
          obtain ⟨b', e1, e2, e3⟩ := hT2.out
          injection e1 with e1 _ _
          injection e1 with e1
          injection e1 with e1 _ _
          subst e1
          exact ⟨e2, e3⟩
        clear cq fq
        go_wp2_with fail
        go_roundw
        case rel => exact ⟨i, q4, by omega, rfl, rfl, hT4.out.1, by omega, hT4.out.2, by first | exact hT1.out | exact hT1.out.drew, by first | exact hT3.out | exact Below.drew hT3.out⟩
        case measure => first | (simp [intOf]; done) | (simp [intOf]; omega)
      · have hcm := cmpB_nge (Nat.lt_of_not_le hge)
        obtain ⟨s1, s2⟩ := St2.out (Nat.lt_of_not_le hge)
        have hT1 : Hid (Own5 w3 w.heap.size (fun j => (Dg.dig ((A / 2 ^ i / C) * 2 ^ i) j : Nat))) := by
          have h := hq3.out
          rw [← s2] at h
          exact h
        have hT4 : Hid (b2 < w3.heap.size ∧ ∀ j, j < 5 → w3.cell? ⟨b2, j, none⟩ = some (.int .i64 (Dg.dig (A / 2 ^ i % C) j : Nat))) := by
          obtain ⟨b', e1, e2, e3⟩ := hN3.out
          injection e1 with e1 _ _
          injection e1 with e1
          injection e1 with e1 _ _
          subst e1
          rw [s1]
          exact ⟨e2, e3⟩
        clear s1 s2 hge hN3 hq3
        generalize CmpB (2 * (A / 2 ^ (i + 1) % C) + b) C = cc at hcm ⊢
        go_wp2_with fail
        go_roundw
        case rel => exact ⟨i, b2, by omega, rfl, rfl, hT4.out.1, by omega, hT4.out.2, hT1.out, c3⟩
        case measure => first | (simp [intOf]; done) | (simp [intOf]; omega)

end Go.Proofs.Ytnddfngdlmdmhaa
