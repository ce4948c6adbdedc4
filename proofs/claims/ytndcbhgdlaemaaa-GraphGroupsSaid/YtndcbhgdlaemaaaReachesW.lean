/-
  The law GraphReaches' walk.
-/
import Derived.Test.YtndcbhgdlaemaaaTellsW
namespace Go.Proofs.Ytndcbhgdlaemaaa
open Go.RowKit Gr

theorem has_reach {n : Int} {e : E} {a : Int} (hr : rightB n e = true) (ha : 0 ≤ a ∧ a < n) {i : Nat} (hi : i < n.toNat) : Has (reach n e a) i ↔ Gr.Reach e a i := by
  unfold Has
  rw [reach_get hr ha hi, Option.some.injEq, reachB_iff]
theorem reach_closed {n : Int} {e : E} {a : Int} (hr : rightB n e = true) (ha : 0 ≤ a ∧ a < n) : closedB e (reach n e a) = true := by
  rw [closed_iff2]
  intro p hp h1
  obtain ⟨p1, p2⟩ := (right_iff.1 hr).2.2 p hp
  rw [has_reach hr ha (by omega), Int.toNat_of_nonneg p1.1] at h1
  rw [has_reach hr ha (by omega), Int.toNat_of_nonneg p2.1]
  exact h1.step hp
/-- a closed set that has the node has all that is reached -/
theorem set_has {e : E} {a : Int} {l : List Bool} (hl : Has l a.toNat) (hc : closedB e l = true) {i : Nat} (hi : reachB e a i = true) : Has l i := by
  have h := (reachB_iff.1 hi).closed (S := fun b => Has l b.toNat) (fun p hp => closed_iff2.1 hc p hp) hl
  simpa using h
def ReRel (N : Nat) (W : World) (i : Value) (wr : World) : Prop := ∃ k : Nat, k ≤ N ∧ i = .int .i64 (k : Int) ∧ W = wr

set_option maxHeartbeats 6400000 in
theorem GraphReaches_x (h : GraphOk) (v : Value) (n : Int) (e : E) (a : Int) (s : Value) (l : List Bool) (w : World) (hat : EAt w v e) (hs : SAt w s (bools l)) (hok : okE2 e) (hn : I64 n) (ha : I64 a) :
    Calls Try.prog 4 #[.int .i64 n, v, .int .i64 a, s] w fun e w' => e = .returned (.bool true) ∧ Below w.heap.size w w' := by
  have HA := Lib.hid hat
  have HS := Lib.hid hs
  obtain ⟨ad, cap, rfl, -, -⟩ := hat
  obtain ⟨sa, sc, rfl, -, -⟩ := hs
  rw [List.length_map] at HS ⊢
  have OK := Lib.hid hok
  have HN := Lib.hid hn
  have HF := Lib.hid ha
  clear hok hn ha
  obtain ⟨mb, hmb⟩ : ∃ mb, midB n e = mb := ⟨_, rfl⟩
  have MB := Lib.hid hmb
  cases mb with
  | false =>
    clear hmb
    go_enter Try.func4, Try.ntmps4
    go_wp2_with fail
    refine (sane_x h _).mono ?_
    rintro r w1 ⟨rfl, b1⟩
    have A1 := HA.out.below b1 (Nat.le_refl _)
    have S1 := HS.out.below b1 (Nat.le_refl _)
    go_wp2_with fail
    refine (middle_x _ n e _ A1).mono ?_
    rintro r w2 ⟨rfl, rfl⟩
    rw [MB.out]
    go_wp2_with fail
    go_ret
    exact ⟨by try rfl, b1⟩
  | true =>
    obtain ⟨n40, e200, hr⟩ := mid_iff.1 hmb
    have n0 := (right_iff.1 hr).1.1
    clear hmb
    by_cases a0 : a < 0
    · clear hr
      go_enter Try.func4, Try.ntmps4
      go_wp2_with fail
      refine (sane_x h _).mono ?_
      rintro r w1 ⟨rfl, b1⟩
      have A1 := HA.out.below b1 (Nat.le_refl _)
      have S1 := HS.out.below b1 (Nat.le_refl _)
      go_wp2_with fail
      refine (middle_x _ n e _ A1).mono ?_
      rintro r w2 ⟨rfl, rfl⟩
      rw [MB.out]
      go_wp2_with fail
      go_ret
      exact ⟨by try rfl, b1⟩
    by_cases a1 : n ≤ a
    · clear hr
      go_enter Try.func4, Try.ntmps4
      go_wp2_with fail
      refine (sane_x h _).mono ?_
      rintro r w1 ⟨rfl, b1⟩
      have A1 := HA.out.below b1 (Nat.le_refl _)
      have S1 := HS.out.below b1 (Nat.le_refl _)
      go_wp2_with fail
      refine (middle_x _ n e _ A1).mono ?_
      rintro r w2 ⟨rfl, rfl⟩
      rw [MB.out]
      go_wp2_with fail
      go_ret
      exact ⟨by try rfl, b1⟩
    obtain ⟨N, rfl⟩ := Int.eq_ofNat_of_zero_le n0
    obtain ⟨A, rfl⟩ := Int.eq_ofNat_of_zero_le (show 0 ≤ a by omega)
    by_cases hl : l.length = N
    case neg =>
      have f1 : ((l.length : Int) != (N : Int)) = true := by simp; omega
      clear hr hl
      go_enter Try.func4, Try.ntmps4
      go_wp2_with fail
      refine (sane_x h _).mono ?_
      rintro r w1 ⟨rfl, b1⟩
      have A1 := HA.out.below b1 (Nat.le_refl _)
      have S1 := HS.out.below b1 (Nat.le_refl _)
      go_wp2_with fail
      refine (middle_x _ _ e _ A1).mono ?_
      rintro r w2 ⟨rfl, rfl⟩
      rw [MB.out]
      go_wp2_with fail
      go_ret
      exact ⟨by try rfl, b1⟩
    have HR := Lib.hid hr
    have hl2 : e.length ≤ 1099511627776 := by omega
    have hAN : A < N := by omega
    have HL := Lib.hid hl
    rw [hl] at HS ⊢
    have RL : Hid ((reach N e A).length = N) := by show _ = _; rw [reach_len hr ⟨by omega, by omega⟩]; simp
    have RG : Hid (∀ i : Nat, i < N → (reach N e A)[i]? = some (reachB e A i)) := fun i hi => reach_get HR.out ⟨by omega, by omega⟩ (by simpa using hi)
    have RC : Hid (closedB e (reach N e A) = true) := reach_closed hr ⟨by omega, by omega⟩
    obtain ⟨u, hu⟩ : ∃ u, l[A]? = some u := ⟨_, List.getElem?_eq_getElem (by omega)⟩
    have Hu := Lib.hid hu
    obtain ⟨cb, hcb⟩ : ∃ cb, closedB e l = cb := ⟨_, rfl⟩
    have HCB := Lib.hid hcb
    clear hr hl hu hcb
    go_enter Try.func4, Try.ntmps4
    go_wp2_with fail
    refine (sane_x h _).mono ?_
    rintro r w1 ⟨rfl, b1⟩
    have A1 := HA.out.below b1 (Nat.le_refl _)
    have S1 := HS.out.below b1 (Nat.le_refl _)
    go_wp2_with fail
    refine (middle_x _ _ e _ A1).mono ?_
    rintro r w2 ⟨rfl, rfl⟩
    rw [MB.out]
    go_wp2_with fail
    refine (h.reach _ _ e _ _ A1 hl2 OK.out HN.out HF.out).mono ?_
    rintro r w3 ⟨x, rfl, hx, b3⟩
    obtain ⟨xa, xc, rfl, xcap, HX⟩ := own_bools hx RL.out
    have HXA := Lib.hid hx
    have A3 := A1.below b3 (Nat.le_refl _)
    have S3 := S1.below b3 (Nat.le_refl _)
    have cc := chain b1 b3
    clear hx A1 S1 b1 b3
    obtain ⟨g, off, rfl, hg, p0⟩ := HX.out A _ (RG.out A hAN)
    rw [show reachB e A A = true from reachB_iff.2 .refl] at p0
    obtain ⟨sa', sc', e', -, HSX⟩ := own_bools S3 HL.out
    injection e' with e1 e2 e3
    subst e1 e3
    obtain ⟨g2, off2, rfl, hg2, q0⟩ := HSX.out A u Hu.out
    have A0 : (0 : Int) ≤ (A : Int) := by omega
    have AN : (A : Int) < (N : Int) := by omega
    clear e2
    go_wp2_with fail
    refine (closed_x _ _ _ e _ _ A3 HXA.out HR.out (by rw [RL.out]; simp)).mono ?_
    rintro r w4 ⟨rfl, rfl⟩
    rw [RC.out]
    cases u with
    | false =>
      go_wp2_with fail
      go_ret
      exact ⟨by try rfl, cc⟩
    | true =>
      go_wp2_with fail
      refine (closed_x _ _ _ e _ _ A3 S3 HR.out (by rw [HL.out]; simp)).mono ?_
      rintro r w5 ⟨rfl, rfl⟩
      rw [HCB.out]
      cases cb with
      | false =>
        go_wp2_with fail
        go_ret
        exact ⟨by try rfl, cc⟩
      | true =>
        clear p0 q0
        have CC := Lib.hid cc
        clear cc A3 S3
        go_wp2_with fail
        go_loopw [11] (fun i wr => ReRel N w3 i wr) (fun i _ => N - (intOf i).toNat)
        case atStart => exact ⟨0, Nat.zero_le _, rfl, rfl⟩
        case round =>
          obtain ⟨k, hk, rfl, rfl⟩ := hrel
          have k0 : (0 : Int) ≤ (k : Int) := by omega
          by_cases c : (k : Int) < (N : Int)
          case neg =>
            go_wp2_with fail
            go_ret
            exact ⟨by try rfl, CC.out⟩
          case pos =>
            obtain ⟨t, ht⟩ : ∃ t, l[k]? = some t := ⟨_, List.getElem?_eq_getElem (by rw [HL.out]; omega)⟩
            obtain ⟨z, hz⟩ : ∃ z, reachB e A k = z := ⟨_, rfl⟩
            obtain ⟨g', off', e1, -, r0⟩ := HX.out k _ (RG.out k (by omega))
            obtain ⟨g2', off2', e2, -, r1⟩ := HSX.out k t ht
            simp only [Option.some.injEq, Addr.mk.injEq, and_true] at e1 e2
            obtain ⟨rfl, rfl⟩ := e1
            obtain ⟨rfl, rfl⟩ := e2
            rw [hz] at r0
            cases z with
            | false =>
              clear r1 ht hz
              go_wp2_with fail
              go_roundw
              case rel => exact ⟨k + 1, by omega, by congr 1, rfl⟩
              case measure => simp [intOf]; omega
            | true =>
              have h2 : Has l k := set_has (show Has l (A : Int).toNat from by rw [Int.toNat_natCast]; exact Hu.out) HCB.out hz
              unfold Has at h2
              rw [ht] at h2
              obtain rfl : t = true := by simpa using h2
              clear h2 ht hz
              go_wp2_with fail
              go_roundw
              case rel => exact ⟨k + 1, by omega, by congr 1, rfl⟩
              case measure => simp [intOf]; omega

end Go.Proofs.Ytndcbhgdlaemaaa
