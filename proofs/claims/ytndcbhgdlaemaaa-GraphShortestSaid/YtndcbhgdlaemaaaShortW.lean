/-
  The law GraphShortest's walk.
-/
import Derived.Test.YtndcbhgdlaemaaaReachesW
namespace Go.Proofs.Ytndcbhgdlaemaaa
open Go.RowKit Gr

theorem quiet_at_same {P : Program} {f : FuncId} {args : Array Value} {w : World} {q x : Nat} {v : Value}
    (h : Calls P f args (w.drewN (q + x)) fun e w' => e = .returned v ∧ w.drewN (q + x) = w') : Calls P f args (w.drewN (q + x)) fun e w'' => e = .returned v ∧ ∃ n, w'' = w.drewN (q + n) :=
  h.mono fun _ _ ⟨he, hm⟩ => ⟨he, x, hm.symm⟩
theorem ints_get {l : List Int} {k : Nat} {x : Int} (h : l[k]? = some x) : (ints l)[k]? = some (.int .i64 x) := by rw [List.getElem?_map, h]; rfl
def ShRel (e : E) (l : List Int) (W : World) (i : Value) (wr : World) : Prop := ∃ k : Nat, k ≤ l.length ∧ i = .int .i64 (k : Int) ∧ (∀ j x y, j < k → l[j]? = some x → l[(j + 1) % l.length]? = some y → (x, y) ∈ e) ∧ ∃ q, wr = W.drewN q
theorem EAt.drewN {w : World} {v : Value} {e : E} (h : EAt w v e) (q : Nat) : EAt (w.drewN q) v e := h.below (below_drewN (Below.refl _ _) q) (Nat.le_refl _)

set_option maxHeartbeats 6400000 in
theorem GraphShortest_x (h : GraphOk) (v : Value) (n : Int) (e : E) (s : Value) (l : List Int) (w : World) (hat : EAt w v e) (hs : SAt w s (ints l)) (hok : okE2 e) (hn : I64 n) :
    Calls Try.prog 6 #[.int .i64 n, v, s] w fun e w' => e = .returned (.bool true) ∧ Below w.heap.size w w' := by
  have HA := Lib.hid hat
  have HS := Lib.hid hs
  obtain ⟨ad, cap, rfl, -, -⟩ := hat
  obtain ⟨sa, sc, rfl, -, -⟩ := hs
  rw [List.length_map] at HS ⊢
  have OK := Lib.hid hok
  have HN := Lib.hid hn
  clear hok hn
  obtain ⟨mb, hmb⟩ : ∃ mb, midB n e = mb := ⟨_, rfl⟩
  have MB := Lib.hid hmb
  cases mb with
  | false =>
    clear hmb
    go_enter Try.func6, Try.ntmps6
    go_wp2_with fail
    refine (sane_x h _).mono ?_
    rintro r w1 ⟨rfl, b1⟩
    have A1 := HA.out.below b1 (Nat.le_refl _)
    have S1 := HS.out.below b1 (Nat.le_refl _)
    go_wp2_with fail
    refine (middle_x _ _ e _ A1).mono ?_
    rintro r w2 ⟨rfl, rfl⟩
    rw [MB.out]
    go_wp2_with fail
    go_ret
    exact ⟨by try rfl, b1⟩
  | true =>
    obtain ⟨n40, e200, hr⟩ := mid_iff.1 hmb
    have HR := Lib.hid hr
    have hl2 : e.length ≤ 1099511627776 := by omega
    have hl3 : e.length ≤ 1152921504606846976 := by omega
    clear hmb hr
    by_cases l0 : l.length = 0
    · have f1 : ((l.length : Int) == 0) = true := by simp [l0]
      have HL0 := Lib.hid l0
      clear l0
      go_enter Try.func6, Try.ntmps6
      go_wp2_with fail
      refine (sane_x h _).mono ?_
      rintro r w1 ⟨rfl, b1⟩
      have A1 := HA.out.below b1 (Nat.le_refl _)
      have S1 := HS.out.below b1 (Nat.le_refl _)
      go_wp2_with fail
      refine (middle_x _ _ e _ A1).mono ?_
      rintro r w2 ⟨rfl, rfl⟩
      rw [MB.out]
      go_wp2_with fail
      go_ret
      exact ⟨by try rfl, b1⟩
    have f1 : ((l.length : Int) == 0) = false := by simp [l0]
    by_cases l60 : (60 : Int) < (l.length : Int)
    · go_enter Try.func6, Try.ntmps6
      go_wp2_with fail
      refine (sane_x h _).mono ?_
      rintro r w1 ⟨rfl, b1⟩
      have A1 := HA.out.below b1 (Nat.le_refl _)
      have S1 := HS.out.below b1 (Nat.le_refl _)
      go_wp2_with fail
      refine (middle_x _ _ e _ A1).mono ?_
      rintro r w2 ⟨rfl, rfl⟩
      rw [MB.out]
      go_wp2_with fail
      go_ret
      exact ⟨by try rfl, b1⟩
    go_enter Try.func6, Try.ntmps6
    go_wp2_with fail
    refine (sane_x h _).mono ?_
    rintro r w1 ⟨rfl, b1⟩
    have A1 := HA.out.below b1 (Nat.le_refl _)
    have S1 := HS.out.below b1 (Nat.le_refl _)
    go_wp2_with fail
    refine (middle_x _ _ e _ A1).mono ?_
    rintro r w2 ⟨rfl, rfl⟩
    rw [MB.out]
    have CC := Lib.hid b1
    have HA1 := Lib.hid A1
    obtain ⟨sa', sc', e', scap, hsx⟩ := id S1
    have HSX := Lib.hid hsx
    injection e' with e1 e2 e3
    subst e1 e3
    clear e2 hsx b1 A1
    rw [List.length_map] at scap
    have HS1 := Lib.hid S1
    clear S1
    have lp : (0 : Int) < (l.length : Int) := by omega
    have HL0 := Lib.hid l0
    clear l0
    go_wp2_with fail
    go_loopw [8] (fun i wr => ShRel e l w1 i wr) (fun i _ => l.length - (intOf i).toNat)
    case atStart => exact ⟨0, Nat.zero_le _, rfl, fun j x y hj => absurd hj (by omega), 0, rfl⟩
    case round =>
      obtain ⟨k, hk, rfl, hall, q, rfl⟩ := hrel
      have HALL := Lib.hid hall
      clear hall
      have k0 : (0 : Int) ≤ (k : Int) := by omega
      by_cases c : (k : Int) < (l.length : Int)
      case neg =>
        have hcl : Closed e l := (closed_iff (fun h0 => HL0.out (by rw [h0]; rfl))).2 fun i x y hx hy => HALL.out i x y (by have := (List.getElem?_eq_some_iff.1 hx).1; omega) hx hy
        obtain ⟨c1, c2⟩ := cycle_short HR.out hcl
        have c3 : 0 < (cycle n e).length := List.length_pos_iff.2 c1
        have f5 : (1 : Int) ≤ ((cycle n e).length : Int) := by omega
        have f6 : ((cycle n e).length : Int) ≤ (l.length : Int) := by omega
        clear hcl c1 c2 c3
        go_wp2_with fail
        refine (h.cycle _ _ e _ (HA1.out.drewN q) hl2 OK.out HN.out).mono ?_
        rintro r w5 ⟨x, rfl, hx, b5⟩
        obtain ⟨xa, xc, rfl, -, -⟩ := hx
        rw [List.length_map]
        have hbl := (chain CC.out (below_drewN (Below.refl _ _) q)).trans (b5.mono (by have := (below_drewN (Below.refl w1.heap.size w1) q).size; have := CC.out.size; omega))
        clear b5
        go_wp2_with fail
        go_ret
        exact ⟨by try rfl, hbl⟩
      case pos =>
        have kl : k < l.length := by omega
        obtain ⟨m, hm⟩ : ∃ m, (k + 1) % l.length = m := ⟨_, rfl⟩
        have ml : m < l.length := by rw [← hm]; exact Nat.mod_lt _ (by omega)
        have tm : ((k : Int) + 1).tmod (l.length : Int) = (m : Int) := by
          rw [Int.tmod_eq_emod_of_nonneg (by omega), ← hm, Int.natCast_emod]
          rfl
        have m0 : (0 : Int) ≤ (m : Int) := by omega
        have mL : (m : Int) < (l.length : Int) := by omega
        obtain ⟨x, hx⟩ : ∃ x, l[k]? = some x := ⟨_, List.getElem?_eq_getElem kl⟩
        obtain ⟨y, hy⟩ : ∃ y, l[m]? = some y := ⟨_, List.getElem?_eq_getElem ml⟩
        obtain ⟨g, off, rfl, hg, p0⟩ := HSX.out k _ (ints_get hx)
        obtain ⟨g2, off2, e2, -, p1⟩ := HSX.out m _ (ints_get hy)
        simp only [Option.some.injEq, Addr.mk.injEq, and_true] at e2
        obtain ⟨rfl, rfl⟩ := e2
        have ED : Hid (∀ W : World, (∃ q, W = w1.drewN q) → Calls Try.prog 24 #[.slice ad e.length cap, .int .i64 x, .int .i64 y] W fun r w' => r = .returned (.bool (edgeB e x y)) ∧ W = w') := fun W hW => by
          obtain ⟨q, rfl⟩ := hW
          exact Edge_x _ x y e _ (HA1.out.drewN q) hl3
        obtain ⟨eb, heb⟩ : ∃ eb, edgeB e x y = eb := ⟨_, rfl⟩
        have Heb := Lib.hid heb
        rw [heb] at ED
        have Hm := Lib.hid hm
        have Hx := Lib.hid hx
        have Hy := Lib.hid hy
        clear heb hm hx hy
        cases eb with
        | true =>
          have Hn : Hid (∀ j x y, j < k + 1 → l[j]? = some x → l[(j + 1) % l.length]? = some y → (x, y) ∈ e) := fun j x' y' hj hx' hy' => by
            by_cases hjk : j = k
            · subst hjk
              rw [Hm.out, Hy.out] at hy'
              rw [Hx.out] at hx'
              cases hx'
              cases hy'
              exact edgeB_iff.1 Heb.out
            · exact HALL.out j x' y' (by omega) hx' hy'
          go_wp2_with fail
          go_quiet (first | (go_at_call 24; refine quiet_at_same (ED.out _ ⟨_, rfl⟩)))
          go_wp2_with fail
          go_roundw
          case rel => exact ⟨k + 1, by omega, by congr 1, Hn.out, _, by first | rfl | rw [World.drewN_drewN]⟩
          case measure => simp [intOf]; omega
        | false =>
          go_wp2_with fail
          go_quiet (first | (go_at_call 24; refine quiet_at_same (ED.out _ ⟨_, rfl⟩)))
          go_wp2_with fail
          go_ret
          exact ⟨by try rfl, CC.out.trans (by repeat (first | exact Below.refl _ _ | refine below_drewN ?_ _))⟩

end Go.Proofs.Ytndcbhgdlaemaaa
