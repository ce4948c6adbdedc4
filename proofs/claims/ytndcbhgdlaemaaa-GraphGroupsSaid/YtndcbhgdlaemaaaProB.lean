/-
  The program's isNode and isRight.
-/
import Derived.Test.YtndcbhgdlaemaaaProA
namespace Go.Proofs.Ytndcbhgdlaemaaa
open Go.RowKit Gr

theorem isNode_x (n v : Int) (w : World) :
    Calls Try.prog 29 #[.int .i64 n, .int .i64 v] w fun r w' => r = .returned (.bool (nodeB n v)) ∧ w = w' := by
  by_cases h1 : 0 ≤ v
  · by_cases h2 : v < n
    · have hv : Hid (nodeB n v = true) := decide_eq_true ⟨h1, h2⟩
      go_enter Try.func29, Try.ntmps29
      go_wp2_with fail
      go_ret
      exact ⟨by rw [hv.out]; try rfl, rfl⟩
    · have hv : Hid (nodeB n v = false) := decide_eq_false (fun h => h2 h.2)
      go_enter Try.func29, Try.ntmps29
      go_wp2_with fail
      go_ret
      exact ⟨by rw [hv.out]; try rfl, rfl⟩
  · have hv : Hid (nodeB n v = false) := decide_eq_false (fun h => h1 h.1)
    go_enter Try.func29, Try.ntmps29
    go_wp2_with fail
    go_ret
    exact ⟨by rw [hv.out]; try rfl, rfl⟩

def PRel (n : Int) (e : E) (w : World) (i : Value) (wr : World) : Prop := ∃ k : Nat, k ≤ e.length ∧ i = .int .i64 (k : Int) ∧ (e.take k).all (okE n) = true ∧ Below w.heap.size w wr
theorem okE_node {n : Int} {p : Int × Int} : okE n p = (nodeB n p.1 && nodeB n p.2) := by
  unfold okE nodeB
  rw [← Bool.decide_and]

set_option maxHeartbeats 3200000 in
theorem isRight_x (v : Value) (n : Int) (e : E) (w : World) (hat : EAt w v e) (hl : e.length ≤ 1152921504606846976) :
    Calls Try.prog 25 #[.int .i64 n, v] w fun r w' => r = .returned (.bool (rightB n e)) ∧ Below w.heap.size w w' := by
  have HAT := Lib.hid hat
  obtain ⟨a, cap, rfl, -, -⟩ := hat
  by_cases n0 : n < 0
  · have hv : Hid (rightB n e = false) := right_not (by omega)
    go_enter Try.func25, Try.ntmps25
    go_wp2_with fail
    go_ret
    exact ⟨by rw [hv.out]; try rfl, Below.refl _ _⟩
  by_cases n1 : 300 < n
  · have hv : Hid (rightB n e = false) := right_not (by omega)
    go_enter Try.func25, Try.ntmps25
    go_wp2_with fail
    go_ret
    exact ⟨by rw [hv.out]; try rfl, Below.refl _ _⟩
  by_cases h20 : 2000 < e.length
  · have hv : Hid (rightB n e = false) := right_not (by omega)
    go_enter Try.func25, Try.ntmps25
    go_wp2_with fail
    go_ret
    exact ⟨by rw [hv.out]; try rfl, Below.refl _ _⟩
  go_enter Try.func25, Try.ntmps25
  go_wp2_with fail
  go_loopw [20] (fun i wr => PRel n e w i wr) (fun i _ => e.length - (intOf i).toNat)
  case atStart => exact ⟨0, Nat.zero_le _, rfl, by simp, Below.refl _ _⟩
  case round =>
    obtain ⟨k, hk, rfl, hall, hbel⟩ := hrel
    have Ha := Lib.hid hall
    have Hb := Lib.hid hbel
    clear hall hbel
    have k0 : (0 : Int) ≤ (k : Int) := by omega
    by_cases c : k < e.length
    case neg =>
      have c0 : ¬ (k : Int) < (e.length : Int) := by omega
      have hv : Hid (rightB n e = true) := by
        have h := Ha.out
        rw [List.take_of_length_le (by omega)] at h
        exact right_yes (by omega) (by omega) h
      go_wp2_with fail
      go_ret
      exact ⟨by rw [hv.out]; try rfl, Hb.out⟩
    case pos =>
      obtain ⟨p, hp⟩ : ∃ p, e[k]? = some p := ⟨e[k], List.getElem?_eq_getElem c⟩
      obtain ⟨a', cap', e1, -, hc⟩ := HAT.out.below Hb.out (Nat.le_refl _)
      cases e1
      obtain ⟨b, off, rfl, hb, p0, p1⟩ := hc k p hp
      have c0 : (k : Int) < (e.length : Int) := by omega
      have Hp := Lib.hid hp
      clear hp hc
      have Hb2 : Hid (Below w.heap.size w (wr.alloc (.cells #[.int .i64 p.1, .int .i64 p.2] 40))) := Hb.out.alloc Hb.out.size _
      obtain ⟨b1, hb1⟩ : ∃ b1, nodeB n p.1 = b1 := ⟨_, rfl⟩
      obtain ⟨b2, hb2⟩ : ∃ b2, nodeB n p.2 = b2 := ⟨_, rfl⟩
      have Hb1 := Lib.hid hb1
      have HB2 := Lib.hid hb2
      have Hok : Hid (okE n p = (b1 && b2)) := by show _ = _; rw [okE_node, hb1, hb2]
      clear hb1 hb2
      cases b1 with
      | false =>
        have hv : Hid (rightB n e = false) := right_not (fun h => by have := all_not Hp.out Hok.out; rw [this] at h; exact Bool.false_ne_true h.2.2)
        go_wp2_with fail
        refine (isNode_x _ _ _).mono ?_
        rintro r w1 ⟨rfl, rfl⟩
        rw [Hb1.out]
        go_wp2_with fail
        go_ret
        exact ⟨by rw [hv.out]; try rfl, Hb2.out⟩
      | true =>
        go_wp2_with fail
        refine (isNode_x _ _ _).mono ?_
        rintro r w1 ⟨rfl, rfl⟩
        rw [Hb1.out]
        go_wp2_with fail
        refine (isNode_x _ _ _).mono ?_
        rintro r w1 ⟨rfl, rfl⟩
        rw [HB2.out]
        cases b2 with
        | false =>
          have hv : Hid (rightB n e = false) := right_not (fun h => by have := all_not Hp.out Hok.out; rw [this] at h; exact Bool.false_ne_true h.2.2)
          go_wp2_with fail
          go_ret
          exact ⟨by rw [hv.out]; try rfl, Hb2.out⟩
        | true =>
          have Hn : Hid ((e.take (k + 1)).all (okE n) = true) := all_next Hp.out Ha.out Hok.out
          go_wp2_with fail
          go_roundw
          case rel => exact ⟨k + 1, by omega, by congr 1, Hn.out, Hb2.out⟩
          case measure => simp [intOf]; omega

end Go.Proofs.Ytndcbhgdlaemaaa
