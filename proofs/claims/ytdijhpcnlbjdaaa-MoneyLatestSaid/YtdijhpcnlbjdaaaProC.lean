/-
  The program's areRates and rateOf.
-/
import Derived.Test.YtdijhpcnlbjdaaaProB
import Derived.Test.YtdijhpcnlbjdaaaRefD
namespace Go.Proofs.Ytdijhpcnlbjdaaa
open Go.RowKit Mon

def ratesB (l : List R) : Bool := decide (l.length ≤ 100) && l.all okR
def ARel (l : List R) (w : World) (i : Value) (wr : World) : Prop := ∃ k : Nat, k ≤ l.length ∧ i = .int .i64 (k : Int) ∧ (l.take k).all okR = true ∧ Below w.heap.size w wr
theorem ratesB_not {l : List R} (h : l.all okR = false) : ratesB l = false := by unfold ratesB; rw [h, Bool.and_false]

set_option maxHeartbeats 3200000 in
theorem areRates_x (v : Value) (l : List R) (w : World) (hat : RAt w v l) (hl : l.length ≤ 1099511627776) :
    Calls Try.prog 23 #[v] w fun e w' => e = .returned (.bool (ratesB l)) ∧ Below w.heap.size w w' := by
  have HAT := Lib.hid hat
  obtain ⟨a, cap, rfl, -, hc⟩ := hat
  clear hc
  by_cases h100 : 100 < l.length
  · have hv : Hid (ratesB l = false) := by show _ = _; unfold ratesB; rw [decide_eq_false (by omega)]; rfl
    go_enter Try.func23, Try.ntmps23
    go_wp2_with fail
    go_ret
    exact ⟨by rw [hv.out]; try rfl, Below.refl _ _⟩
  go_enter Try.func23, Try.ntmps23
  go_wp2_with fail
  go_loopw [10] (fun i wr => ARel l w i wr) (fun i _ => l.length - (intOf i).toNat)
  case atStart => exact ⟨0, Nat.zero_le _, rfl, by simp, Below.refl _ _⟩
  case round =>
    obtain ⟨k, hk, rfl, hall, hb⟩ := hrel
    have Ha := Lib.hid hall
    clear hall
    have k0 : (0 : Int) ≤ (k : Int) := by omega
    by_cases c : k < l.length
    case neg =>
      have c0 : ¬ (k : Int) < (l.length : Int) := by omega
      have hv : Hid (ratesB l = true) := by
        have h := Ha.out
        rw [List.take_of_length_le (by omega)] at h
        show _ = _
        unfold ratesB
        rw [h, decide_eq_true (by omega)]
        rfl
      go_wp2_with fail
      go_ret
      exact ⟨by rw [hv.out]; try rfl, hb⟩
    case pos =>
      obtain ⟨r, hr⟩ : ∃ r, l[k]? = some r := ⟨l[k], List.getElem?_eq_getElem c⟩
      obtain ⟨a', cap', e', -, hc⟩ := HAT.out.below hb (Nat.le_refl _)
      injection e' with e1 e2 e3
      subst e1 e3
      obtain ⟨b, off, rfl, hlt, p0, p1, p2, p3, p4⟩ := hc k r hr
      have c0 : (k : Int) < (l.length : Int) := by omega
      have Hr := Lib.hid hr
      clear hr hc e2
      by_cases e1 : partP r.n
      case neg =>
        have N : Hid (partB r.n = false) := decide_eq_false e1
        have hv : Hid (ratesB l = false) := ratesB_not (all_not Hr.out (decide_eq_false (fun h => e1 h.1)))
        clear e1
        go_wp2_with fail
        refine (isPart_x r.n _).mono ?_
        rintro e w1 ⟨rfl, rfl⟩
        rw [N.out]
        go_wp2_with fail
        go_ret
        exact ⟨by rw [hv.out]; try rfl, by repeat (first | exact hb | exact hb.alloc hb.size _ | refine below_drewN ?_ _ | refine Below.drew ?_ | refine Below.setCell ?_ _ _ | refine Below.alloc ?_ _ _)⟩
      have N : Hid (partB r.n = true) := decide_eq_true e1
      by_cases e2 : partP r.d
      case neg =>
        have D : Hid (partB r.d = false) := decide_eq_false e2
        have hv : Hid (ratesB l = false) := ratesB_not (all_not Hr.out (decide_eq_false (fun h => e2 h.2)))
        clear e1 e2
        go_wp2_with fail
        refine (isPart_x r.n _).mono ?_
        rintro e w1 ⟨rfl, rfl⟩
        rw [N.out]
        go_wp2_with fail
        refine (isPart_x r.d _).mono ?_
        rintro e w1 ⟨rfl, rfl⟩
        rw [D.out]
        go_wp2_with fail
        go_ret
        exact ⟨by rw [hv.out]; try rfl, by repeat (first | exact hb | exact hb.alloc hb.size _ | refine below_drewN ?_ _ | refine Below.drew ?_ | refine Below.setCell ?_ _ _ | refine Below.alloc ?_ _ _)⟩
      have D : Hid (partB r.d = true) := decide_eq_true e2
      have Hn : Hid ((l.take (k + 1)).all okR = true) := all_next Hr.out Ha.out (decide_eq_true ⟨e1, e2⟩)
      clear e1 e2
      go_wp2_with fail
      refine (isPart_x r.n _).mono ?_
      rintro e w1 ⟨rfl, rfl⟩
      rw [N.out]
      go_wp2_with fail
      refine (isPart_x r.d _).mono ?_
      rintro e w1 ⟨rfl, rfl⟩
      rw [D.out]
      go_wp2_with fail
      go_roundw
      case rel => exact ⟨k + 1, by omega, by congr 1, Hn.out, by repeat (first | exact hb | exact hb.alloc hb.size _ | refine below_drewN ?_ _ | refine Below.drew ?_ | refine Below.setCell ?_ _ _ | refine Below.alloc ?_ _ _)⟩
      case measure => simp [intOf]; omega

/-- the rate so far, in four variables -/
def Four (bo : Option R) (n d k s : Value) : Prop := (bo = none ∧ n = .int .i64 0 ∧ d = .int .i64 0 ∧ k = .bool false ∧ s = .int .i64 0) ∨ ∃ r, bo = some r ∧ n = .int .i64 r.n ∧ d = .int .i64 r.d ∧ k = .bool true ∧ s = .int .i64 r.s
/-- the rate as rateOf answers it -/
def rateV : Option R → Value
  | none => .tuple #[.int .i64 0, .int .i64 0, .bool false]
  | some r => .tuple #[.int .i64 r.n, .int .i64 r.d, .bool true]
def ORel (l : List R) (f t on : Int) (w : World) (n d k s i : Value) (wr : World) : Prop := ∃ j : Nat, j ≤ l.length ∧ i = .int .i64 (j : Int) ∧ Four ((l.take j).foldl (stepR f t on) none) n d k s ∧ Below w.heap.size w wr
theorem step_out {f t on : Int} {r : R} (h : fits f t on r = false) (b : Option R) : stepR f t on b r = b := by unfold stepR; rw [if_neg (by rw [h]; exact Bool.false_ne_true)]
theorem step_first {f t on : Int} {r : R} (h : fits f t on r = true) : stepR f t on none r = some r := by unfold stepR; rw [if_pos h]
theorem step_new {f t on : Int} {r q : R} (h : fits f t on r = true) (c : q.s < r.s) : stepR f t on (some q) r = some r := by unfold stepR; rw [if_pos h]; exact if_pos c
theorem step_old {f t on : Int} {r q : R} (h : fits f t on r = true) (c : ¬ q.s < r.s) : stepR f t on (some q) r = some q := by unfold stepR; rw [if_pos h]; exact if_neg c

set_option maxHeartbeats 6400000 in
theorem rateOf_x (v : Value) (l : List R) (f t on : Int) (w : World) (hat : RAt w v l) (hl : l.length ≤ 1099511627776) :
    Calls Try.prog 24 #[v, .int .i64 f, .int .i64 t, .int .i64 on] w fun e w' => e = .returned (rateV (pick l f t on)) ∧ Below w.heap.size w w' := by
  have HAT := Lib.hid hat
  obtain ⟨a, cap, rfl, -, hc⟩ := hat
  clear hc
  go_enter Try.func24, Try.ntmps24
  go_wp2_with fail
  go_loopw [8, 9, 10, 11, 16] (fun n d k s i wr => ORel l f t on w n d k s i wr) (fun _ _ _ _ i _ => l.length - (intOf i).toNat)
  case atStart => exact ⟨0, Nat.zero_le _, rfl, .inl ⟨by simp, rfl, rfl, rfl, rfl⟩, Below.refl _ _⟩
  case round =>
    obtain ⟨j, hj, rfl, hfour, hb⟩ := hrel
    have j0 : (0 : Int) ≤ (j : Int) := by omega
    by_cases c : j < l.length
    case neg =>
      have c0 : ¬ (j : Int) < (l.length : Int) := by omega
      rw [fold_all (by omega)] at hfour
      change Four (pick l f t on) _ _ _ _ at hfour
      rcases hfour with ⟨e, rfl, rfl, rfl, rfl⟩ | ⟨r, e, rfl, rfl, rfl, rfl⟩
      · have hv := Lib.hid e
        clear e
        go_wp2_with fail
        go_ret3
        exact ⟨by rw [hv.out]; try rfl, hb⟩
      · have hv := Lib.hid e
        clear e
        go_wp2_with fail
        go_ret3
        exact ⟨by rw [hv.out]; try rfl, hb⟩
    case pos =>
      obtain ⟨r, hr⟩ : ∃ r, l[j]? = some r := ⟨l[j], List.getElem?_eq_getElem c⟩
      obtain ⟨a', cap', e', -, hc⟩ := HAT.out.below hb (Nat.le_refl _)
      injection e' with e1 e2 e3
      subst e1 e3
      obtain ⟨b, off, rfl, hlt, p0, p1, p2, p3, p4⟩ := hc j r hr
      have c0 : (j : Int) < (l.length : Int) := by omega
      have Hn : Hid (∀ n d k s, Four (stepR f t on ((l.take j).foldl (stepR f t on) none) r) n d k s → Four ((l.take (j + 1)).foldl (stepR f t on) none) n d k s) := fun n d k s h => by rw [fold_next hr]; exact h
      have H4 := Lib.hid hfour
      clear hr hc e2 hfour
      by_cases e1 : r.f = f
      case neg =>
        have nf : Hid (fits f t on r = false) := decide_eq_false (by omega)
        have f1 : (r.f != f) = true := by simp; omega
        clear e1
        go_wp2_with fail
        go_roundw
        case rel => exact ⟨j + 1, by omega, by congr 1, Hn.out _ _ _ _ (by rw [step_out nf.out]; exact H4.out), by repeat (first | exact hb | exact hb.alloc hb.size _ | refine below_drewN ?_ _ | refine Below.drew ?_ | refine Below.setCell ?_ _ _ | refine Below.alloc ?_ _ _)⟩
        case measure => simp [intOf]; omega
      by_cases e2 : r.t = t
      case neg =>
        have nf : Hid (fits f t on r = false) := decide_eq_false (by omega)
        have f1 : (r.f != f) = false := by simp; omega
        have f2 : (r.t != t) = true := by simp; omega
        clear e1 e2
        go_wp2_with fail
        go_roundw
        case rel => exact ⟨j + 1, by omega, by congr 1, Hn.out _ _ _ _ (by rw [step_out nf.out]; exact H4.out), by repeat (first | exact hb | exact hb.alloc hb.size _ | refine below_drewN ?_ _ | refine Below.drew ?_ | refine Below.setCell ?_ _ _ | refine Below.alloc ?_ _ _)⟩
        case measure => simp [intOf]; omega
      by_cases e3 : on < r.s
      case pos =>
        have nf : Hid (fits f t on r = false) := decide_eq_false (by omega)
        have f1 : (r.f != f) = false := by simp; omega
        have f2 : (r.t != t) = false := by simp; omega
        clear e1 e2
        go_wp2_with fail
        go_roundw
        case rel => exact ⟨j + 1, by omega, by congr 1, Hn.out _ _ _ _ (by rw [step_out nf.out]; exact H4.out), by repeat (first | exact hb | exact hb.alloc hb.size _ | refine below_drewN ?_ _ | refine Below.drew ?_ | refine Below.setCell ?_ _ _ | refine Below.alloc ?_ _ _)⟩
        case measure => simp [intOf]; omega
      have yf : Hid (fits f t on r = true) := decide_eq_true ⟨e1, e2, by omega⟩
      have f1 : (r.f != f) = false := by simp; omega
      have f2 : (r.t != t) = false := by simp; omega
      clear e1 e2
      rcases H4.out with ⟨e, rfl, rfl, rfl, rfl⟩ | ⟨q, e, rfl, rfl, rfl, rfl⟩
      · have E := Lib.hid e
        clear e H4
        go_wp2_with fail
        go_quiet (fail)
        go_wp2_with fail
        go_roundw
        case rel => exact ⟨j + 1, by omega, by congr 1, Hn.out _ _ _ _ (by rw [E.out, step_first yf.out]; exact .inr ⟨r, rfl, rfl, rfl, rfl, rfl⟩), by repeat (first | exact hb | exact hb.alloc hb.size _ | refine below_drewN ?_ _ | refine Below.drew ?_ | refine Below.setCell ?_ _ _ | refine Below.alloc ?_ _ _)⟩
        case measure => simp [intOf]; omega
      · have E := Lib.hid e
        clear e H4
        by_cases e4 : q.s < r.s
        · have g2 : decide (q.s < r.s) = true := decide_eq_true e4
          have G := Lib.hid e4
          go_wp2_with fail
          go_quiet (fail)
          go_wp2_with fail
          go_roundw
          case rel => exact ⟨j + 1, by omega, by congr 1, Hn.out _ _ _ _ (by rw [E.out, step_new yf.out G.out]; exact .inr ⟨r, rfl, rfl, rfl, rfl, rfl⟩), by repeat (first | exact hb | exact hb.alloc hb.size _ | refine below_drewN ?_ _ | refine Below.drew ?_ | refine Below.setCell ?_ _ _ | refine Below.alloc ?_ _ _)⟩
          case measure => simp [intOf]; omega
        · have g2 : decide (q.s < r.s) = false := decide_eq_false e4
          have G := Lib.hid e4
          go_wp2_with fail
          go_roundw
          case rel => exact ⟨j + 1, by omega, by congr 1, Hn.out _ _ _ _ (by rw [E.out, step_old yf.out G.out]; exact .inr ⟨q, rfl, rfl, rfl, rfl, rfl⟩), by repeat (first | exact hb | exact hb.alloc hb.size _ | refine below_drewN ?_ _ | refine Below.drew ?_ | refine Below.setCell ?_ _ _ | refine Below.alloc ?_ _ _)⟩
          case measure => simp [intOf]; omega

end Go.Proofs.Ytdijhpcnlbjdaaa
