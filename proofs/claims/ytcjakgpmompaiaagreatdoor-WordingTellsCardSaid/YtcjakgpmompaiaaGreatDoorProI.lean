/-
  The program: OrderAt, Usance, Members, Grade, City, Firm.
-/
import Derived.Test.YtcjakgpmompaiaaGreatDoorProH
namespace Go.Proofs.YtcjakgpmompaiaaGreatDoor
open Go.RowKit Rl

/-- no one of the first k usances leads from a to b -/
def NoU (l : List Usn) (a b : Int) (k : Nat) : Prop := ∀ (j : Nat) (u : Usn), j < k → l[j]? = some u → ¬ (u.fr = a ∧ u.to = b)
theorem NoU.next {l : List Usn} {a b : Int} {k : Nat} {u : Usn} (h : NoU l a b k) (hu : l[k]? = some u) (hn : ¬ (u.fr = a ∧ u.to = b)) : NoU l a b (k + 1) := by
  intro j y hj hy
  by_cases c : j = k
  · subst c
    rw [hu] at hy
    simp only [Option.some.injEq] at hy
    subst hy
    exact hn
  · exact h j y (by omega) hy
theorem usAt_yes {R : Rlm} {a b : Int} {k : Nat} {u : Usn} (h : NoU R.usances a b k) (hu : R.usances[k]? = some u) (h1 : u.fr = a ∧ u.to = b) : usAt R a b = (u.days, 0) := by
  have e : R.usances.find? (fun u => decide (u.fr = a) && decide (u.to = b)) = some u := by
    rw [List.find?_eq_some_iff_getElem]
    obtain ⟨hk, hx⟩ := List.getElem?_eq_some_iff.1 hu
    refine ⟨by simpa using h1, k, hk, hx, fun j hj => ?_⟩
    have h2 := h j _ hj (List.getElem?_eq_getElem (by omega))
    simp only [Bool.not_eq_true', Bool.and_eq_false_iff, decide_eq_false_iff_not]
    by_cases q : R.usances[j].fr = a
    · exact .inr (fun e => h2 ⟨q, e⟩)
    · exact .inl q
  unfold usAt
  rw [e]
theorem usAt_no {R : Rlm} {a b : Int} {k : Nat} (h : NoU R.usances a b k) (hk : R.usances.length ≤ k) : usAt R a b = (0, 4) := by
  have e : R.usances.find? (fun u => decide (u.fr = a) && decide (u.to = b)) = none := by
    rw [List.find?_eq_none]
    intro u hu
    obtain ⟨j, hj⟩ := List.getElem?_of_mem hu
    have := h j u (by have := (List.getElem?_eq_some_iff.1 hj).1; omega) hj
    simpa using this
  unfold usAt
  rw [e]
def LRel (n : Nat) (P : Nat → Prop) (W : World) (i : Value) (wr : World) : Prop := ∃ k : Nat, k ≤ n ∧ i = .int .i64 (k : Int) ∧ P k ∧ Below W.heap.size W wr
/-- the members among the first k firms -/
def memK (F : List Frm) (g : Int) (k : Nat) : List Int := ((List.range k).filter (fun i => at_ F (fun f => decide (f.grp = g)) i)).map Int.ofNat
def MRel (F : List Frm) (g : Int) (base : Nat) (W : World) (v i : Value) (wr : World) : Prop := ∃ (k m : Nat) (la : Option Addr) (lc : Nat), k ≤ F.length ∧ m = (memK F g k).length ∧ v = .slice la m lc ∧ i = .int .i64 (k : Int) ∧ wr.ownsRow base 3 1 (.slice la m lc) m (ints (memK F g k)) ∧ Below W.heap.size W wr

set_option maxHeartbeats 3200000 in
set_option maxRecDepth 100000 in
theorem Usance_x {a0 a1 a2 a3 a4 a5 a6 a7 : Option Addr} {c0 c1 c2 c3 c4 c5 c6 c7 : Nat} {R : Rlm} (a b : Int) (w : World) (hr : RS w a0 a1 a2 a3 a4 a5 a6 a7 c0 c1 c2 c3 c4 c5 c6 c7 R) (hF : Fit R) :
    Calls Tryz.prog 69 #[.agg #[.slice a0 R.cur.length c0, .slice a1 R.cities.length c1, .slice a2 R.groups.length c2, .slice a3 R.firms.length c3, .slice a4 R.orders.length c4, .slice a5 R.usances.length c5, .slice a6 R.rates.length c6, .slice a7 R.halts.length c7], .int .i64 a, .int .i64 b] w fun r w' => r = .returned (.tuple #[.int .i64 (usAt R a b).1, .int .i64 (usAt R a b).2]) ∧ Below w.heap.size w w' := by
  have HR := Lib.hid hr
  have RB0 := Lib.hid (RB.new w (a0 := a0) (a1 := a1) (a2 := a2) (a3 := a3) (a4 := a4) (a5 := a5) (a6 := a6) (a7 := a7) (c0 := c0) (c1 := c1) (c2 := c2) (c3 := c3) (c4 := c4) (c5 := c5) (c6 := c6) (c7 := c7) (R := R))
  have B0 := Lib.hid (Below.new1 (w := w) (.cells #[.slice a0 R.cur.length c0, .slice a1 R.cities.length c1, .slice a2 R.groups.length c2, .slice a3 R.firms.length c3, .slice a4 R.orders.length c4, .slice a5 R.usances.length c5, .slice a6 R.rates.length c6, .slice a7 R.halts.length c7] 31))
  clear hr
  have y1 := RB0.out.b5
  have hs := hF.usances
  go_enter Tryz.func69, Tryz.ntmps69
  go_wp2_with fail
  go_loopw [13] (fun i wr => LRel R.usances.length (NoU R.usances a b) (w.alloc (.cells #[.slice a0 R.cur.length c0, .slice a1 R.cities.length c1, .slice a2 R.groups.length c2, .slice a3 R.firms.length c3, .slice a4 R.orders.length c4, .slice a5 R.usances.length c5, .slice a6 R.rates.length c6, .slice a7 R.halts.length c7] 31)) i wr) (fun i _ => R.usances.length - (intOf i).toNat)
  case atStart => exact ⟨0, Nat.zero_le _, rfl, fun j u hj => by omega, Below.refl _ _⟩
  case round =>
    obtain ⟨k, hk, rfl, hall, hbw⟩ := hrel
    have ry := (RB0.out.next hbw).b5
    have Ha := Lib.hid hall
    have HB := Lib.hid (chain B0.out hbw)
    have HB1 := Lib.hid hbw
    have k0 : (0 : Int) ≤ (k : Int) := by omega
    clear hall hbw
    by_cases c : k < R.usances.length
    case neg =>
      have kc : ¬ (k : Int) < (R.usances.length : Int) := by omega
      have hv : Hid (usAt R a b = (0, 4)) := usAt_no Ha.out (by omega)
      go_wp2_with fail
      go_ret2
      exact ⟨by rw [hv.out]; try rfl, HB.out⟩
    case pos =>
      have kc : (k : Int) < (R.usances.length : Int) := by omega
      obtain ⟨x, hx⟩ : ∃ x, R.usances[k]? = some x := ⟨_, List.getElem?_eq_getElem c⟩
      obtain ⟨b', off', ea, hb, hc⟩ := (HR.out.next HB.out).usances.at hx
      rw [ea] at ry ⊢
      have t0 : wr.cell? ⟨b', off' + k * 3, none⟩ = some (.int .i64 x.fr) := hc 0 _ rfl
      have t1 : wr.cell? ⟨b', off' + k * 3 + 1, none⟩ = some (.int .i64 x.to) := hc 1 _ rfl
      have t2 : wr.cell? ⟨b', off' + k * 3 + 2, none⟩ = some (.int .i64 x.days) := hc 2 _ rfl
      have HX := Lib.hid hx
      clear hx hc
      by_cases e1 : x.fr = a
      · have f1 : (x.fr == a) = true := bt e1
        by_cases e2 : x.to = b
        · have f2 : (x.to == b) = true := bt e2
          have hv : Hid (usAt R a b = (x.days, 0)) := usAt_yes Ha.out HX.out ⟨e1, e2⟩
          clear e1 e2
          go_wp2_with fail
          go_ret2
          exact ⟨by rw [hv.out]; try rfl, (chain HB.out (Below.new1 _))⟩
        · have f2 : (x.to == b) = false := bf e2
          have HN := Lib.hid (Ha.out.next HX.out (fun h => e2 h.2))
          clear e1 e2
          go_wp2_with fail
          go_roundw
          case rel => exact ⟨k + 1, by omega, by congr 1, HN.out, by rw [← ea]; exact chain HB1.out (Below.new1 _)⟩
          case measure => simp [intOf]; omega
      · have f1 : (x.fr == a) = false := bf e1
        have HN := Lib.hid (Ha.out.next HX.out (fun h => e1 h.1))
        clear e1
        go_wp2_with fail
        go_roundw
        case rel => exact ⟨k + 1, by omega, by congr 1, HN.out, by rw [← ea]; exact chain HB1.out (Below.new1 _)⟩
        case measure => simp [intOf]; omega

set_option maxHeartbeats 3200000 in
set_option maxRecDepth 100000 in
theorem City_x {a0 a1 a2 a3 a4 a5 a6 a7 : Option Addr} {c0 c1 c2 c3 c4 c5 c6 c7 : Nat} {R : Rlm} (s : B) (w : World) (hr : RS w a0 a1 a2 a3 a4 a5 a6 a7 c0 c1 c2 c3 c4 c5 c6 c7 R) (hF : Fit R) :
    Calls Tryz.prog 87 #[.agg #[.slice a0 R.cur.length c0, .slice a1 R.cities.length c1, .slice a2 R.groups.length c2, .slice a3 R.firms.length c3, .slice a4 R.orders.length c4, .slice a5 R.usances.length c5, .slice a6 R.rates.length c6, .slice a7 R.halts.length c7], .string s] w fun r w' => r = .returned (.int .i64 (findV (R.cities.map Cty.nm) s)) ∧ Below w.heap.size w w' := by
  have HR := Lib.hid hr
  have RB0 := Lib.hid (RB.new w (a0 := a0) (a1 := a1) (a2 := a2) (a3 := a3) (a4 := a4) (a5 := a5) (a6 := a6) (a7 := a7) (c0 := c0) (c1 := c1) (c2 := c2) (c3 := c3) (c4 := c4) (c5 := c5) (c6 := c6) (c7 := c7) (R := R))
  have B0 := Lib.hid (Below.new1 (w := w) (.cells #[.slice a0 R.cur.length c0, .slice a1 R.cities.length c1, .slice a2 R.groups.length c2, .slice a3 R.firms.length c3, .slice a4 R.orders.length c4, .slice a5 R.usances.length c5, .slice a6 R.rates.length c6, .slice a7 R.halts.length c7] 31))
  clear hr
  have y1 := RB0.out.b1
  have hs := hF.cities
  go_enter Tryz.func87, Tryz.ntmps87
  go_wp2_with fail
  refine (findCty_x _ R.cities s _ (HR.out.next B0.out).cities hs).mono ?_
  rintro r w1 ⟨rfl, b1⟩
  have B1 := Lib.hid (chain B0.out b1)
  clear b1
  go_wp2_with fail
  go_ret
  exact ⟨rfl, B1.out⟩

set_option maxHeartbeats 3200000 in
set_option maxRecDepth 100000 in
theorem Firm_x {a0 a1 a2 a3 a4 a5 a6 a7 : Option Addr} {c0 c1 c2 c3 c4 c5 c6 c7 : Nat} {R : Rlm} (s : B) (w : World) (hr : RS w a0 a1 a2 a3 a4 a5 a6 a7 c0 c1 c2 c3 c4 c5 c6 c7 R) (hF : Fit R) :
    Calls Tryz.prog 91 #[.agg #[.slice a0 R.cur.length c0, .slice a1 R.cities.length c1, .slice a2 R.groups.length c2, .slice a3 R.firms.length c3, .slice a4 R.orders.length c4, .slice a5 R.usances.length c5, .slice a6 R.rates.length c6, .slice a7 R.halts.length c7], .string s] w fun r w' => r = .returned (.int .i64 (findV (R.firms.map Frm.nm) s)) ∧ Below w.heap.size w w' := by
  have HR := Lib.hid hr
  have RB0 := Lib.hid (RB.new w (a0 := a0) (a1 := a1) (a2 := a2) (a3 := a3) (a4 := a4) (a5 := a5) (a6 := a6) (a7 := a7) (c0 := c0) (c1 := c1) (c2 := c2) (c3 := c3) (c4 := c4) (c5 := c5) (c6 := c6) (c7 := c7) (R := R))
  have B0 := Lib.hid (Below.new1 (w := w) (.cells #[.slice a0 R.cur.length c0, .slice a1 R.cities.length c1, .slice a2 R.groups.length c2, .slice a3 R.firms.length c3, .slice a4 R.orders.length c4, .slice a5 R.usances.length c5, .slice a6 R.rates.length c6, .slice a7 R.halts.length c7] 31))
  clear hr
  have y1 := RB0.out.b3
  have hs := hF.firms
  go_enter Tryz.func91, Tryz.ntmps91
  go_wp2_with fail
  refine (findFrm_x _ R.firms s _ (HR.out.next B0.out).firms hs).mono ?_
  rintro r w1 ⟨rfl, b1⟩
  have B1 := Lib.hid (chain B0.out b1)
  clear b1
  go_wp2_with fail
  go_ret
  exact ⟨rfl, B1.out⟩

end Go.Proofs.YtcjakgpmompaiaaGreatDoor
