/-
  The program: OrderAt, Usance, Members, Grade, City, Firm.
-/
import Derived.Test.YtagdikghpiiabaaProH
namespace Go.Proofs.Ytagdikghpiiabaa
open Go.RowKit Rl

theorem orderAt_yes {R : Rlm} {n : Nat} {c : Cty} (h : R.cities[n]? = some c) (h1 : ix (n : Int) R.cities.length = true) : orderAt R (n : Int) = c.o := by
  unfold orderAt
  rw [if_pos h1, Int.toNat_natCast, h]
theorem orderAt_no {R : Rlm} {n : Int} (h1 : ix n R.cities.length = false) : orderAt R n = -1 := by
  unfold orderAt
  rw [if_neg (by rw [h1]; decide)]
theorem grade_no {R : Rlm} {n : Int} (h1 : ix n R.firms.length = false) : gradeP R n = -1 := by
  unfold gradeP
  rw [if_neg (by rw [h1]; decide)]
theorem grade_none {R : Rlm} {n : Nat} {f : Frm} (h : R.firms[n]? = some f) (h1 : ix (n : Int) R.firms.length = true) (h2 : ix f.grp R.groups.length = false) : gradeP R (n : Int) = -1 := by
  unfold gradeP
  rw [if_pos h1, Int.toNat_natCast, h]
  show (if _ then _ else _) = _
  rw [if_neg (by rw [h2]; decide)]
theorem grade_yes {R : Rlm} {n q : Nat} {f : Frm} {g : Int} (h : R.firms[n]? = some f) (h1 : ix (n : Int) R.firms.length = true) (hq : f.grp = (q : Int)) (hg : R.groups[q]? = some g) (h2 : ix f.grp R.groups.length = true) : gradeP R (n : Int) = g := by
  unfold gradeP
  rw [if_pos h1, Int.toNat_natCast, h]
  show (if _ then _ else _) = _
  rw [if_pos h2, hq, Int.toNat_natCast, List.getD_eq_getElem?_getD, hg]
  rfl
theorem ix_nat {n : Int} {len : Nat} (h : ix n len = true) : ∃ m : Nat, n = (m : Int) ∧ m < len := by
  obtain ⟨h1, h2⟩ := ix_iff.1 h
  obtain ⟨m, rfl⟩ := Int.eq_ofNat_of_zero_le h1
  exact ⟨m, rfl, by omega⟩
/-- no one of the first k usances leads from a to b -/
def NoU (l : List Usn) (a b : Int) (k : Nat) : Prop := ∀ (j : Nat) (u : Usn), j < k → l[j]? = some u → ¬ (u.fr = a ∧ u.to = b)
theorem NoU.next {l : List Usn} {a b : Int} {k : Nat} {u : Usn} (h : NoU l a b k) (hu : l[k]? = some u) (hn : ¬ (u.fr = a ∧ u.to = b)) : NoU l a b (k + 1) := by
  intro j y hj hy
  by_cases c : j = k
  · subst c
    rw [hu] at hy
    simp only [Option.some.injEq] at hy
    subst hy
    exact hn
  · exact h j y (by omega) hy
theorem usAt_yes {R : Rlm} {a b : Int} {k : Nat} {u : Usn} (h : NoU R.usances a b k) (hu : R.usances[k]? = some u) (h1 : u.fr = a ∧ u.to = b) : usAt R a b = (u.days, 0) := by
  have e : R.usances.find? (fun u => decide (u.fr = a) && decide (u.to = b)) = some u := by
    rw [List.find?_eq_some_iff_getElem]
    obtain ⟨hk, hx⟩ := List.getElem?_eq_some_iff.1 hu
    refine ⟨by simpa using h1, k, hk, hx, fun j hj => ?_⟩
    have h2 := h j _ hj (List.getElem?_eq_getElem (by omega))
    simp only [Bool.not_eq_true', Bool.and_eq_false_iff, decide_eq_false_iff_not]
    by_cases q : R.usances[j].fr = a
    · exact .inr (fun e => h2 ⟨q, e⟩)
    · exact .inl q
  unfold usAt
  rw [e]
theorem usAt_no {R : Rlm} {a b : Int} {k : Nat} (h : NoU R.usances a b k) (hk : R.usances.length ≤ k) : usAt R a b = (0, 4) := by
  have e : R.usances.find? (fun u => decide (u.fr = a) && decide (u.to = b)) = none := by
    rw [List.find?_eq_none]
    intro u hu
    obtain ⟨j, hj⟩ := List.getElem?_of_mem hu
    have := h j u (by have := (List.getElem?_eq_some_iff.1 hj).1; omega) hj
    simpa using this
  unfold usAt
  rw [e]
def LRel (n : Nat) (P : Nat → Prop) (W : World) (i : Value) (wr : World) : Prop := ∃ k : Nat, k ≤ n ∧ i = .int .i64 (k : Int) ∧ P k ∧ Below W.heap.size W wr
/-- the members among the first k firms -/
def memK (F : List Frm) (g : Int) (k : Nat) : List Int := ((List.range k).filter (fun i => at_ F (fun f => decide (f.grp = g)) i)).map Int.ofNat
theorem mem_len (F : List Frm) (g : Int) (k : Nat) : (memK F g k).length ≤ k := by
  unfold memK
  rw [List.length_map]
  exact Nat.le_trans (List.length_filter_le _ _) (by simp)
theorem mem_yes {F : List Frm} {g : Int} {k : Nat} {f : Frm} (h : F[k]? = some f) (h1 : f.grp = g) : memK F g (k + 1) = memK F g k ++ [(k : Int)] := by
  unfold memK
  rw [List.range_succ, List.filter_append, List.map_append]
  congr 1
  simp [at_, h, h1]
theorem mem_no {F : List Frm} {g : Int} {k : Nat} {f : Frm} (h : F[k]? = some f) (h1 : f.grp ≠ g) : memK F g (k + 1) = memK F g k := by
  unfold memK
  rw [List.range_succ, List.filter_append, List.map_append]
  simp [at_, h, h1]
def MRel (F : List Frm) (g : Int) (base : Nat) (W : World) (v i : Value) (wr : World) : Prop := ∃ (k m : Nat) (la : Option Addr) (lc : Nat), k ≤ F.length ∧ m = (memK F g k).length ∧ v = .slice la m lc ∧ i = .int .i64 (k : Int) ∧ wr.ownsRow base 3 1 (.slice la m lc) m (ints (memK F g k)) ∧ Below W.heap.size W wr

set_option maxHeartbeats 3200000 in
set_option maxRecDepth 100000 in
theorem OrderAt_x {a0 a1 a2 a3 a4 a5 a6 a7 : Option Addr} {c0 c1 c2 c3 c4 c5 c6 c7 : Nat} {R : Rlm} (n : Int) (w : World) (hr : RS w a0 a1 a2 a3 a4 a5 a6 a7 c0 c1 c2 c3 c4 c5 c6 c7 R) (hF : Fit R) :
    Calls Try.prog 14 #[.agg #[.slice a0 R.cur.length c0, .slice a1 R.cities.length c1, .slice a2 R.groups.length c2, .slice a3 R.firms.length c3, .slice a4 R.orders.length c4, .slice a5 R.usances.length c5, .slice a6 R.rates.length c6, .slice a7 R.halts.length c7], .int .i64 n] w fun r w' => r = .returned (.int .i64 (orderAt R n)) ∧ Below w.heap.size w w' := by
  have HR := Lib.hid hr
  have RB0 := Lib.hid (RB.new w (a0 := a0) (a1 := a1) (a2 := a2) (a3 := a3) (a4 := a4) (a5 := a5) (a6 := a6) (a7 := a7) (c0 := c0) (c1 := c1) (c2 := c2) (c3 := c3) (c4 := c4) (c5 := c5) (c6 := c6) (c7 := c7) (R := R))
  have B0 := Lib.hid (Below.new1 (w := w) (.cells #[.slice a0 R.cur.length c0, .slice a1 R.cities.length c1, .slice a2 R.groups.length c2, .slice a3 R.firms.length c3, .slice a4 R.orders.length c4, .slice a5 R.usances.length c5, .slice a6 R.rates.length c6, .slice a7 R.halts.length c7] 31))
  clear hr
  have y1 := RB0.out.b1
  have hs := hF.cities
  cases e : ix n R.cities.length with
  | false =>
    have hv : Hid (orderAt R n = -1) := orderAt_no e
    have E := Lib.hid e
    clear e
    go_enter Try.func14, Try.ntmps14
    go_wp2_with fail
    refine (cityIx_x n _ _ _ _ hs).mono ?_
    rintro r w1 ⟨rfl, rfl⟩

    rw [E.out]
    go_wp2_with fail
    go_ret
    exact ⟨by rw [hv.out]; try rfl, B0.out⟩
  | true =>
    obtain ⟨m, rfl, hm⟩ := ix_nat e
    have m0 : (0 : Int) ≤ (m : Int) := by omega
    have m1 : (m : Int) < (R.cities.length : Int) := by omega
    obtain ⟨x, hx⟩ : ∃ x, R.cities[m]? = some x := ⟨_, List.getElem?_eq_getElem hm⟩
    obtain ⟨b, off, ea, hb, hc⟩ := (HR.out.next B0.out).cities.at hx
    have t0 : (w.alloc (.cells #[.slice a0 R.cur.length c0, .slice a1 R.cities.length c1, .slice a2 R.groups.length c2, .slice a3 R.firms.length c3, .slice a4 R.orders.length c4, .slice a5 R.usances.length c5, .slice a6 R.rates.length c6, .slice a7 R.halts.length c7] 31)).cell? ⟨b, off + m * 6, none⟩ = some (.string x.nm) := hc 0 _ rfl
    have t1 : (w.alloc (.cells #[.slice a0 R.cur.length c0, .slice a1 R.cities.length c1, .slice a2 R.groups.length c2, .slice a3 R.firms.length c3, .slice a4 R.orders.length c4, .slice a5 R.usances.length c5, .slice a6 R.rates.length c6, .slice a7 R.halts.length c7] 31)).cell? ⟨b, off + m * 6 + 1, none⟩ = some (.int .i64 x.o) := hc 1 _ rfl
    have t2 : (w.alloc (.cells #[.slice a0 R.cur.length c0, .slice a1 R.cities.length c1, .slice a2 R.groups.length c2, .slice a3 R.firms.length c3, .slice a4 R.orders.length c4, .slice a5 R.usances.length c5, .slice a6 R.rates.length c6, .slice a7 R.halts.length c7] 31)).cell? ⟨b, off + m * 6 + 2, none⟩ = some (.int .i64 x.c) := hc 2 _ rfl
    have t3 : (w.alloc (.cells #[.slice a0 R.cur.length c0, .slice a1 R.cities.length c1, .slice a2 R.groups.length c2, .slice a3 R.firms.length c3, .slice a4 R.orders.length c4, .slice a5 R.usances.length c5, .slice a6 R.rates.length c6, .slice a7 R.halts.length c7] 31)).cell? ⟨b, off + m * 6 + 3, none⟩ = some (.slice x.a3 x.rest.length x.k3) := hc 3 _ rfl
    have t4 : (w.alloc (.cells #[.slice a0 R.cur.length c0, .slice a1 R.cities.length c1, .slice a2 R.groups.length c2, .slice a3 R.firms.length c3, .slice a4 R.orders.length c4, .slice a5 R.usances.length c5, .slice a6 R.rates.length c6, .slice a7 R.halts.length c7] 31)).cell? ⟨b, off + m * 6 + 4, none⟩ = some (.slice x.a4 x.feasts.length x.k4) := hc 4 _ rfl
    have t5 : (w.alloc (.cells #[.slice a0 R.cur.length c0, .slice a1 R.cities.length c1, .slice a2 R.groups.length c2, .slice a3 R.firms.length c3, .slice a4 R.orders.length c4, .slice a5 R.usances.length c5, .slice a6 R.rates.length c6, .slice a7 R.halts.length c7] 31)).cell? ⟨b, off + m * 6 + 5, none⟩ = some (.slice x.a5 x.shut.length x.k5) := hc 5 _ rfl
    subst ea
    have hv : Hid (orderAt R (m : Int) = x.o) := orderAt_yes hx e
    have E := Lib.hid e
    clear e hx hc
    go_enter Try.func14, Try.ntmps14
    go_wp2_with fail
    refine (cityIx_x (m : Int) _ _ _ _ hs).mono ?_
    rintro r w1 ⟨rfl, rfl⟩

    rw [E.out]
    go_wp2_with fail
    go_ret
    exact ⟨by rw [hv.out]; try rfl, B0.out⟩

set_option maxHeartbeats 3200000 in
set_option maxRecDepth 100000 in
theorem Usance_x {a0 a1 a2 a3 a4 a5 a6 a7 : Option Addr} {c0 c1 c2 c3 c4 c5 c6 c7 : Nat} {R : Rlm} (a b : Int) (w : World) (hr : RS w a0 a1 a2 a3 a4 a5 a6 a7 c0 c1 c2 c3 c4 c5 c6 c7 R) (hF : Fit R) :
    Calls Try.prog 10 #[.agg #[.slice a0 R.cur.length c0, .slice a1 R.cities.length c1, .slice a2 R.groups.length c2, .slice a3 R.firms.length c3, .slice a4 R.orders.length c4, .slice a5 R.usances.length c5, .slice a6 R.rates.length c6, .slice a7 R.halts.length c7], .int .i64 a, .int .i64 b] w fun r w' => r = .returned (.tuple #[.int .i64 (usAt R a b).1, .int .i64 (usAt R a b).2]) ∧ Below w.heap.size w w' := by
  have HR := Lib.hid hr
  have RB0 := Lib.hid (RB.new w (a0 := a0) (a1 := a1) (a2 := a2) (a3 := a3) (a4 := a4) (a5 := a5) (a6 := a6) (a7 := a7) (c0 := c0) (c1 := c1) (c2 := c2) (c3 := c3) (c4 := c4) (c5 := c5) (c6 := c6) (c7 := c7) (R := R))
  have B0 := Lib.hid (Below.new1 (w := w) (.cells #[.slice a0 R.cur.length c0, .slice a1 R.cities.length c1, .slice a2 R.groups.length c2, .slice a3 R.firms.length c3, .slice a4 R.orders.length c4, .slice a5 R.usances.length c5, .slice a6 R.rates.length c6, .slice a7 R.halts.length c7] 31))
  clear hr
  have y1 := RB0.out.b5
  have hs := hF.usances
  go_enter Try.func10, Try.ntmps10
  go_wp2_with fail
  go_loopw [13] (fun i wr => LRel R.usances.length (NoU R.usances a b) (w.alloc (.cells #[.slice a0 R.cur.length c0, .slice a1 R.cities.length c1, .slice a2 R.groups.length c2, .slice a3 R.firms.length c3, .slice a4 R.orders.length c4, .slice a5 R.usances.length c5, .slice a6 R.rates.length c6, .slice a7 R.halts.length c7] 31)) i wr) (fun i _ => R.usances.length - (intOf i).toNat)
  case atStart => exact ⟨0, Nat.zero_le _, rfl, fun j u hj => by omega, Below.refl _ _⟩
  case round =>
    obtain ⟨k, hk, rfl, hall, hbw⟩ := hrel
    have ry := (RB0.out.next hbw).b5
    have Ha := Lib.hid hall
    have HB := Lib.hid (chain B0.out hbw)
    have HB1 := Lib.hid hbw
    have k0 : (0 : Int) ≤ (k : Int) := by omega
    clear hall hbw
    by_cases c : k < R.usances.length
    case neg =>
      have kc : ¬ (k : Int) < (R.usances.length : Int) := by omega
      have hv : Hid (usAt R a b = (0, 4)) := usAt_no Ha.out (by omega)
      go_wp2_with fail
      go_ret2
      exact ⟨by rw [hv.out]; try rfl, HB.out⟩
    case pos =>
      have kc : (k : Int) < (R.usances.length : Int) := by omega
      obtain ⟨x, hx⟩ : ∃ x, R.usances[k]? = some x := ⟨_, List.getElem?_eq_getElem c⟩
      obtain ⟨b', off', ea, hb, hc⟩ := (HR.out.next HB.out).usances.at hx
      rw [ea] at ry ⊢
      have t0 : wr.cell? ⟨b', off' + k * 3, none⟩ = some (.int .i64 x.fr) := hc 0 _ rfl
      have t1 : wr.cell? ⟨b', off' + k * 3 + 1, none⟩ = some (.int .i64 x.to) := hc 1 _ rfl
      have t2 : wr.cell? ⟨b', off' + k * 3 + 2, none⟩ = some (.int .i64 x.days) := hc 2 _ rfl
      have HX := Lib.hid hx
      clear hx hc
      by_cases e1 : x.fr = a
      · have f1 : (x.fr == a) = true := bt e1
        by_cases e2 : x.to = b
        · have f2 : (x.to == b) = true := bt e2
          have hv : Hid (usAt R a b = (x.days, 0)) := usAt_yes Ha.out HX.out ⟨e1, e2⟩
          clear e1 e2
          go_wp2_with fail
          go_ret2
          exact ⟨by rw [hv.out]; try rfl, (chain HB.out (Below.new1 _))⟩
        · have f2 : (x.to == b) = false := bf e2
          have HN := Lib.hid (Ha.out.next HX.out (fun h => e2 h.2))
          clear e1 e2
          go_wp2_with fail
          go_roundw
          case rel => exact ⟨k + 1, by omega, by congr 1, HN.out, by rw [← ea]; exact chain HB1.out (Below.new1 _)⟩
          case measure => simp [intOf]; omega
      · have f1 : (x.fr == a) = false := bf e1
        have HN := Lib.hid (Ha.out.next HX.out (fun h => e1 h.1))
        clear e1
        go_wp2_with fail
        go_roundw
        case rel => exact ⟨k + 1, by omega, by congr 1, HN.out, by rw [← ea]; exact chain HB1.out (Below.new1 _)⟩
        case measure => simp [intOf]; omega

set_option maxHeartbeats 3200000 in
set_option maxRecDepth 100000 in
theorem Members_x {a0 a1 a2 a3 a4 a5 a6 a7 : Option Addr} {c0 c1 c2 c3 c4 c5 c6 c7 : Nat} {R : Rlm} (g : Int) (w : World) (hr : RS w a0 a1 a2 a3 a4 a5 a6 a7 c0 c1 c2 c3 c4 c5 c6 c7 R) (hF : Fit R) :
    Calls Try.prog 17 #[.agg #[.slice a0 R.cur.length c0, .slice a1 R.cities.length c1, .slice a2 R.groups.length c2, .slice a3 R.firms.length c3, .slice a4 R.orders.length c4, .slice a5 R.usances.length c5, .slice a6 R.rates.length c6, .slice a7 R.halts.length c7], .int .i64 g] w fun r w' => (∃ v, r = .returned v ∧ IAt w' v (memP R.firms g)) ∧ Below w.heap.size w w' := by
  have HR := Lib.hid hr
  have RB0 := Lib.hid (RB.new w (a0 := a0) (a1 := a1) (a2 := a2) (a3 := a3) (a4 := a4) (a5 := a5) (a6 := a6) (a7 := a7) (c0 := c0) (c1 := c1) (c2 := c2) (c3 := c3) (c4 := c4) (c5 := c5) (c6 := c6) (c7 := c7) (R := R))
  have B0 := Lib.hid (Below.new1 (w := w) (.cells #[.slice a0 R.cur.length c0, .slice a1 R.cities.length c1, .slice a2 R.groups.length c2, .slice a3 R.firms.length c3, .slice a4 R.orders.length c4, .slice a5 R.usances.length c5, .slice a6 R.rates.length c6, .slice a7 R.halts.length c7] 31))
  clear hr
  have y1 := RB0.out.b3
  have hs := hF.firms
  have hs4 := hF.s4
  have zs : (w.alloc (.cells #[.slice a0 R.cur.length c0, .slice a1 R.cities.length c1, .slice a2 R.groups.length c2, .slice a3 R.firms.length c3, .slice a4 R.orders.length c4, .slice a5 R.usances.length c5, .slice a6 R.rates.length c6, .slice a7 R.halts.length c7] 31)).heap.size = w.heap.size + 1 := by simp
  have ZS := Lib.hid zs
  clear zs
  obtain ⟨rj, hj, hy0, hy1, hy2⟩ := info_parts infoI
  have Hj := Lib.hid hj
  have Hy0 := Lib.hid hy0
  have Hy1 := Lib.hid hy1
  have Hy2 := Lib.hid hy2
  clear hj hy0 hy1 hy2
  go_enter Try.func17, Try.ntmps17
  go_wp2_with fail
  go_loopw [5, 11] (fun v i wr => MRel R.firms g (w.heap.size + 1) (w.alloc (.cells #[.slice a0 R.cur.length c0, .slice a1 R.cities.length c1, .slice a2 R.groups.length c2, .slice a3 R.firms.length c3, .slice a4 R.orders.length c4, .slice a5 R.usances.length c5, .slice a6 R.rates.length c6, .slice a7 R.halts.length c7] 31)) v i wr) (fun _ i _ => R.firms.length - (intOf i).toNat)
  case atStart => exact ⟨0, 0, none, 0, Nat.zero_le _, rfl, rfl, rfl, World.ownsRow_nil _ _ _ _, Below.refl _ _⟩
  case round =>
    obtain ⟨k, m, la, lc, hk, rfl, rfl, rfl, hown, hbw⟩ := hrel
    have ry := (RB0.out.next hbw).b3
    have HO := Lib.hid hown
    have HB := Lib.hid (chain B0.out hbw)
    have HB1 := Lib.hid hbw
    have k0 : (0 : Int) ≤ (k : Int) := by omega
    clear hown hbw
    by_cases c : k < R.firms.length
    case neg =>
      have kc : ¬ (k : Int) < (R.firms.length : Int) := by omega
      obtain rfl : k = R.firms.length := by omega
      have hv := Lib.hid (own_int HO.out rfl)
      go_wp2_with fail
      go_ret
      exact ⟨⟨_, rfl, hv.out⟩, HB.out⟩
    case pos =>
      have kc : (k : Int) < (R.firms.length : Int) := by omega
      obtain ⟨x, hx⟩ : ∃ x, R.firms[k]? = some x := ⟨_, List.getElem?_eq_getElem c⟩
      obtain ⟨b, off, ea, hb, hc⟩ := (HR.out.next HB.out).firms.at hx
      rw [ea] at ry ⊢
      have t0 : wr.cell? ⟨b, off + k * 3, none⟩ = some (.string x.nm) := hc 0 _ rfl
      have t1 : wr.cell? ⟨b, off + k * 3 + 1, none⟩ = some (.int .i64 x.city) := hc 1 _ rfl
      have t2 : wr.cell? ⟨b, off + k * 3 + 2, none⟩ = some (.int .i64 x.grp) := hc 2 _ rfl
      have HX := Lib.hid hx
      clear hx hc
      by_cases e1 : x.grp = g
      · have f1 : (x.grp == g) = true := bt e1
        have HM := Lib.hid (mem_yes HX.out e1)
        have hlen := mem_len R.firms g k
        have HB2 : Hid (Below (w.alloc (.cells #[.slice a0 R.cur.length c0, .slice a1 R.cities.length c1, .slice a2 R.groups.length c2, .slice a3 R.firms.length c3, .slice a4 R.orders.length c4, .slice a5 R.usances.length c5, .slice a6 R.rates.length c6, .slice a7 R.halts.length c7] 31)).heap.size (w.alloc (.cells #[.slice a0 R.cur.length c0, .slice a1 R.cities.length c1, .slice a2 R.groups.length c2, .slice a3 R.firms.length c3, .slice a4 R.orders.length c4, .slice a5 R.usances.length c5, .slice a6 R.rates.length c6, .slice a7 R.halts.length c7] 31)) (wr.alloc (.cells #[.string x.nm, .int .i64 x.city, .int .i64 x.grp] 47))) := (chain HB1.out (Below.new1 (w := wr) (.cells #[.string x.nm, .int .i64 x.city, .int .i64 x.grp] 47)))
        clear e1
        go_wp2_with (at_builtin; refine wpList_append_own _ rfl (.tmp 20) (.tmp 22) 40 rfl (w.heap.size + 1) 3 rj (.int .i64 0) 1 8 Try.underlying40 Hj.out Hy0.out Hy1.out Hy2.out rfl (by decide) _ (memK R.firms g k).length (ints (memK R.firms g k)) rfl ((HO.out.alloc _).alloc _) ⟨wr.heap.size + 1, 0, none⟩ 1 1 [.int .i64 (k : Int)] rfl rfl ?f1 ?f2 ?f3 ?f4 ?f5 ?_)
        case f1 => exact cell_new1 _ _ _ _ (by first | rfl | simp)
        case f2 => first | rfl | (intro u hu; simp at hu; subst hu; rfl)
        case f3 => unfold maxLen; omega
        case f4 => omega
        case f5 => have := HB2.out.size; simp at this ⊢; omega
        intro v7 w7 hown7 hgrow7 _
        have hrow : ∀ j, (Value.slice la (memK R.firms g k).length lc).ownBlock = some j → w.heap.size + 1 ≤ j := fun j hj => (HO.out.lt j hj).1
        have B7 : Hid (Below (w.alloc (.cells #[.slice a0 R.cur.length c0, .slice a1 R.cities.length c1, .slice a2 R.groups.length c2, .slice a3 R.firms.length c3, .slice a4 R.orders.length c4, .slice a5 R.usances.length c5, .slice a6 R.rates.length c6, .slice a7 R.halts.length c7] 31)).heap.size (w.alloc (.cells #[.slice a0 R.cur.length c0, .slice a1 R.cities.length c1, .slice a2 R.groups.length c2, .slice a3 R.firms.length c3, .slice a4 R.orders.length c4, .slice a5 R.usances.length c5, .slice a6 R.rates.length c6, .slice a7 R.halts.length c7] 31)) w7) := HB2.out.trans ((((Below.refl _ _).mono HB2.out.size).alloc HB2.out.size _).grown hgrow7 (by have := HB2.out.size; simp at this ⊢; omega) (fun j hj => by have := hrow j hj; simp at this ⊢; omega))
        have HO7 : Hid (w7.ownsRow (w.heap.size + 1) 3 1 v7 ((memK R.firms g k).length + 1) (ints (memK R.firms g (k + 1)))) := by
          show w7.ownsRow _ _ _ _ _ _
          rw [HM.out, ints_app]
          exact hown7
        have hl7 : (memK R.firms g k).length + 1 = (memK R.firms g (k + 1)).length := by rw [HM.out, List.length_append]; rfl
        obtain ⟨la7, lc7, e7⟩ := (own_int HO7.out hl7).shape
        rw [← hl7] at e7
        subst e7
        have HL7 := Lib.hid hl7
        clear hown7 hgrow7 hrow hl7
        go_wp2_with fail
        go_roundw
        case rel => exact ⟨k + 1, _, la7, lc7, by omega, HL7.out, rfl, by congr 1, HO7.out, by rw [← ea]; exact B7.out⟩
        case measure => simp [intOf]; omega
      · have f1 : (x.grp == g) = false := bf e1
        have HM := Lib.hid (mem_no HX.out e1)
        have HO7 : Hid ((wr.alloc (.cells #[.string x.nm, .int .i64 x.city, .int .i64 x.grp] 47)).ownsRow (w.heap.size + 1) 3 1 (.slice la (memK R.firms g k).length lc) (memK R.firms g k).length (ints (memK R.firms g (k + 1)))) := by
          show World.ownsRow _ _ _ _ _ _ _
          rw [HM.out]
          exact HO.out.alloc _
        have HB2 : Hid (Below (w.alloc (.cells #[.slice a0 R.cur.length c0, .slice a1 R.cities.length c1, .slice a2 R.groups.length c2, .slice a3 R.firms.length c3, .slice a4 R.orders.length c4, .slice a5 R.usances.length c5, .slice a6 R.rates.length c6, .slice a7 R.halts.length c7] 31)).heap.size (w.alloc (.cells #[.slice a0 R.cur.length c0, .slice a1 R.cities.length c1, .slice a2 R.groups.length c2, .slice a3 R.firms.length c3, .slice a4 R.orders.length c4, .slice a5 R.usances.length c5, .slice a6 R.rates.length c6, .slice a7 R.halts.length c7] 31)) (wr.alloc (.cells #[.string x.nm, .int .i64 x.city, .int .i64 x.grp] 47))) := (chain HB1.out (Below.new1 (w := wr) (.cells #[.string x.nm, .int .i64 x.city, .int .i64 x.grp] 47)))
        clear e1
        go_wp2_with fail
        go_roundw
        case rel => exact ⟨k + 1, _, la, lc, by omega, by rw [HM.out], rfl, by congr 1, HO7.out, by rw [← ea]; exact HB2.out⟩
        case measure => simp [intOf]; omega

set_option maxHeartbeats 3200000 in
set_option maxRecDepth 100000 in
theorem Grade_x {a0 a1 a2 a3 a4 a5 a6 a7 : Option Addr} {c0 c1 c2 c3 c4 c5 c6 c7 : Nat} {R : Rlm} (n : Int) (w : World) (hr : RS w a0 a1 a2 a3 a4 a5 a6 a7 c0 c1 c2 c3 c4 c5 c6 c7 R) (hF : Fit R) :
    Calls Try.prog 19 #[.agg #[.slice a0 R.cur.length c0, .slice a1 R.cities.length c1, .slice a2 R.groups.length c2, .slice a3 R.firms.length c3, .slice a4 R.orders.length c4, .slice a5 R.usances.length c5, .slice a6 R.rates.length c6, .slice a7 R.halts.length c7], .int .i64 n] w fun r w' => r = .returned (.int .i64 (gradeP R n)) ∧ Below w.heap.size w w' := by
  have HR := Lib.hid hr
  have RB0 := Lib.hid (RB.new w (a0 := a0) (a1 := a1) (a2 := a2) (a3 := a3) (a4 := a4) (a5 := a5) (a6 := a6) (a7 := a7) (c0 := c0) (c1 := c1) (c2 := c2) (c3 := c3) (c4 := c4) (c5 := c5) (c6 := c6) (c7 := c7) (R := R))
  have B0 := Lib.hid (Below.new1 (w := w) (.cells #[.slice a0 R.cur.length c0, .slice a1 R.cities.length c1, .slice a2 R.groups.length c2, .slice a3 R.firms.length c3, .slice a4 R.orders.length c4, .slice a5 R.usances.length c5, .slice a6 R.rates.length c6, .slice a7 R.halts.length c7] 31))
  clear hr
  have y2 := RB0.out.b2
  have y3 := RB0.out.b3
  have hs3 := hF.firms
  have hs2 := hF.groups
  cases e1 : ix n R.firms.length with
  | false =>
    have hv : Hid (gradeP R n = -1) := grade_no e1
    have E1 : Hid (ix n R.firms.length = false) := e1
    clear e1
    have Q1 : Hid (∀ W, Calls Try.prog 41 #[.int .i64 n, .slice a3 R.firms.length c3] W fun r w' => r = .returned (.bool false) ∧ w' = W) := fun W => (firmIx_x n _ _ _ W hs3).mono (fun _ _ h => ⟨by rw [h.1, E1.out], h.2.symm⟩)
    go_enter Try.func19, Try.ntmps19
    go_wp2_with fail
    go_quiet (first | (go_at_call 41; refine Calls.quiet_of_same (Q1.out _)))
    go_wp2_with fail
    go_ret
    exact ⟨by rw [hv.out]; try rfl, by first | exact B0.out | exact below_drewN B0.out _ | exact below_drewN (below_drewN B0.out _) _⟩
  | true =>
    obtain ⟨m, rfl, hm⟩ := ix_nat e1
    have m0 : (0 : Int) ≤ (m : Int) := by omega
    have m1 : (m : Int) < (R.firms.length : Int) := by omega
    obtain ⟨x, hx⟩ : ∃ x, R.firms[m]? = some x := ⟨_, List.getElem?_eq_getElem hm⟩
    obtain ⟨b, off, ea, hb, hc⟩ := (HR.out.next B0.out).firms.at hx
    have t0 : (w.alloc (.cells #[.slice a0 R.cur.length c0, .slice a1 R.cities.length c1, .slice a2 R.groups.length c2, .slice a3 R.firms.length c3, .slice a4 R.orders.length c4, .slice a5 R.usances.length c5, .slice a6 R.rates.length c6, .slice a7 R.halts.length c7] 31)).cell? ⟨b, off + m * 3, none⟩ = some (.string x.nm) := hc 0 _ rfl
    have t1 : (w.alloc (.cells #[.slice a0 R.cur.length c0, .slice a1 R.cities.length c1, .slice a2 R.groups.length c2, .slice a3 R.firms.length c3, .slice a4 R.orders.length c4, .slice a5 R.usances.length c5, .slice a6 R.rates.length c6, .slice a7 R.halts.length c7] 31)).cell? ⟨b, off + m * 3 + 1, none⟩ = some (.int .i64 x.city) := hc 1 _ rfl
    have t2 : (w.alloc (.cells #[.slice a0 R.cur.length c0, .slice a1 R.cities.length c1, .slice a2 R.groups.length c2, .slice a3 R.firms.length c3, .slice a4 R.orders.length c4, .slice a5 R.usances.length c5, .slice a6 R.rates.length c6, .slice a7 R.halts.length c7] 31)).cell? ⟨b, off + m * 3 + 2, none⟩ = some (.int .i64 x.grp) := hc 2 _ rfl
    have HX := Lib.hid hx
    have E1' := Lib.hid e1
    have E1 : Hid (ix (m : Int) R.firms.length = true) := e1
    clear hx hc e1
    cases e2 : ix x.grp R.groups.length with
    | false =>
      have hv : Hid (gradeP R (m : Int) = -1) := grade_none HX.out E1'.out e2
      have E2 := Lib.hid e2
      clear e2
      subst ea
      have Q1 : Hid (∀ W, Calls Try.prog 41 #[.int .i64 (m : Int), .slice (some ⟨b, off, none⟩) R.firms.length c3] W fun r w' => r = .returned (.bool true) ∧ w' = W) := fun W => (firmIx_x (m : Int) _ _ _ W hs3).mono (fun _ _ h => ⟨by rw [h.1, E1.out], h.2.symm⟩)
      have Q2 : Hid (∀ W, Calls Try.prog 42 #[.int .i64 x.grp, .slice a2 R.groups.length c2] W fun r w' => r = .returned (.bool false) ∧ w' = W) := fun W => (groupIx_x x.grp _ _ _ W hs2).mono (fun _ _ h => ⟨by rw [h.1, E2.out], h.2.symm⟩)
      go_enter Try.func19, Try.ntmps19
      go_wp2_with fail
      go_quiet (first | (go_at_call 41; refine Calls.quiet_of_same (Q1.out _)) | (go_at_call 42; refine Calls.quiet_of_same (Q2.out _)))
      go_wp2_with fail
      go_ret
      exact ⟨by rw [hv.out]; try rfl, by first | exact B0.out | exact below_drewN B0.out _ | exact below_drewN (below_drewN B0.out _) _⟩
    | true =>
      obtain ⟨q, hq, hqm⟩ := ix_nat e2
      have q0 : (0 : Int) ≤ (q : Int) := by omega
      have q1 : (q : Int) < (R.groups.length : Int) := by omega
      obtain ⟨y, hy⟩ : ∃ y, R.groups[q]? = some y := ⟨_, List.getElem?_eq_getElem hqm⟩
      have hv : Hid (gradeP R (m : Int) = y) := grade_yes HX.out E1'.out hq hy e2
      have E2 : Hid (ix (q : Int) R.groups.length = true) := by rw [← hq]; exact e2
      obtain ⟨b2, off2, ea2, hb2, hc⟩ := (HR.out.next B0.out).groups.at hy
      have s0 : (w.alloc (.cells #[.slice a0 R.cur.length c0, .slice a1 R.cities.length c1, .slice a2 R.groups.length c2, .slice a3 R.firms.length c3, .slice a4 R.orders.length c4, .slice a5 R.usances.length c5, .slice a6 R.rates.length c6, .slice a7 R.halts.length c7] 31)).cell? ⟨b2, off2 + q, none⟩ = some (.int .i64 y) := (by have := hc 0 _ rfl; rw [Nat.mul_one, Nat.add_zero] at this; exact this)
      rw [hq] at t2
      clear hy hc hq e2
      subst ea ea2
      have Q1 : Hid (∀ W, Calls Try.prog 41 #[.int .i64 (m : Int), .slice (some ⟨b, off, none⟩) R.firms.length c3] W fun r w' => r = .returned (.bool true) ∧ w' = W) := fun W => (firmIx_x (m : Int) _ _ _ W hs3).mono (fun _ _ h => ⟨by rw [h.1, E1.out], h.2.symm⟩)
      have Q2 : Hid (∀ W, Calls Try.prog 42 #[.int .i64 (q : Int), .slice (some ⟨b2, off2, none⟩) R.groups.length c2] W fun r w' => r = .returned (.bool true) ∧ w' = W) := fun W => (groupIx_x (q : Int) _ _ _ W hs2).mono (fun _ _ h => ⟨by rw [h.1, E2.out], h.2.symm⟩)
      go_enter Try.func19, Try.ntmps19
      go_wp2_with fail
      go_quiet (first | (go_at_call 41; refine Calls.quiet_of_same (Q1.out _)) | (go_at_call 42; refine Calls.quiet_of_same (Q2.out _)))
      go_wp2_with fail
      go_quiet (fail)
      go_wp2_with fail
      go_ret
      exact ⟨by rw [hv.out]; try rfl, by first | exact B0.out | exact below_drewN B0.out _ | exact below_drewN (below_drewN B0.out _) _⟩

set_option maxHeartbeats 3200000 in
set_option maxRecDepth 100000 in
theorem City_x {a0 a1 a2 a3 a4 a5 a6 a7 : Option Addr} {c0 c1 c2 c3 c4 c5 c6 c7 : Nat} {R : Rlm} (s : B) (w : World) (hr : RS w a0 a1 a2 a3 a4 a5 a6 a7 c0 c1 c2 c3 c4 c5 c6 c7 R) (hF : Fit R) :
    Calls Try.prog 21 #[.agg #[.slice a0 R.cur.length c0, .slice a1 R.cities.length c1, .slice a2 R.groups.length c2, .slice a3 R.firms.length c3, .slice a4 R.orders.length c4, .slice a5 R.usances.length c5, .slice a6 R.rates.length c6, .slice a7 R.halts.length c7], .string s] w fun r w' => r = .returned (.int .i64 (findV (R.cities.map Cty.nm) s)) ∧ Below w.heap.size w w' := by
  have HR := Lib.hid hr
  have RB0 := Lib.hid (RB.new w (a0 := a0) (a1 := a1) (a2 := a2) (a3 := a3) (a4 := a4) (a5 := a5) (a6 := a6) (a7 := a7) (c0 := c0) (c1 := c1) (c2 := c2) (c3 := c3) (c4 := c4) (c5 := c5) (c6 := c6) (c7 := c7) (R := R))
  have B0 := Lib.hid (Below.new1 (w := w) (.cells #[.slice a0 R.cur.length c0, .slice a1 R.cities.length c1, .slice a2 R.groups.length c2, .slice a3 R.firms.length c3, .slice a4 R.orders.length c4, .slice a5 R.usances.length c5, .slice a6 R.rates.length c6, .slice a7 R.halts.length c7] 31))
  clear hr
  have y1 := RB0.out.b1
  have hs := hF.cities
  go_enter Try.func21, Try.ntmps21
  go_wp2_with fail
  refine (findCty_x _ R.cities s _ (HR.out.next B0.out).cities hs).mono ?_
  rintro r w1 ⟨rfl, b1⟩
  have B1 := Lib.hid (chain B0.out b1)
  clear b1
  go_wp2_with fail
  go_ret
  exact ⟨rfl, B1.out⟩

set_option maxHeartbeats 3200000 in
set_option maxRecDepth 100000 in
theorem Firm_x {a0 a1 a2 a3 a4 a5 a6 a7 : Option Addr} {c0 c1 c2 c3 c4 c5 c6 c7 : Nat} {R : Rlm} (s : B) (w : World) (hr : RS w a0 a1 a2 a3 a4 a5 a6 a7 c0 c1 c2 c3 c4 c5 c6 c7 R) (hF : Fit R) :
    Calls Try.prog 23 #[.agg #[.slice a0 R.cur.length c0, .slice a1 R.cities.length c1, .slice a2 R.groups.length c2, .slice a3 R.firms.length c3, .slice a4 R.orders.length c4, .slice a5 R.usances.length c5, .slice a6 R.rates.length c6, .slice a7 R.halts.length c7], .string s] w fun r w' => r = .returned (.int .i64 (findV (R.firms.map Frm.nm) s)) ∧ Below w.heap.size w w' := by
  have HR := Lib.hid hr
  have RB0 := Lib.hid (RB.new w (a0 := a0) (a1 := a1) (a2 := a2) (a3 := a3) (a4 := a4) (a5 := a5) (a6 := a6) (a7 := a7) (c0 := c0) (c1 := c1) (c2 := c2) (c3 := c3) (c4 := c4) (c5 := c5) (c6 := c6) (c7 := c7) (R := R))
  have B0 := Lib.hid (Below.new1 (w := w) (.cells #[.slice a0 R.cur.length c0, .slice a1 R.cities.length c1, .slice a2 R.groups.length c2, .slice a3 R.firms.length c3, .slice a4 R.orders.length c4, .slice a5 R.usances.length c5, .slice a6 R.rates.length c6, .slice a7 R.halts.length c7] 31))
  clear hr
  have y1 := RB0.out.b3
  have hs := hF.firms
  go_enter Try.func23, Try.ntmps23
  go_wp2_with fail
  refine (findFrm_x _ R.firms s _ (HR.out.next B0.out).firms hs).mono ?_
  rintro r w1 ⟨rfl, b1⟩
  have B1 := Lib.hid (chain B0.out b1)
  clear b1
  go_wp2_with fail
  go_ret
  exact ⟨rfl, B1.out⟩

end Go.Proofs.Ytagdikghpiiabaa
