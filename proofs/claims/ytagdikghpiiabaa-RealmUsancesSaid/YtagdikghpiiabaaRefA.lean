/-
  The reference: OrderAt, Usance, Members, Grade, City, Firm.
-/
import Derived.Test.YtagdikghpiiabaaProI
namespace Go.Proofs.Ytagdikghpiiabaa
open Go.RowKit Rl

set_option maxHeartbeats 3200000 in
set_option maxRecDepth 100000 in
theorem rOrderAt_x {a0 a1 a2 a3 a4 a5 a6 a7 : Option Addr} {c0 c1 c2 c3 c4 c5 c6 c7 : Nat} {R : Rlm} (n : Int) (w : World) (hr : RS w a0 a1 a2 a3 a4 a5 a6 a7 c0 c1 c2 c3 c4 c5 c6 c7 R) (hF : Fit R) :
    Calls Try.prog 15 #[.agg #[.slice a0 R.cur.length c0, .slice a1 R.cities.length c1, .slice a2 R.groups.length c2, .slice a3 R.firms.length c3, .slice a4 R.orders.length c4, .slice a5 R.usances.length c5, .slice a6 R.rates.length c6, .slice a7 R.halts.length c7], .int .i64 n] w fun r w' => r = .returned (.int .i64 (orderAt R n)) ∧ Below w.heap.size w w' := by
  have HR := Lib.hid hr
  have RB0 := Lib.hid (RB.new w (a0 := a0) (a1 := a1) (a2 := a2) (a3 := a3) (a4 := a4) (a5 := a5) (a6 := a6) (a7 := a7) (c0 := c0) (c1 := c1) (c2 := c2) (c3 := c3) (c4 := c4) (c5 := c5) (c6 := c6) (c7 := c7) (R := R))
  have B0 := Lib.hid (Below.new1 (w := w) (.cells #[.slice a0 R.cur.length c0, .slice a1 R.cities.length c1, .slice a2 R.groups.length c2, .slice a3 R.firms.length c3, .slice a4 R.orders.length c4, .slice a5 R.usances.length c5, .slice a6 R.rates.length c6, .slice a7 R.halts.length c7] 31))
  clear hr
  have y1 := RB0.out.b1
  have hs := hF.cities
  cases e : ix n R.cities.length with
  | false =>
    have hv : Hid (orderAt R n = -1) := orderAt_no e
    have E := Lib.hid e
    clear e
    go_enter Try.func15, Try.ntmps15
    go_wp2_with fail
    refine (Within_x n 0 ((R.cities.length : Int) - 1) _).mono ?_
    rintro r w1 ⟨rfl, rfl⟩
    rw [show wi n 0 ((R.cities.length : Int) - 1) = ix n R.cities.length from rfl]
    rw [E.out]
    go_wp2_with fail
    go_ret
    exact ⟨by rw [hv.out]; try rfl, B0.out⟩
  | true =>
    obtain ⟨m, rfl, hm⟩ := ix_nat e
    have m0 : (0 : Int) ≤ (m : Int) := by omega
    have m1 : (m : Int) < (R.cities.length : Int) := by omega
    obtain ⟨x, hx⟩ : ∃ x, R.cities[m]? = some x := ⟨_, List.getElem?_eq_getElem hm⟩
    obtain ⟨b, off, ea, hb, hc⟩ := (HR.out.next B0.out).cities.at hx
    have t0 : (w.alloc (.cells #[.slice a0 R.cur.length c0, .slice a1 R.cities.length c1, .slice a2 R.groups.length c2, .slice a3 R.firms.length c3, .slice a4 R.orders.length c4, .slice a5 R.usances.length c5, .slice a6 R.rates.length c6, .slice a7 R.halts.length c7] 31)).cell? ⟨b, off + m * 6, none⟩ = some (.string x.nm) := hc 0 _ rfl
    have t1 : (w.alloc (.cells #[.slice a0 R.cur.length c0, .slice a1 R.cities.length c1, .slice a2 R.groups.length c2, .slice a3 R.firms.length c3, .slice a4 R.orders.length c4, .slice a5 R.usances.length c5, .slice a6 R.rates.length c6, .slice a7 R.halts.length c7] 31)).cell? ⟨b, off + m * 6 + 1, none⟩ = some (.int .i64 x.o) := hc 1 _ rfl
    have t2 : (w.alloc (.cells #[.slice a0 R.cur.length c0, .slice a1 R.cities.length c1, .slice a2 R.groups.length c2, .slice a3 R.firms.length c3, .slice a4 R.orders.length c4, .slice a5 R.usances.length c5, .slice a6 R.rates.length c6, .slice a7 R.halts.length c7] 31)).cell? ⟨b, off + m * 6 + 2, none⟩ = some (.int .i64 x.c) := hc 2 _ rfl
    have t3 : (w.alloc (.cells #[.slice a0 R.cur.length c0, .slice a1 R.cities.length c1, .slice a2 R.groups.length c2, .slice a3 R.firms.length c3, .slice a4 R.orders.length c4, .slice a5 R.usances.length c5, .slice a6 R.rates.length c6, .slice a7 R.halts.length c7] 31)).cell? ⟨b, off + m * 6 + 3, none⟩ = some (.slice x.a3 x.rest.length x.k3) := hc 3 _ rfl
    have t4 : (w.alloc (.cells #[.slice a0 R.cur.length c0, .slice a1 R.cities.length c1, .slice a2 R.groups.length c2, .slice a3 R.firms.length c3, .slice a4 R.orders.length c4, .slice a5 R.usances.length c5, .slice a6 R.rates.length c6, .slice a7 R.halts.length c7] 31)).cell? ⟨b, off + m * 6 + 4, none⟩ = some (.slice x.a4 x.feasts.length x.k4) := hc 4 _ rfl
    have t5 : (w.alloc (.cells #[.slice a0 R.cur.length c0, .slice a1 R.cities.length c1, .slice a2 R.groups.length c2, .slice a3 R.firms.length c3, .slice a4 R.orders.length c4, .slice a5 R.usances.length c5, .slice a6 R.rates.length c6, .slice a7 R.halts.length c7] 31)).cell? ⟨b, off + m * 6 + 5, none⟩ = some (.slice x.a5 x.shut.length x.k5) := hc 5 _ rfl
    subst ea
    have hv : Hid (orderAt R (m : Int) = x.o) := orderAt_yes hx e
    have E := Lib.hid e
    clear e hx hc
    go_enter Try.func15, Try.ntmps15
    go_wp2_with fail
    refine (Within_x (m : Int) 0 ((R.cities.length : Int) - 1) _).mono ?_
    rintro r w1 ⟨rfl, rfl⟩
    rw [show wi (m : Int) 0 ((R.cities.length : Int) - 1) = ix (m : Int) R.cities.length from rfl]
    rw [E.out]
    go_wp2_with fail
    go_ret
    exact ⟨by rw [hv.out]; try rfl, B0.out⟩

set_option maxHeartbeats 3200000 in
set_option maxRecDepth 100000 in
theorem rUsance_x {a0 a1 a2 a3 a4 a5 a6 a7 : Option Addr} {c0 c1 c2 c3 c4 c5 c6 c7 : Nat} {R : Rlm} (a b : Int) (w : World) (hr : RS w a0 a1 a2 a3 a4 a5 a6 a7 c0 c1 c2 c3 c4 c5 c6 c7 R) (hF : Fit R) :
    Calls Try.prog 11 #[.agg #[.slice a0 R.cur.length c0, .slice a1 R.cities.length c1, .slice a2 R.groups.length c2, .slice a3 R.firms.length c3, .slice a4 R.orders.length c4, .slice a5 R.usances.length c5, .slice a6 R.rates.length c6, .slice a7 R.halts.length c7], .int .i64 a, .int .i64 b] w fun r w' => r = .returned (.tuple #[.int .i64 (usAt R a b).1, .int .i64 (usAt R a b).2]) ∧ Below w.heap.size w w' := by
  have HR := Lib.hid hr
  have RB0 := Lib.hid (RB.new w (a0 := a0) (a1 := a1) (a2 := a2) (a3 := a3) (a4 := a4) (a5 := a5) (a6 := a6) (a7 := a7) (c0 := c0) (c1 := c1) (c2 := c2) (c3 := c3) (c4 := c4) (c5 := c5) (c6 := c6) (c7 := c7) (R := R))
  have B0 := Lib.hid (Below.new1 (w := w) (.cells #[.slice a0 R.cur.length c0, .slice a1 R.cities.length c1, .slice a2 R.groups.length c2, .slice a3 R.firms.length c3, .slice a4 R.orders.length c4, .slice a5 R.usances.length c5, .slice a6 R.rates.length c6, .slice a7 R.halts.length c7] 31))
  clear hr
  have y1 := RB0.out.b5
  have hs := hF.usances
  go_enter Try.func11, Try.ntmps11
  go_wp2_with fail
  go_loopw [8] (fun i wr => LRel R.usances.length (NoU R.usances a b) (w.alloc (.cells #[.slice a0 R.cur.length c0, .slice a1 R.cities.length c1, .slice a2 R.groups.length c2, .slice a3 R.firms.length c3, .slice a4 R.orders.length c4, .slice a5 R.usances.length c5, .slice a6 R.rates.length c6, .slice a7 R.halts.length c7] 31)) i wr) (fun i _ => R.usances.length - (intOf i).toNat)
  case atStart => exact ⟨0, Nat.zero_le _, rfl, fun j u hj => by omega, Below.refl _ _⟩
  case round =>
    obtain ⟨k, hk, rfl, hall, hbw⟩ := hrel
    have ry := (RB0.out.next hbw).b5
    have Ha := Lib.hid hall
    have HB := Lib.hid (chain B0.out hbw)
    have HB1 := Lib.hid hbw
    have k0 : (0 : Int) ≤ (k : Int) := by omega
    clear hall hbw
    by_cases c : k < R.usances.length
    case neg =>
      have kc : ¬ (k : Int) < (R.usances.length : Int) := by omega
      have hv : Hid (usAt R a b = (0, 4)) := usAt_no Ha.out (by omega)
      go_wp2_with fail
      go_ret2
      exact ⟨by rw [hv.out]; try rfl, HB.out⟩
    case pos =>
      have kc : (k : Int) < (R.usances.length : Int) := by omega
      obtain ⟨x, hx⟩ : ∃ x, R.usances[k]? = some x := ⟨_, List.getElem?_eq_getElem c⟩
      obtain ⟨b', off', ea, hb, hc⟩ := (HR.out.next HB.out).usances.at hx
      rw [ea] at ry ⊢
      have t0 : wr.cell? ⟨b', off' + k * 3, none⟩ = some (.int .i64 x.fr) := hc 0 _ rfl
      have t1 : wr.cell? ⟨b', off' + k * 3 + 1, none⟩ = some (.int .i64 x.to) := hc 1 _ rfl
      have t2 : wr.cell? ⟨b', off' + k * 3 + 2, none⟩ = some (.int .i64 x.days) := hc 2 _ rfl
      have HX := Lib.hid hx
      clear hx hc
      by_cases e1 : x.fr = a
      · have f1 : (x.fr == a) = true := bt e1
        by_cases e2 : x.to = b
        · have f2 : (x.to == b) = true := bt e2
          have hv : Hid (usAt R a b = (x.days, 0)) := usAt_yes Ha.out HX.out ⟨e1, e2⟩
          clear e1 e2
          go_wp2_with fail
          go_ret2
          exact ⟨by rw [hv.out]; try rfl, HB.out⟩
        · have f2 : (x.to == b) = false := bf e2
          have HN := Lib.hid (Ha.out.next HX.out (fun h => e2 h.2))
          clear e1 e2
          go_wp2_with fail
          go_roundw
          case rel => exact ⟨k + 1, by omega, by congr 1, HN.out, by rw [← ea]; exact HB1.out⟩
          case measure => simp [intOf]; omega
      · have f1 : (x.fr == a) = false := bf e1
        have HN := Lib.hid (Ha.out.next HX.out (fun h => e1 h.1))
        clear e1
        go_wp2_with fail
        go_roundw
        case rel => exact ⟨k + 1, by omega, by congr 1, HN.out, by rw [← ea]; exact HB1.out⟩
        case measure => simp [intOf]; omega

set_option maxHeartbeats 3200000 in
set_option maxRecDepth 100000 in
theorem rMembers_x {a0 a1 a2 a3 a4 a5 a6 a7 : Option Addr} {c0 c1 c2 c3 c4 c5 c6 c7 : Nat} {R : Rlm} (g : Int) (w : World) (hr : RS w a0 a1 a2 a3 a4 a5 a6 a7 c0 c1 c2 c3 c4 c5 c6 c7 R) (hF : Fit R) :
    Calls Try.prog 18 #[.agg #[.slice a0 R.cur.length c0, .slice a1 R.cities.length c1, .slice a2 R.groups.length c2, .slice a3 R.firms.length c3, .slice a4 R.orders.length c4, .slice a5 R.usances.length c5, .slice a6 R.rates.length c6, .slice a7 R.halts.length c7], .int .i64 g] w fun r w' => (∃ v, r = .returned v ∧ IAt w' v (memP R.firms g)) ∧ Below w.heap.size w w' := by
  have HR := Lib.hid hr
  have RB0 := Lib.hid (RB.new w (a0 := a0) (a1 := a1) (a2 := a2) (a3 := a3) (a4 := a4) (a5 := a5) (a6 := a6) (a7 := a7) (c0 := c0) (c1 := c1) (c2 := c2) (c3 := c3) (c4 := c4) (c5 := c5) (c6 := c6) (c7 := c7) (R := R))
  have B0 := Lib.hid (Below.new1 (w := w) (.cells #[.slice a0 R.cur.length c0, .slice a1 R.cities.length c1, .slice a2 R.groups.length c2, .slice a3 R.firms.length c3, .slice a4 R.orders.length c4, .slice a5 R.usances.length c5, .slice a6 R.rates.length c6, .slice a7 R.halts.length c7] 31))
  clear hr
  have y1 := RB0.out.b3
  have hs := hF.firms
  have hs4 := hF.s4
  have zs : (w.alloc (.cells #[.slice a0 R.cur.length c0, .slice a1 R.cities.length c1, .slice a2 R.groups.length c2, .slice a3 R.firms.length c3, .slice a4 R.orders.length c4, .slice a5 R.usances.length c5, .slice a6 R.rates.length c6, .slice a7 R.halts.length c7] 31)).heap.size = w.heap.size + 1 := by simp
  have ZS := Lib.hid zs
  clear zs
  obtain ⟨rj, hj, hy0, hy1, hy2⟩ := info_parts infoI
  have Hj := Lib.hid hj
  have Hy0 := Lib.hid hy0
  have Hy1 := Lib.hid hy1
  have Hy2 := Lib.hid hy2
  clear hj hy0 hy1 hy2
  go_enter Try.func18, Try.ntmps18
  go_wp2_with fail
  go_loopw [5, 6] (fun v i wr => MRel R.firms g (w.heap.size + 1) (w.alloc (.cells #[.slice a0 R.cur.length c0, .slice a1 R.cities.length c1, .slice a2 R.groups.length c2, .slice a3 R.firms.length c3, .slice a4 R.orders.length c4, .slice a5 R.usances.length c5, .slice a6 R.rates.length c6, .slice a7 R.halts.length c7] 31)) v i wr) (fun _ i _ => R.firms.length - (intOf i).toNat)
  case atStart => exact ⟨0, 0, none, 0, Nat.zero_le _, rfl, rfl, rfl, World.ownsRow_nil _ _ _ _, Below.refl _ _⟩
  case round =>
    obtain ⟨k, m, la, lc, hk, rfl, rfl, rfl, hown, hbw⟩ := hrel
    have ry := (RB0.out.next hbw).b3
    have HO := Lib.hid hown
    have HB := Lib.hid (chain B0.out hbw)
    have HB1 := Lib.hid hbw
    have k0 : (0 : Int) ≤ (k : Int) := by omega
    clear hown hbw
    by_cases c : k < R.firms.length
    case neg =>
      have kc : ¬ (k : Int) < (R.firms.length : Int) := by omega
      obtain rfl : k = R.firms.length := by omega
      have hv := Lib.hid (own_int HO.out rfl)
      go_wp2_with fail
      go_ret
      exact ⟨⟨_, rfl, hv.out⟩, HB.out⟩
    case pos =>
      have kc : (k : Int) < (R.firms.length : Int) := by omega
      obtain ⟨x, hx⟩ : ∃ x, R.firms[k]? = some x := ⟨_, List.getElem?_eq_getElem c⟩
      obtain ⟨b, off, ea, hb, hc⟩ := (HR.out.next HB.out).firms.at hx
      rw [ea] at ry ⊢
      have t0 : wr.cell? ⟨b, off + k * 3, none⟩ = some (.string x.nm) := hc 0 _ rfl
      have t1 : wr.cell? ⟨b, off + k * 3 + 1, none⟩ = some (.int .i64 x.city) := hc 1 _ rfl
      have t2 : wr.cell? ⟨b, off + k * 3 + 2, none⟩ = some (.int .i64 x.grp) := hc 2 _ rfl
      have HX := Lib.hid hx
      clear hx hc
      by_cases e1 : x.grp = g
      · have f1 : (x.grp == g) = true := bt e1
        have HM := Lib.hid (mem_yes HX.out e1)
        have hlen := mem_len R.firms g k
        have HB2 : Hid (Below (w.alloc (.cells #[.slice a0 R.cur.length c0, .slice a1 R.cities.length c1, .slice a2 R.groups.length c2, .slice a3 R.firms.length c3, .slice a4 R.orders.length c4, .slice a5 R.usances.length c5, .slice a6 R.rates.length c6, .slice a7 R.halts.length c7] 31)).heap.size (w.alloc (.cells #[.slice a0 R.cur.length c0, .slice a1 R.cities.length c1, .slice a2 R.groups.length c2, .slice a3 R.firms.length c3, .slice a4 R.orders.length c4, .slice a5 R.usances.length c5, .slice a6 R.rates.length c6, .slice a7 R.halts.length c7] 31)) wr) := HB1.out
        clear e1
        go_wp2_with (at_builtin; refine wpList_append_own _ rfl (.tmp 22) (.tmp 24) 40 rfl (w.heap.size + 1) 3 rj (.int .i64 0) 1 8 Try.underlying40 Hj.out Hy0.out Hy1.out Hy2.out rfl (by decide) _ (memK R.firms g k).length (ints (memK R.firms g k)) rfl ((HO.out).alloc _) ⟨wr.heap.size, 0, none⟩ 1 1 [.int .i64 (k : Int)] rfl rfl ?f1 ?f2 ?f3 ?f4 ?f5 ?_)
        case f1 => exact cell_new1 _ _ _ _ (by first | rfl | simp)
        case f2 => first | rfl | (intro u hu; simp at hu; subst hu; rfl)
        case f3 => unfold maxLen; omega
        case f4 => omega
        case f5 => have := HB2.out.size; simp at this ⊢; omega
        intro v7 w7 hown7 hgrow7 _
        have hrow : ∀ j, (Value.slice la (memK R.firms g k).length lc).ownBlock = some j → w.heap.size + 1 ≤ j := fun j hj => (HO.out.lt j hj).1
        have B7 : Hid (Below (w.alloc (.cells #[.slice a0 R.cur.length c0, .slice a1 R.cities.length c1, .slice a2 R.groups.length c2, .slice a3 R.firms.length c3, .slice a4 R.orders.length c4, .slice a5 R.usances.length c5, .slice a6 R.rates.length c6, .slice a7 R.halts.length c7] 31)).heap.size (w.alloc (.cells #[.slice a0 R.cur.length c0, .slice a1 R.cities.length c1, .slice a2 R.groups.length c2, .slice a3 R.firms.length c3, .slice a4 R.orders.length c4, .slice a5 R.usances.length c5, .slice a6 R.rates.length c6, .slice a7 R.halts.length c7] 31)) w7) := HB2.out.trans ((((Below.refl _ _).mono HB2.out.size).alloc HB2.out.size _).grown hgrow7 (by have := HB2.out.size; simp at this ⊢; omega) (fun j hj => by have := hrow j hj; simp at this ⊢; omega))
        have HO7 : Hid (w7.ownsRow (w.heap.size + 1) 3 1 v7 ((memK R.firms g k).length + 1) (ints (memK R.firms g (k + 1)))) := by
          show w7.ownsRow _ _ _ _ _ _
          rw [HM.out, ints_app]
          exact hown7
        have hl7 : (memK R.firms g k).length + 1 = (memK R.firms g (k + 1)).length := by rw [HM.out, List.length_append]; rfl
        obtain ⟨la7, lc7, e7⟩ := (own_int HO7.out hl7).shape
        rw [← hl7] at e7
        subst e7
        have HL7 := Lib.hid hl7
        clear hown7 hgrow7 hrow hl7
        go_wp2_with fail
        go_roundw
        case rel => exact ⟨k + 1, _, la7, lc7, by omega, HL7.out, rfl, by congr 1, HO7.out, by rw [← ea]; exact B7.out⟩
        case measure => simp [intOf]; omega
      · have f1 : (x.grp == g) = false := bf e1
        have HM := Lib.hid (mem_no HX.out e1)
        have HO7 : Hid (wr.ownsRow (w.heap.size + 1) 3 1 (.slice la (memK R.firms g k).length lc) (memK R.firms g k).length (ints (memK R.firms g (k + 1)))) := by
          show World.ownsRow _ _ _ _ _ _ _
          rw [HM.out]
          exact HO.out
        have HB2 : Hid (Below (w.alloc (.cells #[.slice a0 R.cur.length c0, .slice a1 R.cities.length c1, .slice a2 R.groups.length c2, .slice a3 R.firms.length c3, .slice a4 R.orders.length c4, .slice a5 R.usances.length c5, .slice a6 R.rates.length c6, .slice a7 R.halts.length c7] 31)).heap.size (w.alloc (.cells #[.slice a0 R.cur.length c0, .slice a1 R.cities.length c1, .slice a2 R.groups.length c2, .slice a3 R.firms.length c3, .slice a4 R.orders.length c4, .slice a5 R.usances.length c5, .slice a6 R.rates.length c6, .slice a7 R.halts.length c7] 31)) wr) := HB1.out
        clear e1
        go_wp2_with fail
        go_roundw
        case rel => exact ⟨k + 1, _, la, lc, by omega, by rw [HM.out], rfl, by congr 1, HO7.out, by rw [← ea]; exact HB2.out⟩
        case measure => simp [intOf]; omega

set_option maxHeartbeats 3200000 in
set_option maxRecDepth 100000 in
theorem rGrade_x {a0 a1 a2 a3 a4 a5 a6 a7 : Option Addr} {c0 c1 c2 c3 c4 c5 c6 c7 : Nat} {R : Rlm} (n : Int) (w : World) (hr : RS w a0 a1 a2 a3 a4 a5 a6 a7 c0 c1 c2 c3 c4 c5 c6 c7 R) (hF : Fit R) :
    Calls Try.prog 20 #[.agg #[.slice a0 R.cur.length c0, .slice a1 R.cities.length c1, .slice a2 R.groups.length c2, .slice a3 R.firms.length c3, .slice a4 R.orders.length c4, .slice a5 R.usances.length c5, .slice a6 R.rates.length c6, .slice a7 R.halts.length c7], .int .i64 n] w fun r w' => r = .returned (.int .i64 (gradeP R n)) ∧ Below w.heap.size w w' := by
  have HR := Lib.hid hr
  have RB0 := Lib.hid (RB.new w (a0 := a0) (a1 := a1) (a2 := a2) (a3 := a3) (a4 := a4) (a5 := a5) (a6 := a6) (a7 := a7) (c0 := c0) (c1 := c1) (c2 := c2) (c3 := c3) (c4 := c4) (c5 := c5) (c6 := c6) (c7 := c7) (R := R))
  have B0 := Lib.hid (Below.new1 (w := w) (.cells #[.slice a0 R.cur.length c0, .slice a1 R.cities.length c1, .slice a2 R.groups.length c2, .slice a3 R.firms.length c3, .slice a4 R.orders.length c4, .slice a5 R.usances.length c5, .slice a6 R.rates.length c6, .slice a7 R.halts.length c7] 31))
  clear hr
  have y2 := RB0.out.b2
  have y3 := RB0.out.b3
  have hs3 := hF.firms
  have hs2 := hF.groups
  cases e1 : ix n R.firms.length with
  | false =>
    have hv : Hid (gradeP R n = -1) := grade_no e1
    have E1 : Hid (wi n 0 ((R.firms.length : Int) - 1) = false) := e1
    clear e1

    go_enter Try.func20, Try.ntmps20
    go_wp2_with fail
    refine (Within_x _ 0 ((R.firms.length : Int) - 1) _).mono ?_
    rintro r w1 ⟨rfl, rfl⟩
    rw [E1.out]
    go_wp2_with fail
    go_ret
    exact ⟨by rw [hv.out]; try rfl, by first | exact B0.out | exact below_drewN B0.out _ | exact below_drewN (below_drewN B0.out _) _⟩
  | true =>
    obtain ⟨m, rfl, hm⟩ := ix_nat e1
    have m0 : (0 : Int) ≤ (m : Int) := by omega
    have m1 : (m : Int) < (R.firms.length : Int) := by omega
    obtain ⟨x, hx⟩ : ∃ x, R.firms[m]? = some x := ⟨_, List.getElem?_eq_getElem hm⟩
    obtain ⟨b, off, ea, hb, hc⟩ := (HR.out.next B0.out).firms.at hx
    have t0 : (w.alloc (.cells #[.slice a0 R.cur.length c0, .slice a1 R.cities.length c1, .slice a2 R.groups.length c2, .slice a3 R.firms.length c3, .slice a4 R.orders.length c4, .slice a5 R.usances.length c5, .slice a6 R.rates.length c6, .slice a7 R.halts.length c7] 31)).cell? ⟨b, off + m * 3, none⟩ = some (.string x.nm) := hc 0 _ rfl
    have t1 : (w.alloc (.cells #[.slice a0 R.cur.length c0, .slice a1 R.cities.length c1, .slice a2 R.groups.length c2, .slice a3 R.firms.length c3, .slice a4 R.orders.length c4, .slice a5 R.usances.length c5, .slice a6 R.rates.length c6, .slice a7 R.halts.length c7] 31)).cell? ⟨b, off + m * 3 + 1, none⟩ = some (.int .i64 x.city) := hc 1 _ rfl
    have t2 : (w.alloc (.cells #[.slice a0 R.cur.length c0, .slice a1 R.cities.length c1, .slice a2 R.groups.length c2, .slice a3 R.firms.length c3, .slice a4 R.orders.length c4, .slice a5 R.usances.length c5, .slice a6 R.rates.length c6, .slice a7 R.halts.length c7] 31)).cell? ⟨b, off + m * 3 + 2, none⟩ = some (.int .i64 x.grp) := hc 2 _ rfl
    have HX := Lib.hid hx
    have E1' := Lib.hid e1
    have E1 : Hid (wi (m : Int) 0 ((R.firms.length : Int) - 1) = true) := e1
    clear hx hc e1
    cases e2 : ix x.grp R.groups.length with
    | false =>
      have hv : Hid (gradeP R (m : Int) = -1) := grade_none HX.out E1'.out e2
      have E2 := Lib.hid e2
      clear e2
      subst ea

      have Q2 : Hid (∀ W, Calls Try.prog 40 #[.int .i64 x.grp, .int .i64 0, .int .i64 ((R.groups.length : Int) - 1)] W fun r w' => r = .returned (.bool false) ∧ w' = W) := fun W => (Within_x x.grp 0 ((R.groups.length : Int) - 1) W).mono (fun _ _ h => ⟨by rw [h.1]; exact congrArg _ (congrArg _ E2.out), h.2.symm⟩)
      go_enter Try.func20, Try.ntmps20
      go_wp2_with fail
      refine (Within_x _ 0 ((R.firms.length : Int) - 1) _).mono ?_
      rintro r w1 ⟨rfl, rfl⟩
      rw [E1.out]
      go_wp2_with fail
      go_quiet (first | (go_at_call 40; refine Calls.quiet_of_same (Q2.out _)))
      go_wp2_with fail
      go_ret
      exact ⟨by rw [hv.out]; try rfl, by first | exact B0.out | exact below_drewN B0.out _ | exact below_drewN (below_drewN B0.out _) _⟩
    | true =>
      obtain ⟨q, hq, hqm⟩ := ix_nat e2
      have q0 : (0 : Int) ≤ (q : Int) := by omega
      have q1 : (q : Int) < (R.groups.length : Int) := by omega
      obtain ⟨y, hy⟩ : ∃ y, R.groups[q]? = some y := ⟨_, List.getElem?_eq_getElem hqm⟩
      have hv : Hid (gradeP R (m : Int) = y) := grade_yes HX.out E1'.out hq hy e2
      have E2 : Hid (ix (q : Int) R.groups.length = true) := by rw [← hq]; exact e2
      obtain ⟨b2, off2, ea2, hb2, hc⟩ := (HR.out.next B0.out).groups.at hy
      have s0 : (w.alloc (.cells #[.slice a0 R.cur.length c0, .slice a1 R.cities.length c1, .slice a2 R.groups.length c2, .slice a3 R.firms.length c3, .slice a4 R.orders.length c4, .slice a5 R.usances.length c5, .slice a6 R.rates.length c6, .slice a7 R.halts.length c7] 31)).cell? ⟨b2, off2 + q, none⟩ = some (.int .i64 y) := (by have := hc 0 _ rfl; rw [Nat.mul_one, Nat.add_zero] at this; exact this)
      rw [hq] at t2
      clear hy hc hq e2
      subst ea ea2

      have Q2 : Hid (∀ W, Calls Try.prog 40 #[.int .i64 (q : Int), .int .i64 0, .int .i64 ((R.groups.length : Int) - 1)] W fun r w' => r = .returned (.bool true) ∧ w' = W) := fun W => (Within_x (q : Int) 0 ((R.groups.length : Int) - 1) W).mono (fun _ _ h => ⟨by rw [h.1]; exact congrArg _ (congrArg _ E2.out), h.2.symm⟩)
      go_enter Try.func20, Try.ntmps20
      go_wp2_with fail
      refine (Within_x _ 0 ((R.firms.length : Int) - 1) _).mono ?_
      rintro r w1 ⟨rfl, rfl⟩
      rw [E1.out]
      go_wp2_with fail
      go_quiet (first | (go_at_call 40; refine Calls.quiet_of_same (Q2.out _)))
      go_wp2_with fail
      go_quiet (fail)
      go_wp2_with fail
      go_ret
      exact ⟨by rw [hv.out]; try rfl, by first | exact B0.out | exact below_drewN B0.out _ | exact below_drewN (below_drewN B0.out _) _⟩

set_option maxHeartbeats 3200000 in
set_option maxRecDepth 100000 in
theorem rCity_x {a0 a1 a2 a3 a4 a5 a6 a7 : Option Addr} {c0 c1 c2 c3 c4 c5 c6 c7 : Nat} {R : Rlm} (s : B) (w : World) (hr : RS w a0 a1 a2 a3 a4 a5 a6 a7 c0 c1 c2 c3 c4 c5 c6 c7 R) (hF : Fit R) :
    Calls Try.prog 22 #[.agg #[.slice a0 R.cur.length c0, .slice a1 R.cities.length c1, .slice a2 R.groups.length c2, .slice a3 R.firms.length c3, .slice a4 R.orders.length c4, .slice a5 R.usances.length c5, .slice a6 R.rates.length c6, .slice a7 R.halts.length c7], .string s] w fun r w' => r = .returned (.int .i64 (findV (R.cities.map Cty.nm) s)) ∧ Below w.heap.size w w' := by
  have HR := Lib.hid hr
  have RB0 := Lib.hid (RB.new w (a0 := a0) (a1 := a1) (a2 := a2) (a3 := a3) (a4 := a4) (a5 := a5) (a6 := a6) (a7 := a7) (c0 := c0) (c1 := c1) (c2 := c2) (c3 := c3) (c4 := c4) (c5 := c5) (c6 := c6) (c7 := c7) (R := R))
  have B0 := Lib.hid (Below.new1 (w := w) (.cells #[.slice a0 R.cur.length c0, .slice a1 R.cities.length c1, .slice a2 R.groups.length c2, .slice a3 R.firms.length c3, .slice a4 R.orders.length c4, .slice a5 R.usances.length c5, .slice a6 R.rates.length c6, .slice a7 R.halts.length c7] 31))
  clear hr
  have y1 := RB0.out.b1
  have hs := hF.cities
  go_enter Try.func22, Try.ntmps22
  go_wp2_with fail
  go_loopw [5] (fun i wr => LRel R.cities.length (NoN (R.cities.map Cty.nm) s) (w.alloc (.cells #[.slice a0 R.cur.length c0, .slice a1 R.cities.length c1, .slice a2 R.groups.length c2, .slice a3 R.firms.length c3, .slice a4 R.orders.length c4, .slice a5 R.usances.length c5, .slice a6 R.rates.length c6, .slice a7 R.halts.length c7] 31)) i wr) (fun i _ => R.cities.length - (intOf i).toNat)
  case atStart => exact ⟨0, Nat.zero_le _, rfl, fun j u hj => by omega, Below.refl _ _⟩
  case round =>
    obtain ⟨k, hk, rfl, hall, hbw⟩ := hrel
    have ry := (RB0.out.next hbw).b1
    have Ha := Lib.hid hall
    have HB := Lib.hid (chain B0.out hbw)
    have HB1 := Lib.hid hbw
    have k0 : (0 : Int) ≤ (k : Int) := by omega
    clear hall hbw
    by_cases c : k < R.cities.length
    case neg =>
      have kc : ¬ (k : Int) < (R.cities.length : Int) := by omega
      have hv : Hid (findV (R.cities.map Cty.nm) s = -1) := Ha.out.none (by rw [List.length_map]; omega)
      go_wp2_with fail
      go_ret
      exact ⟨by rw [hv.out]; try rfl, HB.out⟩
    case pos =>
      have kc : (k : Int) < (R.cities.length : Int) := by omega
      obtain ⟨x, hx⟩ : ∃ x, R.cities[k]? = some x := ⟨_, List.getElem?_eq_getElem c⟩
      obtain ⟨b, off, ea, hb, hc⟩ := (HR.out.next HB.out).cities.at hx
      rw [ea] at ry ⊢
      have t0 : wr.cell? ⟨b, off + k * 6, none⟩ = some (.string x.nm) := hc 0 _ rfl
      have t1 : wr.cell? ⟨b, off + k * 6 + 1, none⟩ = some (.int .i64 x.o) := hc 1 _ rfl
      have t2 : wr.cell? ⟨b, off + k * 6 + 2, none⟩ = some (.int .i64 x.c) := hc 2 _ rfl
      have t3 : wr.cell? ⟨b, off + k * 6 + 3, none⟩ = some (.slice x.a3 x.rest.length x.k3) := hc 3 _ rfl
      have t4 : wr.cell? ⟨b, off + k * 6 + 4, none⟩ = some (.slice x.a4 x.feasts.length x.k4) := hc 4 _ rfl
      have t5 : wr.cell? ⟨b, off + k * 6 + 5, none⟩ = some (.slice x.a5 x.shut.length x.k5) := hc 5 _ rfl
      have hn := map_at (f := Cty.nm) hx
      have HN := Lib.hid hn
      clear hx hc hn
      by_cases e : x.nm = s
      · have HE := Lib.hid e
        have e1 : (x.nm.toList == s.toList) = true := list_eq e
        have hv : Hid (findV (R.cities.map Cty.nm) s = (k : Int)) := find_at (by rw [HN.out, HE.out]) Ha.out
        clear e
        go_wp2_with fail
        go_ret
        exact ⟨by rw [hv.out]; try rfl, HB.out⟩
      · have e1 : (x.nm.toList == s.toList) = false := list_ne e
        have HX := Lib.hid (Ha.out.next HN.out e)
        clear e
        go_wp2_with fail
        go_roundw
        case rel => exact ⟨k + 1, by omega, by congr 1, HX.out, by rw [← ea]; exact HB1.out⟩
        case measure => simp [intOf]; omega

set_option maxHeartbeats 3200000 in
set_option maxRecDepth 100000 in
theorem rFirm_x {a0 a1 a2 a3 a4 a5 a6 a7 : Option Addr} {c0 c1 c2 c3 c4 c5 c6 c7 : Nat} {R : Rlm} (s : B) (w : World) (hr : RS w a0 a1 a2 a3 a4 a5 a6 a7 c0 c1 c2 c3 c4 c5 c6 c7 R) (hF : Fit R) :
    Calls Try.prog 24 #[.agg #[.slice a0 R.cur.length c0, .slice a1 R.cities.length c1, .slice a2 R.groups.length c2, .slice a3 R.firms.length c3, .slice a4 R.orders.length c4, .slice a5 R.usances.length c5, .slice a6 R.rates.length c6, .slice a7 R.halts.length c7], .string s] w fun r w' => r = .returned (.int .i64 (findV (R.firms.map Frm.nm) s)) ∧ Below w.heap.size w w' := by
  have HR := Lib.hid hr
  have RB0 := Lib.hid (RB.new w (a0 := a0) (a1 := a1) (a2 := a2) (a3 := a3) (a4 := a4) (a5 := a5) (a6 := a6) (a7 := a7) (c0 := c0) (c1 := c1) (c2 := c2) (c3 := c3) (c4 := c4) (c5 := c5) (c6 := c6) (c7 := c7) (R := R))
  have B0 := Lib.hid (Below.new1 (w := w) (.cells #[.slice a0 R.cur.length c0, .slice a1 R.cities.length c1, .slice a2 R.groups.length c2, .slice a3 R.firms.length c3, .slice a4 R.orders.length c4, .slice a5 R.usances.length c5, .slice a6 R.rates.length c6, .slice a7 R.halts.length c7] 31))
  clear hr
  have y1 := RB0.out.b3
  have hs := hF.firms
  go_enter Try.func24, Try.ntmps24
  go_wp2_with fail
  go_loopw [5] (fun i wr => LRel R.firms.length (NoN (R.firms.map Frm.nm) s) (w.alloc (.cells #[.slice a0 R.cur.length c0, .slice a1 R.cities.length c1, .slice a2 R.groups.length c2, .slice a3 R.firms.length c3, .slice a4 R.orders.length c4, .slice a5 R.usances.length c5, .slice a6 R.rates.length c6, .slice a7 R.halts.length c7] 31)) i wr) (fun i _ => R.firms.length - (intOf i).toNat)
  case atStart => exact ⟨0, Nat.zero_le _, rfl, fun j u hj => by omega, Below.refl _ _⟩
  case round =>
    obtain ⟨k, hk, rfl, hall, hbw⟩ := hrel
    have ry := (RB0.out.next hbw).b3
    have Ha := Lib.hid hall
    have HB := Lib.hid (chain B0.out hbw)
    have HB1 := Lib.hid hbw
    have k0 : (0 : Int) ≤ (k : Int) := by omega
    clear hall hbw
    by_cases c : k < R.firms.length
    case neg =>
      have kc : ¬ (k : Int) < (R.firms.length : Int) := by omega
      have hv : Hid (findV (R.firms.map Frm.nm) s = -1) := Ha.out.none (by rw [List.length_map]; omega)
      go_wp2_with fail
      go_ret
      exact ⟨by rw [hv.out]; try rfl, HB.out⟩
    case pos =>
      have kc : (k : Int) < (R.firms.length : Int) := by omega
      obtain ⟨x, hx⟩ : ∃ x, R.firms[k]? = some x := ⟨_, List.getElem?_eq_getElem c⟩
      obtain ⟨b, off, ea, hb, hc⟩ := (HR.out.next HB.out).firms.at hx
      rw [ea] at ry ⊢
      have t0 : wr.cell? ⟨b, off + k * 3, none⟩ = some (.string x.nm) := hc 0 _ rfl
      have t1 : wr.cell? ⟨b, off + k * 3 + 1, none⟩ = some (.int .i64 x.city) := hc 1 _ rfl
      have t2 : wr.cell? ⟨b, off + k * 3 + 2, none⟩ = some (.int .i64 x.grp) := hc 2 _ rfl
      have hn := map_at (f := Frm.nm) hx
      have HN := Lib.hid hn
      clear hx hc hn
      by_cases e : x.nm = s
      · have HE := Lib.hid e
        have e1 : (x.nm.toList == s.toList) = true := list_eq e
        have hv : Hid (findV (R.firms.map Frm.nm) s = (k : Int)) := find_at (by rw [HN.out, HE.out]) Ha.out
        clear e
        go_wp2_with fail
        go_ret
        exact ⟨by rw [hv.out]; try rfl, HB.out⟩
      · have e1 : (x.nm.toList == s.toList) = false := list_ne e
        have HX := Lib.hid (Ha.out.next HN.out e)
        clear e
        go_wp2_with fail
        go_roundw
        case rel => exact ⟨k + 1, by omega, by congr 1, HX.out, by rw [← ea]; exact HB1.out⟩
        case measure => simp [intOf]; omega

end Go.Proofs.Ytagdikghpiiabaa
