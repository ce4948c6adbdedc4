/-
  The reference: OrderAt, Usance, Members, Grade, City, Firm.
-/
import Derived.Test.YtcjakgpmompaiaaGreatDoorProI
namespace Go.Proofs.YtcjakgpmompaiaaGreatDoor
open Go.RowKit Rl

set_option maxHeartbeats 3200000 in
set_option maxRecDepth 100000 in
theorem rUsance_x {a0 a1 a2 a3 a4 a5 a6 a7 : Option Addr} {c0 c1 c2 c3 c4 c5 c6 c7 : Nat} {R : Rlm} (a b : Int) (w : World) (hr : RS w a0 a1 a2 a3 a4 a5 a6 a7 c0 c1 c2 c3 c4 c5 c6 c7 R) (hF : Fit R) :
    Calls Tryz.prog 45 #[.agg #[.slice a0 R.cur.length c0, .slice a1 R.cities.length c1, .slice a2 R.groups.length c2, .slice a3 R.firms.length c3, .slice a4 R.orders.length c4, .slice a5 R.usances.length c5, .slice a6 R.rates.length c6, .slice a7 R.halts.length c7], .int .i64 a, .int .i64 b] w fun r w' => r = .returned (.tuple #[.int .i64 (usAt R a b).1, .int .i64 (usAt R a b).2]) ∧ Below w.heap.size w w' := by
  have HR := Lib.hid hr
  have RB0 := Lib.hid (RB.new w (a0 := a0) (a1 := a1) (a2 := a2) (a3 := a3) (a4 := a4) (a5 := a5) (a6 := a6) (a7 := a7) (c0 := c0) (c1 := c1) (c2 := c2) (c3 := c3) (c4 := c4) (c5 := c5) (c6 := c6) (c7 := c7) (R := R))
  have B0 := Lib.hid (Below.new1 (w := w) (.cells #[.slice a0 R.cur.length c0, .slice a1 R.cities.length c1, .slice a2 R.groups.length c2, .slice a3 R.firms.length c3, .slice a4 R.orders.length c4, .slice a5 R.usances.length c5, .slice a6 R.rates.length c6, .slice a7 R.halts.length c7] 31))
  clear hr
  have y1 := RB0.out.b5
  have hs := hF.usances
  go_enter Tryz.func45, Tryz.ntmps45
  go_wp2_with fail
  go_loopw [8] (fun i wr => LRel R.usances.length (NoU R.usances a b) (w.alloc (.cells #[.slice a0 R.cur.length c0, .slice a1 R.cities.length c1, .slice a2 R.groups.length c2, .slice a3 R.firms.length c3, .slice a4 R.orders.length c4, .slice a5 R.usances.length c5, .slice a6 R.rates.length c6, .slice a7 R.halts.length c7] 31)) i wr) (fun i _ => R.usances.length - (intOf i).toNat)
  case atStart => exact ⟨0, Nat.zero_le _, rfl, fun j u hj => by omega, Below.refl _ _⟩
  case round =>
    obtain ⟨k, hk, rfl, hall, hbw⟩ := hrel
    have ry := (RB0.out.next hbw).b5
    have Ha := Lib.hid hall
    have HB := Lib.hid (chain B0.out hbw)
    have HB1 := Lib.hid hbw
    have k0 : (0 : Int) ≤ (k : Int) := by omega
    clear hall hbw
    by_cases c : k < R.usances.length
    case neg =>
      have kc : ¬ (k : Int) < (R.usances.length : Int) := by omega
      have hv : Hid (usAt R a b = (0, 4)) := usAt_no Ha.out (by omega)
      go_wp2_with fail
      go_ret2
      exact ⟨by rw [hv.out]; try rfl, HB.out⟩
    case pos =>
      have kc : (k : Int) < (R.usances.length : Int) := by omega
      obtain ⟨x, hx⟩ : ∃ x, R.usances[k]? = some x := ⟨_, List.getElem?_eq_getElem c⟩
      obtain ⟨b', off', ea, hb, hc⟩ := (HR.out.next HB.out).usances.at hx
      rw [ea] at ry ⊢
      have t0 : wr.cell? ⟨b', off' + k * 3, none⟩ = some (.int .i64 x.fr) := hc 0 _ rfl
      have t1 : wr.cell? ⟨b', off' + k * 3 + 1, none⟩ = some (.int .i64 x.to) := hc 1 _ rfl
      have t2 : wr.cell? ⟨b', off' + k * 3 + 2, none⟩ = some (.int .i64 x.days) := hc 2 _ rfl
      have HX := Lib.hid hx
      clear hx hc
      by_cases e1 : x.fr = a
      · have f1 : (x.fr == a) = true := bt e1
        by_cases e2 : x.to = b
        · have f2 : (x.to == b) = true := bt e2
          have hv : Hid (usAt R a b = (x.days, 0)) := usAt_yes Ha.out HX.out ⟨e1, e2⟩
          clear e1 e2
          go_wp2_with fail
          go_ret2
          exact ⟨by rw [hv.out]; try rfl, HB.out⟩
        · have f2 : (x.to == b) = false := bf e2
          have HN := Lib.hid (Ha.out.next HX.out (fun h => e2 h.2))
          clear e1 e2
          go_wp2_with fail
          go_roundw
          case rel => exact ⟨k + 1, by omega, by congr 1, HN.out, by rw [← ea]; exact HB1.out⟩
          case measure => simp [intOf]; omega
      · have f1 : (x.fr == a) = false := bf e1
        have HN := Lib.hid (Ha.out.next HX.out (fun h => e1 h.1))
        clear e1
        go_wp2_with fail
        go_roundw
        case rel => exact ⟨k + 1, by omega, by congr 1, HN.out, by rw [← ea]; exact HB1.out⟩
        case measure => simp [intOf]; omega

set_option maxHeartbeats 3200000 in
set_option maxRecDepth 100000 in
theorem rCity_x {a0 a1 a2 a3 a4 a5 a6 a7 : Option Addr} {c0 c1 c2 c3 c4 c5 c6 c7 : Nat} {R : Rlm} (s : B) (w : World) (hr : RS w a0 a1 a2 a3 a4 a5 a6 a7 c0 c1 c2 c3 c4 c5 c6 c7 R) (hF : Fit R) :
    Calls Tryz.prog 26 #[.agg #[.slice a0 R.cur.length c0, .slice a1 R.cities.length c1, .slice a2 R.groups.length c2, .slice a3 R.firms.length c3, .slice a4 R.orders.length c4, .slice a5 R.usances.length c5, .slice a6 R.rates.length c6, .slice a7 R.halts.length c7], .string s] w fun r w' => r = .returned (.int .i64 (findV (R.cities.map Cty.nm) s)) ∧ Below w.heap.size w w' := by
  have HR := Lib.hid hr
  have RB0 := Lib.hid (RB.new w (a0 := a0) (a1 := a1) (a2 := a2) (a3 := a3) (a4 := a4) (a5 := a5) (a6 := a6) (a7 := a7) (c0 := c0) (c1 := c1) (c2 := c2) (c3 := c3) (c4 := c4) (c5 := c5) (c6 := c6) (c7 := c7) (R := R))
  have B0 := Lib.hid (Below.new1 (w := w) (.cells #[.slice a0 R.cur.length c0, .slice a1 R.cities.length c1, .slice a2 R.groups.length c2, .slice a3 R.firms.length c3, .slice a4 R.orders.length c4, .slice a5 R.usances.length c5, .slice a6 R.rates.length c6, .slice a7 R.halts.length c7] 31))
  clear hr
  have y1 := RB0.out.b1
  have hs := hF.cities
  go_enter Tryz.func26, Tryz.ntmps26
  go_wp2_with fail
  go_loopw [5] (fun i wr => LRel R.cities.length (NoN (R.cities.map Cty.nm) s) (w.alloc (.cells #[.slice a0 R.cur.length c0, .slice a1 R.cities.length c1, .slice a2 R.groups.length c2, .slice a3 R.firms.length c3, .slice a4 R.orders.length c4, .slice a5 R.usances.length c5, .slice a6 R.rates.length c6, .slice a7 R.halts.length c7] 31)) i wr) (fun i _ => R.cities.length - (intOf i).toNat)
  case atStart => exact ⟨0, Nat.zero_le _, rfl, fun j u hj => by omega, Below.refl _ _⟩
  case round =>
    obtain ⟨k, hk, rfl, hall, hbw⟩ := hrel
    have ry := (RB0.out.next hbw).b1
    have Ha := Lib.hid hall
    have HB := Lib.hid (chain B0.out hbw)
    have HB1 := Lib.hid hbw
    have k0 : (0 : Int) ≤ (k : Int) := by omega
    clear hall hbw
    by_cases c : k < R.cities.length
    case neg =>
      have kc : ¬ (k : Int) < (R.cities.length : Int) := by omega
      have hv : Hid (findV (R.cities.map Cty.nm) s = -1) := Ha.out.none (by rw [List.length_map]; omega)
      go_wp2_with fail
      go_ret
      exact ⟨by rw [hv.out]; try rfl, HB.out⟩
    case pos =>
      have kc : (k : Int) < (R.cities.length : Int) := by omega
      obtain ⟨x, hx⟩ : ∃ x, R.cities[k]? = some x := ⟨_, List.getElem?_eq_getElem c⟩
      obtain ⟨b, off, ea, hb, hc⟩ := (HR.out.next HB.out).cities.at hx
      rw [ea] at ry ⊢
      have t0 : wr.cell? ⟨b, off + k * 6, none⟩ = some (.string x.nm) := hc 0 _ rfl
      have t1 : wr.cell? ⟨b, off + k * 6 + 1, none⟩ = some (.int .i64 x.o) := hc 1 _ rfl
      have t2 : wr.cell? ⟨b, off + k * 6 + 2, none⟩ = some (.int .i64 x.c) := hc 2 _ rfl
      have t3 : wr.cell? ⟨b, off + k * 6 + 3, none⟩ = some (.slice x.a3 x.rest.length x.k3) := hc 3 _ rfl
      have t4 : wr.cell? ⟨b, off + k * 6 + 4, none⟩ = some (.slice x.a4 x.feasts.length x.k4) := hc 4 _ rfl
      have t5 : wr.cell? ⟨b, off + k * 6 + 5, none⟩ = some (.slice x.a5 x.shut.length x.k5) := hc 5 _ rfl
      have hn := map_at (f := Cty.nm) hx
      have HN := Lib.hid hn
      clear hx hc hn
      by_cases e : x.nm = s
      · have HE := Lib.hid e
        have e1 : (x.nm.toList == s.toList) = true := list_eq e
        have hv : Hid (findV (R.cities.map Cty.nm) s = (k : Int)) := find_at (by rw [HN.out, HE.out]) Ha.out
        clear e
        go_wp2_with fail
        go_ret
        exact ⟨by rw [hv.out]; try rfl, HB.out⟩
      · have e1 : (x.nm.toList == s.toList) = false := list_ne e
        have HX := Lib.hid (Ha.out.next HN.out e)
        clear e
        go_wp2_with fail
        go_roundw
        case rel => exact ⟨k + 1, by omega, by congr 1, HX.out, by rw [← ea]; exact HB1.out⟩
        case measure => simp [intOf]; omega

set_option maxHeartbeats 3200000 in
set_option maxRecDepth 100000 in
theorem rFirm_x {a0 a1 a2 a3 a4 a5 a6 a7 : Option Addr} {c0 c1 c2 c3 c4 c5 c6 c7 : Nat} {R : Rlm} (s : B) (w : World) (hr : RS w a0 a1 a2 a3 a4 a5 a6 a7 c0 c1 c2 c3 c4 c5 c6 c7 R) (hF : Fit R) :
    Calls Tryz.prog 31 #[.agg #[.slice a0 R.cur.length c0, .slice a1 R.cities.length c1, .slice a2 R.groups.length c2, .slice a3 R.firms.length c3, .slice a4 R.orders.length c4, .slice a5 R.usances.length c5, .slice a6 R.rates.length c6, .slice a7 R.halts.length c7], .string s] w fun r w' => r = .returned (.int .i64 (findV (R.firms.map Frm.nm) s)) ∧ Below w.heap.size w w' := by
  have HR := Lib.hid hr
  have RB0 := Lib.hid (RB.new w (a0 := a0) (a1 := a1) (a2 := a2) (a3 := a3) (a4 := a4) (a5 := a5) (a6 := a6) (a7 := a7) (c0 := c0) (c1 := c1) (c2 := c2) (c3 := c3) (c4 := c4) (c5 := c5) (c6 := c6) (c7 := c7) (R := R))
  have B0 := Lib.hid (Below.new1 (w := w) (.cells #[.slice a0 R.cur.length c0, .slice a1 R.cities.length c1, .slice a2 R.groups.length c2, .slice a3 R.firms.length c3, .slice a4 R.orders.length c4, .slice a5 R.usances.length c5, .slice a6 R.rates.length c6, .slice a7 R.halts.length c7] 31))
  clear hr
  have y1 := RB0.out.b3
  have hs := hF.firms
  go_enter Tryz.func31, Tryz.ntmps31
  go_wp2_with fail
  go_loopw [5] (fun i wr => LRel R.firms.length (NoN (R.firms.map Frm.nm) s) (w.alloc (.cells #[.slice a0 R.cur.length c0, .slice a1 R.cities.length c1, .slice a2 R.groups.length c2, .slice a3 R.firms.length c3, .slice a4 R.orders.length c4, .slice a5 R.usances.length c5, .slice a6 R.rates.length c6, .slice a7 R.halts.length c7] 31)) i wr) (fun i _ => R.firms.length - (intOf i).toNat)
  case atStart => exact ⟨0, Nat.zero_le _, rfl, fun j u hj => by omega, Below.refl _ _⟩
  case round =>
    obtain ⟨k, hk, rfl, hall, hbw⟩ := hrel
    have ry := (RB0.out.next hbw).b3
    have Ha := Lib.hid hall
    have HB := Lib.hid (chain B0.out hbw)
    have HB1 := Lib.hid hbw
    have k0 : (0 : Int) ≤ (k : Int) := by omega
    clear hall hbw
    by_cases c : k < R.firms.length
    case neg =>
      have kc : ¬ (k : Int) < (R.firms.length : Int) := by omega
      have hv : Hid (findV (R.firms.map Frm.nm) s = -1) := Ha.out.none (by rw [List.length_map]; omega)
      go_wp2_with fail
      go_ret
      exact ⟨by rw [hv.out]; try rfl, HB.out⟩
    case pos =>
      have kc : (k : Int) < (R.firms.length : Int) := by omega
      obtain ⟨x, hx⟩ : ∃ x, R.firms[k]? = some x := ⟨_, List.getElem?_eq_getElem c⟩
      obtain ⟨b, off, ea, hb, hc⟩ := (HR.out.next HB.out).firms.at hx
      rw [ea] at ry ⊢
      have t0 : wr.cell? ⟨b, off + k * 3, none⟩ = some (.string x.nm) := hc 0 _ rfl
      have t1 : wr.cell? ⟨b, off + k * 3 + 1, none⟩ = some (.int .i64 x.city) := hc 1 _ rfl
      have t2 : wr.cell? ⟨b, off + k * 3 + 2, none⟩ = some (.int .i64 x.grp) := hc 2 _ rfl
      have hn := map_at (f := Frm.nm) hx
      have HN := Lib.hid hn
      clear hx hc hn
      by_cases e : x.nm = s
      · have HE := Lib.hid e
        have e1 : (x.nm.toList == s.toList) = true := list_eq e
        have hv : Hid (findV (R.firms.map Frm.nm) s = (k : Int)) := find_at (by rw [HN.out, HE.out]) Ha.out
        clear e
        go_wp2_with fail
        go_ret
        exact ⟨by rw [hv.out]; try rfl, HB.out⟩
      · have e1 : (x.nm.toList == s.toList) = false := list_ne e
        have HX := Lib.hid (Ha.out.next HN.out e)
        clear e
        go_wp2_with fail
        go_roundw
        case rel => exact ⟨k + 1, by omega, by congr 1, HX.out, by rw [← ea]; exact HB1.out⟩
        case measure => simp [intOf]; omega

end Go.Proofs.YtcjakgpmompaiaaGreatDoor
