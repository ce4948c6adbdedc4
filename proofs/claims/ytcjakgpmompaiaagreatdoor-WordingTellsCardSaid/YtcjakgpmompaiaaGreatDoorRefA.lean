/-
  The reference: OrderAt, Usance, Members, Grade, City, Firm.
-/
import Derived.Test.YtcjakgpmompaiaaGreatDoorProI
namespace Go.Proofs.YtcjakgpmompaiaaGreatDoor
open Go.RowKit Rl

set_option maxHeartbeats 3200000 in
set_option maxRecDepth 100000 in
theorem rUsance_x {a0 a1 a2 a3 a4 a5 a6 a7 : Option Addr} {c0 c1 c2 c3 c4 c5 c6 c7 : Nat} {R : Rlm} (a b : Int) (w : World) (hr : RS w a0 a1 a2 a3 a4 a5 a6 a7 c0 c1 c2 c3 c4 c5 c6 c7 R) (hF : Fit R) :
    Calls Tryz.prog 45 #[.agg #[.slice a0 R.cur.length c0, .slice a1 R.cities.length c1, .slice a2 R.groups.length c2, .slice a3 R.firms.length c3, .slice a4 R.orders.length c4, .slice a5 R.usances.length c5, .slice a6 R.rates.length c6, .slice a7 R.halts.length c7], .int .i64 a, .int .i64 b] w fun r w' => r = .returned (.tuple #[.int .i64 (usAt R a b).1, .int .i64 (usAt R a b).2]) ∧ Below w.heap.size w w' := by
  have HR := Lib.hid hr
  have RB0 := Lib.hid (RB.new w (a0 := a0) (a1 := a1) (a2 := a2) (a3 := a3) (a4 := a4) (a5 := a5) (a6 := a6) (a7 := a7) (c0 := c0) (c1 := c1) (c2 := c2) (c3 := c3) (c4 := c4) (c5 := c5) (c6 := c6) (c7 := c7) (R := R))
  have B0 := Lib.hid (Below.new1 (w := w) (.cells #[.slice a0 R.cur.length c0, .slice a1 R.cities.length c1, .slice a2 R.groups.length c2, .slice a3 R.firms.length c3, .slice a4 R.orders.length c4, .slice a5 R.usances.length c5, .slice a6 R.rates.length c6, .slice a7 R.halts.length c7] 31))
  clear hr
  have y1 := RB0.out.b5
  have hs := hF.usances
  go_enter Tryz.func45, Tryz.ntmps45
  go_wp2_with fail
  go_loopw [8] (fun i wr => LRel R.usances.length (NoU R.usances a b) (w.alloc (.cells #[.slice a0 R.cur.length c0, .slice a1 R.cities.length c1, .slice a2 R.groups.length c2, .slice a3 R.firms.length c3, .slice a4 R.orders.length c4, .slice a5 R.usances.length c5, .slice a6 R.rates.length c6, .slice a7 R.halts.length c7] 31)) i wr) (fun i _ => R.usances.length - (intOf i).toNat)
  case atStart => exact ⟨0, Nat.zero_le _, rfl, fun j u hj => by omega, Below.refl _ _⟩
  case round =>
    obtain ⟨k, hk, rfl, hall, hbw⟩ := hrel
    have ry := (RB0.out.next hbw).b5
    have Ha := Lib.hid hall
    have HB := Lib.hid (chain B0.out hbw)
    have HB1 := Lib.hid hbw
    have k0 : (0 : Int) ≤ (k : Int) := by omega
    clear hall hbw
    by_cases c : k < R.usances.length
    case neg =>
      have kc : ¬ (k : Int) < (R.usances.length : Int) := by omega
      have hv : Hid (usAt R a b = (0, 4)) := usAt_no Ha.out (by omega)
      go_wp2_with fail
      go_ret2
      exact ⟨by rw [hv.out]; try rfl, HB.out⟩
    case pos =>
      have kc : (k : Int) < (R.usances.length : Int) := by omega
      obtain ⟨x, hx⟩ : ∃ x, R.usances[k]? = some x := ⟨_, List.getElem?_eq_getElem c⟩
      obtain ⟨b', off', ea, hb, hc⟩ := (HR.out.next HB.out).usances.at hx
      rw [ea] at ry ⊢
      have t0 : wr.cell? ⟨b', off' + k * 3, none⟩ = some (.int .i64 x.fr) := hc 0 _ rfl
      have t1 : wr.cell? ⟨b', off' + k * 3 + 1, none⟩ = some (.int .i64 x.to) := hc 1 _ rfl
      have t2 : wr.cell? ⟨b', off' + k * 3 + 2, none⟩ = some (.int .i64 x.days) := hc 2 _ rfl
      have HX := Lib.hid hx
      clear hx hc
      by_cases e1 : x.fr = a
      · have f1 : (x.fr == a) = true := bt e1
        by_cases e2 : x.to = b
        · have f2 : (x.to == b) = true := bt e2
          have hv : Hid (usAt R a b = (x.days, 0)) := usAt_yes Ha.out HX.out ⟨e1, e2⟩
          clear e1 e2
          go_wp2_with fail
          go_ret2
          exact ⟨by rw [hv.out]; try rfl, HB.out⟩
        · have f2 : (x.to == b) = false := bf e2
          have HN := Lib.hid (Ha.out.next HX.out (fun h => e2 h.2))
          clear e1 e2
          go_wp2_with fail
          go_roundw
          case rel => exact ⟨k + 1, by omega, by congr 1, HN.out, by rw [← ea]; exact HB1.out⟩
          case measure => simp [intOf]; omega
      · have f1 : (x.fr == a) = false := bf e1
        have HN := Lib.hid (Ha.out.next HX.out (fun h => e1 h.1))
        clear e1
        go_wp2_with fail
        go_roundw
        case rel => exact ⟨k + 1, by omega, by congr 1, HN.out, by rw [← ea]; exact HB1.out⟩
        case measure => simp [intOf]; omega

set_option maxHeartbeats 3200000 in
set_option maxRecDepth 100000 in
theorem rCity_x {a0 a1 a2 a3 a4 a5 a6 a7 : Option Addr} {c0 c1 c2 c3 c4 c5 c6 c7 : Nat} {R : Rlm} (s : B) (w : World) (hr : RS w a0 a1 a2 a3 a4 a5 a6 a7 c0 c1 c2 c3 c4 c5 c6 c7 R) (hF : Fit R) :
    Calls Tryz.prog 26 #[.agg #[.slice a0 R.cur.length c0, .slice a1 R.cities.length c1, .slice a2 R.groups.length c2, .slice a3 R.firms.length c3, .slice a4 R.orders.length c4, .slice a5 R.usances.length c5, .slice a6 R.rates.length c6, .slice a7 R.halts.length c7], .string s] w fun r w' => r = .returned (.int .i64 (findV (R.cities.map Cty.nm) s)) ∧ Below w.heap.size w w' := by
  have HR := Lib.hid hr
  have RB0 := Lib.hid (RB.new w (a0 := a0) (a1 := a1) (a2 := a2) (a3 := a3) (a4 := a4) (a5 := a5) (a6 := a6) (a7 := a7) (c0 := c0) (c1 := c1) (c2 := c2) (c3 := c3) (c4 := c4) (c5 := c5) (c6 := c6) (c7 := c7) (R := R))
  have B0 := Lib.hid (Below.new1 (w := w) (.cells #[.slice a0 R.cur.length c0, .slice a1 R.cities.length c1, .slice a2 R.groups.length c2, .slice a3 R.firms.length c3, .slice a4 R.orders.length c4, .slice a5 R.usances.length c5, .slice a6 R.rates.length c6, .slice a7 R.halts.length c7] 31))
  clear hr
  have y1 := RB0.out.b1
  have hs := hF.cities
  go_enter Tryz.func26, Tryz.ntmps26
  go_wp2_with fail
  go_loopw [5] (fun i wr => LRel R.cities.length (NoN (R.cities.map Cty.nm) s) (w.alloc (.cells #[.slice a0 R.cur.length c0, .slice a1 R.cities.length c1, .slice a2 R.groups.length c2, .slice a3 R.firms.length c3, .slice a4 R.orders.length c4, .slice a5 R.usances.length c5, .slice a6 R.rates.length c6, .slice a7 R.halts.length c7] 31)) i wr) (fun i _ => R.cities.length - (intOf i).toNat)
  case atStart => exact ⟨0, Nat.zero_le _, rfl, fun j u hj => by omega, Below.refl _ _⟩
  case round =>
    obtain ⟨k, hk, rfl, hall, hbw⟩ := hrel
    have ry := (RB0.out.next hbw).b1
    have Ha := Lib.hid hall
    have HB := Lib.hid (chain B0.out hbw)
    have HB1 := Lib.hid hbw
    have k0 : (0 : Int) ≤ (k : Int) := by omega
    clear hall hbw
    by_cases c : k < R.cities.length
    case neg =>
      have kc : ¬ (k : Int) < (R.cities.length : Int) := by omega
      have hv : Hid (findV (R.cities.map Cty.nm) s = -1) := Ha.out.none (by rw [List.length_map]; omega)
      go_wp2_with fail
      go_ret
      exact ⟨by rw [hv.out]; try rfl, HB.out⟩
    case pos =>
      have kc : (k : Int) < (R.cities.length : Int) := by omega
      obtain ⟨x, hx⟩ : ∃ x, R.cities[k]? = some x := ⟨_, List.getElem?_eq_getElem c⟩
      obtain ⟨b, off, ea, hb, hc⟩ := (HR.out.next HB.out).cities.at hx
      rw [ea] at ry ⊢
      have t0 : wr.cell? ⟨b, off + k * 6, none⟩ = some (.string x.nm) := hc 0 _ rfl
      have t1 : wr.cell? ⟨b, off + k * 6 + 1, none⟩ = some (.int .i64 x.o) := hc 1 _ rfl
      have t2 : wr.cell? ⟨b, off + k * 6 + 2, none⟩ = some (.int .i64 x.c) := hc 2 _ rfl
      have t3 : wr.cell? ⟨b, off + k * 6 + 3, none⟩ = some (.slice x.a3 x.rest.length x.k3) := hc 3 _ rfl
      have t4 : wr.cell? ⟨b, off + k * 6 + 4, none⟩ = some (.slice x.a4 x.feasts.length x.k4) := hc 4 _ rfl
      have t5 : wr.cell? ⟨b, off + k * 6 + 5, none⟩ = some (.slice x.a5 x.shut.length x.k5) := hc 5 _ rfl
      have hn := map_at (f := Cty.nm) hx
      have HN := Lib.hid hn
      clear hx hc hn
      by_cases e : x.nm = s
      · have HE := Lib.hid e
        have e1 : (x.nm.toList == s.toList) = true := list_eq e
        have hv : Hid (findV (R.cities.map Cty.nm) s = (k : Int)) := find_at (by rw [HN.out, HE.out]) Ha.out
        clear e
        go_wp2_with fail
        go_ret
        exact ⟨by rw [hv.out]; try rfl, HB.out⟩
      · have e1 : (x.nm.toList == s.toList) = false := list_ne e
        have HX := Lib.hid (Ha.out.next HN.out e)
        clear e
        go_wp2_with fail
        go_roundw
        case rel => exact ⟨k + 1, by omega, by congr 1, HX.out, by rw [← ea]; exact HB1.out⟩
        case measure => simp [intOf]; omega

set_option maxHeartbeats 3200000 in
set_option maxRecDepth 100000 in
theorem rFirm_x {a0 a1 a2 a3 a4 a5 a6 a7 : Option Addr} {c0 c1 c2 c3 c4 c5 c6 c7 : Nat} {R : Rlm} (s : B) (w : World) (hr : RS w a0 a1 a2 a3 a4 a5 a6 a7 c0 c1 c2 c3 c4 c5 c6 c7 R) (hF : Fit R) :
    Calls Tryz.prog 31 #[.agg #[.slice a0 R.cur.length c0, .slice a1 R.cities.length c1, .slice a2 R.groups.length c2, .slice a3 R.firms.length c3, .slice a4 R.orders.length c4, .slice a5 R.usances.length c5, .slice a6 R.rates.length c6, .slice a7 R.halts.length c7], .string s] w fun r w' => r = .returned (.int .i64 (findV (R.firms.map Frm.nm) s)) ∧ Below w.heap.size w w' := by
  have HR := Lib.hid hr
  have RB0 := Lib.hid (RB.new w (a0 := a0) (a1 := a1) (a2 := a2) (a3 := a3) (a4 := a4) (a5 := a5) (a6 := a6) (a7 := a7) (c0 := c0) (c1 := c1) (c2 := c2) (c3 := c3) (c4 := c4) (c5 := c5) (c6 := c6) (c7 := c7) (R := R))
  have B0 := Lib.hid (Below.new1 (w := w) (.cells #[.slice a0 R.cur.length c0, .slice a1 R.cities.length c1, .slice a2 R.groups.length c2, .slice a3 R.firms.length c3, .slice a4 R.orders.length c4, .slice a5 R.usances.length c5, .slice a6 R.rates.length c6, .slice a7 R.halts.length c7] 31))
  clear hr
  have y1 := RB0.out.b3
  have hs := hF.firms
  go_enter Tryz.func31, Tryz.ntmps31
  go_wp2_with fail
  go_loopw [5] (fun i wr => LRel R.firms.length (NoN (R.firms.map Frm.nm) s) (w.alloc (.cells #[.slice a0 R.cur.length c0, .slice a1 R.cities.length c1, .slice a2 R.groups.length c2, .slice a3 R.firms.length c3, .slice a4 R.orders.length c4, .slice a5 R.usances.length c5, .slice a6 R.rates.length c6, .slice a7 R.halts.length c7] 31)) i wr) (fun i _ => R.firms.length - (intOf i).toNat)
  case atStart => exact ⟨0, Nat.zero_le _, rfl, fun j u hj => by omega, Below.refl _ _⟩
  case round =>
    obtain ⟨k, hk, rfl, hall, hbw⟩ := hrel
    have ry := (RB0.out.next hbw).b3
    have Ha := Lib.hid hall
    have HB := Lib.hid (chain B0.out hbw)
    have HB1 := Lib.hid hbw
    have k0 : (0 : Int) ≤ (k : Int) := by omega
    clear hall hbw
    by_cases c : k < R.firms.length
    case neg =>
      have kc : ¬ (k : Int) < (R.firms.length : Int) := by omega
      have hv : Hid (findV (R.firms.map Frm.nm) s = -1) := Ha.out.none (by rw [List.length_map]; omega)
      go_wp2_with fail
      go_ret
      exact ⟨by rw [hv.out]; try rfl, HB.out⟩
    case pos =>
      have kc : (k : Int) < (R.firms.length : Int) := by omega
      obtain ⟨x, hx⟩ : ∃ x, R.firms[k]? = some x := ⟨_, List.getElem?_eq_getElem c⟩
      obtain ⟨b, off, ea, hb, hc⟩ := (HR.out.next HB.out).firms.at hx
      rw [ea] at ry ⊢
      have t0 : wr.cell? ⟨b, off + k * 3, none⟩ = some (.string x.nm) := hc 0 _ rfl
      have t1 : wr.cell? ⟨b, off + k * 3 + 1, none⟩ = some (.int .i64 x.city) := hc 1 _ rfl
      have t2 : wr.cell? ⟨b, off + k * 3 + 2, none⟩ = some (.int .i64 x.grp) := hc 2 _ rfl
      have hn := map_at (f := Frm.nm) hx
      have HN := Lib.hid hn
      clear hx hc hn
      by_cases e : x.nm = s
      · have HE := Lib.hid e
        have e1 : (x.nm.toList == s.toList) = true := list_eq e
        have hv : Hid (findV (R.firms.map Frm.nm) s = (k : Int)) := find_at (by rw [HN.out, HE.out]) Ha.out
        clear e
        go_wp2_with fail
        go_ret
        exact ⟨by rw [hv.out]; try rfl, HB.out⟩
      · have e1 : (x.nm.toList == s.toList) = false := list_ne e
        have HX := Lib.hid (Ha.out.next HN.out e)
        clear e
        go_wp2_with fail
        go_roundw
        case rel => exact ⟨k + 1, by omega, by congr 1, HX.out, by rw [← ea]; exact HB1.out⟩
        case measure => simp [intOf]; omega

end Go.Proofs.YtcjakgpmompaiaaGreatDoor

/-
  The reference: Name, Before, Rising, named, RightCity, RightOrder.
-/
namespace Go.Proofs.YtcjakgpmompaiaaGreatDoor
open Go.RowKit Rl

def NmRel (s : B) (w : World) (i : Value) (wr : World) : Prop := ∃ k : Nat, k ≤ s.size ∧ i = .int .i64 (k : Int) ∧ (∀ i, (h : i < s.size) → i < k → okAt s i h) ∧ w = wr

set_option maxHeartbeats 3200000 in
set_option maxRecDepth 100000 in
theorem Name_x (s : B) (w : World) :
    Calls Tryz.prog 166 #[.string s] w fun r w' => r = .returned (.bool (nameB s)) ∧ w = w' := by
  by_cases t1 : s.size < 1
  · have f1 : (s.size : Int) < 1 := by omega
    have hv : Hid (nameB s = false) := name_no (fun h => by omega)
    go_enter Tryz.func166, Tryz.ntmps166
    go_wp2_with fail
    go_ret
    exact ⟨by rw [hv.out]; try rfl, rfl⟩
  have f1 : ¬ (s.size : Int) < 1 := by omega
  by_cases t2 : 20 < s.size
  · have f2 : 20 < (s.size : Int) := by omega
    have hv : Hid (nameB s = false) := name_no (fun h => by omega)
    go_enter Tryz.func166, Tryz.ntmps166
    go_wp2_with fail
    go_ret
    exact ⟨by rw [hv.out]; try rfl, rfl⟩
  have f2 : ¬ 20 < (s.size : Int) := by omega
  go_enter Tryz.func166, Tryz.ntmps166
  go_wp2_with fail
  go_loopw [3] (fun i wr => NmRel s w i wr) (fun i _ => s.size - (intOf i).toNat)
  case atStart => exact ⟨0, Nat.zero_le _, rfl, fun j h hj => by omega, rfl⟩
  case round =>
    obtain ⟨k, hk, rfl, hall, rfl⟩ := hrel
    have Ha := Lib.hid hall
    have k0 : (0 : Int) ≤ (k : Int) := by omega
    clear hall
    by_cases c : k < s.size
    case neg =>
      have c0 : ¬ (k : Int) < (s.size : Int) := by omega
      have hv : Hid (nameB s = true) := name_iff.2 ⟨by omega, fun i h => Ha.out i h (by omega)⟩
      go_wp2_with fail
      go_ret
      exact ⟨by rw [hv.out]; try rfl, rfl⟩
    case pos =>
      have c0 : (k : Int) < (s.size : Int) := by omega
      obtain ⟨q1, q2⟩ := byte_le s[k]
      by_cases g1 : (s[k].toNat : Int) = 95
      · have g1' : ((s[k].toNat : Int) == 95) = true := bt g1
        have G1 := Lib.hid g1
        clear g1
        cases hl : letB s[k] with
        | true =>
          have HL := Lib.hid hl
          have hm : Hid (morB s[k] = true) := by show _ = _; simp [morB, hl]
          have hz : Hid (k = 0 → letB s[k] = true) := fun _ => hl
          clear hl
          have HN := Lib.hid (ok_next Ha.out c ⟨hm.out, hz.out⟩)
          go_wp2_with fail
          refine (Letter_x s[k] _).mono ?_
          rintro r w1 ⟨rfl, rfl⟩
          rw [HL.out]
          go_wp2_with fail
          go_roundw
          case rel => exact ⟨k + 1, by omega, by congr 1, HN.out, rfl⟩
          case measure => simp [intOf]; omega
        | false =>
          have HL := Lib.hid hl
          by_cases kz : k = 0
          · have kf : ((k : Int) == 0) = true := bt (by omega)
            have hv : Hid (nameB s = false) := name_no (fun h => by have := (h.2 k c).2 kz; rw [hl] at this; cases this)
            clear hl kz
            go_wp2_with fail
            refine (Letter_x s[k] _).mono ?_
            rintro r w1 ⟨rfl, rfl⟩
            rw [HL.out]
            go_wp2_with fail
            go_ret
            exact ⟨by rw [hv.out]; try rfl, rfl⟩
          · have kf : ((k : Int) == 0) = false := bf (by omega)
            have hm : Hid (morB s[k] = true) := by show _ = _; simp [morB, hl]; have g1 := G1.out; omega
            have hz : Hid (k = 0 → letB s[k] = true) := fun e => absurd e kz
            clear hl kz
            have HN := Lib.hid (ok_next Ha.out c ⟨hm.out, hz.out⟩)
            go_wp2_with fail
            refine (Letter_x s[k] _).mono ?_
            rintro r w1 ⟨rfl, rfl⟩
            rw [HL.out]
            go_wp2_with fail
            go_roundw
            case rel => exact ⟨k + 1, by omega, by congr 1, HN.out, rfl⟩
            case measure => simp [intOf]; omega
      have g1' : ((s[k].toNat : Int) == 95) = false := bf g1
      by_cases g2 : (48 : Int) ≤ (s[k].toNat : Int)
      · by_cases g3 : (s[k].toNat : Int) ≤ 57
        · skip
          cases hl : letB s[k] with
          | true =>
            have HL := Lib.hid hl
            have hm : Hid (morB s[k] = true) := by show _ = _; simp [morB, hl]
            have hz : Hid (k = 0 → letB s[k] = true) := fun _ => hl
            clear hl
            have HN := Lib.hid (ok_next Ha.out c ⟨hm.out, hz.out⟩)
            go_wp2_with fail
            refine (Letter_x s[k] _).mono ?_
            rintro r w1 ⟨rfl, rfl⟩
            rw [HL.out]
            go_wp2_with fail
            go_roundw
            case rel => exact ⟨k + 1, by omega, by congr 1, HN.out, rfl⟩
            case measure => simp [intOf]; omega
          | false =>
            have HL := Lib.hid hl
            by_cases kz : k = 0
            · have kf : ((k : Int) == 0) = true := bt (by omega)
              have hv : Hid (nameB s = false) := name_no (fun h => by have := (h.2 k c).2 kz; rw [hl] at this; cases this)
              clear hl kz
              go_wp2_with fail
              refine (Letter_x s[k] _).mono ?_
              rintro r w1 ⟨rfl, rfl⟩
              rw [HL.out]
              go_wp2_with fail
              go_ret
              exact ⟨by rw [hv.out]; try rfl, rfl⟩
            · have kf : ((k : Int) == 0) = false := bf (by omega)
              have hm : Hid (morB s[k] = true) := by show _ = _; simp [morB, hl]; omega
              have hz : Hid (k = 0 → letB s[k] = true) := fun e => absurd e kz
              clear hl kz
              have HN := Lib.hid (ok_next Ha.out c ⟨hm.out, hz.out⟩)
              go_wp2_with fail
              refine (Letter_x s[k] _).mono ?_
              rintro r w1 ⟨rfl, rfl⟩
              rw [HL.out]
              go_wp2_with fail
              go_roundw
              case rel => exact ⟨k + 1, by omega, by congr 1, HN.out, rfl⟩
              case measure => simp [intOf]; omega
        · skip
          cases hl : letB s[k] with
          | true =>
            have HL := Lib.hid hl
            have hm : Hid (morB s[k] = true) := by show _ = _; simp [morB, hl]
            have hz : Hid (k = 0 → letB s[k] = true) := fun _ => hl
            clear hl
            have HN := Lib.hid (ok_next Ha.out c ⟨hm.out, hz.out⟩)
            go_wp2_with fail
            refine (Letter_x s[k] _).mono ?_
            rintro r w1 ⟨rfl, rfl⟩
            rw [HL.out]
            go_wp2_with fail
            go_roundw
            case rel => exact ⟨k + 1, by omega, by congr 1, HN.out, rfl⟩
            case measure => simp [intOf]; omega
          | false =>
            have HL := Lib.hid hl
            by_cases kz : k = 0
            · have kf : ((k : Int) == 0) = true := bt (by omega)
              have hv : Hid (nameB s = false) := name_no (fun h => by have := (h.2 k c).2 kz; rw [hl] at this; cases this)
              clear hl kz
              go_wp2_with fail
              refine (Letter_x s[k] _).mono ?_
              rintro r w1 ⟨rfl, rfl⟩
              rw [HL.out]
              go_wp2_with fail
              go_ret
              exact ⟨by rw [hv.out]; try rfl, rfl⟩
            · have kf : ((k : Int) == 0) = false := bf (by omega)
              have hm : Hid (morB s[k] = false) := by show _ = _; simp [morB, hl]; omega
              have hv : Hid (nameB s = false) := name_no (fun h => by have := (h.2 k c).1; rw [hm.out] at this; cases this)
              clear hl kz
              go_wp2_with fail
              refine (Letter_x s[k] _).mono ?_
              rintro r w1 ⟨rfl, rfl⟩
              rw [HL.out]
              go_wp2_with fail
              go_ret
              exact ⟨by rw [hv.out]; try rfl, rfl⟩
      · skip
        cases hl : letB s[k] with
        | true =>
          have HL := Lib.hid hl
          have hm : Hid (morB s[k] = true) := by show _ = _; simp [morB, hl]
          have hz : Hid (k = 0 → letB s[k] = true) := fun _ => hl
          clear hl
          have HN := Lib.hid (ok_next Ha.out c ⟨hm.out, hz.out⟩)
          go_wp2_with fail
          refine (Letter_x s[k] _).mono ?_
          rintro r w1 ⟨rfl, rfl⟩
          rw [HL.out]
          go_wp2_with fail
          go_roundw
          case rel => exact ⟨k + 1, by omega, by congr 1, HN.out, rfl⟩
          case measure => simp [intOf]; omega
        | false =>
          have HL := Lib.hid hl
          by_cases kz : k = 0
          · have kf : ((k : Int) == 0) = true := bt (by omega)
            have hv : Hid (nameB s = false) := name_no (fun h => by have := (h.2 k c).2 kz; rw [hl] at this; cases this)
            clear hl kz
            go_wp2_with fail
            refine (Letter_x s[k] _).mono ?_
            rintro r w1 ⟨rfl, rfl⟩
            rw [HL.out]
            go_wp2_with fail
            go_ret
            exact ⟨by rw [hv.out]; try rfl, rfl⟩
          · have kf : ((k : Int) == 0) = false := bf (by omega)
            have hm : Hid (morB s[k] = false) := by show _ = _; simp [morB, hl]; omega
            have hv : Hid (nameB s = false) := name_no (fun h => by have := (h.2 k c).1; rw [hm.out] at this; cases this)
            clear hl kz
            go_wp2_with fail
            refine (Letter_x s[k] _).mono ?_
            rintro r w1 ⟨rfl, rfl⟩
            rw [HL.out]
            go_wp2_with fail
            go_ret
            exact ⟨by rw [hv.out]; try rfl, rfl⟩

theorem find_take {l : List B} {s : B} {n : Nat} (h : NoN l s n) : findV (l.take n) s = -1 := find_none (fun j x hx => by
  rw [List.getElem?_take] at hx
  split at hx
  · exact h j x (by assumption) hx
  · cases hx)
theorem find_in {l : List B} {s : B} {n k : Nat} (hk : k < n) (h : l[k]? = some s) : findV (l.take n) s ≠ -1 := by
  rcases find_cases (l.take n) s with ⟨j, -, -, e⟩ | ⟨h1, -⟩
  · rw [e]; omega
  · exact absurd rfl (h1 k s (by rw [List.getElem?_take_of_lt hk]; exact h))
/-- s is among the first n -/
def befB (l : List B) (n : Nat) (s : B) : Bool := decide (findV (l.take n) s ≠ -1)
theorem Before_x (v : Value) (l : List B) (n : Nat) (s : B) (w : World) (h : SAt w v l) (hl : Sz l.length) (hn : n ≤ l.length) :
    Calls Tryz.prog 167 #[v, .int .i64 (n : Int), .string s] w fun r w' => r = .returned (.bool (befB l n s)) ∧ w = w' := by
  obtain ⟨a, cap, rfl⟩ := h.shape
  have HL := Lib.hid h
  clear h
  go_enter Tryz.func167, Tryz.ntmps167
  go_wp2_with fail
  go_loopw [7] (fun i wr => ∃ k : Nat, k ≤ n ∧ i = .int .i64 (k : Int) ∧ NoN l s k ∧ w = wr) (fun i _ => n - (intOf i).toNat)
  case atStart => exact ⟨0, Nat.zero_le _, rfl, fun j x hj => by omega, rfl⟩
  case round =>
    obtain ⟨k, hk, rfl, hall, rfl⟩ := hrel
    have Ha := Lib.hid hall
    have k0 : (0 : Int) ≤ (k : Int) := by omega
    clear hall
    by_cases c : k < n
    case neg =>
      have c0 : ¬ (k : Int) < (n : Int) := by omega
      obtain rfl : k = n := by omega
      have hv : Hid (befB l k s = false) := decide_eq_false (fun h => h (find_take Ha.out))
      go_wp2_with fail
      go_ret
      exact ⟨by rw [hv.out]; try rfl, rfl⟩
    case pos =>
      have c0 : (k : Int) < (n : Int) := by omega
      have c1 : (k : Int) < (l.length : Int) := by omega
      obtain ⟨x, hx⟩ : ∃ x, l[k]? = some x := ⟨_, List.getElem?_eq_getElem (by omega)⟩
      obtain ⟨b, off, rfl, hb, hc⟩ := HL.out.at hx
      have t0 : w.cell? ⟨b, off + k, none⟩ = some (.string x) := (by have := hc 0 _ rfl; rw [Nat.mul_one, Nat.add_zero] at this; exact this)
      have HX := Lib.hid hx
      clear hx hc
      by_cases e : x = s
      · have e1 : (x.toList == s.toList) = true := list_eq e
        have hv : Hid (befB l n s = true) := decide_eq_true (find_in c (by rw [HX.out, e]))
        clear e
        go_wp2_with fail
        go_ret
        exact ⟨by rw [hv.out]; try rfl, rfl⟩
      · have e1 : (x.toList == s.toList) = false := list_ne e
        have HN := Lib.hid (Ha.out.next HX.out e)
        clear e
        go_wp2_with fail
        go_roundw
        case rel => exact ⟨k + 1, by omega, by congr 1, HN.out, by first | rfl | trivial⟩
        case measure => simp [intOf]; omega
theorem named_x (v : Value) (l : List B) (i : Nat) (s : B) (w : World) (h : SAt w v l) (hl : Sz l.length) (hx : l[i]? = some s) :
    Calls Tryz.prog 135 #[v, .int .i64 (i : Int)] w fun r w' => r = .returned (.int .i64 (nmE (l.take i) s true)) ∧ w = w' := by
  obtain ⟨a, cap, rfl⟩ := h.shape
  have HL := Lib.hid h
  have hi := (List.getElem?_eq_some_iff.1 hx).1
  have i0 : (0 : Int) ≤ (i : Int) := by omega
  have i1 : (i : Int) < (l.length : Int) := by omega
  obtain ⟨b, off, rfl, hb, hc⟩ := h.at hx
  have t0 : w.cell? ⟨b, off + i, none⟩ = some (.string s) := (by have := hc 0 _ rfl; rw [Nat.mul_one, Nat.add_zero] at this; exact this)
  clear h hx hc
  go_enter Tryz.func135, Tryz.ntmps135
  go_wp2_with fail
  refine (Name_x s _).mono ?_
  rintro r w1 ⟨rfl, rfl⟩
  cases e : nameB s with
  | false =>
    have hv : Hid (nmE (l.take i) s true = 2) := nmE_form e
    clear e
    go_wp2_with fail
    go_ret
    exact ⟨by rw [hv.out]; try rfl, rfl⟩
  | true =>
    have E := Lib.hid e
    clear e
    go_wp2_with fail
    refine (Before_x _ l i s _ HL.out hl (Nat.le_of_lt hi)).mono ?_
    rintro r w1 ⟨rfl, rfl⟩
    cases e : befB l i s with
    | true =>
      have hv : Hid (nmE (l.take i) s true = 5) := nmE_twice E.out (of_decide_eq_true e)
      clear e
      go_wp2_with fail
      go_ret
      exact ⟨by rw [hv.out]; try rfl, rfl⟩
    | false =>
      have hv : Hid (nmE (l.take i) s true = 0) := nmE_ok E.out (Decidable.of_not_not (of_decide_eq_false e)) rfl
      clear e
      go_wp2_with fail
      go_ret
      exact ⟨by rw [hv.out]; try rfl, rfl⟩

def SiRel (p : Int → Bool) (l : List Int) (w : World) (i : Value) (wr : World) : Prop := ∃ k : Nat, k ≤ l.length ∧ i = .int .i64 (k : Int) ∧ (∀ i, i < k → p (l.getD i 0) = true ∧ (0 < i → l.getD (i - 1) 0 < l.getD i 0)) ∧ Below w.heap.size w wr
theorem i_get {l : List Int} {k n cap : Nat} {a : Option Addr} {w : World} (h : IAt w (.slice a n cap) l) (hk : k < l.length) :
    ∃ b off y, a = some ⟨b, off, none⟩ ∧ l[k]? = some y ∧ b < w.heap.size ∧ w.cell? ⟨b, off + k, none⟩ = some (.int .i64 y) := by
  obtain ⟨b, off, e, hlt, hc⟩ := h.at (List.getElem?_eq_getElem hk)
  refine ⟨b, off, _, e, List.getElem?_eq_getElem hk, hlt, ?_⟩
  have := hc 0 _ rfl
  rw [Nat.mul_one, Nat.add_zero] at this
  exact this
set_option maxHeartbeats 1600000 in
theorem Rising_x (v : Value) (l : List Int) (lo hi : Int) (w : World) (h : IAt w v l) (hl : Sz l.length) :
    Calls Tryz.prog 168 #[v, .int .i64 lo, .int .i64 hi] w fun r w' => r = .returned (.bool (risesB (fun n => wi n lo hi) l)) ∧ Below w.heap.size w w' := by
  obtain ⟨a, cap, rfl⟩ := h.shape
  have HL := Lib.hid h
  clear h
  go_enter Tryz.func168, Tryz.ntmps168
  go_wp2_with fail
  go_loopw [7] (fun i wr => SiRel (fun n => wi n lo hi) l w i wr) (fun i _ => l.length - (intOf i).toNat)
  case atStart => exact ⟨0, Nat.zero_le _, rfl, fun j hj => by omega, Below.refl _ _⟩
  case round =>
    obtain ⟨k, hk, rfl, hall, hbw⟩ := hrel
    have Ha := Lib.hid hall
    have HB := Lib.hid hbw
    have k0 : (0 : Int) ≤ (k : Int) := by omega
    clear hall hbw
    by_cases c : k < l.length
    case neg =>
      have c0 : ¬ (k : Int) < (l.length : Int) := by omega
      have hv : Hid (risesB (fun n => wi n lo hi) l = true) := rises_iff.2 (fun i h => Ha.out i (by omega))
      go_wp2_with fail
      go_ret
      exact ⟨by rw [hv.out]; try rfl, HB.out⟩
    case pos =>
      have c0 : (k : Int) < (l.length : Int) := by omega
      have HW := HL.out.next HB.out
      by_cases kz : k = 0
      · subst kz
        obtain ⟨b, off, y, rfl, hy, hb, t1⟩ := i_get HW c
        have HY := Lib.hid hy
        clear hy HW
        rw [Nat.add_zero] at t1
        go_wp2_with fail
        refine (Within_x y lo hi _).mono ?_
        rintro r w1 ⟨rfl, rfl⟩
        cases hp : wi y lo hi with
        | false =>
          have hv : Hid (risesB (fun n => wi n lo hi) l = false) := rises_not HY.out (fun h => by have := h.1; rw [hp] at this; cases this)
          clear hp
          go_wp2_with fail
          go_ret
          exact ⟨by rw [hv.out]; try rfl, by first | exact HB.out | exact below_drewN HB.out _⟩
        | true =>
          have HP : Hid ((fun n => wi n lo hi) y = true) := hp
          clear hp
          go_wp2_with fail
          go_quiet (fail)
          have HN := Lib.hid (rises_next (p := fun n => wi n lo hi) Ha.out HY.out HP.out (fun h => by omega))
          go_wp2_with fail
          go_roundw
          case rel => exact ⟨0 + 1, by omega, by congr 1, HN.out, by first | exact HB.out | exact below_drewN HB.out _⟩
          case measure => simp [intOf]; omega
      · obtain ⟨m, hkm⟩ : ∃ m, k = m + 1 := ⟨k - 1, by omega⟩
        have cm : m < l.length := by omega
        obtain ⟨b2, off2, z, eb, hz, -, t2⟩ := i_get HW cm
        obtain ⟨b, off, y, rfl, hy, hb, t1⟩ := i_get HW c
        simp only [Option.some.injEq, Addr.mk.injEq, and_true] at eb
        obtain ⟨rfl, rfl⟩ := eb
        have e0 : (k : Int) - 1 = (m : Int) := by omega
        have m0 : (0 : Int) ≤ (m : Int) := by omega
        have m1 : (m : Int) < (l.length : Int) := by omega
        have m2 : 0 < (k : Int) := by omega
        have hzd : l.getD (k - 1) 0 = z := by rw [show k - 1 = m by omega, List.getD_eq_getElem?_getD, hz]; rfl
        have HZ := Lib.hid hzd
        have HY := Lib.hid hy
        have hkm' := Lib.hid hkm
        clear hy hz hzd hkm kz HW
        go_wp2_with fail
        refine (Within_x y lo hi _).mono ?_
        rintro r w1 ⟨rfl, rfl⟩
        cases hp : wi y lo hi with
        | false =>
          have hv : Hid (risesB (fun n => wi n lo hi) l = false) := rises_not HY.out (fun h => by have := h.1; rw [hp] at this; cases this)
          clear hp
          go_wp2_with fail
          go_ret
          exact ⟨by rw [hv.out]; try rfl, by first | exact HB.out | exact below_drewN HB.out _⟩
        | true =>
          have HP : Hid ((fun n => wi n lo hi) y = true) := hp
          clear hp
          have dk : decide (0 < k) = true := decide_eq_true (by omega)
          by_cases g : z < y
          · have g' : ¬ y ≤ z := by omega
            have d1 : decide (y ≤ z) = false := decide_eq_false g'
            go_wp2_with fail
            go_quiet (fail)
            have HN := Lib.hid (rises_next (p := fun n => wi n lo hi) Ha.out HY.out HP.out (fun _ => by rw [HZ.out]; exact g))
            go_wp2_with fail
            go_roundw
            case rel => exact ⟨k + 1, by omega, by congr 1, HN.out, by first | exact HB.out | exact below_drewN HB.out _⟩
            case measure => simp [intOf]; omega
          · have g' : y ≤ z := by omega
            have d1 : decide (y ≤ z) = true := decide_eq_true g'
            go_wp2_with fail
            go_quiet (fail)
            have hv : Hid (risesB (fun n => wi n lo hi) l = false) := rises_not HY.out (fun h => by have := h.2 (by have := hkm'.out; omega); rw [HZ.out] at this; omega)
            go_wp2_with fail
            go_ret
            exact ⟨by rw [hv.out]; try rfl, by first | exact HB.out | exact below_drewN HB.out _⟩

end Go.Proofs.YtcjakgpmompaiaaGreatDoor

/-
  The reference: RightCity, RightOrder.
-/
namespace Go.Proofs.YtcjakgpmompaiaaGreatDoor
open Go.RowKit Rl

theorem fs_range {y : Int} (h : fsB y = true) : wi y 0 2000 = true := by
  unfold fsB at h
  rw [Bool.and_eq_true, wi_iff, wi_iff] at h
  have e := Int.mul_tdiv_add_tmod y 100
  rw [wi_iff]
  omega
theorem feasts_eq {l : List Int} (h : ∀ (j : Nat) (y : Int), l[j]? = some y → fsB y = true) : risesB (fun n => wi n 0 2000) l = risesB fsB l := by
  rw [Bool.eq_iff_iff, rises_iff, rises_iff]
  constructor
  · exact fun g i hi => ⟨h i _ (getD_at hi), (g i hi).2⟩
  · exact fun g i hi => ⟨fs_range (g i hi).1, (g i hi).2⟩
theorem fs_not {l : List Int} {k : Nat} {y : Int} (hy : l[k]? = some y) (h : fsB y = false) : risesB fsB l = false := rises_not hy (fun q => by have := q.1; rw [h] at this; cases this)
def FsRel (l : List Int) (W : World) (i : Value) (wr : World) : Prop := ∃ k : Nat, k ≤ l.length ∧ i = .int .i64 (k : Int) ∧ (∀ (j : Nat) (y : Int), j < k → l[j]? = some y → fsB y = true) ∧ W = wr

set_option maxHeartbeats 6400000 in
set_option maxRecDepth 100000 in
theorem RightCity_x {a0 a1 a2 a3 a4 a5 a6 a7 : Option Addr} {c0 c1 c2 c3 c4 c5 c6 c7 : Nat} {R : Rlm} (x : Cty) (w : World) (_hr0 : RS w a0 a1 a2 a3 a4 a5 a6 a7 c0 c1 c2 c3 c4 c5 c6 c7 R) (hs4 : Sz R.orders.length) (hs0 : Sz R.cur.length) (hc : InC w x) (hr : Sz x.rest.length) (hf : Sz x.feasts.length) (hsh : Sz x.shut.length) (hi : ∀ n ∈ x.feasts, I64 n) :
    Calls Tryz.prog 136 #[.agg #[.slice a0 R.cur.length c0, .slice a1 R.cities.length c1, .slice a2 R.groups.length c2, .slice a3 R.firms.length c3, .slice a4 R.orders.length c4, .slice a5 R.usances.length c5, .slice a6 R.rates.length c6, .slice a7 R.halts.length c7], vCty x] w fun r w' => r = .returned (.bool (cityB R.orders.length R.cur.length x)) ∧ Below w.heap.size w w' := by
  have RB0 := RB.new w (a0 := a0) (a1 := a1) (a2 := a2) (a3 := a3) (a4 := a4) (a5 := a5) (a6 := a6) (a7 := a7) (c0 := c0) (c1 := c1) (c2 := c2) (c3 := c3) (c4 := c4) (c5 := c5) (c6 := c6) (c7 := c7) (R := R)
  have b0 := Below.new1 (w := w) (.cells #[.slice a0 R.cur.length c0, .slice a1 R.cities.length c1, .slice a2 R.groups.length c2, .slice a3 R.firms.length c3, .slice a4 R.orders.length c4, .slice a5 R.usances.length c5, .slice a6 R.rates.length c6, .slice a7 R.halts.length c7] 31)
  have b1 := Below.new1 (w := (w.alloc (.cells #[.slice a0 R.cur.length c0, .slice a1 R.cities.length c1, .slice a2 R.groups.length c2, .slice a3 R.firms.length c3, .slice a4 R.orders.length c4, .slice a5 R.usances.length c5, .slice a6 R.rates.length c6, .slice a7 R.halts.length c7] 31))) (.cells #[.string x.nm, .int .i64 x.o, .int .i64 x.c, .slice x.a3 x.rest.length x.k3, .slice x.a4 x.feasts.length x.k4, .slice x.a5 x.shut.length x.k5] 75)
  have y4 := (RB0.next b1).b4
  have y0 := (RB0.next b1).b0
  have HC : Hid (InC ((w.alloc (.cells #[.slice a0 R.cur.length c0, .slice a1 R.cities.length c1, .slice a2 R.groups.length c2, .slice a3 R.firms.length c3, .slice a4 R.orders.length c4, .slice a5 R.usances.length c5, .slice a6 R.rates.length c6, .slice a7 R.halts.length c7] 31)).alloc (.cells #[.string x.nm, .int .i64 x.o, .int .i64 x.c, .slice x.a3 x.rest.length x.k3, .slice x.a4 x.feasts.length x.k4, .slice x.a5 x.shut.length x.k5] 75)) x) := hc.next (chain b0 b1)
  have B0 : Hid (Below w.heap.size w ((w.alloc (.cells #[.slice a0 R.cur.length c0, .slice a1 R.cities.length c1, .slice a2 R.groups.length c2, .slice a3 R.firms.length c3, .slice a4 R.orders.length c4, .slice a5 R.usances.length c5, .slice a6 R.rates.length c6, .slice a7 R.halts.length c7] 31)).alloc (.cells #[.string x.nm, .int .i64 x.o, .int .i64 x.c, .slice x.a3 x.rest.length x.k3, .slice x.a4 x.feasts.length x.k4, .slice x.a5 x.shut.length x.k5] 75))) := chain b0 b1
  have HI := Lib.hid hi
  have zs : (w.alloc (.cells #[.slice a0 R.cur.length c0, .slice a1 R.cities.length c1, .slice a2 R.groups.length c2, .slice a3 R.firms.length c3, .slice a4 R.orders.length c4, .slice a5 R.usances.length c5, .slice a6 R.rates.length c6, .slice a7 R.halts.length c7] 31)).heap.size = w.heap.size + 1 := by simp
  have x1 : ((w.alloc (.cells #[.slice a0 R.cur.length c0, .slice a1 R.cities.length c1, .slice a2 R.groups.length c2, .slice a3 R.firms.length c3, .slice a4 R.orders.length c4, .slice a5 R.usances.length c5, .slice a6 R.rates.length c6, .slice a7 R.halts.length c7] 31)).alloc (.cells #[.string x.nm, .int .i64 x.o, .int .i64 x.c, .slice x.a3 x.rest.length x.k3, .slice x.a4 x.feasts.length x.k4, .slice x.a5 x.shut.length x.k5] 75)).cell? ⟨w.heap.size + 1, 1, none⟩ = some (.int .i64 x.o) := by rw [← zs, World.cell?_alloc_new]; rfl
  have x2 : ((w.alloc (.cells #[.slice a0 R.cur.length c0, .slice a1 R.cities.length c1, .slice a2 R.groups.length c2, .slice a3 R.firms.length c3, .slice a4 R.orders.length c4, .slice a5 R.usances.length c5, .slice a6 R.rates.length c6, .slice a7 R.halts.length c7] 31)).alloc (.cells #[.string x.nm, .int .i64 x.o, .int .i64 x.c, .slice x.a3 x.rest.length x.k3, .slice x.a4 x.feasts.length x.k4, .slice x.a5 x.shut.length x.k5] 75)).cell? ⟨w.heap.size + 1, 2, none⟩ = some (.int .i64 x.c) := by rw [← zs, World.cell?_alloc_new]; rfl
  have x3 : ((w.alloc (.cells #[.slice a0 R.cur.length c0, .slice a1 R.cities.length c1, .slice a2 R.groups.length c2, .slice a3 R.firms.length c3, .slice a4 R.orders.length c4, .slice a5 R.usances.length c5, .slice a6 R.rates.length c6, .slice a7 R.halts.length c7] 31)).alloc (.cells #[.string x.nm, .int .i64 x.o, .int .i64 x.c, .slice x.a3 x.rest.length x.k3, .slice x.a4 x.feasts.length x.k4, .slice x.a5 x.shut.length x.k5] 75)).cell? ⟨w.heap.size + 1, 3, none⟩ = some (.slice x.a3 x.rest.length x.k3) := by rw [← zs, World.cell?_alloc_new]; rfl
  have x4 : ((w.alloc (.cells #[.slice a0 R.cur.length c0, .slice a1 R.cities.length c1, .slice a2 R.groups.length c2, .slice a3 R.firms.length c3, .slice a4 R.orders.length c4, .slice a5 R.usances.length c5, .slice a6 R.rates.length c6, .slice a7 R.halts.length c7] 31)).alloc (.cells #[.string x.nm, .int .i64 x.o, .int .i64 x.c, .slice x.a3 x.rest.length x.k3, .slice x.a4 x.feasts.length x.k4, .slice x.a5 x.shut.length x.k5] 75)).cell? ⟨w.heap.size + 1, 4, none⟩ = some (.slice x.a4 x.feasts.length x.k4) := by rw [← zs, World.cell?_alloc_new]; rfl
  have x5 : ((w.alloc (.cells #[.slice a0 R.cur.length c0, .slice a1 R.cities.length c1, .slice a2 R.groups.length c2, .slice a3 R.firms.length c3, .slice a4 R.orders.length c4, .slice a5 R.usances.length c5, .slice a6 R.rates.length c6, .slice a7 R.halts.length c7] 31)).alloc (.cells #[.string x.nm, .int .i64 x.o, .int .i64 x.c, .slice x.a3 x.rest.length x.k3, .slice x.a4 x.feasts.length x.k4, .slice x.a5 x.shut.length x.k5] 75)).cell? ⟨w.heap.size + 1, 5, none⟩ = some (.slice x.a5 x.shut.length x.k5) := by rw [← zs, World.cell?_alloc_new]; rfl
  have X4 := Lib.hid x4
  have X5 := Lib.hid x5
  clear RB0 b0 b1 _hr0 hc hi zs
  by_cases t1 : x.feasts.length ≤ 60
  · have u1 : ¬ 60 < (x.feasts.length : Int) := by omega
    have d1 := Lib.hid (decide_eq_true t1)
    by_cases t2 : x.shut.length ≤ 200
    · have u2 : ¬ 200 < (x.shut.length : Int) := by omega
      have d2 := Lib.hid (decide_eq_true t2)
      clear t1 t2
      go_enter Tryz.func136, Tryz.ntmps136
      go_wp2_with fail
      refine (Within_x x.o 0 ((R.orders.length : Int) - 1) _).mono ?_
      rintro r w1 ⟨rfl, rfl⟩
      rw [show wi x.o 0 ((R.orders.length : Int) - 1) = ix x.o R.orders.length from rfl]
      cases e0 : ix x.o R.orders.length with
      | false =>
        have hv : Hid (cityB R.orders.length R.cur.length x = false) := by show _ = _; simp [cityB, e0]
        clear e0
        go_wp2_with fail
        go_ret
        exact ⟨by rw [hv.out]; try rfl, B0.out⟩
      | true =>
        have E0 := Lib.hid e0
        clear e0
        go_wp2_with fail
        refine (Within_x x.c 0 ((R.cur.length : Int) - 1) _).mono ?_
        rintro r w1 ⟨rfl, rfl⟩
        rw [show wi x.c 0 ((R.cur.length : Int) - 1) = ix x.c R.cur.length from rfl]
        cases e1 : ix x.c R.cur.length with
        | false =>
          have hv : Hid (cityB R.orders.length R.cur.length x = false) := by show _ = _; simp [cityB, E0.out, e1]
          clear e1
          go_wp2_with fail
          go_ret
          exact ⟨by rw [hv.out]; try rfl, B0.out⟩
        | true =>
          have E1 := Lib.hid e1
          clear e1
          go_wp2_with fail
          go_loopw [5] (fun i wr => FsRel x.feasts ((w.alloc (.cells #[.slice a0 R.cur.length c0, .slice a1 R.cities.length c1, .slice a2 R.groups.length c2, .slice a3 R.firms.length c3, .slice a4 R.orders.length c4, .slice a5 R.usances.length c5, .slice a6 R.rates.length c6, .slice a7 R.halts.length c7] 31)).alloc (.cells #[.string x.nm, .int .i64 x.o, .int .i64 x.c, .slice x.a3 x.rest.length x.k3, .slice x.a4 x.feasts.length x.k4, .slice x.a5 x.shut.length x.k5] 75)) i wr) (fun i _ => x.feasts.length - (intOf i).toNat)
          case atStart => exact ⟨0, Nat.zero_le _, rfl, fun j y hj => by omega, rfl⟩
          case round =>
            obtain ⟨k, hk, rfl, hall, rfl⟩ := hrel
            have Ha := Lib.hid hall
            have k0 : (0 : Int) ≤ (k : Int) := by omega
            clear hall
            by_cases c : k < x.feasts.length
            case neg =>
              have kc : ¬ (k : Int) < (x.feasts.length : Int) := by omega
              have HFS : Hid (∀ (j : Nat) (y : Int), x.feasts[j]? = some y → fsB y = true) := fun j y hy => Ha.out j y (by have := (List.getElem?_eq_some_iff.1 hy).1; omega) hy
              go_wp2_with fail
              refine (Rising_x _ x.rest 0 6 _ HC.out.1 hr).mono ?_
              rintro r w1 ⟨rfl, b1⟩
              rw [show risesB (fun n => wi n 0 6) x.rest = risesB wkB x.rest from rfl]
              have B1 := Lib.hid (chain B0.out b1)
              have HC1 : Hid (InC w1 x) := HC.out.next b1
              have x4 := cell_up b1 X4.out
              have x5 := cell_up b1 X5.out
              have X5b := Lib.hid x5
              cases e : risesB wkB x.rest with
              | false =>
                have hv : Hid (cityB R.orders.length R.cur.length x = false) := by show _ = _; simp [cityB, e]
                clear e b1
                go_wp2_with fail
                go_ret
                exact ⟨by rw [hv.out]; try rfl, B1.out⟩
              | true =>
                have E2 := Lib.hid e
                clear e b1
                go_wp2_with fail
                refine (Rising_x _ x.feasts 0 2000 _ HC1.out.2.1 hf).mono ?_
                rintro r w2 ⟨rfl, b2⟩
                rw [feasts_eq HFS.out]
                have B2 := Lib.hid (chain B1.out b2)
                have HC2 : Hid (InC w2 x) := HC1.out.next b2
                have x5 := cell_up b2 X5b.out
                cases e : risesB fsB x.feasts with
                | false =>
                  have hv : Hid (cityB R.orders.length R.cur.length x = false) := by show _ = _; simp [cityB, e]
                  clear e b2
                  go_wp2_with fail
                  go_ret
                  exact ⟨by rw [hv.out]; try rfl, B2.out⟩
                | true =>
                  have E3 := Lib.hid e
                  clear e b2
                  go_wp2_with fail
                  refine (Rising_x _ x.shut 0 100000 _ HC2.out.2.2 hsh).mono ?_
                  rintro r w3 ⟨rfl, b3⟩
                  rw [show risesB (fun n => wi n 0 100000) x.shut = risesB dayB x.shut from rfl]
                  have B3 := Lib.hid (chain B2.out b3)
                  have hv : Hid (cityB R.orders.length R.cur.length x = risesB dayB x.shut) := by show _ = _; simp [cityB, E0.out, E1.out, E2.out, E3.out, d1.out, d2.out]
                  clear b3
                  go_wp2_with fail
                  go_ret
                  exact ⟨by rw [hv.out]; try rfl, B3.out⟩
            case pos =>
              have kc : (k : Int) < (x.feasts.length : Int) := by omega
              obtain ⟨b, off, y, ea, hy, hb, t1⟩ := i_get HC.out.2.1 c
              obtain ⟨i1, i2⟩ := HI.out y (List.mem_of_getElem? hy)
              have HY := Lib.hid hy
              rw [ea] at x4 t1 ⊢
              clear hy
              go_wp2_with fail
              refine (Within_x (y.tdiv 100) 1 12 _).mono ?_
              rintro r w1 ⟨rfl, rfl⟩
              cases e : wi (y.tdiv 100) 1 12 with
              | false =>
                have hF : risesB fsB x.feasts = false := fs_not HY.out (by simp [fsB, e])
                have hv : Hid (cityB R.orders.length R.cur.length x = false) := by show _ = _; simp [cityB, hF]
                clear e hF
                go_wp2_with fail
                go_ret
                exact ⟨by rw [hv.out]; try rfl, by rw [← ea]; exact B0.out⟩
              | true =>
                have E := Lib.hid e
                clear e
                go_wp2_with fail
                refine (Within_x (y.tmod 100) 1 31 _).mono ?_
                rintro r w1 ⟨rfl, rfl⟩
                cases e : wi (y.tmod 100) 1 31 with
                | false =>
                  have hF : risesB fsB x.feasts = false := fs_not HY.out (by simp [fsB, e])
                  have hv : Hid (cityB R.orders.length R.cur.length x = false) := by show _ = _; simp [cityB, hF]
                  clear e hF
                  go_wp2_with fail
                  go_ret
                  exact ⟨by rw [hv.out]; try rfl, by rw [← ea]; exact B0.out⟩
                | true =>
                  have HN : Hid (∀ (j : Nat) (z : Int), j < k + 1 → x.feasts[j]? = some z → fsB z = true) := by
                    intro j z hj hz
                    by_cases cj : j = k
                    · subst cj
                      have := HY.out
                      rw [hz] at this
                      simp only [Option.some.injEq] at this
                      subst this
                      simp [fsB, e, E.out]
                    · exact Ha.out j z (by omega) hz
                  clear e
                  go_wp2_with fail
                  go_roundw
                  case rel => exact ⟨k + 1, by omega, by congr 1, HN.out, by rw [← ea]⟩
                  case measure => simp [intOf]; omega
    · have u2 : 200 < (x.shut.length : Int) := by omega
      have d2 := Lib.hid (decide_eq_false t2)
      clear t1 t2
      go_enter Tryz.func136, Tryz.ntmps136
      go_wp2_with fail
      refine (Within_x x.o 0 ((R.orders.length : Int) - 1) _).mono ?_
      rintro r w1 ⟨rfl, rfl⟩
      rw [show wi x.o 0 ((R.orders.length : Int) - 1) = ix x.o R.orders.length from rfl]
      cases e0 : ix x.o R.orders.length with
      | false =>
        have hv : Hid (cityB R.orders.length R.cur.length x = false) := by show _ = _; simp [cityB, e0]
        clear e0
        go_wp2_with fail
        go_ret
        exact ⟨by rw [hv.out]; try rfl, B0.out⟩
      | true =>
        have E0 := Lib.hid e0
        clear e0
        go_wp2_with fail
        refine (Within_x x.c 0 ((R.cur.length : Int) - 1) _).mono ?_
        rintro r w1 ⟨rfl, rfl⟩
        rw [show wi x.c 0 ((R.cur.length : Int) - 1) = ix x.c R.cur.length from rfl]
        cases e1 : ix x.c R.cur.length with
        | false =>
          have hv : Hid (cityB R.orders.length R.cur.length x = false) := by show _ = _; simp [cityB, E0.out, e1]
          clear e1
          go_wp2_with fail
          go_ret
          exact ⟨by rw [hv.out]; try rfl, B0.out⟩
        | true =>
          have E1 := Lib.hid e1
          clear e1
          have hv : Hid (cityB R.orders.length R.cur.length x = false) := by show _ = _; simp [cityB, d2.out]
          go_wp2_with fail
          go_ret
          exact ⟨by rw [hv.out]; try rfl, B0.out⟩
  · have u1 : 60 < (x.feasts.length : Int) := by omega
    have d1 := Lib.hid (decide_eq_false t1)
    clear t1
    go_enter Tryz.func136, Tryz.ntmps136
    go_wp2_with fail
    refine (Within_x x.o 0 ((R.orders.length : Int) - 1) _).mono ?_
    rintro r w1 ⟨rfl, rfl⟩
    rw [show wi x.o 0 ((R.orders.length : Int) - 1) = ix x.o R.orders.length from rfl]
    cases e0 : ix x.o R.orders.length with
    | false =>
      have hv : Hid (cityB R.orders.length R.cur.length x = false) := by show _ = _; simp [cityB, e0]
      clear e0
      go_wp2_with fail
      go_ret
      exact ⟨by rw [hv.out]; try rfl, B0.out⟩
    | true =>
      have E0 := Lib.hid e0
      clear e0
      go_wp2_with fail
      refine (Within_x x.c 0 ((R.cur.length : Int) - 1) _).mono ?_
      rintro r w1 ⟨rfl, rfl⟩
      rw [show wi x.c 0 ((R.cur.length : Int) - 1) = ix x.c R.cur.length from rfl]
      cases e1 : ix x.c R.cur.length with
      | false =>
        have hv : Hid (cityB R.orders.length R.cur.length x = false) := by show _ = _; simp [cityB, E0.out, e1]
        clear e1
        go_wp2_with fail
        go_ret
        exact ⟨by rw [hv.out]; try rfl, B0.out⟩
      | true =>
        have E1 := Lib.hid e1
        clear e1
        have hv : Hid (cityB R.orders.length R.cur.length x = false) := by show _ = _; simp [cityB, d1.out]
        go_wp2_with fail
        go_ret
        exact ⟨by rw [hv.out]; try rfl, B0.out⟩

end Go.Proofs.YtcjakgpmompaiaaGreatDoor

/-
  The reference: RightOrder.
-/
namespace Go.Proofs.YtcjakgpmompaiaaGreatDoor
open Go.RowKit Rl

def ORel (n : Nat) (l : List Int) (P : Nat → Prop) (W : World) (i : Value) (wr : World) : Prop := ∃ k : Nat, k ≤ n ∧ i = .int .i64 (k : Int) ∧ (∀ i, i < k → quB (l.getD i 0) = true ∧ (0 < i → l.getD (i - 1) 0 < l.getD i 0)) ∧ P k ∧ Below W.heap.size W wr
theorem map_get {T : Type} {f : T → Int} {l : List T} {k : Nat} {x : T} (h : l[k]? = some x) : (l.map f)[k]? = some (f x) := by rw [List.getElem?_map, h]; rfl
theorem getD_map {T : Type} {f : T → Int} {l : List T} {k : Nat} {x : T} (h : l[k]? = some x) : (l.map f).getD k 0 = f x := by rw [List.getD_eq_getElem?_getD, map_get h]; rfl
theorem all_step {l : List Chc} {k : Nat} {c : Chc} (h : ∀ (j : Nat) (y : Chc), j < k → l[j]? = some y → chB y = true) (hx : l[k]? = some c) (hc : chB c = true) : ∀ (j : Nat) (y : Chc), j < k + 1 → l[j]? = some y → chB y = true := by
  intro j y hj hy
  by_cases cj : j = k
  · subst cj
    rw [hx] at hy
    simp only [Option.some.injEq] at hy
    subst hy
    exact hc
  · exact h j y (by omega) hy
set_option maxHeartbeats 6400000 in
set_option maxRecDepth 100000 in
theorem RightOrder_x (x : Odr) (w : World) (hc : InO w x) (h1 : Sz x.ch.length) (h2 : Sz x.ru.length) :
    Calls Tryz.prog 138 #[vOdr x] w fun r w' => r = .returned (.bool (orderB x)) ∧ Below w.heap.size w w' := by
  have b0 := Below.new1 (w := w) (.cells #[.string x.nm, .bool x.acc, .slice x.a2 x.ch.length x.k2, .slice x.a3 x.ru.length x.k3] 85)
  obtain ⟨hch, hru⟩ := hc.next b0
  have HCH := Lib.hid hch
  have HRU := Lib.hid hru
  have B0 := Lib.hid b0
  clear hc hch hru b0
  have x2 : (w.alloc (.cells #[.string x.nm, .bool x.acc, .slice x.a2 x.ch.length x.k2, .slice x.a3 x.ru.length x.k3] 85)).cell? ⟨w.heap.size, 2, none⟩ = some (.slice x.a2 x.ch.length x.k2) := by rw [World.cell?_alloc_new]; rfl
  have x3 : (w.alloc (.cells #[.string x.nm, .bool x.acc, .slice x.a2 x.ch.length x.k2, .slice x.a3 x.ru.length x.k3] 85)).cell? ⟨w.heap.size, 3, none⟩ = some (.slice x.a3 x.ru.length x.k3) := by rw [World.cell?_alloc_new]; rfl
  have X2 := Lib.hid x2
  have X3 := Lib.hid x3
  clear x2 x3
  go_enter Tryz.func138, Tryz.ntmps138
  go_wp2_with fail
  go_loopw [3] (fun i wr => ORel x.ch.length (x.ch.map Chc.ask) (fun k => ∀ (j : Nat) (c : Chc), j < k → x.ch[j]? = some c → chB c = true) (w.alloc (.cells #[.string x.nm, .bool x.acc, .slice x.a2 x.ch.length x.k2, .slice x.a3 x.ru.length x.k3] 85)) i wr) (fun i _ => x.ch.length - (intOf i).toNat)
  case atStart => exact ⟨0, Nat.zero_le _, rfl, fun j hj => by omega, fun j c hj => by omega, Below.refl _ _⟩
  case round =>
    obtain ⟨k, hk, rfl, hall, hp, hbw⟩ := hrel
    have y2 := cell_up hbw X2.out
    have y3 := cell_up hbw X3.out
    have HP := Lib.hid hp
    have Ha := Lib.hid hall
    have HB := Lib.hid hbw
    have k0 : (0 : Int) ≤ (k : Int) := by omega
    clear hall hbw hp
    by_cases cl : k < x.ch.length
    case neg =>
      have kc : ¬ (k : Int) < (x.ch.length : Int) := by omega
      obtain rfl : k = x.ch.length := by omega
      obtain ⟨wA, rfl⟩ : ∃ wA, wA = wr := ⟨_, rfl⟩
      have HR : Hid (risesB quB (x.ch.map Chc.ask) = true) := rises_iff.2 (fun i h => Ha.out i (by rw [List.length_map] at h; exact h))
      have HA2 : Hid (x.ch.all chB = true) := by
        show _ = _
        rw [List.all_eq_true]
        intro y hy
        obtain ⟨j, hj⟩ := List.getElem?_of_mem hy
        exact HP.out j y (List.getElem?_eq_some_iff.1 hj).1 hj
      have HR1 := Lib.hid HR.out
      have B1 := Lib.hid (chain B0.out HB.out)
      have X3b := Lib.hid y3
      have HRU2 := Lib.hid (HRU.out.next HB.out)
      clear HR HP Ha HB X3 X2 HRU HCH
      have X3 := Lib.hid X3b.out
      clear X3b
      go_wp2_with fail
      go_loopw [4] (fun i wr => ORel x.ru.length (x.ru.map Rul.ask) (fun _ => True) wA i wr) (fun i _ => x.ru.length - (intOf i).toNat)
      case atStart => exact ⟨0, Nat.zero_le _, rfl, fun j hj => by omega, trivial, Below.refl _ _⟩
      case round =>
        obtain ⟨k, hk, rfl, hall, hp, hbw⟩ := hrel
        have y3 := cell_up hbw X3.out

        have HP := Lib.hid hp
        have Ha := Lib.hid hall
        have HB := Lib.hid hbw
        have k0 : (0 : Int) ≤ (k : Int) := by omega
        clear hall hbw hp
        by_cases cl : k < x.ru.length
        case neg =>
          have kc : ¬ (k : Int) < (x.ru.length : Int) := by omega
          obtain rfl : k = x.ru.length := by omega
          obtain ⟨wA, rfl⟩ : ∃ wA, wA = wr := ⟨_, rfl⟩
          have HR : Hid (risesB quB (x.ru.map Rul.ask) = true) := rises_iff.2 (fun i h => Ha.out i (by rw [List.length_map] at h; exact h))
          have hall2 : x.ch.all chB = true := HA2.out
          have hv : Hid (orderB x = true) := by show _ = _; simp [orderB, hall2, HR1.out, HR.out]
          clear hall2
          go_wp2_with fail
          go_ret
          exact ⟨by rw [hv.out]; try rfl, chain B1.out HB.out⟩
        case pos =>
          have kc : (k : Int) < (x.ru.length : Int) := by omega
          have HWL := HRU2.out.next HB.out
          obtain ⟨c, hx⟩ : ∃ c, x.ru[k]? = some c := ⟨_, List.getElem?_eq_getElem cl⟩
          by_cases kz : k = 0
          · subst kz
            obtain ⟨b, off, ea, hb, hc⟩ := HWL.at hx
            rw [ea] at y3
            try rw [ea]
            have t0 : wr.cell? ⟨b, off + 0 * 4, none⟩ = some (.int .i64 c.ask) := hc 0 _ rfl
            have t1 : wr.cell? ⟨b, off + 0 * 4 + 1, none⟩ = some (.int .i64 c.op) := hc 1 _ rfl
            have t2 : wr.cell? ⟨b, off + 0 * 4 + 2, none⟩ = some (.int .i64 c.n) := hc 2 _ rfl
            have t3 : wr.cell? ⟨b, off + 0 * 4 + 3, none⟩ = some (.slice c.a c.m c.k) := hc 3 _ rfl
            rw [Nat.zero_mul, Nat.add_zero] at t0 t1 t2 t3
            have HX := Lib.hid hx
            clear hx hc HWL
            go_wp2_with fail
            refine (Within_x c.ask 0 21 _).mono ?_
            rintro r w1 ⟨rfl, rfl⟩
            cases hq : wi c.ask 0 21 with
            | false =>
              have hF : risesB quB (x.ru.map Rul.ask) = false := rises_not (map_get HX.out) (fun h => by have := h.1; unfold quB at this; rw [hq] at this; cases this)
              have hv : Hid (orderB x = false) := by show _ = _; simp [orderB, hF]
              clear hF hq
              go_wp2_with fail
              go_ret
              exact ⟨by rw [hv.out]; try rfl, chain B1.out HB.out⟩
            | true =>
              have HQ : Hid (quB c.ask = true) := hq
              clear hq
              have HN := Lib.hid (rises_next Ha.out (map_get HX.out) HQ.out (fun h => by omega))

              go_wp2_with fail
              go_quiet (fail)
              go_wp2_with fail
              go_roundw
              case rel => exact ⟨0 + 1, by omega, by congr 1, HN.out, trivial, by first | exact HB.out | exact below_drewN HB.out _ | (rw [← ea]; exact below_drewN HB.out _)⟩
              case measure => simp [intOf]; omega
          · obtain ⟨m, hkm⟩ : ∃ m, k = m + 1 := ⟨k - 1, by omega⟩
            have cm : m < x.ru.length := by omega
            obtain ⟨z, hz⟩ : ∃ z, x.ru[m]? = some z := ⟨_, List.getElem?_eq_getElem cm⟩
            obtain ⟨b, off, ea, hb, hc⟩ := HWL.at hx
            have t0 : wr.cell? ⟨b, off + k * 4, none⟩ = some (.int .i64 c.ask) := hc 0 _ rfl
            have t1 : wr.cell? ⟨b, off + k * 4 + 1, none⟩ = some (.int .i64 c.op) := hc 1 _ rfl
            have t2 : wr.cell? ⟨b, off + k * 4 + 2, none⟩ = some (.int .i64 c.n) := hc 2 _ rfl
            have t3 : wr.cell? ⟨b, off + k * 4 + 3, none⟩ = some (.slice c.a c.m c.k) := hc 3 _ rfl
            obtain ⟨b2, off2, eb, -, hc2⟩ := HWL.at hz
            rw [ea] at eb
            simp only [Option.some.injEq, Addr.mk.injEq, and_true] at eb
            obtain ⟨rfl, rfl⟩ := eb
            have s0 : wr.cell? ⟨b, off + m * 4, none⟩ = some (.int .i64 z.ask) := hc2 0 _ rfl
            rw [ea] at y3
            try rw [ea]
            have e0 : (k : Int) - 1 = (m : Int) := by omega
            have m0 : (0 : Int) ≤ (m : Int) := by omega
            have m1 : (m : Int) < (x.ru.length : Int) := by omega
            have m2 : 0 < (k : Int) := by omega
            have dk : decide (0 < k) = true := decide_eq_true (by omega)
            have hzd : (x.ru.map Rul.ask).getD (k - 1) 0 = z.ask := by rw [show k - 1 = m by omega]; exact getD_map hz
            have HZ := Lib.hid hzd
            have HX := Lib.hid hx
            have hkm' := Lib.hid hkm
            clear hx hz hzd hkm kz hc hc2 HWL
            go_wp2_with fail
            refine (Within_x c.ask 0 21 _).mono ?_
            rintro r w1 ⟨rfl, rfl⟩
            cases hq : wi c.ask 0 21 with
            | false =>
              have hF : risesB quB (x.ru.map Rul.ask) = false := rises_not (map_get HX.out) (fun h => by have := h.1; unfold quB at this; rw [hq] at this; cases this)
              have hv : Hid (orderB x = false) := by show _ = _; simp [orderB, hF]
              clear hF hq
              go_wp2_with fail
              go_ret
              exact ⟨by rw [hv.out]; try rfl, chain B1.out HB.out⟩
            | true =>
              have HQ : Hid (quB c.ask = true) := hq
              clear hq
              by_cases g : z.ask < c.ask
              · have g' : ¬ c.ask ≤ z.ask := by omega
                have d1 : decide (c.ask ≤ z.ask) = false := decide_eq_false g'
                have d2 : decide (z.ask ≥ c.ask) = false := decide_eq_false g'
                have HN := Lib.hid (rises_next Ha.out (map_get HX.out) HQ.out (fun _ => by rw [HZ.out]; exact g))

                clear g
                go_wp2_with fail
                go_quiet (fail)
                go_wp2_with fail
                go_roundw
                case rel => exact ⟨k + 1, by omega, by congr 1, HN.out, trivial, by first | exact HB.out | exact below_drewN HB.out _ | (rw [← ea]; exact below_drewN HB.out _)⟩
                case measure => simp [intOf]; omega
              · have g' : c.ask ≤ z.ask := by omega
                have d1 : decide (c.ask ≤ z.ask) = true := decide_eq_true g'
                have d2 : decide (z.ask ≥ c.ask) = true := decide_eq_true g'
                have hF : risesB quB (x.ru.map Rul.ask) = false := rises_not (map_get HX.out) (fun h => by have := h.2 (by have := hkm'.out; omega); rw [HZ.out] at this; omega)
                have hv : Hid (orderB x = false) := by show _ = _; simp [orderB, hF]
                clear hF g
                go_wp2_with fail
                go_quiet (fail)
                go_wp2_with fail
                go_ret
                exact ⟨by rw [hv.out]; try rfl, chain B1.out (by first | exact HB.out | exact below_drewN HB.out _)⟩
    case pos =>
      have kc : (k : Int) < (x.ch.length : Int) := by omega
      have HWL := HCH.out.next HB.out
      obtain ⟨c, hx⟩ : ∃ c, x.ch[k]? = some c := ⟨_, List.getElem?_eq_getElem cl⟩
      by_cases kz : k = 0
      · subst kz
        obtain ⟨b, off, ea, hb, hc⟩ := HWL.at hx
        rw [ea] at y2
        try rw [ea]
        have t0 : wr.cell? ⟨b, off + 0 * 3, none⟩ = some (.int .i64 c.ask) := hc 0 _ rfl
        have t1 : wr.cell? ⟨b, off + 0 * 3 + 1, none⟩ = some (.int .i64 c.how) := hc 1 _ rfl
        have t2 : wr.cell? ⟨b, off + 0 * 3 + 2, none⟩ = some (.bool c.whole) := hc 2 _ rfl
        rw [Nat.zero_mul, Nat.add_zero] at t0 t1 t2
        have HX := Lib.hid hx
        clear hx hc HWL
        go_wp2_with fail
        refine (Within_x c.ask 0 21 _).mono ?_
        rintro r w1 ⟨rfl, rfl⟩
        cases hq : wi c.ask 0 21 with
        | false =>
          have hF : risesB quB (x.ch.map Chc.ask) = false := rises_not (map_get HX.out) (fun h => by have := h.1; unfold quB at this; rw [hq] at this; cases this)
          have hv : Hid (orderB x = false) := by show _ = _; simp [orderB, hF]
          clear hF hq
          go_wp2_with fail
          go_ret
          exact ⟨by rw [hv.out]; try rfl, chain B0.out HB.out⟩
        | true =>
          have HQ : Hid (quB c.ask = true) := hq
          clear hq
          go_wp2_with fail
          refine (Within_x c.how 0 4 _).mono ?_
          rintro r w1 ⟨rfl, rfl⟩
          cases hw : wi c.how 0 4 with
          | false =>
            have hF : x.ch.all chB = false := List.all_eq_false.2 ⟨c, List.mem_of_getElem? HX.out, by show ¬ wi c.how 0 4 = true; rw [hw]; decide⟩
            have hv : Hid (orderB x = false) := by show _ = _; simp [orderB, hF]
            clear hF hw
            go_wp2_with fail
            go_ret
            exact ⟨by rw [hv.out]; try rfl, chain B0.out HB.out⟩
          | true =>
            have HW : Hid (chB c = true) := hw
            clear hw
            have HN := Lib.hid (rises_next Ha.out (map_get HX.out) HQ.out (fun h => by omega))
            have HC := Lib.hid (all_step HP.out HX.out HW.out)
            go_wp2_with fail
            go_quiet (fail)
            go_wp2_with fail
            go_roundw
            case rel => exact ⟨0 + 1, by omega, by congr 1, HN.out, HC.out, by first | exact HB.out | exact below_drewN HB.out _ | (rw [← ea]; exact below_drewN HB.out _)⟩
            case measure => simp [intOf]; omega
      · obtain ⟨m, hkm⟩ : ∃ m, k = m + 1 := ⟨k - 1, by omega⟩
        have cm : m < x.ch.length := by omega
        obtain ⟨z, hz⟩ : ∃ z, x.ch[m]? = some z := ⟨_, List.getElem?_eq_getElem cm⟩
        obtain ⟨b, off, ea, hb, hc⟩ := HWL.at hx
        have t0 : wr.cell? ⟨b, off + k * 3, none⟩ = some (.int .i64 c.ask) := hc 0 _ rfl
        have t1 : wr.cell? ⟨b, off + k * 3 + 1, none⟩ = some (.int .i64 c.how) := hc 1 _ rfl
        have t2 : wr.cell? ⟨b, off + k * 3 + 2, none⟩ = some (.bool c.whole) := hc 2 _ rfl
        obtain ⟨b2, off2, eb, -, hc2⟩ := HWL.at hz
        rw [ea] at eb
        simp only [Option.some.injEq, Addr.mk.injEq, and_true] at eb
        obtain ⟨rfl, rfl⟩ := eb
        have s0 : wr.cell? ⟨b, off + m * 3, none⟩ = some (.int .i64 z.ask) := hc2 0 _ rfl
        rw [ea] at y2
        try rw [ea]
        have e0 : (k : Int) - 1 = (m : Int) := by omega
        have m0 : (0 : Int) ≤ (m : Int) := by omega
        have m1 : (m : Int) < (x.ch.length : Int) := by omega
        have m2 : 0 < (k : Int) := by omega
        have dk : decide (0 < k) = true := decide_eq_true (by omega)
        have hzd : (x.ch.map Chc.ask).getD (k - 1) 0 = z.ask := by rw [show k - 1 = m by omega]; exact getD_map hz
        have HZ := Lib.hid hzd
        have HX := Lib.hid hx
        have hkm' := Lib.hid hkm
        clear hx hz hzd hkm kz hc hc2 HWL
        go_wp2_with fail
        refine (Within_x c.ask 0 21 _).mono ?_
        rintro r w1 ⟨rfl, rfl⟩
        cases hq : wi c.ask 0 21 with
        | false =>
          have hF : risesB quB (x.ch.map Chc.ask) = false := rises_not (map_get HX.out) (fun h => by have := h.1; unfold quB at this; rw [hq] at this; cases this)
          have hv : Hid (orderB x = false) := by show _ = _; simp [orderB, hF]
          clear hF hq
          go_wp2_with fail
          go_ret
          exact ⟨by rw [hv.out]; try rfl, chain B0.out HB.out⟩
        | true =>
          have HQ : Hid (quB c.ask = true) := hq
          clear hq
          go_wp2_with fail
          refine (Within_x c.how 0 4 _).mono ?_
          rintro r w1 ⟨rfl, rfl⟩
          cases hw : wi c.how 0 4 with
          | false =>
            have hF : x.ch.all chB = false := List.all_eq_false.2 ⟨c, List.mem_of_getElem? HX.out, by show ¬ wi c.how 0 4 = true; rw [hw]; decide⟩
            have hv : Hid (orderB x = false) := by show _ = _; simp [orderB, hF]
            clear hF hw
            go_wp2_with fail
            go_ret
            exact ⟨by rw [hv.out]; try rfl, chain B0.out HB.out⟩
          | true =>
            have HW : Hid (chB c = true) := hw
            clear hw
            by_cases g : z.ask < c.ask
            · have g' : ¬ c.ask ≤ z.ask := by omega
              have d1 : decide (c.ask ≤ z.ask) = false := decide_eq_false g'
              have d2 : decide (z.ask ≥ c.ask) = false := decide_eq_false g'
              have HN := Lib.hid (rises_next Ha.out (map_get HX.out) HQ.out (fun _ => by rw [HZ.out]; exact g))
              have HC := Lib.hid (all_step HP.out HX.out HW.out)
              clear g
              go_wp2_with fail
              go_quiet (fail)
              go_wp2_with fail
              go_roundw
              case rel => exact ⟨k + 1, by omega, by congr 1, HN.out, HC.out, by first | exact HB.out | exact below_drewN HB.out _ | (rw [← ea]; exact below_drewN HB.out _)⟩
              case measure => simp [intOf]; omega
            · have g' : c.ask ≤ z.ask := by omega
              have d1 : decide (c.ask ≤ z.ask) = true := decide_eq_true g'
              have d2 : decide (z.ask ≥ c.ask) = true := decide_eq_true g'
              have hF : risesB quB (x.ch.map Chc.ask) = false := rises_not (map_get HX.out) (fun h => by have := h.2 (by have := hkm'.out; omega); rw [HZ.out] at this; omega)
              have hv : Hid (orderB x = false) := by show _ = _; simp [orderB, hF]
              clear hF g
              go_wp2_with fail
              go_quiet (fail)
              go_wp2_with fail
              go_ret
              exact ⟨by rw [hv.out]; try rfl, chain B0.out (by first | exact HB.out | exact below_drewN HB.out _)⟩

end Go.Proofs.YtcjakgpmompaiaaGreatDoor

