/-
  The reference: usances, rates and halts.
-/
import Derived.Test.YtcjakgpmompaiaaGreatDoorRefE
namespace Go.Proofs.YtcjakgpmompaiaaGreatDoor
open Go.RowKit Rl

theorem halt_eq (h : Hlt) (no : Nat) : haltB no h = (ix h.o no && (wi h.fr 0 h.to && decide (h.to ≤ 100000))) := by
  rw [Bool.eq_iff_iff]
  unfold haltB dayB
  simp only [Bool.and_eq_true, wi_iff, decide_eq_true_iff]
  constructor
  · rintro ⟨a, b, c⟩; exact ⟨a, ⟨b.1, c.1⟩, c.2⟩
  · rintro ⟨a, b, c⟩; exact ⟨a, ⟨b.1, by omega⟩, b.2, c⟩
theorem usEv_bad {l : List Usn} {u : Usn} {ok : Bool} (h : ok = false) : usEv l u ok = 1 := by unfold usEv; rw [h]; rfl
theorem usEv_twice {l : List Usn} {u : Usn} {ok : Bool} (h : ok = true) {x : Usn} (hx : x ∈ l) (hs : sameU x u = true) : usEv l u ok = 5 := by
  unfold usEv
  rw [if_pos h, if_pos (List.any_eq_true.2 ⟨x, hx, hs⟩)]
theorem usEv_ok {l : List Usn} {u : Usn} {ok : Bool} (h : ok = true) (hs : ∀ x ∈ l, sameU x u = false) : usEv l u ok = 0 := by
  unfold usEv
  rw [if_pos h, if_neg]
  rw [List.any_eq_true]
  rintro ⟨x, hx, e⟩
  rw [hs x hx] at e
  cases e
def NoS (l : List Usn) (u : Usn) (k : Nat) : Prop := ∀ (j : Nat) (x : Usn), j < k → l[j]? = some x → sameU x u = false
theorem NoS.next {l : List Usn} {u x : Usn} {k : Nat} (h : NoS l u k) (hx : l[k]? = some x) (hn : sameU x u = false) : NoS l u (k + 1) := by
  intro j y hj hy
  by_cases c : j = k
  · subst c
    rw [hx] at hy
    simp only [Option.some.injEq] at hy
    subst hy
    exact hn
  · exact h j y (by omega) hy
theorem NoS.all {l : List Usn} {u : Usn} {k : Nat} (h : NoS l u k) : ∀ x ∈ l.take k, sameU x u = false := by
  intro x hx
  obtain ⟨j, hj⟩ := List.getElem?_of_mem hx
  rw [List.getElem?_take] at hj
  split at hj
  · exact h j x (by assumption) hj
  · cases hj
theorem mem_take {l : List Usn} {x : Usn} {m k : Nat} (h : l[m]? = some x) (hm : m < k) : x ∈ l.take k := List.mem_of_getElem? (i := m) (by rw [List.getElem?_take_of_lt hm]; exact h)

set_option maxHeartbeats 6400000 in
set_option maxRecDepth 100000 in
theorem rothers_x {a0 a1 a2 a3 a4 a5 a6 a7 : Option Addr} {c0 c1 c2 c3 c4 c5 c6 c7 : Nat} {R : Rlm} (w : World) (hr : RS w a0 a1 a2 a3 a4 a5 a6 a7 c0 c1 c2 c3 c4 c5 c6 c7 R) (hF : Fit R) :
    Calls Tryz.prog 74 #[.agg #[.slice a0 R.cur.length c0, .slice a1 R.cities.length c1, .slice a2 R.groups.length c2, .slice a3 R.firms.length c3, .slice a4 R.orders.length c4, .slice a5 R.usances.length c5, .slice a6 R.rates.length c6, .slice a7 R.halts.length c7]] w fun r w' => r = .returned (.int .i64 (orE (ratesE R) (haltE R))) ∧ Below w.heap.size w w' := by
  have HR := Lib.hid hr
  have RB0 := Lib.hid (RB.new w (a0 := a0) (a1 := a1) (a2 := a2) (a3 := a3) (a4 := a4) (a5 := a5) (a6 := a6) (a7 := a7) (c0 := c0) (c1 := c1) (c2 := c2) (c3 := c3) (c4 := c4) (c5 := c5) (c6 := c6) (c7 := c7) (R := R))
  have B0 := Lib.hid (Below.new1 (w := w) (.cells #[.slice a0 R.cur.length c0, .slice a1 R.cities.length c1, .slice a2 R.groups.length c2, .slice a3 R.firms.length c3, .slice a4 R.orders.length c4, .slice a5 R.usances.length c5, .slice a6 R.rates.length c6, .slice a7 R.halts.length c7] 31))
  have hs0 := hF.cur
  have hs1 := hF.cities
  have hs2 := hF.groups
  have hs3 := hF.firms
  have hs4 := hF.orders
  have hs5 := hF.usances
  have hs6 := hF.rates
  have hs7 := hF.halts
  clear hr
  have y6 := RB0.out.b6
  have y7 := RB0.out.b7
  by_cases tl : 100 < R.rates.length
  · have kl : 100 < (R.rates.length : Int) := by omega
    have hv : Hid (orE (ratesE R) (haltE R) = 6) := by
      have q := show ratesE R = _ from list_long tl
      show _ = _
      rw [orE_ne (by rw [q]; decide)]
      exact q
    go_enter Tryz.func74, Tryz.ntmps74
    go_wp2_with fail
    go_ret
    exact ⟨by rw [hv.out]; try rfl, B0.out⟩
  have kl : ¬ 100 < (R.rates.length : Int) := by omega
  go_enter Tryz.func74, Tryz.ntmps74
  go_wp2_with fail
  go_loopw [3] (fun i wr => LRel R.rates.length (NoE (plainE (at_ R.rates (rateB R.cur.length)))) (w.alloc (.cells #[.slice a0 R.cur.length c0, .slice a1 R.cities.length c1, .slice a2 R.groups.length c2, .slice a3 R.firms.length c3, .slice a4 R.orders.length c4, .slice a5 R.usances.length c5, .slice a6 R.rates.length c6, .slice a7 R.halts.length c7] 31)) i wr) (fun i _ => R.rates.length - (intOf i).toNat)
  case atStart => exact ⟨0, Nat.zero_le _, rfl, fun j hj => by omega, Below.refl _ _⟩
  case round =>
    obtain ⟨k, hk, rfl, hall, hbw⟩ := hrel
    have RW := Lib.hid (RB0.out.next hbw)
    have y0 := RW.out.b0
    have y6 := RW.out.b6
    have y4 := RW.out.b4
    have y7 := RW.out.b7
    have Ha := Lib.hid hall
    have HB := Lib.hid hbw
    have BW := Lib.hid (chain B0.out hbw)
    have k0 : (0 : Int) ≤ (k : Int) := by omega
    clear hall hbw
    by_cases cl : k < R.rates.length
    case neg =>
      have kc : ¬ (k : Int) < (R.rates.length : Int) := by omega
      have EZ : Hid (ratesE R = 0) := list_all tl (fun i hi => Ha.out i (by omega))
      obtain ⟨wA, rfl⟩ : ∃ wA, wA = wr := ⟨_, rfl⟩
      have BA := Lib.hid BW.out
      have RA := Lib.hid RW.out
      clear Ha HB BW RW tl kl
      by_cases tl : 20 < R.halts.length
      · have kl : 20 < (R.halts.length : Int) := by omega
        have hv : Hid (orE (ratesE R) (haltE R) = 6) := (orE_zero EZ.out).trans (show haltE R = _ from list_long tl)
        go_wp2_with fail
        go_ret
        exact ⟨by rw [hv.out]; try rfl, BA.out⟩
      have kl : ¬ 20 < (R.halts.length : Int) := by omega
      go_wp2_with fail
      go_loopw [5] (fun i wr => LRel R.halts.length (NoE (plainE (at_ R.halts (haltB R.orders.length)))) wA i wr) (fun i _ => R.halts.length - (intOf i).toNat)
      case atStart => exact ⟨0, Nat.zero_le _, rfl, fun j hj => by omega, Below.refl _ _⟩
      case round =>
        obtain ⟨k, hk, rfl, hall, hbw⟩ := hrel
        have RW := Lib.hid (RA.out.next hbw)
        have y4 := RW.out.b4
        have y7 := RW.out.b7
        have Ha := Lib.hid hall
        have HB := Lib.hid hbw
        have BW := Lib.hid (chain BA.out hbw)
        have k0 : (0 : Int) ≤ (k : Int) := by omega
        clear hall hbw
        by_cases cl : k < R.halts.length
        case neg =>
          have kc : ¬ (k : Int) < (R.halts.length : Int) := by omega
          have hv : Hid (orE (ratesE R) (haltE R) = 0) := (orE_zero EZ.out).trans (show haltE R = _ from list_all tl (fun i hi => Ha.out i (by omega)))
          clear tl
          go_wp2_with fail
          go_ret
          exact ⟨by rw [hv.out]; try rfl, BW.out⟩
        case pos =>
          have kc : (k : Int) < (R.halts.length : Int) := by omega
          obtain ⟨x, hx⟩ : ∃ x, R.halts[k]? = some x := ⟨_, List.getElem?_eq_getElem cl⟩
          obtain ⟨b, off, ea, hb, hc⟩ := (HR.out.next BW.out).halts.at hx
          subst ea
          have t0 : wr.cell? ⟨b, off + k * 3, none⟩ = some (.int .i64 x.o) := hc 0 _ rfl
          have t1 : wr.cell? ⟨b, off + k * 3 + 1, none⟩ = some (.int .i64 x.fr) := hc 1 _ rfl
          have t2 : wr.cell? ⟨b, off + k * 3 + 2, none⟩ = some (.int .i64 x.to) := hc 2 _ rfl
          have HCK := Lib.hid (plain_at (p := haltB R.orders.length) hx)
          have HX := Lib.hid hx
          have BU := Lib.hid (chain BW.out (Below.new1 (w := wr) (.cells #[.int .i64 x.o, .int .i64 x.fr, .int .i64 x.to] 156)))
          have BUW := Lib.hid (chain HB.out (Below.new1 (w := wr) (.cells #[.int .i64 x.o, .int .i64 x.fr, .int .i64 x.to] 156)))
          have RU := Lib.hid (RW.out.next (Below.new1 (w := wr) (.cells #[.int .i64 x.o, .int .i64 x.fr, .int .i64 x.to] 156)))
          clear hx hc
          have z4 := RU.out.b4
          have z7 := RU.out.b7
          go_wp2_with fail
          refine (Within_x x.o 0 ((R.orders.length : Int) - 1) _).mono ?_
          rintro r w1 ⟨rfl, rfl⟩
          rw [show wi x.o 0 ((R.orders.length : Int) - 1) = ix x.o R.orders.length from rfl]
          cases e0 : ix x.o R.orders.length with
          | false =>
            have hz : plainE (at_ R.halts (haltB R.orders.length)) k = 1 := by rw [HCK.out, show haltB R.orders.length x = false by rw [halt_eq, e0]; rfl]; rfl
            have hv : Hid (orE (ratesE R) (haltE R) = 1) := (orE_zero EZ.out).trans (show haltE R = _ from (list_at tl Ha.out (by rw [hz]; decide) cl).trans hz)
            clear tl hz e0
            go_wp2_with fail
            go_ret
            exact ⟨by rw [hv.out]; try rfl, BU.out⟩
          | true =>
            have E0 := Lib.hid e0
            clear e0
            go_wp2_with fail
            refine (Within_x x.fr 0 x.to _).mono ?_
            rintro r w1 ⟨rfl, rfl⟩
            cases e1 : wi x.fr 0 x.to with
            | false =>
              have hz : plainE (at_ R.halts (haltB R.orders.length)) k = 1 := by rw [HCK.out, show haltB R.orders.length x = false by rw [halt_eq, e1]; simp]; rfl
              have hv : Hid (orE (ratesE R) (haltE R) = 1) := (orE_zero EZ.out).trans (show haltE R = _ from (list_at tl Ha.out (by rw [hz]; decide) cl).trans hz)
              clear tl hz e1
              go_wp2_with fail
              go_ret
              exact ⟨by rw [hv.out]; try rfl, BU.out⟩
            | true =>
              have E1 := Lib.hid e1
              clear e1
              by_cases e2 : 100000 < x.to
              · have u2 := e2
                have hz : plainE (at_ R.halts (haltB R.orders.length)) k = 1 := by rw [HCK.out, show haltB R.orders.length x = false by rw [halt_eq]; simp; omega]; rfl
                have hv : Hid (orE (ratesE R) (haltE R) = 1) := (orE_zero EZ.out).trans (show haltE R = _ from (list_at tl Ha.out (by rw [hz]; decide) cl).trans hz)
                clear tl hz e2
                go_wp2_with fail
                go_ret
                exact ⟨by rw [hv.out]; try rfl, BU.out⟩
              · have u2 : ¬ 100000 < x.to := e2
                have D2 := Lib.hid e2
                clear e2
                have HZ : Hid (NoE (plainE (at_ R.halts (haltB R.orders.length))) (k + 1)) := ok_step Ha.out (by rw [HCK.out, show haltB R.orders.length x = true by rw [halt_eq, E0.out, E1.out]; have := D2.out; simp; omega]; rfl)
                go_wp2_with fail
                go_roundw
                case rel => exact ⟨k + 1, by omega, by congr 1, HZ.out, BUW.out⟩
                case measure => simp [intOf]; omega
    case pos =>
      have kc : (k : Int) < (R.rates.length : Int) := by omega
      obtain ⟨x, hx⟩ : ∃ x, R.rates[k]? = some x := ⟨_, List.getElem?_eq_getElem cl⟩
      obtain ⟨b, off, ea, hb, hc⟩ := (HR.out.next BW.out).rates.at hx
      subst ea
      have t0 : wr.cell? ⟨b, off + k * 5, none⟩ = some (.int .i64 x.fr) := hc 0 _ rfl
      have t1 : wr.cell? ⟨b, off + k * 5 + 1, none⟩ = some (.int .i64 x.to) := hc 1 _ rfl
      have t2 : wr.cell? ⟨b, off + k * 5 + 2, none⟩ = some (.int .i64 x.num) := hc 2 _ rfl
      have t3 : wr.cell? ⟨b, off + k * 5 + 3, none⟩ = some (.int .i64 x.den) := hc 3 _ rfl
      have t4 : wr.cell? ⟨b, off + k * 5 + 4, none⟩ = some (.int .i64 x.since) := hc 4 _ rfl
      have HCK := Lib.hid (plain_at (p := rateB R.cur.length) hx)
      have HX := Lib.hid hx
      have BU := Lib.hid (chain BW.out (Below.new1 (w := wr) (.cells #[.int .i64 x.fr, .int .i64 x.to, .int .i64 x.num, .int .i64 x.den, .int .i64 x.since] 150)))
      have BUW := Lib.hid (chain HB.out (Below.new1 (w := wr) (.cells #[.int .i64 x.fr, .int .i64 x.to, .int .i64 x.num, .int .i64 x.den, .int .i64 x.since] 150)))
      have RU := Lib.hid (RW.out.next (Below.new1 (w := wr) (.cells #[.int .i64 x.fr, .int .i64 x.to, .int .i64 x.num, .int .i64 x.den, .int .i64 x.since] 150)))
      clear hx hc
      have z0 := RU.out.b0
      have z6 := RU.out.b6
      have z4 := RU.out.b4
      have z7 := RU.out.b7
      go_wp2_with fail
      refine (Within_x x.fr 0 ((R.cur.length : Int) - 1) _).mono ?_
      rintro r w1 ⟨rfl, rfl⟩
      rw [show wi x.fr 0 ((R.cur.length : Int) - 1) = ix x.fr R.cur.length from rfl]
      cases e0 : ix x.fr R.cur.length with
      | false =>
        have hz : plainE (at_ R.rates (rateB R.cur.length)) k = 1 := by rw [HCK.out, show rateB R.cur.length x = false by simp [rateB, e0]]; rfl
        have hv : Hid (orE (ratesE R) (haltE R) = 1) := by
            have q := show ratesE R = _ from (list_at tl Ha.out (by rw [hz]; decide) cl).trans hz
            show _ = _
            rw [orE_ne (by rw [q]; decide)]
            exact q
        clear tl hz e0
        go_wp2_with fail
        go_ret
        exact ⟨by rw [hv.out]; try rfl, BU.out⟩
      | true =>
        have E0 := Lib.hid e0
        clear e0
        go_wp2_with fail
        refine (Within_x x.to 0 ((R.cur.length : Int) - 1) _).mono ?_
        rintro r w1 ⟨rfl, rfl⟩
        rw [show wi x.to 0 ((R.cur.length : Int) - 1) = ix x.to R.cur.length from rfl]
        cases e1 : ix x.to R.cur.length with
        | false =>
          have hz : plainE (at_ R.rates (rateB R.cur.length)) k = 1 := by rw [HCK.out, show rateB R.cur.length x = false by simp [rateB, e1]]; rfl
          have hv : Hid (orE (ratesE R) (haltE R) = 1) := by
              have q := show ratesE R = _ from (list_at tl Ha.out (by rw [hz]; decide) cl).trans hz
              show _ = _
              rw [orE_ne (by rw [q]; decide)]
              exact q
          clear tl hz e1
          go_wp2_with fail
          go_ret
          exact ⟨by rw [hv.out]; try rfl, BU.out⟩
        | true =>
          have E1 := Lib.hid e1
          clear e1
          by_cases e2 : x.fr = x.to
          · have u2 : (x.fr == x.to) = true := bt e2
            have hz : plainE (at_ R.rates (rateB R.cur.length)) k = 1 := by rw [HCK.out, show rateB R.cur.length x = false by simp [rateB, e2]]; rfl
            have hv : Hid (orE (ratesE R) (haltE R) = 1) := by
                have q := show ratesE R = _ from (list_at tl Ha.out (by rw [hz]; decide) cl).trans hz
                show _ = _
                rw [orE_ne (by rw [q]; decide)]
                exact q
            clear tl hz e2
            go_wp2_with fail
            go_ret
            exact ⟨by rw [hv.out]; try rfl, BU.out⟩
          · have u2 : (x.fr == x.to) = false := bf e2
            have D2 := Lib.hid e2
            clear e2
            go_wp2_with fail
            refine (Within_x x.num 1 1073741824 _).mono ?_
            rintro r w1 ⟨rfl, rfl⟩
            cases e3 : wi x.num 1 1073741824 with
            | false =>
              have hz : plainE (at_ R.rates (rateB R.cur.length)) k = 1 := by rw [HCK.out, show rateB R.cur.length x = false by simp [rateB, e3]]; rfl
              have hv : Hid (orE (ratesE R) (haltE R) = 1) := by
                  have q := show ratesE R = _ from (list_at tl Ha.out (by rw [hz]; decide) cl).trans hz
                  show _ = _
                  rw [orE_ne (by rw [q]; decide)]
                  exact q
              clear tl hz e3
              go_wp2_with fail
              go_ret
              exact ⟨by rw [hv.out]; try rfl, BU.out⟩
            | true =>
              have E3 := Lib.hid e3
              clear e3
              go_wp2_with fail
              refine (Within_x x.den 1 1073741824 _).mono ?_
              rintro r w1 ⟨rfl, rfl⟩
              cases e4 : wi x.den 1 1073741824 with
              | false =>
                have hz : plainE (at_ R.rates (rateB R.cur.length)) k = 1 := by rw [HCK.out, show rateB R.cur.length x = false by simp [rateB, e4]]; rfl
                have hv : Hid (orE (ratesE R) (haltE R) = 1) := by
                    have q := show ratesE R = _ from (list_at tl Ha.out (by rw [hz]; decide) cl).trans hz
                    show _ = _
                    rw [orE_ne (by rw [q]; decide)]
                    exact q
                clear tl hz e4
                go_wp2_with fail
                go_ret
                exact ⟨by rw [hv.out]; try rfl, BU.out⟩
              | true =>
                have E4 := Lib.hid e4
                clear e4
                go_wp2_with fail
                refine (Within_x x.since 0 100000 _).mono ?_
                rintro r w1 ⟨rfl, rfl⟩
                rw [show wi x.since 0 100000 = dayB x.since from rfl]
                cases e5 : dayB x.since with
                | false =>
                  have hz : plainE (at_ R.rates (rateB R.cur.length)) k = 1 := by rw [HCK.out, show rateB R.cur.length x = false by simp [rateB, e5]]; rfl
                  have hv : Hid (orE (ratesE R) (haltE R) = 1) := by
                      have q := show ratesE R = _ from (list_at tl Ha.out (by rw [hz]; decide) cl).trans hz
                      show _ = _
                      rw [orE_ne (by rw [q]; decide)]
                      exact q
                  clear tl hz e5
                  go_wp2_with fail
                  go_ret
                  exact ⟨by rw [hv.out]; try rfl, BU.out⟩
                | true =>
                  have E5 := Lib.hid e5
                  clear e5
                  have HZ : Hid (NoE (plainE (at_ R.rates (rateB R.cur.length))) (k + 1)) := ok_step Ha.out (by rw [HCK.out, show rateB R.cur.length x = true by simp [rateB, E0.out, E1.out, D2.out, E3.out, E4.out, E5.out]]; rfl)
                  go_wp2_with fail
                  go_roundw
                  case rel => exact ⟨k + 1, by omega, by congr 1, HZ.out, BUW.out⟩
                  case measure => simp [intOf]; omega

set_option maxHeartbeats 6400000 in
set_option maxRecDepth 100000 in
theorem rusances_x {a0 a1 a2 a3 a4 a5 a6 a7 : Option Addr} {c0 c1 c2 c3 c4 c5 c6 c7 : Nat} {R : Rlm} (w : World) (hr : RS w a0 a1 a2 a3 a4 a5 a6 a7 c0 c1 c2 c3 c4 c5 c6 c7 R) (hF : Fit R) :
    Calls Tryz.prog 73 #[.agg #[.slice a0 R.cur.length c0, .slice a1 R.cities.length c1, .slice a2 R.groups.length c2, .slice a3 R.firms.length c3, .slice a4 R.orders.length c4, .slice a5 R.usances.length c5, .slice a6 R.rates.length c6, .slice a7 R.halts.length c7]] w fun r w' => r = .returned (.int .i64 (usanceE R)) ∧ Below w.heap.size w w' := by
  have HR := Lib.hid hr
  have RB0 := Lib.hid (RB.new w (a0 := a0) (a1 := a1) (a2 := a2) (a3 := a3) (a4 := a4) (a5 := a5) (a6 := a6) (a7 := a7) (c0 := c0) (c1 := c1) (c2 := c2) (c3 := c3) (c4 := c4) (c5 := c5) (c6 := c6) (c7 := c7) (R := R))
  have B0 := Lib.hid (Below.new1 (w := w) (.cells #[.slice a0 R.cur.length c0, .slice a1 R.cities.length c1, .slice a2 R.groups.length c2, .slice a3 R.firms.length c3, .slice a4 R.orders.length c4, .slice a5 R.usances.length c5, .slice a6 R.rates.length c6, .slice a7 R.halts.length c7] 31))
  have hs0 := hF.cur
  have hs1 := hF.cities
  have hs2 := hF.groups
  have hs3 := hF.firms
  have hs4 := hF.orders
  have hs5 := hF.usances
  have hs6 := hF.rates
  have hs7 := hF.halts
  clear hr
  have y5 := RB0.out.b5
  have y1 := RB0.out.b1
  by_cases tl : 100 < R.usances.length
  · have kl : 100 < (R.usances.length : Int) := by omega
    have hv : Hid (usanceE R = 6) := (show usanceE R = _ from list_long tl)
    go_enter Tryz.func73, Tryz.ntmps73
    go_wp2_with fail
    go_ret
    exact ⟨by rw [hv.out]; try rfl, B0.out⟩
  have kl : ¬ 100 < (R.usances.length : Int) := by omega
  go_enter Tryz.func73, Tryz.ntmps73
  go_wp2_with fail
  go_loopw [3] (fun i wr => LRel R.usances.length (NoE (usE R)) (w.alloc (.cells #[.slice a0 R.cur.length c0, .slice a1 R.cities.length c1, .slice a2 R.groups.length c2, .slice a3 R.firms.length c3, .slice a4 R.orders.length c4, .slice a5 R.usances.length c5, .slice a6 R.rates.length c6, .slice a7 R.halts.length c7] 31)) i wr) (fun i _ => R.usances.length - (intOf i).toNat)
  case atStart => exact ⟨0, Nat.zero_le _, rfl, fun j hj => by omega, Below.refl _ _⟩
  case round =>
    obtain ⟨k, hk, rfl, hall, hbw⟩ := hrel
    have RW := Lib.hid (RB0.out.next hbw)
    have y1 := RW.out.b1
    have y5 := RW.out.b5
    have Ha := Lib.hid hall
    have HB := Lib.hid hbw
    have BW := Lib.hid (chain B0.out hbw)
    have k0 : (0 : Int) ≤ (k : Int) := by omega
    clear hall hbw
    by_cases cl : k < R.usances.length
    case neg =>
      have kc : ¬ (k : Int) < (R.usances.length : Int) := by omega
      have hv : Hid (usanceE R = 0) := (show usanceE R = _ from list_all tl (fun i hi => Ha.out i (by omega)))
      clear tl
      go_wp2_with fail
      go_ret
      exact ⟨by rw [hv.out]; try rfl, BW.out⟩
    case pos =>
      have kc : (k : Int) < (R.usances.length : Int) := by omega
      obtain ⟨x, hx⟩ : ∃ x, R.usances[k]? = some x := ⟨_, List.getElem?_eq_getElem cl⟩
      obtain ⟨b, off, ea, hb, hc⟩ := (HR.out.next BW.out).usances.at hx
      subst ea
      have t0 : wr.cell? ⟨b, off + k * 3, none⟩ = some (.int .i64 x.fr) := hc 0 _ rfl
      have t1 : wr.cell? ⟨b, off + k * 3 + 1, none⟩ = some (.int .i64 x.to) := hc 1 _ rfl
      have t2 : wr.cell? ⟨b, off + k * 3 + 2, none⟩ = some (.int .i64 x.days) := hc 2 _ rfl
      have HCK := Lib.hid (us_at hx)
      have HX := Lib.hid hx
      have BU := Lib.hid (chain BW.out (Below.new1 (w := wr) (.cells #[.int .i64 x.fr, .int .i64 x.to, .int .i64 x.days] 97)))
      have BUW := Lib.hid (chain HB.out (Below.new1 (w := wr) (.cells #[.int .i64 x.fr, .int .i64 x.to, .int .i64 x.days] 97)))
      have RU := Lib.hid (RW.out.next (Below.new1 (w := wr) (.cells #[.int .i64 x.fr, .int .i64 x.to, .int .i64 x.days] 97)))
      clear hx hc
      have z1 := RU.out.b1
      have z5 := RU.out.b5
      go_wp2_with fail
      refine (Within_x x.fr 0 ((R.cities.length : Int) - 1) _).mono ?_
      rintro r w1 ⟨rfl, rfl⟩
      rw [show wi x.fr 0 ((R.cities.length : Int) - 1) = ix x.fr R.cities.length from rfl]
      cases e0 : ix x.fr R.cities.length with
      | false =>
        have hz : usE R k = 1 := by rw [HCK.out]; exact usEv_bad (by simp [usB, e0])
        have hv : Hid (usanceE R = 1) := (show usanceE R = _ from (list_at tl Ha.out (by rw [hz]; decide) cl).trans hz)
        clear tl hz e0
        go_wp2_with fail
        go_ret
        exact ⟨by rw [hv.out]; try rfl, BU.out⟩
      | true =>
        have E0 := Lib.hid e0
        clear e0
        go_wp2_with fail
        refine (Within_x x.to 0 ((R.cities.length : Int) - 1) _).mono ?_
        rintro r w1 ⟨rfl, rfl⟩
        rw [show wi x.to 0 ((R.cities.length : Int) - 1) = ix x.to R.cities.length from rfl]
        cases e1 : ix x.to R.cities.length with
        | false =>
          have hz : usE R k = 1 := by rw [HCK.out]; exact usEv_bad (by simp [usB, e1])
          have hv : Hid (usanceE R = 1) := (show usanceE R = _ from (list_at tl Ha.out (by rw [hz]; decide) cl).trans hz)
          clear tl hz e1
          go_wp2_with fail
          go_ret
          exact ⟨by rw [hv.out]; try rfl, BU.out⟩
        | true =>
          have E1 := Lib.hid e1
          clear e1
          go_wp2_with fail
          refine (Within_x x.days 1 20000 _).mono ?_
          rintro r w1 ⟨rfl, rfl⟩
          cases e2 : wi x.days 1 20000 with
          | false =>
            have hz : usE R k = 1 := by rw [HCK.out]; exact usEv_bad (by simp [usB, e2])
            have hv : Hid (usanceE R = 1) := (show usanceE R = _ from (list_at tl Ha.out (by rw [hz]; decide) cl).trans hz)
            clear tl hz e2
            go_wp2_with fail
            go_ret
            exact ⟨by rw [hv.out]; try rfl, BU.out⟩
          | true =>
            have E2 := Lib.hid e2
            clear e2
            have hok : Hid (usB R.cities.length x = true) := by show _ = _; simp [usB, E0.out, E1.out, E2.out]
            obtain ⟨wA, rfl⟩ : ∃ wA, wA = wr := ⟨_, rfl⟩
            obtain ⟨p0, p1⟩ := UBox.new wA x
            have P0 := Lib.hid p0
            have P1 := Lib.hid p1
            clear p0 p1 t0 t1 t2
            go_wp2_with fail
            go_loopw [5] (fun i wr => LRel k (NoS R.usances x) (wA.alloc (.cells #[.int .i64 x.fr, .int .i64 x.to, .int .i64 x.days] 97)) i wr) (fun i _ => k - (intOf i).toNat)
            case atStart => exact ⟨0, Nat.zero_le _, rfl, fun j u hj => by omega, Below.refl _ _⟩
            case round =>
              obtain ⟨m, hm, rfl, hall, hbw⟩ := hrel
              have q5 := cell_up hbw z5
              have q0 := cell_up hbw P0.out
              have q1 := cell_up hbw P1.out
              have HS := Lib.hid hall
              have B9 := Lib.hid (chain BU.out hbw)
              have B9W := Lib.hid (chain BUW.out hbw)
              have HB9 := Lib.hid hbw
              have m0 : (0 : Int) ≤ (m : Int) := by omega
              clear hall hbw
              by_cases cm : m < k
              case neg =>
                have mc : ¬ (m : Int) < (k : Int) := by omega
                obtain rfl : m = k := by omega
                have HZ : Hid (NoE (usE R) (m + 1)) := ok_step Ha.out (by rw [HCK.out]; exact usEv_ok hok.out HS.out.all)
                go_wp2_with fail
                go_roundw
                case rel => exact ⟨m + 1, by omega, by congr 1, HZ.out, B9W.out⟩
                case measure => simp [intOf]; omega
              case pos =>
                have mc : (m : Int) < (k : Int) := by omega
                have mc2 : (m : Int) < (R.usances.length : Int) := by omega
                obtain ⟨y, hy⟩ : ∃ y, R.usances[m]? = some y := ⟨_, List.getElem?_eq_getElem (by omega)⟩
                obtain ⟨b8, off8, ea8, -, hc⟩ := (HR.out.next B9.out).usances.at hy
                simp only [Option.some.injEq, Addr.mk.injEq, and_true] at ea8
                obtain ⟨rfl, rfl⟩ := ea8
                have t0 : wr.cell? ⟨b, off + m * 3, none⟩ = some (.int .i64 y.fr) := hc 0 _ rfl
                have t1 : wr.cell? ⟨b, off + m * 3 + 1, none⟩ = some (.int .i64 y.to) := hc 1 _ rfl
                have t2 : wr.cell? ⟨b, off + m * 3 + 2, none⟩ = some (.int .i64 y.days) := hc 2 _ rfl
                have HY := Lib.hid hy
                clear hy hc
                by_cases f1 : y.fr = x.fr
                · have g1 : (y.fr == x.fr) = true := bt f1
                  by_cases f2 : y.to = x.to
                  · have g2 : (y.to == x.to) = true := bt f2
                    have hz : usE R k = 5 := by rw [HCK.out]; exact usEv_twice hok.out (mem_take HY.out cm) (by simp [sameU, f1, f2])
                    have hv : Hid (usanceE R = 5) := (list_at tl Ha.out (by rw [hz]; decide) cl).trans hz
                    clear f1 f2 hz tl
                    go_wp2_with fail
                    go_quiet (fail)
                    go_wp2_with fail
                    go_ret
                    exact ⟨by rw [hv.out]; try rfl, by first | exact B9.out | exact below_drewN B9.out _⟩
                  · have g2 : (y.to == x.to) = false := bf f2
                    have HN := Lib.hid (HS.out.next HY.out (by simp [sameU, f2]))
                    clear f1 f2
                    go_wp2_with fail
                    go_quiet (fail)
                    go_wp2_with fail
                    go_roundw
                    case rel => exact ⟨m + 1, by omega, by congr 1, HN.out, by first | exact HB9.out | exact below_drewN HB9.out _⟩
                    case measure => simp [intOf]; omega
                · have g1 : (y.fr == x.fr) = false := bf f1
                  have HN := Lib.hid (HS.out.next HY.out (by simp [sameU, f1]))
                  clear f1
                  go_wp2_with fail
                  go_quiet (fail)
                  go_wp2_with fail
                  go_roundw
                  case rel => exact ⟨m + 1, by omega, by congr 1, HN.out, by first | exact HB9.out | exact below_drewN HB9.out _⟩
                  case measure => simp [intOf]; omega

end Go.Proofs.YtcjakgpmompaiaaGreatDoor
