/-
  The reference: RightCity, RightOrder.
-/
import Derived.Test.YtcjakgpmompaiaaGreatDoorRefB
namespace Go.Proofs.YtcjakgpmompaiaaGreatDoor
open Go.RowKit Rl

theorem fs_range {y : Int} (h : fsB y = true) : wi y 0 2000 = true := by
  unfold fsB at h
  rw [Bool.and_eq_true, wi_iff, wi_iff] at h
  have e := Int.mul_tdiv_add_tmod y 100
  rw [wi_iff]
  omega
theorem feasts_eq {l : List Int} (h : ∀ (j : Nat) (y : Int), l[j]? = some y → fsB y = true) : risesB (fun n => wi n 0 2000) l = risesB fsB l := by
  rw [Bool.eq_iff_iff, rises_iff, rises_iff]
  constructor
  · exact fun g i hi => ⟨h i _ (getD_at hi), (g i hi).2⟩
  · exact fun g i hi => ⟨fs_range (g i hi).1, (g i hi).2⟩
theorem fs_not {l : List Int} {k : Nat} {y : Int} (hy : l[k]? = some y) (h : fsB y = false) : risesB fsB l = false := rises_not hy (fun q => by have := q.1; rw [h] at this; cases this)
def FsRel (l : List Int) (W : World) (i : Value) (wr : World) : Prop := ∃ k : Nat, k ≤ l.length ∧ i = .int .i64 (k : Int) ∧ (∀ (j : Nat) (y : Int), j < k → l[j]? = some y → fsB y = true) ∧ W = wr

set_option maxHeartbeats 6400000 in
set_option maxRecDepth 100000 in
theorem RightCity_x {a0 a1 a2 a3 a4 a5 a6 a7 : Option Addr} {c0 c1 c2 c3 c4 c5 c6 c7 : Nat} {R : Rlm} (x : Cty) (w : World) (_hr0 : RS w a0 a1 a2 a3 a4 a5 a6 a7 c0 c1 c2 c3 c4 c5 c6 c7 R) (hs4 : Sz R.orders.length) (hs0 : Sz R.cur.length) (hc : InC w x) (hr : Sz x.rest.length) (hf : Sz x.feasts.length) (hsh : Sz x.shut.length) (hi : ∀ n ∈ x.feasts, I64 n) :
    Calls Tryz.prog 136 #[.agg #[.slice a0 R.cur.length c0, .slice a1 R.cities.length c1, .slice a2 R.groups.length c2, .slice a3 R.firms.length c3, .slice a4 R.orders.length c4, .slice a5 R.usances.length c5, .slice a6 R.rates.length c6, .slice a7 R.halts.length c7], vCty x] w fun r w' => r = .returned (.bool (cityB R.orders.length R.cur.length x)) ∧ Below w.heap.size w w' := by
  have RB0 := RB.new w (a0 := a0) (a1 := a1) (a2 := a2) (a3 := a3) (a4 := a4) (a5 := a5) (a6 := a6) (a7 := a7) (c0 := c0) (c1 := c1) (c2 := c2) (c3 := c3) (c4 := c4) (c5 := c5) (c6 := c6) (c7 := c7) (R := R)
  have b0 := Below.new1 (w := w) (.cells #[.slice a0 R.cur.length c0, .slice a1 R.cities.length c1, .slice a2 R.groups.length c2, .slice a3 R.firms.length c3, .slice a4 R.orders.length c4, .slice a5 R.usances.length c5, .slice a6 R.rates.length c6, .slice a7 R.halts.length c7] 31)
  have b1 := Below.new1 (w := (w.alloc (.cells #[.slice a0 R.cur.length c0, .slice a1 R.cities.length c1, .slice a2 R.groups.length c2, .slice a3 R.firms.length c3, .slice a4 R.orders.length c4, .slice a5 R.usances.length c5, .slice a6 R.rates.length c6, .slice a7 R.halts.length c7] 31))) (.cells #[.string x.nm, .int .i64 x.o, .int .i64 x.c, .slice x.a3 x.rest.length x.k3, .slice x.a4 x.feasts.length x.k4, .slice x.a5 x.shut.length x.k5] 75)
  have y4 := (RB0.next b1).b4
  have y0 := (RB0.next b1).b0
  have HC : Hid (InC ((w.alloc (.cells #[.slice a0 R.cur.length c0, .slice a1 R.cities.length c1, .slice a2 R.groups.length c2, .slice a3 R.firms.length c3, .slice a4 R.orders.length c4, .slice a5 R.usances.length c5, .slice a6 R.rates.length c6, .slice a7 R.halts.length c7] 31)).alloc (.cells #[.string x.nm, .int .i64 x.o, .int .i64 x.c, .slice x.a3 x.rest.length x.k3, .slice x.a4 x.feasts.length x.k4, .slice x.a5 x.shut.length x.k5] 75)) x) := hc.next (chain b0 b1)
  have B0 : Hid (Below w.heap.size w ((w.alloc (.cells #[.slice a0 R.cur.length c0, .slice a1 R.cities.length c1, .slice a2 R.groups.length c2, .slice a3 R.firms.length c3, .slice a4 R.orders.length c4, .slice a5 R.usances.length c5, .slice a6 R.rates.length c6, .slice a7 R.halts.length c7] 31)).alloc (.cells #[.string x.nm, .int .i64 x.o, .int .i64 x.c, .slice x.a3 x.rest.length x.k3, .slice x.a4 x.feasts.length x.k4, .slice x.a5 x.shut.length x.k5] 75))) := chain b0 b1
  have HI := Lib.hid hi
  have zs : (w.alloc (.cells #[.slice a0 R.cur.length c0, .slice a1 R.cities.length c1, .slice a2 R.groups.length c2, .slice a3 R.firms.length c3, .slice a4 R.orders.length c4, .slice a5 R.usances.length c5, .slice a6 R.rates.length c6, .slice a7 R.halts.length c7] 31)).heap.size = w.heap.size + 1 := by simp
  have x1 : ((w.alloc (.cells #[.slice a0 R.cur.length c0, .slice a1 R.cities.length c1, .slice a2 R.groups.length c2, .slice a3 R.firms.length c3, .slice a4 R.orders.length c4, .slice a5 R.usances.length c5, .slice a6 R.rates.length c6, .slice a7 R.halts.length c7] 31)).alloc (.cells #[.string x.nm, .int .i64 x.o, .int .i64 x.c, .slice x.a3 x.rest.length x.k3, .slice x.a4 x.feasts.length x.k4, .slice x.a5 x.shut.length x.k5] 75)).cell? ⟨w.heap.size + 1, 1, none⟩ = some (.int .i64 x.o) := by rw [← zs, World.cell?_alloc_new]; rfl
  have x2 : ((w.alloc (.cells #[.slice a0 R.cur.length c0, .slice a1 R.cities.length c1, .slice a2 R.groups.length c2, .slice a3 R.firms.length c3, .slice a4 R.orders.length c4, .slice a5 R.usances.length c5, .slice a6 R.rates.length c6, .slice a7 R.halts.length c7] 31)).alloc (.cells #[.string x.nm, .int .i64 x.o, .int .i64 x.c, .slice x.a3 x.rest.length x.k3, .slice x.a4 x.feasts.length x.k4, .slice x.a5 x.shut.length x.k5] 75)).cell? ⟨w.heap.size + 1, 2, none⟩ = some (.int .i64 x.c) := by rw [← zs, World.cell?_alloc_new]; rfl
  have x3 : ((w.alloc (.cells #[.slice a0 R.cur.length c0, .slice a1 R.cities.length c1, .slice a2 R.groups.length c2, .slice a3 R.firms.length c3, .slice a4 R.orders.length c4, .slice a5 R.usances.length c5, .slice a6 R.rates.length c6, .slice a7 R.halts.length c7] 31)).alloc (.cells #[.string x.nm, .int .i64 x.o, .int .i64 x.c, .slice x.a3 x.rest.length x.k3, .slice x.a4 x.feasts.length x.k4, .slice x.a5 x.shut.length x.k5] 75)).cell? ⟨w.heap.size + 1, 3, none⟩ = some (.slice x.a3 x.rest.length x.k3) := by rw [← zs, World.cell?_alloc_new]; rfl
  have x4 : ((w.alloc (.cells #[.slice a0 R.cur.length c0, .slice a1 R.cities.length c1, .slice a2 R.groups.length c2, .slice a3 R.firms.length c3, .slice a4 R.orders.length c4, .slice a5 R.usances.length c5, .slice a6 R.rates.length c6, .slice a7 R.halts.length c7] 31)).alloc (.cells #[.string x.nm, .int .i64 x.o, .int .i64 x.c, .slice x.a3 x.rest.length x.k3, .slice x.a4 x.feasts.length x.k4, .slice x.a5 x.shut.length x.k5] 75)).cell? ⟨w.heap.size + 1, 4, none⟩ = some (.slice x.a4 x.feasts.length x.k4) := by rw [← zs, World.cell?_alloc_new]; rfl
  have x5 : ((w.alloc (.cells #[.slice a0 R.cur.length c0, .slice a1 R.cities.length c1, .slice a2 R.groups.length c2, .slice a3 R.firms.length c3, .slice a4 R.orders.length c4, .slice a5 R.usances.length c5, .slice a6 R.rates.length c6, .slice a7 R.halts.length c7] 31)).alloc (.cells #[.string x.nm, .int .i64 x.o, .int .i64 x.c, .slice x.a3 x.rest.length x.k3, .slice x.a4 x.feasts.length x.k4, .slice x.a5 x.shut.length x.k5] 75)).cell? ⟨w.heap.size + 1, 5, none⟩ = some (.slice x.a5 x.shut.length x.k5) := by rw [← zs, World.cell?_alloc_new]; rfl
  have X4 := Lib.hid x4
  have X5 := Lib.hid x5
  clear RB0 b0 b1 _hr0 hc hi zs
  by_cases t1 : x.feasts.length ≤ 60
  · have u1 : ¬ 60 < (x.feasts.length : Int) := by omega
    have d1 := Lib.hid (decide_eq_true t1)
    by_cases t2 : x.shut.length ≤ 200
    · have u2 : ¬ 200 < (x.shut.length : Int) := by omega
      have d2 := Lib.hid (decide_eq_true t2)
      clear t1 t2
      go_enter Tryz.func136, Tryz.ntmps136
      go_wp2_with fail
      refine (Within_x x.o 0 ((R.orders.length : Int) - 1) _).mono ?_
      rintro r w1 ⟨rfl, rfl⟩
      rw [show wi x.o 0 ((R.orders.length : Int) - 1) = ix x.o R.orders.length from rfl]
      cases e0 : ix x.o R.orders.length with
      | false =>
        have hv : Hid (cityB R.orders.length R.cur.length x = false) := by show _ = _; simp [cityB, e0]
        clear e0
        go_wp2_with fail
        go_ret
        exact ⟨by rw [hv.out]; try rfl, B0.out⟩
      | true =>
        have E0 := Lib.hid e0
        clear e0
        go_wp2_with fail
        refine (Within_x x.c 0 ((R.cur.length : Int) - 1) _).mono ?_
        rintro r w1 ⟨rfl, rfl⟩
        rw [show wi x.c 0 ((R.cur.length : Int) - 1) = ix x.c R.cur.length from rfl]
        cases e1 : ix x.c R.cur.length with
        | false =>
          have hv : Hid (cityB R.orders.length R.cur.length x = false) := by show _ = _; simp [cityB, E0.out, e1]
          clear e1
          go_wp2_with fail
          go_ret
          exact ⟨by rw [hv.out]; try rfl, B0.out⟩
        | true =>
          have E1 := Lib.hid e1
          clear e1
          go_wp2_with fail
          go_loopw [5] (fun i wr => FsRel x.feasts ((w.alloc (.cells #[.slice a0 R.cur.length c0, .slice a1 R.cities.length c1, .slice a2 R.groups.length c2, .slice a3 R.firms.length c3, .slice a4 R.orders.length c4, .slice a5 R.usances.length c5, .slice a6 R.rates.length c6, .slice a7 R.halts.length c7] 31)).alloc (.cells #[.string x.nm, .int .i64 x.o, .int .i64 x.c, .slice x.a3 x.rest.length x.k3, .slice x.a4 x.feasts.length x.k4, .slice x.a5 x.shut.length x.k5] 75)) i wr) (fun i _ => x.feasts.length - (intOf i).toNat)
          case atStart => exact ⟨0, Nat.zero_le _, rfl, fun j y hj => by omega, rfl⟩
          case round =>
            obtain ⟨k, hk, rfl, hall, rfl⟩ := hrel
            have Ha := Lib.hid hall
            have k0 : (0 : Int) ≤ (k : Int) := by omega
            clear hall
            by_cases c : k < x.feasts.length
            case neg =>
              have kc : ¬ (k : Int) < (x.feasts.length : Int) := by omega
              have HFS : Hid (∀ (j : Nat) (y : Int), x.feasts[j]? = some y → fsB y = true) := fun j y hy => Ha.out j y (by have := (List.getElem?_eq_some_iff.1 hy).1; omega) hy
              go_wp2_with fail
              refine (Rising_x _ x.rest 0 6 _ HC.out.1 hr).mono ?_
              rintro r w1 ⟨rfl, b1⟩
              rw [show risesB (fun n => wi n 0 6) x.rest = risesB wkB x.rest from rfl]
              have B1 := Lib.hid (chain B0.out b1)
              have HC1 : Hid (InC w1 x) := HC.out.next b1
              have x4 := cell_up b1 X4.out
              have x5 := cell_up b1 X5.out
              have X5b := Lib.hid x5
              cases e : risesB wkB x.rest with
              | false =>
                have hv : Hid (cityB R.orders.length R.cur.length x = false) := by show _ = _; simp [cityB, e]
                clear e b1
                go_wp2_with fail
                go_ret
                exact ⟨by rw [hv.out]; try rfl, B1.out⟩
              | true =>
                have E2 := Lib.hid e
                clear e b1
                go_wp2_with fail
                refine (Rising_x _ x.feasts 0 2000 _ HC1.out.2.1 hf).mono ?_
                rintro r w2 ⟨rfl, b2⟩
                rw [feasts_eq HFS.out]
                have B2 := Lib.hid (chain B1.out b2)
                have HC2 : Hid (InC w2 x) := HC1.out.next b2
                have x5 := cell_up b2 X5b.out
                cases e : risesB fsB x.feasts with
                | false =>
                  have hv : Hid (cityB R.orders.length R.cur.length x = false) := by show _ = _; simp [cityB, e]
                  clear e b2
                  go_wp2_with fail
                  go_ret
                  exact ⟨by rw [hv.out]; try rfl, B2.out⟩
                | true =>
                  have E3 := Lib.hid e
                  clear e b2
                  go_wp2_with fail
                  refine (Rising_x _ x.shut 0 100000 _ HC2.out.2.2 hsh).mono ?_
                  rintro r w3 ⟨rfl, b3⟩
                  rw [show risesB (fun n => wi n 0 100000) x.shut = risesB dayB x.shut from rfl]
                  have B3 := Lib.hid (chain B2.out b3)
                  have hv : Hid (cityB R.orders.length R.cur.length x = risesB dayB x.shut) := by show _ = _; simp [cityB, E0.out, E1.out, E2.out, E3.out, d1.out, d2.out]
                  clear b3
                  go_wp2_with fail
                  go_ret
                  exact ⟨by rw [hv.out]; try rfl, B3.out⟩
            case pos =>
              have kc : (k : Int) < (x.feasts.length : Int) := by omega
              obtain ⟨b, off, y, ea, hy, hb, t1⟩ := i_get HC.out.2.1 c
              obtain ⟨i1, i2⟩ := HI.out y (List.mem_of_getElem? hy)
              have HY := Lib.hid hy
              rw [ea] at x4 t1 ⊢
              clear hy
              go_wp2_with fail
              refine (Within_x (y.tdiv 100) 1 12 _).mono ?_
              rintro r w1 ⟨rfl, rfl⟩
              cases e : wi (y.tdiv 100) 1 12 with
              | false =>
                have hF : risesB fsB x.feasts = false := fs_not HY.out (by simp [fsB, e])
                have hv : Hid (cityB R.orders.length R.cur.length x = false) := by show _ = _; simp [cityB, hF]
                clear e hF
                go_wp2_with fail
                go_ret
                exact ⟨by rw [hv.out]; try rfl, by rw [← ea]; exact B0.out⟩
              | true =>
                have E := Lib.hid e
                clear e
                go_wp2_with fail
                refine (Within_x (y.tmod 100) 1 31 _).mono ?_
                rintro r w1 ⟨rfl, rfl⟩
                cases e : wi (y.tmod 100) 1 31 with
                | false =>
                  have hF : risesB fsB x.feasts = false := fs_not HY.out (by simp [fsB, e])
                  have hv : Hid (cityB R.orders.length R.cur.length x = false) := by show _ = _; simp [cityB, hF]
                  clear e hF
                  go_wp2_with fail
                  go_ret
                  exact ⟨by rw [hv.out]; try rfl, by rw [← ea]; exact B0.out⟩
                | true =>
                  have HN : Hid (∀ (j : Nat) (z : Int), j < k + 1 → x.feasts[j]? = some z → fsB z = true) := by
                    intro j z hj hz
                    by_cases cj : j = k
                    · subst cj
                      have := HY.out
                      rw [hz] at this
                      simp only [Option.some.injEq] at this
                      subst this
                      simp [fsB, e, E.out]
                    · exact Ha.out j z (by omega) hz
                  clear e
                  go_wp2_with fail
                  go_roundw
                  case rel => exact ⟨k + 1, by omega, by congr 1, HN.out, by rw [← ea]⟩
                  case measure => simp [intOf]; omega
    · have u2 : 200 < (x.shut.length : Int) := by omega
      have d2 := Lib.hid (decide_eq_false t2)
      clear t1 t2
      go_enter Tryz.func136, Tryz.ntmps136
      go_wp2_with fail
      refine (Within_x x.o 0 ((R.orders.length : Int) - 1) _).mono ?_
      rintro r w1 ⟨rfl, rfl⟩
      rw [show wi x.o 0 ((R.orders.length : Int) - 1) = ix x.o R.orders.length from rfl]
      cases e0 : ix x.o R.orders.length with
      | false =>
        have hv : Hid (cityB R.orders.length R.cur.length x = false) := by show _ = _; simp [cityB, e0]
        clear e0
        go_wp2_with fail
        go_ret
        exact ⟨by rw [hv.out]; try rfl, B0.out⟩
      | true =>
        have E0 := Lib.hid e0
        clear e0
        go_wp2_with fail
        refine (Within_x x.c 0 ((R.cur.length : Int) - 1) _).mono ?_
        rintro r w1 ⟨rfl, rfl⟩
        rw [show wi x.c 0 ((R.cur.length : Int) - 1) = ix x.c R.cur.length from rfl]
        cases e1 : ix x.c R.cur.length with
        | false =>
          have hv : Hid (cityB R.orders.length R.cur.length x = false) := by show _ = _; simp [cityB, E0.out, e1]
          clear e1
          go_wp2_with fail
          go_ret
          exact ⟨by rw [hv.out]; try rfl, B0.out⟩
        | true =>
          have E1 := Lib.hid e1
          clear e1
          have hv : Hid (cityB R.orders.length R.cur.length x = false) := by show _ = _; simp [cityB, d2.out]
          go_wp2_with fail
          go_ret
          exact ⟨by rw [hv.out]; try rfl, B0.out⟩
  · have u1 : 60 < (x.feasts.length : Int) := by omega
    have d1 := Lib.hid (decide_eq_false t1)
    clear t1
    go_enter Tryz.func136, Tryz.ntmps136
    go_wp2_with fail
    refine (Within_x x.o 0 ((R.orders.length : Int) - 1) _).mono ?_
    rintro r w1 ⟨rfl, rfl⟩
    rw [show wi x.o 0 ((R.orders.length : Int) - 1) = ix x.o R.orders.length from rfl]
    cases e0 : ix x.o R.orders.length with
    | false =>
      have hv : Hid (cityB R.orders.length R.cur.length x = false) := by show _ = _; simp [cityB, e0]
      clear e0
      go_wp2_with fail
      go_ret
      exact ⟨by rw [hv.out]; try rfl, B0.out⟩
    | true =>
      have E0 := Lib.hid e0
      clear e0
      go_wp2_with fail
      refine (Within_x x.c 0 ((R.cur.length : Int) - 1) _).mono ?_
      rintro r w1 ⟨rfl, rfl⟩
      rw [show wi x.c 0 ((R.cur.length : Int) - 1) = ix x.c R.cur.length from rfl]
      cases e1 : ix x.c R.cur.length with
      | false =>
        have hv : Hid (cityB R.orders.length R.cur.length x = false) := by show _ = _; simp [cityB, E0.out, e1]
        clear e1
        go_wp2_with fail
        go_ret
        exact ⟨by rw [hv.out]; try rfl, B0.out⟩
      | true =>
        have E1 := Lib.hid e1
        clear e1
        have hv : Hid (cityB R.orders.length R.cur.length x = false) := by show _ = _; simp [cityB, d1.out]
        go_wp2_with fail
        go_ret
        exact ⟨by rw [hv.out]; try rfl, B0.out⟩

end Go.Proofs.YtcjakgpmompaiaaGreatDoor
