/-
  The program: which elements are right; the checks of elements without names, and of usances.
-/
import Derived.Test.YtcjakgpmompaiaaGreatDoorProC
namespace Go.Proofs.YtcjakgpmompaiaaGreatDoor
open Go.RowKit Rl


set_option maxHeartbeats 3200000 in
set_option maxRecDepth 100000 in
theorem rightB_x  (x : B) (w : World) :
    Calls Tryz.prog 96 #[.string x] w fun r w' => r = .returned (.bool (true)) ∧ Below w.heap.size w w' := by
  go_enter Tryz.func96, Tryz.ntmps96
  go_wp2_with fail
  go_ret
  exact ⟨rfl, Below.refl _ _⟩

set_option maxHeartbeats 3200000 in
set_option maxRecDepth 100000 in
theorem rightCty_x (g n4 c4 n0 c0 : Nat) (a4 a0 : Option Addr) (x : Cty) (w : World) (h4 : w.cell? ⟨g, 4, none⟩ = some (.slice a4 n4 c4)) (hs4 : Sz n4) (h0 : w.cell? ⟨g, 0, none⟩ = some (.slice a0 n0 c0)) (hs0 : Sz n0) (hc : InC w x) (hr : Sz x.rest.length) (hf : Sz x.feasts.length) (hsh : Sz x.shut.length) (hi : ∀ n ∈ x.feasts, I64 n) :
    Calls Tryz.prog 99 #[vCty x, .pointer (some ⟨g, 0, none⟩)] w fun r w' => r = .returned (.bool (cityB n4 n0 x)) ∧ Below w.heap.size w w' := by
  have b0 := Below.new1 (w := w) (.cells #[.string x.nm, .int .i64 x.o, .int .i64 x.c, .slice x.a3 x.rest.length x.k3, .slice x.a4 x.feasts.length x.k4, .slice x.a5 x.shut.length x.k5] 75)
  have f4 := cell_up b0 h4
  have f0 := cell_up b0 h0
  clear h4 h0
  have HC := Lib.hid (hc.next b0)
  have HI := Lib.hid hi
  have B0 := Lib.hid b0
  clear hc hi b0
  by_cases t1 : x.feasts.length ≤ 60
  · have u1 : (x.feasts.length : Int) ≤ 60 := by omega
    have d1 := Lib.hid (decide_eq_true t1)
    by_cases t2 : x.shut.length ≤ 200
    · have u2 : (x.shut.length : Int) ≤ 200 := by omega
      have d2 := Lib.hid (decide_eq_true t2)
      clear t1 t2
      go_enter Tryz.func99, Tryz.ntmps99
      go_wp2_with fail
      refine (orderIx_x _ _ _ _ _ hs4).mono ?_
      rintro r w1 ⟨rfl, rfl⟩
      cases e0 : ix x.o n4 with
      | false =>
        have hv : Hid (cityB n4 n0 x = false) := by show _ = _; simp [cityB, d1.out, d2.out, e0]
        clear e0
        go_wp2_with fail
        go_ret
        exact ⟨by rw [hv.out]; try rfl, B0.out⟩
      | true =>
        have E0 := Lib.hid e0
        clear e0
        go_wp2_with fail
        refine (strIx_x _ _ _ _ _ hs0).mono ?_
        rintro r w1 ⟨rfl, rfl⟩
        cases e1 : ix x.c n0 with
        | false =>
          have hv : Hid (cityB n4 n0 x = false) := by show _ = _; simp [cityB, d1.out, d2.out, E0.out, e1]
          clear e1
          go_wp2_with fail
          go_ret
          exact ⟨by rw [hv.out]; try rfl, B0.out⟩
        | true =>
          have E1 := Lib.hid e1
          clear e1
          go_wp2_with fail
          refine (risesWk_x _ _ _ HC.out.1 hr).mono ?_
          rintro r w1 ⟨rfl, rfl⟩
          cases e2 : risesB wkB x.rest with
          | false =>
            have hv : Hid (cityB n4 n0 x = false) := by show _ = _; simp [cityB, d1.out, d2.out, E0.out, E1.out, e2]
            clear e2
            go_wp2_with fail
            go_ret
            exact ⟨by rw [hv.out]; try rfl, B0.out⟩
          | true =>
            have E2 := Lib.hid e2
            clear e2
            go_wp2_with fail
            refine (risesFs_x _ _ _ HC.out.2.1 hf HI.out).mono ?_
            rintro r w1 ⟨rfl, rfl⟩
            cases e3 : risesB fsB x.feasts with
            | false =>
              have hv : Hid (cityB n4 n0 x = false) := by show _ = _; simp [cityB, d1.out, d2.out, E0.out, E1.out, E2.out, e3]
              clear e3
              go_wp2_with fail
              go_ret
              exact ⟨by rw [hv.out]; try rfl, B0.out⟩
            | true =>
              have E3 := Lib.hid e3
              clear e3
              go_wp2_with fail
              refine (risesDay_x _ _ _ HC.out.2.2 hsh).mono ?_
              rintro r w1 ⟨rfl, rfl⟩
              have hv : Hid (cityB n4 n0 x = risesB dayB x.shut) := by show _ = _; simp [cityB, d1.out, d2.out, E0.out, E1.out, E2.out, E3.out]
              go_wp2_with fail
              go_ret
              exact ⟨by rw [hv.out]; try rfl, B0.out⟩
    · have u2 : ¬ (x.shut.length : Int) ≤ 200 := by omega
      have d2 := Lib.hid (decide_eq_false t2)
      clear t1 t2
      go_enter Tryz.func99, Tryz.ntmps99
      go_wp2_with fail
      refine (orderIx_x _ _ _ _ _ hs4).mono ?_
      rintro r w1 ⟨rfl, rfl⟩
      cases e0 : ix x.o n4 with
      | false =>
        have hv : Hid (cityB n4 n0 x = false) := by show _ = _; simp [cityB, d1.out, d2.out, e0]
        clear e0
        go_wp2_with fail
        go_ret
        exact ⟨by rw [hv.out]; try rfl, B0.out⟩
      | true =>
        have E0 := Lib.hid e0
        clear e0
        go_wp2_with fail
        refine (strIx_x _ _ _ _ _ hs0).mono ?_
        rintro r w1 ⟨rfl, rfl⟩
        cases e1 : ix x.c n0 with
        | false =>
          have hv : Hid (cityB n4 n0 x = false) := by show _ = _; simp [cityB, d1.out, d2.out, E0.out, e1]
          clear e1
          go_wp2_with fail
          go_ret
          exact ⟨by rw [hv.out]; try rfl, B0.out⟩
        | true =>
          have E1 := Lib.hid e1
          clear e1
          go_wp2_with fail
          refine (risesWk_x _ _ _ HC.out.1 hr).mono ?_
          rintro r w1 ⟨rfl, rfl⟩
          cases e2 : risesB wkB x.rest with
          | false =>
            have hv : Hid (cityB n4 n0 x = false) := by show _ = _; simp [cityB, d1.out, d2.out, E0.out, E1.out, e2]
            clear e2
            go_wp2_with fail
            go_ret
            exact ⟨by rw [hv.out]; try rfl, B0.out⟩
          | true =>
            have E2 := Lib.hid e2
            clear e2
            go_wp2_with fail
            refine (risesFs_x _ _ _ HC.out.2.1 hf HI.out).mono ?_
            rintro r w1 ⟨rfl, rfl⟩
            cases e3 : risesB fsB x.feasts with
            | false =>
              have hv : Hid (cityB n4 n0 x = false) := by show _ = _; simp [cityB, d1.out, d2.out, E0.out, E1.out, E2.out, e3]
              clear e3
              go_wp2_with fail
              go_ret
              exact ⟨by rw [hv.out]; try rfl, B0.out⟩
            | true =>
              have hv : Hid (cityB n4 n0 x = false) := by show _ = _; simp [cityB, d1.out, d2.out, E0.out, E1.out, E2.out, e3]
              clear e3
              go_wp2_with fail
              go_ret
              exact ⟨by rw [hv.out]; try rfl, B0.out⟩
  · have u1 : ¬ (x.feasts.length : Int) ≤ 60 := by omega
    have d1 := Lib.hid (decide_eq_false t1)
    clear t1
    go_enter Tryz.func99, Tryz.ntmps99
    go_wp2_with fail
    refine (orderIx_x _ _ _ _ _ hs4).mono ?_
    rintro r w1 ⟨rfl, rfl⟩
    cases e0 : ix x.o n4 with
    | false =>
      have hv : Hid (cityB n4 n0 x = false) := by show _ = _; simp [cityB, d1.out, e0]
      clear e0
      go_wp2_with fail
      go_ret
      exact ⟨by rw [hv.out]; try rfl, B0.out⟩
    | true =>
      have E0 := Lib.hid e0
      clear e0
      go_wp2_with fail
      refine (strIx_x _ _ _ _ _ hs0).mono ?_
      rintro r w1 ⟨rfl, rfl⟩
      cases e1 : ix x.c n0 with
      | false =>
        have hv : Hid (cityB n4 n0 x = false) := by show _ = _; simp [cityB, d1.out, E0.out, e1]
        clear e1
        go_wp2_with fail
        go_ret
        exact ⟨by rw [hv.out]; try rfl, B0.out⟩
      | true =>
        have E1 := Lib.hid e1
        clear e1
        go_wp2_with fail
        refine (risesWk_x _ _ _ HC.out.1 hr).mono ?_
        rintro r w1 ⟨rfl, rfl⟩
        cases e2 : risesB wkB x.rest with
        | false =>
          have hv : Hid (cityB n4 n0 x = false) := by show _ = _; simp [cityB, d1.out, E0.out, E1.out, e2]
          clear e2
          go_wp2_with fail
          go_ret
          exact ⟨by rw [hv.out]; try rfl, B0.out⟩
        | true =>
          have hv : Hid (cityB n4 n0 x = false) := by show _ = _; simp [cityB, d1.out, E0.out, E1.out, e2]
          clear e2
          go_wp2_with fail
          go_ret
          exact ⟨by rw [hv.out]; try rfl, B0.out⟩

set_option maxHeartbeats 3200000 in
set_option maxRecDepth 100000 in
theorem rightInt_x  (x : Int) (w : World) :
    Calls Tryz.prog 109 #[vGrp x] w fun r w' => r = .returned (.bool (wi x 0 9)) ∧ Below w.heap.size w w' := by
  have b0 := Below.new1 (w := w) (.cells #[.int .i64 x] 81)
  have B0 := Lib.hid b0
  clear b0
  go_enter Tryz.func109, Tryz.ntmps109
  go_wp2_with fail
  refine (within_x _ _ _ _).mono ?_
  rintro r w1 ⟨rfl, rfl⟩
  go_wp2_with fail
  go_ret
  exact ⟨rfl, B0.out⟩

set_option maxHeartbeats 3200000 in
set_option maxRecDepth 100000 in
theorem rightFrm_x (g n1 c1 n2 c2 : Nat) (a1 a2 : Option Addr) (x : Frm) (w : World) (h1 : w.cell? ⟨g, 1, none⟩ = some (.slice a1 n1 c1)) (hs1 : Sz n1) (h2 : w.cell? ⟨g, 2, none⟩ = some (.slice a2 n2 c2)) (hs2 : Sz n2) :
    Calls Tryz.prog 113 #[vFrm x, .pointer (some ⟨g, 0, none⟩)] w fun r w' => r = .returned (.bool (firmB n1 n2 x)) ∧ Below w.heap.size w w' := by
  have b0 := Below.new1 (w := w) (.cells #[.string x.nm, .int .i64 x.city, .int .i64 x.grp] 78)
  have f1 := cell_up b0 h1
  have f2 := cell_up b0 h2
  clear h1 h2
  have B0 := Lib.hid b0
  clear b0
  go_enter Tryz.func113, Tryz.ntmps113
  go_wp2_with fail
  refine (cityIx_x _ _ _ _ _ hs1).mono ?_
  rintro r w1 ⟨rfl, rfl⟩
  cases e0 : ix x.city n1 with
  | false =>
    have hv : Hid (firmB n1 n2 x = false) := by show _ = _; simp [firmB, e0]
    clear e0
    go_wp2_with fail
    go_ret
    exact ⟨by rw [hv.out]; try rfl, B0.out⟩
  | true =>
    have E0 := Lib.hid e0
    clear e0
    go_wp2_with fail
    refine (groupIx_x _ _ _ _ _ hs2).mono ?_
    rintro r w1 ⟨rfl, rfl⟩
    have hv : Hid (firmB n1 n2 x = ix x.grp n2) := by show _ = _; simp [firmB, E0.out]
    go_wp2_with fail
    go_ret
    exact ⟨by rw [hv.out]; try rfl, B0.out⟩

set_option maxHeartbeats 3200000 in
set_option maxRecDepth 100000 in
theorem rightUsn_x (g n1 c1 : Nat) (a1 : Option Addr) (x : Usn) (w : World) (h1 : w.cell? ⟨g, 1, none⟩ = some (.slice a1 n1 c1)) (hs1 : Sz n1) :
    Calls Tryz.prog 124 #[vUsn x, .pointer (some ⟨g, 0, none⟩)] w fun r w' => r = .returned (.bool (usB n1 x)) ∧ Below w.heap.size w w' := by
  have b0 := Below.new1 (w := w) (.cells #[.int .i64 x.fr, .int .i64 x.to, .int .i64 x.days] 97)
  have f1 := cell_up b0 h1
  clear h1
  have B0 := Lib.hid b0
  clear b0
  go_enter Tryz.func124, Tryz.ntmps124
  go_wp2_with fail
  refine (cityIx_x _ _ _ _ _ hs1).mono ?_
  rintro r w1 ⟨rfl, rfl⟩
  cases e0 : ix x.fr n1 with
  | false =>
    have hv : Hid (usB n1 x = false) := by show _ = _; simp [usB, e0]
    clear e0
    go_wp2_with fail
    go_ret
    exact ⟨by rw [hv.out]; try rfl, B0.out⟩
  | true =>
    have E0 := Lib.hid e0
    clear e0
    go_wp2_with fail
    refine (cityIx_x _ _ _ _ _ hs1).mono ?_
    rintro r w1 ⟨rfl, rfl⟩
    cases e1 : ix x.to n1 with
    | false =>
      have hv : Hid (usB n1 x = false) := by show _ = _; simp [usB, E0.out, e1]
      clear e1
      go_wp2_with fail
      go_ret
      exact ⟨by rw [hv.out]; try rfl, B0.out⟩
    | true =>
      have E1 := Lib.hid e1
      clear e1
      go_wp2_with fail
      refine (within_x _ _ _ _).mono ?_
      rintro r w1 ⟨rfl, rfl⟩
      have hv : Hid (usB n1 x = wi x.days 1 20000) := by show _ = _; simp [usB, E0.out, E1.out]
      go_wp2_with fail
      go_ret
      exact ⟨by rw [hv.out]; try rfl, B0.out⟩

set_option maxHeartbeats 3200000 in
set_option maxRecDepth 100000 in
theorem rightHlt_x (g n4 c4 : Nat) (a4 : Option Addr) (x : Hlt) (w : World) (h4 : w.cell? ⟨g, 4, none⟩ = some (.slice a4 n4 c4)) (hs4 : Sz n4) :
    Calls Tryz.prog 132 #[vHlt x, .pointer (some ⟨g, 0, none⟩)] w fun r w' => r = .returned (.bool (haltB n4 x)) ∧ Below w.heap.size w w' := by
  have b0 := Below.new1 (w := w) (.cells #[.int .i64 x.o, .int .i64 x.fr, .int .i64 x.to] 156)
  have f4 := cell_up b0 h4
  clear h4
  have B0 := Lib.hid b0
  clear b0
  go_enter Tryz.func132, Tryz.ntmps132
  go_wp2_with fail
  refine (orderIx_x _ _ _ _ _ hs4).mono ?_
  rintro r w1 ⟨rfl, rfl⟩
  cases e0 : ix x.o n4 with
  | false =>
    have hv : Hid (haltB n4 x = false) := by show _ = _; simp [haltB, e0]
    clear e0
    go_wp2_with fail
    go_ret
    exact ⟨by rw [hv.out]; try rfl, B0.out⟩
  | true =>
    have E0 := Lib.hid e0
    clear e0
    go_wp2_with fail
    refine (isDay_x _ _).mono ?_
    rintro r w1 ⟨rfl, rfl⟩
    cases e1 : dayB x.fr with
    | false =>
      have hv : Hid (haltB n4 x = false) := by show _ = _; simp [haltB, E0.out, e1]
      clear e1
      go_wp2_with fail
      go_ret
      exact ⟨by rw [hv.out]; try rfl, B0.out⟩
    | true =>
      have E1 := Lib.hid e1
      clear e1
      go_wp2_with fail
      refine (within_x _ _ _ _).mono ?_
      rintro r w1 ⟨rfl, rfl⟩
      have hv : Hid (haltB n4 x = wi x.to x.fr 100000) := by show _ = _; simp [haltB, E0.out, E1.out]
      go_wp2_with fail
      go_ret
      exact ⟨by rw [hv.out]; try rfl, B0.out⟩

set_option maxHeartbeats 3200000 in
set_option maxRecDepth 100000 in
theorem rightRte_x (g n0 c0 : Nat) (a0 : Option Addr) (x : Rte) (w : World) (h0 : w.cell? ⟨g, 0, none⟩ = some (.slice a0 n0 c0)) (hs0 : Sz n0) :
    Calls Tryz.prog 129 #[vRat x, .pointer (some ⟨g, 0, none⟩)] w fun r w' => r = .returned (.bool (rateB n0 x)) ∧ Below w.heap.size w w' := by
  have b0 := Below.new1 (w := w) (.cells #[.int .i64 x.fr, .int .i64 x.to, .int .i64 x.num, .int .i64 x.den, .int .i64 x.since] 150)
  have f0 := cell_up b0 h0
  clear h0
  have B0 := Lib.hid b0
  clear b0
  by_cases t1 : x.fr = x.to
  · have u1 : (x.fr != x.to) = false := nbf t1
    have d1 : Hid (decide (x.fr ≠ x.to) = false) := decide_eq_false (fun h => h t1)
    clear t1
    go_enter Tryz.func129, Tryz.ntmps129
    go_wp2_with fail
    refine (strIx_x _ _ _ _ _ hs0).mono ?_
    rintro r w1 ⟨rfl, rfl⟩
    cases e0 : ix x.fr n0 with
    | false =>
      have hv : Hid (rateB n0 x = false) := by show _ = _; simp [rateB, d1.out, e0]
      clear e0
      go_wp2_with fail
      go_ret
      exact ⟨by rw [hv.out]; try rfl, B0.out⟩
    | true =>
      have E0 := Lib.hid e0
      clear e0
      go_wp2_with fail
      refine (strIx_x _ _ _ _ _ hs0).mono ?_
      rintro r w1 ⟨rfl, rfl⟩
      cases e1 : ix x.to n0 with
      | false =>
        have hv : Hid (rateB n0 x = false) := by show _ = _; simp [rateB, d1.out, E0.out, e1]
        clear e1
        go_wp2_with fail
        go_ret
        exact ⟨by rw [hv.out]; try rfl, B0.out⟩
      | true =>
        have hv : Hid (rateB n0 x = false) := by show _ = _; simp [rateB, d1.out, E0.out, e1]
        clear e1
        go_wp2_with fail
        go_ret
        exact ⟨by rw [hv.out]; try rfl, B0.out⟩
  · have u1 : (x.fr != x.to) = true := nbt t1
    have d1 : Hid (decide (x.fr ≠ x.to) = true) := decide_eq_true t1
    clear t1
    go_enter Tryz.func129, Tryz.ntmps129
    go_wp2_with fail
    refine (strIx_x _ _ _ _ _ hs0).mono ?_
    rintro r w1 ⟨rfl, rfl⟩
    cases e0 : ix x.fr n0 with
    | false =>
      have hv : Hid (rateB n0 x = false) := by show _ = _; simp [rateB, d1.out, e0]
      clear e0
      go_wp2_with fail
      go_ret
      exact ⟨by rw [hv.out]; try rfl, B0.out⟩
    | true =>
      have E0 := Lib.hid e0
      clear e0
      go_wp2_with fail
      refine (strIx_x _ _ _ _ _ hs0).mono ?_
      rintro r w1 ⟨rfl, rfl⟩
      cases e1 : ix x.to n0 with
      | false =>
        have hv : Hid (rateB n0 x = false) := by show _ = _; simp [rateB, d1.out, E0.out, e1]
        clear e1
        go_wp2_with fail
        go_ret
        exact ⟨by rw [hv.out]; try rfl, B0.out⟩
      | true =>
        have E1 := Lib.hid e1
        clear e1
        go_wp2_with fail
        refine (within_x _ _ _ _).mono ?_
        rintro r w1 ⟨rfl, rfl⟩
        cases e2 : wi x.num 1 1073741824 with
        | false =>
          have hv : Hid (rateB n0 x = false) := by show _ = _; simp [rateB, d1.out, E0.out, E1.out, e2]
          clear e2
          go_wp2_with fail
          go_ret
          exact ⟨by rw [hv.out]; try rfl, B0.out⟩
        | true =>
          have E2 := Lib.hid e2
          clear e2
          go_wp2_with fail
          refine (within_x _ _ _ _).mono ?_
          rintro r w1 ⟨rfl, rfl⟩
          cases e3 : wi x.den 1 1073741824 with
          | false =>
            have hv : Hid (rateB n0 x = false) := by show _ = _; simp [rateB, d1.out, E0.out, E1.out, E2.out, e3]
            clear e3
            go_wp2_with fail
            go_ret
            exact ⟨by rw [hv.out]; try rfl, B0.out⟩
          | true =>
            have E3 := Lib.hid e3
            clear e3
            go_wp2_with fail
            refine (isDay_x _ _).mono ?_
            rintro r w1 ⟨rfl, rfl⟩
            have hv : Hid (rateB n0 x = dayB x.since) := by show _ = _; simp [rateB, d1.out, E0.out, E1.out, E2.out, E3.out]
            go_wp2_with fail
            go_ret
            exact ⟨by rw [hv.out]; try rfl, B0.out⟩

set_option maxRecDepth 100000 in
theorem namelessInt_x (a : Option Addr) (i cap p : Nat) (x : Int) (ok : Bool) (w : World) (hp : w.cell? ⟨p, 0, none⟩ = some (.func (.func 109) #[] #[]))
    (hR : ∀ w1, Below w.heap.size w w1 → Calls Tryz.prog 109 #[vGrp x] w1 fun r w' => r = .returned (.bool ok) ∧ Below w1.heap.size w1 w') :
    Calls Tryz.prog 159 #[.slice a i cap, vGrp x, .pointer (some ⟨p, 0, none⟩)] w fun r w' => r = .returned (.int .i64 (if ok = true then 0 else 1)) ∧ Below w.heap.size w w' := by
  have b0 := Below.new1 (w := w) (.cells #[.int .i64 x] 81)
  have hp0 := cell_up b0 hp
  have HR := Lib.hid hR
  have B0 := Lib.hid b0
  clear hp b0 hR
  go_enter Tryz.func159, Tryz.ntmps159
  go_wp2_with fail
  refine (HR.out _ B0.out).mono ?_
  rintro r w1 ⟨rfl, b1⟩
  have B1 := Lib.hid (chain B0.out b1)
  clear b1 HR
  cases ok with
  | false =>
    go_wp2_with fail
    go_ret
    exact ⟨rfl, B1.out⟩
  | true =>
    go_wp2_with fail
    go_ret
    exact ⟨rfl, B1.out⟩

set_option maxRecDepth 100000 in
theorem namelessRte_x (a : Option Addr) (i cap p g : Nat) (x : Rte) (ok : Bool) (w : World) (hp : w.cell? ⟨p, 0, none⟩ = some (.func (.func 129) #[] #[.pointer (some ⟨g, 0, none⟩)]))
    (hR : ∀ w1, Below w.heap.size w w1 → Calls Tryz.prog 129 #[vRat x, .pointer (some ⟨g, 0, none⟩)] w1 fun r w' => r = .returned (.bool ok) ∧ Below w1.heap.size w1 w') :
    Calls Tryz.prog 164 #[.slice a i cap, vRat x, .pointer (some ⟨p, 0, none⟩)] w fun r w' => r = .returned (.int .i64 (if ok = true then 0 else 1)) ∧ Below w.heap.size w w' := by
  have b0 := Below.new1 (w := w) (.cells #[.int .i64 x.fr, .int .i64 x.to, .int .i64 x.num, .int .i64 x.den, .int .i64 x.since] 150)
  have hp0 := cell_up b0 hp
  have HR := Lib.hid hR
  have B0 := Lib.hid b0
  clear hp b0 hR
  go_enter Tryz.func164, Tryz.ntmps164
  go_wp2_with fail
  refine (HR.out _ B0.out).mono ?_
  rintro r w1 ⟨rfl, b1⟩
  have B1 := Lib.hid (chain B0.out b1)
  clear b1 HR
  cases ok with
  | false =>
    go_wp2_with fail
    go_ret
    exact ⟨rfl, B1.out⟩
  | true =>
    go_wp2_with fail
    go_ret
    exact ⟨rfl, B1.out⟩

set_option maxRecDepth 100000 in
theorem namelessHlt_x (a : Option Addr) (i cap p g : Nat) (x : Hlt) (ok : Bool) (w : World) (hp : w.cell? ⟨p, 0, none⟩ = some (.func (.func 132) #[] #[.pointer (some ⟨g, 0, none⟩)]))
    (hR : ∀ w1, Below w.heap.size w w1 → Calls Tryz.prog 132 #[vHlt x, .pointer (some ⟨g, 0, none⟩)] w1 fun r w' => r = .returned (.bool ok) ∧ Below w1.heap.size w1 w') :
    Calls Tryz.prog 165 #[.slice a i cap, vHlt x, .pointer (some ⟨p, 0, none⟩)] w fun r w' => r = .returned (.int .i64 (if ok = true then 0 else 1)) ∧ Below w.heap.size w w' := by
  have b0 := Below.new1 (w := w) (.cells #[.int .i64 x.o, .int .i64 x.fr, .int .i64 x.to] 156)
  have hp0 := cell_up b0 hp
  have HR := Lib.hid hR
  have B0 := Lib.hid b0
  clear hp b0 hR
  go_enter Tryz.func165, Tryz.ntmps165
  go_wp2_with fail
  refine (HR.out _ B0.out).mono ?_
  rintro r w1 ⟨rfl, b1⟩
  have B1 := Lib.hid (chain B0.out b1)
  clear b1 HR
  cases ok with
  | false =>
    go_wp2_with fail
    go_ret
    exact ⟨rfl, B1.out⟩
  | true =>
    go_wp2_with fail
    go_ret
    exact ⟨rfl, B1.out⟩

/-- a usance in a box -/
structure UBox (w : World) (g : Nat) (u : Usn) : Prop where
  c0 : w.cell? ⟨g, 0, none⟩ = some (.int .i64 u.fr)
  c1 : w.cell? ⟨g, 1, none⟩ = some (.int .i64 u.to)
theorem UBox.next {w w' : World} {g : Nat} {u : Usn} (h : UBox w g u) (hb : Below w.heap.size w w') : UBox w' g u := ⟨cell_up hb h.c0, cell_up hb h.c1⟩
theorem UBox.new (w : World) (u : Usn) : UBox (w.alloc (.cells #[.int .i64 u.fr, .int .i64 u.to, .int .i64 u.days] 97)) w.heap.size u := by
  constructor <;> rw [World.cell?_alloc_new] <;> rfl
theorem same_x (g : Nat) (x u : Usn) (w : World) (hg : UBox w g u) :
    Calls Tryz.prog 126 #[vUsn x, .pointer (some ⟨g, 0, none⟩)] w fun r w' => r = .returned (.bool (sameU x u)) ∧ Below w.heap.size w w' := by
  have b0 := Below.new1 (w := w) (.cells #[.int .i64 x.fr, .int .i64 x.to, .int .i64 x.days] 97)
  obtain ⟨f0, f1⟩ := hg.next b0
  clear hg b0
  by_cases t1 : x.fr = u.fr
  · have u1 : (x.fr == u.fr) = true := bt t1
    by_cases t2 : x.to = u.to
    · have u2 : (x.to == u.to) = true := bt t2
      have hv : Hid (sameU x u = true) := by show _ = _; simp [sameU, t1, t2]
      clear t1 t2
      go_enter Tryz.func126, Tryz.ntmps126
      go_wp2_with fail
      go_ret
      exact ⟨by rw [hv.out]; try rfl, Below.new1 _⟩
    · have u2 : (x.to == u.to) = false := bf t2
      have hv : Hid (sameU x u = false) := by show _ = _; simp [sameU, t2]
      clear t1 t2
      go_enter Tryz.func126, Tryz.ntmps126
      go_wp2_with fail
      go_ret
      exact ⟨by rw [hv.out]; try rfl, Below.new1 _⟩
  · have u1 : (x.fr == u.fr) = false := bf t1
    have hv : Hid (sameU x u = false) := by show _ = _; simp [sameU, t1]
    clear t1
    go_enter Tryz.func126, Tryz.ntmps126
    go_wp2_with fail
    go_ret
    exact ⟨by rw [hv.out]; try rfl, Below.new1 _⟩
def URel (l : List Usn) (u : Usn) (w : World) (i : Value) (wr : World) : Prop := ∃ k : Nat, k ≤ l.length ∧ i = .int .i64 (k : Int) ∧ (∀ (j : Nat) (x : Usn), j < k → l[j]? = some x → sameU x u = false) ∧ Below w.heap.size w wr
set_option maxHeartbeats 1600000 in
theorem indexU_x (v : Value) (l : List Usn) (g : Nat) (u : Usn) (w : World) (h : UAt w v l) (hl : Sz l.length) (hg : UBox w g u) :
    Calls Tryz.prog 163 #[v, .func (.func 126) #[] #[.pointer (some ⟨g, 0, none⟩)]] w fun r w' => (∃ n : Int, r = .returned (.int .i64 n) ∧ decide (0 ≤ n) = l.any (fun x => sameU x u)) ∧ Below w.heap.size w w' := by
  obtain ⟨a, cap, rfl⟩ := h.shape
  have HL := Lib.hid h
  have HG := Lib.hid hg
  clear h hg
  go_enter Tryz.func163, Tryz.ntmps163
  go_wp2_with fail
  go_loopw [8] (fun i wr => URel l u w i wr) (fun i _ => l.length - (intOf i).toNat)
  case atStart => exact ⟨0, Nat.zero_le _, rfl, fun j x hj => by omega, Below.refl _ _⟩
  case round =>
    obtain ⟨k, hk, rfl, hall, hbw⟩ := hrel
    have Ha := Lib.hid hall
    have HB := Lib.hid hbw
    have k0 : (0 : Int) ≤ (k : Int) := by omega
    clear hall hbw
    by_cases c : k < l.length
    case neg =>
      have c0 : ¬ (k : Int) < (l.length : Int) := by omega
      have hv : Hid (l.any (fun x => sameU x u) = false) := by
        show _ = _
        rw [List.any_eq_false]
        intro x hx
        obtain ⟨j, hj⟩ := List.getElem?_of_mem hx
        have hlt := (List.getElem?_eq_some_iff.1 hj).1
        simpa using Ha.out j x (by omega) hj
      go_wp2_with fail
      go_ret
      exact ⟨⟨-1, rfl, by rw [hv.out]; decide⟩, HB.out⟩
    case pos =>
      have c0 : (k : Int) < (l.length : Int) := by omega
      obtain ⟨x, hx⟩ : ∃ x, l[k]? = some x := ⟨_, List.getElem?_eq_getElem c⟩
      obtain ⟨b, off, rfl, hb, hc⟩ := (HL.out.next HB.out).at hx
      have t0 : wr.cell? ⟨b, off + k * 3, none⟩ = some (.int .i64 x.fr) := hc 0 _ rfl
      have t1 : wr.cell? ⟨b, off + k * 3 + 1, none⟩ = some (.int .i64 x.to) := hc 1 _ rfl
      have t2 : wr.cell? ⟨b, off + k * 3 + 2, none⟩ = some (.int .i64 x.days) := hc 2 _ rfl
      have HX := Lib.hid hx
      clear hx hc
      go_wp2_with fail
      refine (same_x g x u _ (HG.out.next HB.out)).mono ?_
      rintro r w1 ⟨rfl, b1⟩
      have B1 := Lib.hid (chain HB.out b1)
      clear b1
      cases e : sameU x u with
      | true =>
        have hv : Hid (l.any (fun x => sameU x u) = true) := List.any_eq_true.2 ⟨x, List.mem_of_getElem? HX.out, e⟩
        clear e
        go_wp2_with fail
        go_ret
        exact ⟨⟨_, rfl, by rw [hv.out]; exact decide_eq_true k0⟩, B1.out⟩
      | false =>
        have HN : Hid (∀ (j : Nat) (y : Usn), j < k + 1 → l[j]? = some y → sameU y u = false) := by
          intro j y hj hy
          by_cases cj : j = k
          · subst cj
            have := HX.out
            rw [hy] at this
            simp only [Option.some.injEq] at this
            subst this
            exact e
          · exact Ha.out j y (by omega) hy
        clear e
        go_wp2_with fail
        go_roundw
        case rel => exact ⟨k + 1, by omega, by congr 1, HN.out, B1.out⟩
        case measure => simp [intOf]; omega
theorem containsU_x (v : Value) (l : List Usn) (g : Nat) (u : Usn) (w : World) (h : UAt w v l) (hl : Sz l.length) (hg : UBox w g u) :
    Calls Tryz.prog 127 #[v, .func (.func 126) #[] #[.pointer (some ⟨g, 0, none⟩)]] w fun r w' => r = .returned (.bool (l.any (fun x => sameU x u))) ∧ Below w.heap.size w w' := by
  go_enter Tryz.func127, Tryz.ntmps127
  go_wp2_with fail
  refine (indexU_x v l g u _ h hl hg).mono ?_
  rintro r w1 ⟨⟨n, rfl, hn⟩, b1⟩
  have B1 := Lib.hid b1
  have HN := Lib.hid hn
  clear b1 hn h hg
  go_wp2_with fail
  go_ret
  exact ⟨ret_b HN.out, B1.out⟩
def usEv (l : List Usn) (u : Usn) (ok : Bool) : Int := if ok = true then (if l.any (fun x => sameU x u) = true then 5 else 0) else 1
set_option maxRecDepth 100000 in
theorem checkU_x (a : Option Addr) (i cap p g n1 c1 : Nat) (a1 : Option Addr) (l : List Usn) (u : Usn) (w : World) (hp : w.cell? ⟨p, 0, none⟩ = some (.func (.func 124) #[] #[.pointer (some ⟨g, 0, none⟩)])) (h1 : w.cell? ⟨g, 1, none⟩ = some (.slice a1 n1 c1)) (hs1 : Sz n1) (h : UAt w (.slice a i cap) l) (hl : Sz l.length) :
    Calls Tryz.prog 125 #[.slice a i cap, vUsn u, .pointer (some ⟨p, 0, none⟩)] w fun r w' => r = .returned (.int .i64 (usEv l u (usB n1 u))) ∧ Below w.heap.size w w' := by
  have b0 := Below.new1 (w := w) (.cells #[.int .i64 u.fr, .int .i64 u.to, .int .i64 u.days] 97)
  have hp0 := cell_up b0 hp
  have hg0 := cell_up b0 h1
  have HU := Lib.hid (UBox.new w u)
  have HL := Lib.hid (h.next b0)
  have B0 := Lib.hid b0
  clear hp b0 h h1
  go_enter Tryz.func125, Tryz.ntmps125
  go_wp2_with fail
  refine (rightUsn_x g n1 c1 a1 u _ hg0 hs1).mono ?_
  rintro r w1 ⟨rfl, b1⟩
  have B1 := Lib.hid (chain B0.out b1)
  have HU1 := Lib.hid (HU.out.next b1)
  have HL1 := Lib.hid (HL.out.next b1)
  clear b1 HU HL
  cases e : usB n1 u with
  | false =>
    have hv : Hid (usEv l u (usB n1 u) = 1) := by show _ = _; simp [usEv, e]
    clear e
    go_wp2_with fail
    go_ret
    exact ⟨by rw [hv.out]; try rfl, B1.out⟩
  | true =>
    have E0 := Lib.hid e
    clear e
    go_wp2_with fail
    refine (containsU_x _ l _ u _ HL1.out hl HU1.out).mono ?_
    rintro r w2 ⟨rfl, b2⟩
    have B2 := Lib.hid (chain B1.out b2)
    clear b2
    cases e : l.any (fun x => sameU x u) with
    | false =>
      have hv : Hid (usEv l u (usB n1 u) = 0) := by show _ = _; simp [usEv, e, E0.out]
      clear e
      go_wp2_with fail
      go_ret
      exact ⟨by rw [hv.out]; try rfl, B2.out⟩
    | true =>
      have hv : Hid (usEv l u (usB n1 u) = 5) := by show _ = _; simp [usEv, e, E0.out]
      clear e
      go_wp2_with fail
      go_ret
      exact ⟨by rw [hv.out]; try rfl, B2.out⟩

end Go.Proofs.YtcjakgpmompaiaaGreatDoor
