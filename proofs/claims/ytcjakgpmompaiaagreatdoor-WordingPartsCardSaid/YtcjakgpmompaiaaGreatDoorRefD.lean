/-
  The reference: RightOrder.
-/
import Derived.Test.YtcjakgpmompaiaaGreatDoorRefC
namespace Go.Proofs.YtcjakgpmompaiaaGreatDoor
open Go.RowKit Rl

def ORel (n : Nat) (l : List Int) (P : Nat → Prop) (W : World) (i : Value) (wr : World) : Prop := ∃ k : Nat, k ≤ n ∧ i = .int .i64 (k : Int) ∧ (∀ i, i < k → quB (l.getD i 0) = true ∧ (0 < i → l.getD (i - 1) 0 < l.getD i 0)) ∧ P k ∧ Below W.heap.size W wr
theorem map_get {T : Type} {f : T → Int} {l : List T} {k : Nat} {x : T} (h : l[k]? = some x) : (l.map f)[k]? = some (f x) := by rw [List.getElem?_map, h]; rfl
theorem getD_map {T : Type} {f : T → Int} {l : List T} {k : Nat} {x : T} (h : l[k]? = some x) : (l.map f).getD k 0 = f x := by rw [List.getD_eq_getElem?_getD, map_get h]; rfl
theorem all_step {l : List Chc} {k : Nat} {c : Chc} (h : ∀ (j : Nat) (y : Chc), j < k → l[j]? = some y → chB y = true) (hx : l[k]? = some c) (hc : chB c = true) : ∀ (j : Nat) (y : Chc), j < k + 1 → l[j]? = some y → chB y = true := by
  intro j y hj hy
  by_cases cj : j = k
  · subst cj
    rw [hx] at hy
    simp only [Option.some.injEq] at hy
    subst hy
    exact hc
  · exact h j y (by omega) hy
set_option maxHeartbeats 6400000 in
set_option maxRecDepth 100000 in
theorem RightOrder_x (x : Odr) (w : World) (hc : InO w x) (h1 : Sz x.ch.length) (h2 : Sz x.ru.length) :
    Calls Tryz.prog 138 #[vOdr x] w fun r w' => r = .returned (.bool (orderB x)) ∧ Below w.heap.size w w' := by
  have b0 := Below.new1 (w := w) (.cells #[.string x.nm, .bool x.acc, .slice x.a2 x.ch.length x.k2, .slice x.a3 x.ru.length x.k3] 85)
  obtain ⟨hch, hru⟩ := hc.next b0
  have HCH := Lib.hid hch
  have HRU := Lib.hid hru
  have B0 := Lib.hid b0
  clear hc hch hru b0
  have x2 : (w.alloc (.cells #[.string x.nm, .bool x.acc, .slice x.a2 x.ch.length x.k2, .slice x.a3 x.ru.length x.k3] 85)).cell? ⟨w.heap.size, 2, none⟩ = some (.slice x.a2 x.ch.length x.k2) := by rw [World.cell?_alloc_new]; rfl
  have x3 : (w.alloc (.cells #[.string x.nm, .bool x.acc, .slice x.a2 x.ch.length x.k2, .slice x.a3 x.ru.length x.k3] 85)).cell? ⟨w.heap.size, 3, none⟩ = some (.slice x.a3 x.ru.length x.k3) := by rw [World.cell?_alloc_new]; rfl
  have X2 := Lib.hid x2
  have X3 := Lib.hid x3
  clear x2 x3
  go_enter Tryz.func138, Tryz.ntmps138
  go_wp2_with fail
  go_loopw [3] (fun i wr => ORel x.ch.length (x.ch.map Chc.ask) (fun k => ∀ (j : Nat) (c : Chc), j < k → x.ch[j]? = some c → chB c = true) (w.alloc (.cells #[.string x.nm, .bool x.acc, .slice x.a2 x.ch.length x.k2, .slice x.a3 x.ru.length x.k3] 85)) i wr) (fun i _ => x.ch.length - (intOf i).toNat)
  case atStart => exact ⟨0, Nat.zero_le _, rfl, fun j hj => by omega, fun j c hj => by omega, Below.refl _ _⟩
  case round =>
    obtain ⟨k, hk, rfl, hall, hp, hbw⟩ := hrel
    have y2 := cell_up hbw X2.out
    have y3 := cell_up hbw X3.out
    have HP := Lib.hid hp
    have Ha := Lib.hid hall
    have HB := Lib.hid hbw
    have k0 : (0 : Int) ≤ (k : Int) := by omega
    clear hall hbw hp
    by_cases cl : k < x.ch.length
    case neg =>
      have kc : ¬ (k : Int) < (x.ch.length : Int) := by omega
      obtain rfl : k = x.ch.length := by omega
      obtain ⟨wA, rfl⟩ : ∃ wA, wA = wr := ⟨_, rfl⟩
      have HR : Hid (risesB quB (x.ch.map Chc.ask) = true) := rises_iff.2 (fun i h => Ha.out i (by rw [List.length_map] at h; exact h))
      have HA2 : Hid (x.ch.all chB = true) := by
        show _ = _
        rw [List.all_eq_true]
        intro y hy
        obtain ⟨j, hj⟩ := List.getElem?_of_mem hy
        exact HP.out j y (List.getElem?_eq_some_iff.1 hj).1 hj
      have HR1 := Lib.hid HR.out
      have B1 := Lib.hid (chain B0.out HB.out)
      have X3b := Lib.hid y3
      have HRU2 := Lib.hid (HRU.out.next HB.out)
      clear HR HP Ha HB X3 X2 HRU HCH
      have X3 := Lib.hid X3b.out
      clear X3b
      go_wp2_with fail
      go_loopw [4] (fun i wr => ORel x.ru.length (x.ru.map Rul.ask) (fun _ => True) wA i wr) (fun i _ => x.ru.length - (intOf i).toNat)
      case atStart => exact ⟨0, Nat.zero_le _, rfl, fun j hj => by omega, trivial, Below.refl _ _⟩
      case round =>
        obtain ⟨k, hk, rfl, hall, hp, hbw⟩ := hrel
        have y3 := cell_up hbw X3.out

        have HP := Lib.hid hp
        have Ha := Lib.hid hall
        have HB := Lib.hid hbw
        have k0 : (0 : Int) ≤ (k : Int) := by omega
        clear hall hbw hp
        by_cases cl : k < x.ru.length
        case neg =>
          have kc : ¬ (k : Int) < (x.ru.length : Int) := by omega
          obtain rfl : k = x.ru.length := by omega
          obtain ⟨wA, rfl⟩ : ∃ wA, wA = wr := ⟨_, rfl⟩
          have HR : Hid (risesB quB (x.ru.map Rul.ask) = true) := rises_iff.2 (fun i h => Ha.out i (by rw [List.length_map] at h; exact h))
          have hall2 : x.ch.all chB = true := HA2.out
          have hv : Hid (orderB x = true) := by show _ = _; simp [orderB, hall2, HR1.out, HR.out]
          clear hall2
          go_wp2_with fail
          go_ret
          exact ⟨by rw [hv.out]; try rfl, chain B1.out HB.out⟩
        case pos =>
          have kc : (k : Int) < (x.ru.length : Int) := by omega
          have HWL := HRU2.out.next HB.out
          obtain ⟨c, hx⟩ : ∃ c, x.ru[k]? = some c := ⟨_, List.getElem?_eq_getElem cl⟩
          by_cases kz : k = 0
          · subst kz
            obtain ⟨b, off, ea, hb, hc⟩ := HWL.at hx
            rw [ea] at y3
            try rw [ea]
            have t0 : wr.cell? ⟨b, off + 0 * 4, none⟩ = some (.int .i64 c.ask) := hc 0 _ rfl
            have t1 : wr.cell? ⟨b, off + 0 * 4 + 1, none⟩ = some (.int .i64 c.op) := hc 1 _ rfl
            have t2 : wr.cell? ⟨b, off + 0 * 4 + 2, none⟩ = some (.int .i64 c.n) := hc 2 _ rfl
            have t3 : wr.cell? ⟨b, off + 0 * 4 + 3, none⟩ = some (.slice c.a c.m c.k) := hc 3 _ rfl
            rw [Nat.zero_mul, Nat.add_zero] at t0 t1 t2 t3
            have HX := Lib.hid hx
            clear hx hc HWL
            go_wp2_with fail
            refine (Within_x c.ask 0 21 _).mono ?_
            rintro r w1 ⟨rfl, rfl⟩
            cases hq : wi c.ask 0 21 with
            | false =>
              have hF : risesB quB (x.ru.map Rul.ask) = false := rises_not (map_get HX.out) (fun h => by have := h.1; unfold quB at this; rw [hq] at this; cases this)
              have hv : Hid (orderB x = false) := by show _ = _; simp [orderB, hF]
              clear hF hq
              go_wp2_with fail
              go_ret
              exact ⟨by rw [hv.out]; try rfl, chain B1.out HB.out⟩
            | true =>
              have HQ : Hid (quB c.ask = true) := hq
              clear hq
              have HN := Lib.hid (rises_next Ha.out (map_get HX.out) HQ.out (fun h => by omega))

              go_wp2_with fail
              go_quiet (fail)
              go_wp2_with fail
              go_roundw
              case rel => exact ⟨0 + 1, by omega, by congr 1, HN.out, trivial, by first | exact HB.out | exact below_drewN HB.out _ | (rw [← ea]; exact below_drewN HB.out _)⟩
              case measure => simp [intOf]; omega
          · obtain ⟨m, hkm⟩ : ∃ m, k = m + 1 := ⟨k - 1, by omega⟩
            have cm : m < x.ru.length := by omega
            obtain ⟨z, hz⟩ : ∃ z, x.ru[m]? = some z := ⟨_, List.getElem?_eq_getElem cm⟩
            obtain ⟨b, off, ea, hb, hc⟩ := HWL.at hx
            have t0 : wr.cell? ⟨b, off + k * 4, none⟩ = some (.int .i64 c.ask) := hc 0 _ rfl
            have t1 : wr.cell? ⟨b, off + k * 4 + 1, none⟩ = some (.int .i64 c.op) := hc 1 _ rfl
            have t2 : wr.cell? ⟨b, off + k * 4 + 2, none⟩ = some (.int .i64 c.n) := hc 2 _ rfl
            have t3 : wr.cell? ⟨b, off + k * 4 + 3, none⟩ = some (.slice c.a c.m c.k) := hc 3 _ rfl
            obtain ⟨b2, off2, eb, -, hc2⟩ := HWL.at hz
            rw [ea] at eb
            simp only [Option.some.injEq, Addr.mk.injEq, and_true] at eb
            obtain ⟨rfl, rfl⟩ := eb
            have s0 : wr.cell? ⟨b, off + m * 4, none⟩ = some (.int .i64 z.ask) := hc2 0 _ rfl
            rw [ea] at y3
            try rw [ea]
            have e0 : (k : Int) - 1 = (m : Int) := by omega
            have m0 : (0 : Int) ≤ (m : Int) := by omega
            have m1 : (m : Int) < (x.ru.length : Int) := by omega
            have m2 : 0 < (k : Int) := by omega
            have dk : decide (0 < k) = true := decide_eq_true (by omega)
            have hzd : (x.ru.map Rul.ask).getD (k - 1) 0 = z.ask := by rw [show k - 1 = m by omega]; exact getD_map hz
            have HZ := Lib.hid hzd
            have HX := Lib.hid hx
            have hkm' := Lib.hid hkm
            clear hx hz hzd hkm kz hc hc2 HWL
            go_wp2_with fail
            refine (Within_x c.ask 0 21 _).mono ?_
            rintro r w1 ⟨rfl, rfl⟩
            cases hq : wi c.ask 0 21 with
            | false =>
              have hF : risesB quB (x.ru.map Rul.ask) = false := rises_not (map_get HX.out) (fun h => by have := h.1; unfold quB at this; rw [hq] at this; cases this)
              have hv : Hid (orderB x = false) := by show _ = _; simp [orderB, hF]
              clear hF hq
              go_wp2_with fail
              go_ret
              exact ⟨by rw [hv.out]; try rfl, chain B1.out HB.out⟩
            | true =>
              have HQ : Hid (quB c.ask = true) := hq
              clear hq
              by_cases g : z.ask < c.ask
              · have g' : ¬ c.ask ≤ z.ask := by omega
                have d1 : decide (c.ask ≤ z.ask) = false := decide_eq_false g'
                have d2 : decide (z.ask ≥ c.ask) = false := decide_eq_false g'
                have HN := Lib.hid (rises_next Ha.out (map_get HX.out) HQ.out (fun _ => by rw [HZ.out]; exact g))

                clear g
                go_wp2_with fail
                go_quiet (fail)
                go_wp2_with fail
                go_roundw
                case rel => exact ⟨k + 1, by omega, by congr 1, HN.out, trivial, by first | exact HB.out | exact below_drewN HB.out _ | (rw [← ea]; exact below_drewN HB.out _)⟩
                case measure => simp [intOf]; omega
              · have g' : c.ask ≤ z.ask := by omega
                have d1 : decide (c.ask ≤ z.ask) = true := decide_eq_true g'
                have d2 : decide (z.ask ≥ c.ask) = true := decide_eq_true g'
                have hF : risesB quB (x.ru.map Rul.ask) = false := rises_not (map_get HX.out) (fun h => by have := h.2 (by have := hkm'.out; omega); rw [HZ.out] at this; omega)
                have hv : Hid (orderB x = false) := by show _ = _; simp [orderB, hF]
                clear hF g
                go_wp2_with fail
                go_quiet (fail)
                go_wp2_with fail
                go_ret
                exact ⟨by rw [hv.out]; try rfl, chain B1.out (by first | exact HB.out | exact below_drewN HB.out _)⟩
    case pos =>
      have kc : (k : Int) < (x.ch.length : Int) := by omega
      have HWL := HCH.out.next HB.out
      obtain ⟨c, hx⟩ : ∃ c, x.ch[k]? = some c := ⟨_, List.getElem?_eq_getElem cl⟩
      by_cases kz : k = 0
      · subst kz
        obtain ⟨b, off, ea, hb, hc⟩ := HWL.at hx
        rw [ea] at y2
        try rw [ea]
        have t0 : wr.cell? ⟨b, off + 0 * 3, none⟩ = some (.int .i64 c.ask) := hc 0 _ rfl
        have t1 : wr.cell? ⟨b, off + 0 * 3 + 1, none⟩ = some (.int .i64 c.how) := hc 1 _ rfl
        have t2 : wr.cell? ⟨b, off + 0 * 3 + 2, none⟩ = some (.bool c.whole) := hc 2 _ rfl
        rw [Nat.zero_mul, Nat.add_zero] at t0 t1 t2
        have HX := Lib.hid hx
        clear hx hc HWL
        go_wp2_with fail
        refine (Within_x c.ask 0 21 _).mono ?_
        rintro r w1 ⟨rfl, rfl⟩
        cases hq : wi c.ask 0 21 with
        | false =>
          have hF : risesB quB (x.ch.map Chc.ask) = false := rises_not (map_get HX.out) (fun h => by have := h.1; unfold quB at this; rw [hq] at this; cases this)
          have hv : Hid (orderB x = false) := by show _ = _; simp [orderB, hF]
          clear hF hq
          go_wp2_with fail
          go_ret
          exact ⟨by rw [hv.out]; try rfl, chain B0.out HB.out⟩
        | true =>
          have HQ : Hid (quB c.ask = true) := hq
          clear hq
          go_wp2_with fail
          refine (Within_x c.how 0 4 _).mono ?_
          rintro r w1 ⟨rfl, rfl⟩
          cases hw : wi c.how 0 4 with
          | false =>
            have hF : x.ch.all chB = false := List.all_eq_false.2 ⟨c, List.mem_of_getElem? HX.out, by show ¬ wi c.how 0 4 = true; rw [hw]; decide⟩
            have hv : Hid (orderB x = false) := by show _ = _; simp [orderB, hF]
            clear hF hw
            go_wp2_with fail
            go_ret
            exact ⟨by rw [hv.out]; try rfl, chain B0.out HB.out⟩
          | true =>
            have HW : Hid (chB c = true) := hw
            clear hw
            have HN := Lib.hid (rises_next Ha.out (map_get HX.out) HQ.out (fun h => by omega))
            have HC := Lib.hid (all_step HP.out HX.out HW.out)
            go_wp2_with fail
            go_quiet (fail)
            go_wp2_with fail
            go_roundw
            case rel => exact ⟨0 + 1, by omega, by congr 1, HN.out, HC.out, by first | exact HB.out | exact below_drewN HB.out _ | (rw [← ea]; exact below_drewN HB.out _)⟩
            case measure => simp [intOf]; omega
      · obtain ⟨m, hkm⟩ : ∃ m, k = m + 1 := ⟨k - 1, by omega⟩
        have cm : m < x.ch.length := by omega
        obtain ⟨z, hz⟩ : ∃ z, x.ch[m]? = some z := ⟨_, List.getElem?_eq_getElem cm⟩
        obtain ⟨b, off, ea, hb, hc⟩ := HWL.at hx
        have t0 : wr.cell? ⟨b, off + k * 3, none⟩ = some (.int .i64 c.ask) := hc 0 _ rfl
        have t1 : wr.cell? ⟨b, off + k * 3 + 1, none⟩ = some (.int .i64 c.how) := hc 1 _ rfl
        have t2 : wr.cell? ⟨b, off + k * 3 + 2, none⟩ = some (.bool c.whole) := hc 2 _ rfl
        obtain ⟨b2, off2, eb, -, hc2⟩ := HWL.at hz
        rw [ea] at eb
        simp only [Option.some.injEq, Addr.mk.injEq, and_true] at eb
        obtain ⟨rfl, rfl⟩ := eb
        have s0 : wr.cell? ⟨b, off + m * 3, none⟩ = some (.int .i64 z.ask) := hc2 0 _ rfl
        rw [ea] at y2
        try rw [ea]
        have e0 : (k : Int) - 1 = (m : Int) := by omega
        have m0 : (0 : Int) ≤ (m : Int) := by omega
        have m1 : (m : Int) < (x.ch.length : Int) := by omega
        have m2 : 0 < (k : Int) := by omega
        have dk : decide (0 < k) = true := decide_eq_true (by omega)
        have hzd : (x.ch.map Chc.ask).getD (k - 1) 0 = z.ask := by rw [show k - 1 = m by omega]; exact getD_map hz
        have HZ := Lib.hid hzd
        have HX := Lib.hid hx
        have hkm' := Lib.hid hkm
        clear hx hz hzd hkm kz hc hc2 HWL
        go_wp2_with fail
        refine (Within_x c.ask 0 21 _).mono ?_
        rintro r w1 ⟨rfl, rfl⟩
        cases hq : wi c.ask 0 21 with
        | false =>
          have hF : risesB quB (x.ch.map Chc.ask) = false := rises_not (map_get HX.out) (fun h => by have := h.1; unfold quB at this; rw [hq] at this; cases this)
          have hv : Hid (orderB x = false) := by show _ = _; simp [orderB, hF]
          clear hF hq
          go_wp2_with fail
          go_ret
          exact ⟨by rw [hv.out]; try rfl, chain B0.out HB.out⟩
        | true =>
          have HQ : Hid (quB c.ask = true) := hq
          clear hq
          go_wp2_with fail
          refine (Within_x c.how 0 4 _).mono ?_
          rintro r w1 ⟨rfl, rfl⟩
          cases hw : wi c.how 0 4 with
          | false =>
            have hF : x.ch.all chB = false := List.all_eq_false.2 ⟨c, List.mem_of_getElem? HX.out, by show ¬ wi c.how 0 4 = true; rw [hw]; decide⟩
            have hv : Hid (orderB x = false) := by show _ = _; simp [orderB, hF]
            clear hF hw
            go_wp2_with fail
            go_ret
            exact ⟨by rw [hv.out]; try rfl, chain B0.out HB.out⟩
          | true =>
            have HW : Hid (chB c = true) := hw
            clear hw
            by_cases g : z.ask < c.ask
            · have g' : ¬ c.ask ≤ z.ask := by omega
              have d1 : decide (c.ask ≤ z.ask) = false := decide_eq_false g'
              have d2 : decide (z.ask ≥ c.ask) = false := decide_eq_false g'
              have HN := Lib.hid (rises_next Ha.out (map_get HX.out) HQ.out (fun _ => by rw [HZ.out]; exact g))
              have HC := Lib.hid (all_step HP.out HX.out HW.out)
              clear g
              go_wp2_with fail
              go_quiet (fail)
              go_wp2_with fail
              go_roundw
              case rel => exact ⟨k + 1, by omega, by congr 1, HN.out, HC.out, by first | exact HB.out | exact below_drewN HB.out _ | (rw [← ea]; exact below_drewN HB.out _)⟩
              case measure => simp [intOf]; omega
            · have g' : c.ask ≤ z.ask := by omega
              have d1 : decide (c.ask ≤ z.ask) = true := decide_eq_true g'
              have d2 : decide (z.ask ≥ c.ask) = true := decide_eq_true g'
              have hF : risesB quB (x.ch.map Chc.ask) = false := rises_not (map_get HX.out) (fun h => by have := h.2 (by have := hkm'.out; omega); rw [HZ.out] at this; omega)
              have hv : Hid (orderB x = false) := by show _ = _; simp [orderB, hF]
              clear hF g
              go_wp2_with fail
              go_quiet (fail)
              go_wp2_with fail
              go_ret
              exact ⟨by rw [hv.out]; try rfl, chain B0.out (by first | exact HB.out | exact below_drewN HB.out _)⟩

end Go.Proofs.YtcjakgpmompaiaaGreatDoor
