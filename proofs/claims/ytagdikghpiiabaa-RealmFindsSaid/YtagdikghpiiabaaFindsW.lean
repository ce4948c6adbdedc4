/-
  RealmFinds: the walk.
-/
import Derived.Test.YtagdikghpiiabaaSanC
import Derived.Test.YtagdikghpiiabaaLawA
namespace Go.Proofs.Ytagdikghpiiabaa
open Go.RowKit Rl

set_option maxHeartbeats 12800000 in
set_option maxRecDepth 100000 in
theorem RealmFinds_x {a0 a1 a2 a3 a4 a5 a6 a7 : Option Addr} {c0 c1 c2 c3 c4 c5 c6 c7 : Nat} {R : Rlm} (w : World) (hr : RS w a0 a1 a2 a3 a4 a5 a6 a7 c0 c1 c2 c3 c4 c5 c6 c7 R) (hF : FitW R) :
    Calls Try.prog 4 #[.agg #[.slice a0 R.cur.length c0, .slice a1 R.cities.length c1, .slice a2 R.groups.length c2, .slice a3 R.firms.length c3, .slice a4 R.orders.length c4, .slice a5 R.usances.length c5, .slice a6 R.rates.length c6, .slice a7 R.halts.length c7]] w fun r w' => r = .returned (.bool true) ∧ Below w.heap.size w w' := by
  have HR := Lib.hid hr
  have RB0 := Lib.hid (RB.new w (a0 := a0) (a1 := a1) (a2 := a2) (a3 := a3) (a4 := a4) (a5 := a5) (a6 := a6) (a7 := a7) (c0 := c0) (c1 := c1) (c2 := c2) (c3 := c3) (c4 := c4) (c5 := c5) (c6 := c6) (c7 := c7) (R := R))
  have B0 := Lib.hid (Below.new1 (w := w) (.cells #[.slice a0 R.cur.length c0, .slice a1 R.cities.length c1, .slice a2 R.groups.length c2, .slice a3 R.firms.length c3, .slice a4 R.orders.length c4, .slice a5 R.usances.length c5, .slice a6 R.rates.length c6, .slice a7 R.halts.length c7] 31))
  clear hr
  go_enter Try.func4, Try.ntmps4
  go_wp2_with fail
  refine (sane_x _).mono ?_
  rintro r w1 ⟨rfl, b1⟩
  have B1 := Lib.hid (chain B0.out b1)
  have RB1 := Lib.hid (RB0.out.next b1)
  clear b1
  have y0 := RB1.out.b0
  have y1 := RB1.out.b1
  have y2 := RB1.out.b2
  have y3 := RB1.out.b3
  have y4 := RB1.out.b4
  have y5 := RB1.out.b5
  have y6 := RB1.out.b6
  have y7 := RB1.out.b7
  go_wp2_with fail
  refine (Few_x _ (HR.out.next B1.out) hF).mono ?_
  rintro r w2 ⟨⟨few, rfl, hfew⟩, b2⟩
  have B2 := Lib.hid (chain B1.out b2)
  have RB2 := Lib.hid (RB1.out.next b2)
  clear b2
  clear y0 y1 y2 y3 y4 y5 y6 y7
  cases few with
  | false =>
    clear hfew
    go_wp2_with fail
    go_ret
    exact ⟨rfl, B2.out⟩
  | true =>
    have hfit := hfew rfl
    have HFT := Lib.hid hfit
    clear hfew hfit
    have y0 := RB2.out.b0
    have y1 := RB2.out.b1
    have y2 := RB2.out.b2
    have y3 := RB2.out.b3
    have y4 := RB2.out.b4
    have y5 := RB2.out.b5
    have y6 := RB2.out.b6
    have y7 := RB2.out.b7
    go_wp2_with fail
    refine (Check_x _ (HR.out.next B2.out) HFT.out).mono ?_
    rintro r w3 ⟨rfl, b3⟩
    have B3 := Lib.hid (chain B2.out b3)
    have RB3 := Lib.hid (RB2.out.next b3)
    clear b3
    clear y0 y1 y2 y3 y4 y5 y6 y7
    by_cases hck : checkP R = 0
    case neg =>
      have f1 : (checkP R != 0) = true := nbt hck
      clear hck
      
      go_wp2_with fail
      go_ret
      exact ⟨rfl, B3.out⟩
    have f1 : (checkP R != 0) = false := nbf hck
    have HCK := Lib.hid hck
    clear hck
    have y1 := RB3.out.b1
    go_wp2_with fail
    go_loopw [4] (fun i wr => LRel R.cities.length (fun _ => True) w3 i wr) (fun i _ => R.cities.length - (intOf i).toNat)
    case atStart => exact ⟨0, Nat.zero_le _, rfl, trivial, Below.refl _ _⟩
    case round =>
      obtain ⟨k, hk, rfl, -, hbw⟩ := hrel
      have RB4 := Lib.hid (RB3.out.next hbw)
      have B4 := Lib.hid (chain B3.out hbw)
      have BW4 := Lib.hid hbw
      have k0 : (0 : Int) ≤ (k : Int) := by omega
      have hsz : R.cities.length ≤ 9223372036854775807 := HFT.out.cities
      clear hbw
      have y0 := RB4.out.b0
      have y1 := RB4.out.b1
      have y2 := RB4.out.b2
      have y3 := RB4.out.b3
      have y4 := RB4.out.b4
      have y5 := RB4.out.b5
      have y6 := RB4.out.b6
      have y7 := RB4.out.b7
      by_cases cl : k < R.cities.length
      case neg =>
        have kc : ¬ (k : Int) < (R.cities.length : Int) := by omega
        obtain ⟨wA, rfl⟩ : ∃ wA, wA = wr := ⟨_, rfl⟩
        have BA := Lib.hid B4.out
        have RA := Lib.hid RB4.out
        have y1' := RA.out.b1
        have y3' := RA.out.b3
        clear B4 RB4 BW4
        go_wp2_with fail
        go_loopw [6] (fun i wr => LRel R.firms.length (fun _ => True) wA i wr) (fun i _ => R.firms.length - (intOf i).toNat)
        case atStart => exact ⟨0, Nat.zero_le _, rfl, trivial, Below.refl _ _⟩
        case round =>
          obtain ⟨k, hk, rfl, -, hbw⟩ := hrel
          have RB7 := Lib.hid (RA.out.next hbw)
          have B7 := Lib.hid (chain BA.out hbw)
          have BW7 := Lib.hid hbw
          have k0 : (0 : Int) ≤ (k : Int) := by omega
          have hsz : R.firms.length ≤ 9223372036854775807 := HFT.out.firms
          clear hbw
          have y0 := RB7.out.b0
          have y1 := RB7.out.b1
          have y2 := RB7.out.b2
          have y3 := RB7.out.b3
          have y4 := RB7.out.b4
          have y5 := RB7.out.b5
          have y6 := RB7.out.b6
          have y7 := RB7.out.b7
          by_cases cl : k < R.firms.length
          case neg =>
            have kc : ¬ (k : Int) < (R.firms.length : Int) := by omega
            go_wp2_with fail
            go_ret
            exact ⟨rfl, B7.out⟩
          case pos =>
            have kc : (k : Int) < (R.firms.length : Int) := by omega
            obtain ⟨x, hx⟩ : ∃ x, R.firms[k]? = some x := ⟨_, List.getElem?_eq_getElem cl⟩
            obtain ⟨q, g, hq, hg, hgr, g0, g9⟩ := right_grade HCK.out hx
            obtain ⟨hfd, hcy, -⟩ := right_firm HCK.out hx
            obtain ⟨m, hm, hmc⟩ := ix_nat hcy
            obtain ⟨gn, rfl⟩ := Int.eq_ofNat_of_zero_le g0
            have HFD := Lib.hid hfd
            have HGR := Lib.hid hgr
            clear hfd hgr hq hg hcy
            go_wp2_with fail
            refine (Grade_x (k : Int) _ (HR.out.next B7.out) HFT.out).mono ?_
            rintro r w8 ⟨rfl, bs⟩
            have B8 := Lib.hid (chain B7.out bs)
            have RB8 := Lib.hid (RB7.out.next bs)
            have BW8 := Lib.hid (chain BW7.out bs)
            clear bs
            clear y0 y1 y2 y3 y4 y5 y6 y7
            obtain ⟨b, off, ea, hb, hc⟩ := (HR.out.next B8.out).firms.at hx
            subst ea
            have t0_8 : w8.cell? ⟨b, off + k * 3, none⟩ = some (.string x.nm) := hc 0 _ rfl
            have t1_8 : w8.cell? ⟨b, off + k * 3 + 1, none⟩ = some (.int .i64 x.city) := hc 1 _ rfl
            have t2_8 : w8.cell? ⟨b, off + k * 3 + 2, none⟩ = some (.int .i64 x.grp) := hc 2 _ rfl
            clear hx hc
            rw [HGR.out]
            rw [hm] at t1_8
            have d1 : decide ((gn : Int) < 0) = false := decide_eq_false (by omega)
            have d2 : decide ((gn : Int) > 9) = false := decide_eq_false (by omega)
            have d2' : decide (9 < (gn : Int)) = false := decide_eq_false (by omega)
            have d3 : decide ((m : Int) ≥ (R.cities.length : Int)) = false := decide_eq_false (by omega)
            have d3' : decide ((R.cities.length : Int) ≤ (m : Int)) = false := decide_eq_false (by omega)
            have n1 : ¬ (gn : Int) < 0 := by omega
            have n2 : ¬ 9 < (gn : Int) := by omega
            have n3 : ¬ (R.cities.length : Int) ≤ (m : Int) := by omega
            have n2' : (gn : Int) ≤ 9 := by omega
            have n3' : (m : Int) < (R.cities.length : Int) := by omega
            go_wp2_with fail
            refine wp_region_held_drew (S := fun w' => w'.cell? ⟨w.heap.size, 0, none⟩ = some (.slice a0 R.cur.length c0) ∧ w'.cell? ⟨w.heap.size, 1, none⟩ = some (.slice a1 R.cities.length c1) ∧ w'.cell? ⟨w.heap.size, 2, none⟩ = some (.slice a2 R.groups.length c2) ∧ w'.cell? ⟨w.heap.size, 3, none⟩ = some (.slice (some ⟨b, off, none⟩) R.firms.length c3) ∧ w'.cell? ⟨w.heap.size, 4, none⟩ = some (.slice a4 R.orders.length c4) ∧ w'.cell? ⟨w.heap.size, 5, none⟩ = some (.slice a5 R.usances.length c5) ∧ w'.cell? ⟨w.heap.size, 6, none⟩ = some (.slice a6 R.rates.length c6) ∧ w'.cell? ⟨w.heap.size, 7, none⟩ = some (.slice a7 R.halts.length c7) ∧ w'.cell? ⟨b, off + k * 3, none⟩ = some (.string x.nm) ∧ w'.cell? ⟨b, off + k * 3 + 1, none⟩ = some (.int .i64 (m : Int)) ∧ w'.cell? ⟨b, off + k * 3 + 2, none⟩ = some (.int .i64 x.grp)) (by kernel_rfl) ?_ (fun hHeld => ?_)
            · exact ⟨RB8.out.b0, RB8.out.b1, RB8.out.b2, RB8.out.b3, RB8.out.b4, RB8.out.b5, RB8.out.b6, RB8.out.b7, t0_8, t1_8, t2_8⟩
            have B8d := Lib.hid (B8.out.drew)
            have RB8d := Lib.hid (RB8.out.next (below_drew _))
            have BW8d := Lib.hid (BW8.out.drew)
            refine takeN0 (v := ?_) (by kernel_rfl) (by kernel_rfl) (by kernel_rfl) (fun _ _ _ h => h) (by rfl) ?_ (by assumption) ?_
            rotate_left
            · intro wz hSw
              try dsimp only at hSw
              go_simp
              try with_reducible rfl
            try simp only [Act.put, List.setIfInBounds_toArray, List.set_cons_zero, List.set_cons_succ]
            refine takeN1 (v := ?_) (by kernel_rfl) (by kernel_rfl) (by kernel_rfl) (fun _ _ _ h => h) (by rfl) ?_ (by assumption) ?_
            rotate_left
            · intro wz hSw
              try dsimp only at hSw
              go_simp
              try with_reducible rfl
            try simp only [Act.put, List.setIfInBounds_toArray, List.set_cons_zero, List.set_cons_succ]
            refine takeN2 (v := ?_) (by kernel_rfl) (by kernel_rfl) (by kernel_rfl) (fun _ _ _ h => h) (by rfl) ?_ (by assumption) ?_
            rotate_left
            · intro wz hSw
              try dsimp only at hSw
              go_simp
              try with_reducible rfl
            try simp only [Act.put, List.setIfInBounds_toArray, List.set_cons_zero, List.set_cons_succ]
            refine takeN3 (v := ?_) (by kernel_rfl) (by kernel_rfl) (by kernel_rfl) (fun _ _ _ h => h) (by rfl) ?_ (by assumption) ?_
            rotate_left
            · intro wz hSw
              try dsimp only at hSw
              go_simp
              try with_reducible rfl
            try simp only [Act.put, List.setIfInBounds_toArray, List.set_cons_zero, List.set_cons_succ]
            refine takeN4 (v := ?_) (by kernel_rfl) (by kernel_rfl) (by kernel_rfl) (fun _ _ _ h => h) (by rfl) ?_ (by assumption) ?_
            rotate_left
            · intro wz hSw
              try dsimp only at hSw
              go_simp
              try with_reducible rfl
            try simp only [Act.put, List.setIfInBounds_toArray, List.set_cons_zero, List.set_cons_succ]
            refine takeN5 (v := ?_) (by kernel_rfl) (by kernel_rfl) (by kernel_rfl) (fun _ _ _ h => h) (by rfl) ?_ (by assumption) ?_
            rotate_left
            · intro wz hSw
              try dsimp only at hSw
              go_simp
              try with_reducible rfl
            try simp only [Act.put, List.setIfInBounds_toArray, List.set_cons_zero, List.set_cons_succ]
            refine takeN6 (v := ?_) (by kernel_rfl) (by kernel_rfl) (by kernel_rfl) (fun _ _ _ h => h) (by rfl) ?_ (by assumption) ?_
            rotate_left
            · intro wz hSw
              try dsimp only at hSw
              go_simp
              try with_reducible rfl
            try simp only [Act.put, List.setIfInBounds_toArray, List.set_cons_zero, List.set_cons_succ]
            refine takeN8 (v := ?_) (by kernel_rfl) (by kernel_rfl) (by kernel_rfl) (fun _ _ _ h => h) (by rfl) ?_ (by assumption) ?_
            rotate_left
            · intro wz hSw
              try dsimp only at hSw
              go_simp
              try with_reducible rfl
            try simp only [Act.put, List.setIfInBounds_toArray, List.set_cons_zero, List.set_cons_succ]
            refine comeN7 (by kernel_rfl) (by rfl) (fun K hK => ?_)
            go_simp
            (go_at_call 23; refine (Firm_x x.nm _ (HR.out.next B8d.out) HFT.out).mono ?_; rintro r w9 ⟨rfl, bs⟩)
            try go_wp2_with fail
            rw [HFD.out]
            have B9 := Lib.hid (chain B8d.out bs)
            have RB9 := Lib.hid (RB8d.out.next bs)
            have BW9 := Lib.hid (chain BW8d.out bs)
            have t0_9 := cell_up (chain (below_drew _) bs) t0_8
            have t1_9 := cell_up (chain (below_drew _) bs) t1_8
            have t2_9 := cell_up (chain (below_drew _) bs) t2_8
            clear bs
            refine hK.out _ _ ?_ (fun hHeld => ?_)
            · exact ⟨RB9.out.b0, RB9.out.b1, RB9.out.b2, RB9.out.b3, RB9.out.b4, RB9.out.b5, RB9.out.b6, RB9.out.b7, t0_9, t1_9, t2_9⟩
            clear hK K
            try simp only [Act.put, List.setIfInBounds_toArray, List.set_cons_zero, List.set_cons_succ]
            refine takeN9 (v := ?_) (by kernel_rfl) (by kernel_rfl) (by kernel_rfl) (fun _ _ _ h => h) (by rfl) ?_ (by assumption) ?_
            rotate_left
            · intro wz hSw
              try dsimp only at hSw
              go_simp
              try with_reducible rfl
            try simp only [Act.put, List.setIfInBounds_toArray, List.set_cons_zero, List.set_cons_succ]
            refine takeN10 (v := ?_) (by kernel_rfl) (by kernel_rfl) (by kernel_rfl) (fun _ _ _ h => h) (by rfl) ?_ (by assumption) ?_
            rotate_left
            · intro wz hSw
              try dsimp only at hSw
              go_simp
              try with_reducible rfl
            try simp only [Act.put, List.setIfInBounds_toArray, List.set_cons_zero, List.set_cons_succ]
            refine takeN11 (v := ?_) (by kernel_rfl) (by kernel_rfl) (by kernel_rfl) (fun _ _ _ h => h) (by rfl) ?_ (by assumption) ?_
            rotate_left
            · intro wz hSw
              try dsimp only at hSw
              go_simp
              try with_reducible rfl
            try simp only [Act.put, List.setIfInBounds_toArray, List.set_cons_zero, List.set_cons_succ]
            refine takeN12 (v := ?_) (by kernel_rfl) (by kernel_rfl) (by kernel_rfl) (fun _ _ _ h => h) (by rfl) ?_ (by assumption) ?_
            rotate_left
            · intro wz hSw
              try dsimp only at hSw
              go_simp
              try with_reducible rfl
            try simp only [Act.put, List.setIfInBounds_toArray, List.set_cons_zero, List.set_cons_succ]
            refine takeN13 (v := ?_) (by kernel_rfl) (by kernel_rfl) (by kernel_rfl) (fun _ _ _ h => h) (by rfl) ?_ (by assumption) ?_
            rotate_left
            · intro wz hSw
              try dsimp only at hSw
              go_simp
              try with_reducible rfl
            try simp only [Act.put, List.setIfInBounds_toArray, List.set_cons_zero, List.set_cons_succ]
            refine takeN14 (v := ?_) (by kernel_rfl) (by kernel_rfl) (by kernel_rfl) (fun _ _ _ h => h) (by rfl) ?_ (by assumption) ?_
            rotate_left
            · intro wz hSw
              try dsimp only at hSw
              go_simp
              try with_reducible rfl
            try simp only [Act.put, List.setIfInBounds_toArray, List.set_cons_zero, List.set_cons_succ]
            refine takeN15 (v := ?_) (by kernel_rfl) (by kernel_rfl) (by kernel_rfl) (fun _ _ _ h => h) (by rfl) ?_ (by assumption) ?_
            rotate_left
            · intro wz hSw
              try dsimp only at hSw
              go_simp
              try with_reducible rfl
            try simp only [Act.put, List.setIfInBounds_toArray, List.set_cons_zero, List.set_cons_succ]
            refine takeN16 (v := ?_) (by kernel_rfl) (by kernel_rfl) (by kernel_rfl) (fun _ _ _ h => h) (by rfl) ?_ (by assumption) ?_
            rotate_left
            · intro wz hSw
              try dsimp only at hSw
              go_simp
              try with_reducible rfl
            try simp only [Act.put, List.setIfInBounds_toArray, List.set_cons_zero, List.set_cons_succ]
            refine takeN17 (v := ?_) (by kernel_rfl) (by kernel_rfl) (by kernel_rfl) (fun _ _ _ h => h) (by rfl) ?_ (by assumption) ?_
            rotate_left
            · intro wz hSw
              try dsimp only at hSw
              go_simp
              try with_reducible rfl
            try simp only [Act.put, List.setIfInBounds_toArray, List.set_cons_zero, List.set_cons_succ]
            refine takeN18 (v := ?_) (by kernel_rfl) (by kernel_rfl) (by kernel_rfl) (fun _ _ _ h => h) (by rfl) ?_ (by assumption) ?_
            rotate_left
            · intro wz hSw
              try dsimp only at hSw
              go_simp
              try with_reducible rfl
            try simp only [Act.put, List.setIfInBounds_toArray, List.set_cons_zero, List.set_cons_succ]
            refine takeN19 (v := ?_) (by kernel_rfl) (by kernel_rfl) (by kernel_rfl) (fun _ _ _ h => h) (by rfl) ?_ (by assumption) ?_
            rotate_left
            · intro wz hSw
              try dsimp only at hSw
              go_simp
              try with_reducible rfl
            try simp only [Act.put, List.setIfInBounds_toArray, List.set_cons_zero, List.set_cons_succ]
            refine takeN20 (v := ?_) (by kernel_rfl) (by kernel_rfl) (by kernel_rfl) (fun _ _ _ h => h) (by rfl) ?_ (by assumption) ?_
            rotate_left
            · intro wz hSw
              try dsimp only at hSw
              go_simp
              try with_reducible rfl
            try simp only [Act.put, List.setIfInBounds_toArray, List.set_cons_zero, List.set_cons_succ]
            refine takeN21 (v := ?_) (by kernel_rfl) (by kernel_rfl) (by kernel_rfl) (fun _ _ _ h => h) (by rfl) ?_ (by assumption) ?_
            rotate_left
            · intro wz hSw
              try dsimp only at hSw
              go_simp
              try with_reducible rfl
            try simp only [Act.put, List.setIfInBounds_toArray, List.set_cons_zero, List.set_cons_succ]
            refine takeN22 (v := ?_) (by kernel_rfl) (by kernel_rfl) (by kernel_rfl) (fun _ _ _ h => h) (by rfl) ?_ (by assumption) ?_
            rotate_left
            · intro wz hSw
              try dsimp only at hSw
              go_simp
              try with_reducible rfl
            try simp only [Act.put, List.setIfInBounds_toArray, List.set_cons_zero, List.set_cons_succ]
            refine takeN23 (v := ?_) (by kernel_rfl) (by kernel_rfl) (by kernel_rfl) (fun _ _ _ h => h) (by rfl) ?_ (by assumption) ?_
            rotate_left
            · intro wz hSw
              try dsimp only at hSw
              go_simp
              try with_reducible rfl
            try simp only [Act.put, List.setIfInBounds_toArray, List.set_cons_zero, List.set_cons_succ]
            refine takeN24 (v := ?_) (by kernel_rfl) (by kernel_rfl) (by kernel_rfl) (fun _ _ _ h => h) (by rfl) ?_ (by assumption) ?_
            rotate_left
            · intro wz hSw
              try dsimp only at hSw
              go_simp
              try with_reducible rfl
            try simp only [Act.put, List.setIfInBounds_toArray, List.set_cons_zero, List.set_cons_succ]
            refine takeN25 (v := ?_) (by kernel_rfl) (by kernel_rfl) (by kernel_rfl) (fun _ _ _ h => h) (by rfl) ?_ (by assumption) ?_
            rotate_left
            · intro wz hSw
              try dsimp only at hSw
              go_simp
              try with_reducible rfl
            try simp only [Act.put, List.setIfInBounds_toArray, List.set_cons_zero, List.set_cons_succ]
            refine takeN26 (v := ?_) (by kernel_rfl) (by kernel_rfl) (by kernel_rfl) (fun _ _ _ h => h) (by rfl) ?_ (by assumption) ?_
            rotate_left
            · intro wz hSw
              try dsimp only at hSw
              go_simp
              try with_reducible rfl
            try simp only [Act.put, List.setIfInBounds_toArray, List.set_cons_zero, List.set_cons_succ]
            refine takeN27 (v := ?_) (by kernel_rfl) (by kernel_rfl) (by kernel_rfl) (fun _ _ _ h => h) (by rfl) ?_ (by assumption) ?_
            rotate_left
            · intro wz hSw
              try dsimp only at hSw
              go_simp
              try with_reducible rfl
            try simp only [Act.put, List.setIfInBounds_toArray, List.set_cons_zero, List.set_cons_succ]
            refine takeN28 (v := ?_) (by kernel_rfl) (by kernel_rfl) (by kernel_rfl) (fun _ _ _ h => h) (by rfl) ?_ (by assumption) ?_
            rotate_left
            · intro wz hSw
              try dsimp only at hSw
              go_simp
              try with_reducible rfl
            try simp only [Act.put, List.setIfInBounds_toArray, List.set_cons_zero, List.set_cons_succ]
            refine takeN29 (v := ?_) (by kernel_rfl) (by kernel_rfl) (by kernel_rfl) (fun _ _ _ h => h) (by rfl) ?_ (by assumption) ?_
            rotate_left
            · intro wz hSw
              try dsimp only at hSw
              go_simp
              try with_reducible rfl
            try simp only [Act.put, List.setIfInBounds_toArray, List.set_cons_zero, List.set_cons_succ]
            refine wpAnyH_done (by kernel_rfl) ?_ _
            clear hHeld
            clear t0_9 t1_9 t2_9
            go_wp2_with fail
            go_roundw
            case rel => exact ⟨k + 1, by omega, by congr 1, trivial, BW9.out⟩
            case measure => simp [intOf]; omega
      case pos =>
        have kc : (k : Int) < (R.cities.length : Int) := by omega
        obtain ⟨x, hx⟩ : ∃ x, R.cities[k]? = some x := ⟨_, List.getElem?_eq_getElem cl⟩
        obtain ⟨q, ho, hqm⟩ := order_at HCK.out hx
        obtain ⟨hfd, -⟩ := right_city HCK.out hx
        have HFD := Lib.hid hfd
        have HO := Lib.hid ho
        clear hfd ho
        go_wp2_with fail
        refine (OrderAt_x (k : Int) _ (HR.out.next B4.out) HFT.out).mono ?_
        rintro r w5 ⟨rfl, bs⟩
        have B5 := Lib.hid (chain B4.out bs)
        have RB5 := Lib.hid (RB4.out.next bs)
        have BW5 := Lib.hid (chain BW4.out bs)
        clear bs
        clear y0 y1 y2 y3 y4 y5 y6 y7
        obtain ⟨b, off, ea, hb, hc⟩ := (HR.out.next B5.out).cities.at hx
        subst ea
        have t0_5 : w5.cell? ⟨b, off + k * 6, none⟩ = some (.string x.nm) := hc 0 _ rfl
        have t1_5 : w5.cell? ⟨b, off + k * 6 + 1, none⟩ = some (.int .i64 x.o) := hc 1 _ rfl
        have t2_5 : w5.cell? ⟨b, off + k * 6 + 2, none⟩ = some (.int .i64 x.c) := hc 2 _ rfl
        have t3_5 : w5.cell? ⟨b, off + k * 6 + 3, none⟩ = some (.slice x.a3 x.rest.length x.k3) := hc 3 _ rfl
        have t4_5 : w5.cell? ⟨b, off + k * 6 + 4, none⟩ = some (.slice x.a4 x.feasts.length x.k4) := hc 4 _ rfl
        have t5_5 : w5.cell? ⟨b, off + k * 6 + 5, none⟩ = some (.slice x.a5 x.shut.length x.k5) := hc 5 _ rfl
        clear hx hc
        rw [HO.out]
        have d1 : decide ((q : Int) < 0) = false := decide_eq_false (by omega)
        have d3 : decide ((q : Int) ≥ (R.orders.length : Int)) = false := decide_eq_false (by omega)
        have d3' : decide ((R.orders.length : Int) ≤ (q : Int)) = false := decide_eq_false (by omega)
        have n1 : ¬ (q : Int) < 0 := by omega
        have n3 : ¬ (R.orders.length : Int) ≤ (q : Int) := by omega
        have n3' : (q : Int) < (R.orders.length : Int) := by omega
        go_wp2_with fail
        refine wp_region_held_drew (S := fun w' => w'.cell? ⟨w.heap.size, 0, none⟩ = some (.slice a0 R.cur.length c0) ∧ w'.cell? ⟨w.heap.size, 1, none⟩ = some (.slice (some ⟨b, off, none⟩) R.cities.length c1) ∧ w'.cell? ⟨w.heap.size, 2, none⟩ = some (.slice a2 R.groups.length c2) ∧ w'.cell? ⟨w.heap.size, 3, none⟩ = some (.slice a3 R.firms.length c3) ∧ w'.cell? ⟨w.heap.size, 4, none⟩ = some (.slice a4 R.orders.length c4) ∧ w'.cell? ⟨w.heap.size, 5, none⟩ = some (.slice a5 R.usances.length c5) ∧ w'.cell? ⟨w.heap.size, 6, none⟩ = some (.slice a6 R.rates.length c6) ∧ w'.cell? ⟨w.heap.size, 7, none⟩ = some (.slice a7 R.halts.length c7) ∧ w'.cell? ⟨b, off + k * 6, none⟩ = some (.string x.nm) ∧ w'.cell? ⟨b, off + k * 6 + 1, none⟩ = some (.int .i64 x.o) ∧ w'.cell? ⟨b, off + k * 6 + 2, none⟩ = some (.int .i64 x.c) ∧ w'.cell? ⟨b, off + k * 6 + 3, none⟩ = some (.slice x.a3 x.rest.length x.k3) ∧ w'.cell? ⟨b, off + k * 6 + 4, none⟩ = some (.slice x.a4 x.feasts.length x.k4) ∧ w'.cell? ⟨b, off + k * 6 + 5, none⟩ = some (.slice x.a5 x.shut.length x.k5)) (by kernel_rfl) ?_ (fun hHeld => ?_)
        · exact ⟨RB5.out.b0, RB5.out.b1, RB5.out.b2, RB5.out.b3, RB5.out.b4, RB5.out.b5, RB5.out.b6, RB5.out.b7, t0_5, t1_5, t2_5, t3_5, t4_5, t5_5⟩
        have B5d := Lib.hid (B5.out.drew)
        have RB5d := Lib.hid (RB5.out.next (below_drew _))
        have BW5d := Lib.hid (BW5.out.drew)
        refine takeN0 (v := ?_) (by kernel_rfl) (by kernel_rfl) (by kernel_rfl) (fun _ _ _ h => h) (by rfl) ?_ (by assumption) ?_
        rotate_left
        · intro wz hSw
          try dsimp only at hSw
          go_simp
          try with_reducible rfl
        try simp only [Act.put, List.setIfInBounds_toArray, List.set_cons_zero, List.set_cons_succ]
        refine takeN1 (v := ?_) (by kernel_rfl) (by kernel_rfl) (by kernel_rfl) (fun _ _ _ h => h) (by rfl) ?_ (by assumption) ?_
        rotate_left
        · intro wz hSw
          try dsimp only at hSw
          go_simp
          try with_reducible rfl
        try simp only [Act.put, List.setIfInBounds_toArray, List.set_cons_zero, List.set_cons_succ]
        refine takeN2 (v := ?_) (by kernel_rfl) (by kernel_rfl) (by kernel_rfl) (fun _ _ _ h => h) (by rfl) ?_ (by assumption) ?_
        rotate_left
        · intro wz hSw
          try dsimp only at hSw
          go_simp
          try with_reducible rfl
        try simp only [Act.put, List.setIfInBounds_toArray, List.set_cons_zero, List.set_cons_succ]
        refine takeN3 (v := ?_) (by kernel_rfl) (by kernel_rfl) (by kernel_rfl) (fun _ _ _ h => h) (by rfl) ?_ (by assumption) ?_
        rotate_left
        · intro wz hSw
          try dsimp only at hSw
          go_simp
          try with_reducible rfl
        try simp only [Act.put, List.setIfInBounds_toArray, List.set_cons_zero, List.set_cons_succ]
        refine takeN4 (v := ?_) (by kernel_rfl) (by kernel_rfl) (by kernel_rfl) (fun _ _ _ h => h) (by rfl) ?_ (by assumption) ?_
        rotate_left
        · intro wz hSw
          try dsimp only at hSw
          go_simp
          try with_reducible rfl
        try simp only [Act.put, List.setIfInBounds_toArray, List.set_cons_zero, List.set_cons_succ]
        refine takeN5 (v := ?_) (by kernel_rfl) (by kernel_rfl) (by kernel_rfl) (fun _ _ _ h => h) (by rfl) ?_ (by assumption) ?_
        rotate_left
        · intro wz hSw
          try dsimp only at hSw
          go_simp
          try with_reducible rfl
        try simp only [Act.put, List.setIfInBounds_toArray, List.set_cons_zero, List.set_cons_succ]
        refine takeN6 (v := ?_) (by kernel_rfl) (by kernel_rfl) (by kernel_rfl) (fun _ _ _ h => h) (by rfl) ?_ (by assumption) ?_
        rotate_left
        · intro wz hSw
          try dsimp only at hSw
          go_simp
          try with_reducible rfl
        try simp only [Act.put, List.setIfInBounds_toArray, List.set_cons_zero, List.set_cons_succ]
        refine takeN8 (v := ?_) (by kernel_rfl) (by kernel_rfl) (by kernel_rfl) (fun _ _ _ h => h) (by rfl) ?_ (by assumption) ?_
        rotate_left
        · intro wz hSw
          try dsimp only at hSw
          go_simp
          try with_reducible rfl
        try simp only [Act.put, List.setIfInBounds_toArray, List.set_cons_zero, List.set_cons_succ]
        refine comeN7 (by kernel_rfl) (by rfl) (fun K hK => ?_)
        go_simp
        (go_at_call 21; refine (City_x x.nm _ (HR.out.next B5d.out) HFT.out).mono ?_; rintro r w6 ⟨rfl, bs⟩)
        try go_wp2_with fail
        rw [HFD.out]
        have B6 := Lib.hid (chain B5d.out bs)
        have RB6 := Lib.hid (RB5d.out.next bs)
        have BW6 := Lib.hid (chain BW5d.out bs)
        have t0_6 := cell_up (chain (below_drew _) bs) t0_5
        have t1_6 := cell_up (chain (below_drew _) bs) t1_5
        have t2_6 := cell_up (chain (below_drew _) bs) t2_5
        have t3_6 := cell_up (chain (below_drew _) bs) t3_5
        have t4_6 := cell_up (chain (below_drew _) bs) t4_5
        have t5_6 := cell_up (chain (below_drew _) bs) t5_5
        clear bs
        refine hK.out _ _ ?_ (fun hHeld => ?_)
        · exact ⟨RB6.out.b0, RB6.out.b1, RB6.out.b2, RB6.out.b3, RB6.out.b4, RB6.out.b5, RB6.out.b6, RB6.out.b7, t0_6, t1_6, t2_6, t3_6, t4_6, t5_6⟩
        clear hK K
        try simp only [Act.put, List.setIfInBounds_toArray, List.set_cons_zero, List.set_cons_succ]
        refine takeN9 (v := ?_) (by kernel_rfl) (by kernel_rfl) (by kernel_rfl) (fun _ _ _ h => h) (by rfl) ?_ (by assumption) ?_
        rotate_left
        · intro wz hSw
          try dsimp only at hSw
          go_simp
          try with_reducible rfl
        try simp only [Act.put, List.setIfInBounds_toArray, List.set_cons_zero, List.set_cons_succ]
        refine takeN10 (v := ?_) (by kernel_rfl) (by kernel_rfl) (by kernel_rfl) (fun _ _ _ h => h) (by rfl) ?_ (by assumption) ?_
        rotate_left
        · intro wz hSw
          try dsimp only at hSw
          go_simp
          try with_reducible rfl
        try simp only [Act.put, List.setIfInBounds_toArray, List.set_cons_zero, List.set_cons_succ]
        refine takeN11 (v := ?_) (by kernel_rfl) (by kernel_rfl) (by kernel_rfl) (fun _ _ _ h => h) (by rfl) ?_ (by assumption) ?_
        rotate_left
        · intro wz hSw
          try dsimp only at hSw
          go_simp
          try with_reducible rfl
        try simp only [Act.put, List.setIfInBounds_toArray, List.set_cons_zero, List.set_cons_succ]
        refine takeN12 (v := ?_) (by kernel_rfl) (by kernel_rfl) (by kernel_rfl) (fun _ _ _ h => h) (by rfl) ?_ (by assumption) ?_
        rotate_left
        · intro wz hSw
          try dsimp only at hSw
          go_simp
          try with_reducible rfl
        try simp only [Act.put, List.setIfInBounds_toArray, List.set_cons_zero, List.set_cons_succ]
        refine takeN13 (v := ?_) (by kernel_rfl) (by kernel_rfl) (by kernel_rfl) (fun _ _ _ h => h) (by rfl) ?_ (by assumption) ?_
        rotate_left
        · intro wz hSw
          try dsimp only at hSw
          go_simp
          try with_reducible rfl
        try simp only [Act.put, List.setIfInBounds_toArray, List.set_cons_zero, List.set_cons_succ]
        refine takeN14 (v := ?_) (by kernel_rfl) (by kernel_rfl) (by kernel_rfl) (fun _ _ _ h => h) (by rfl) ?_ (by assumption) ?_
        rotate_left
        · intro wz hSw
          try dsimp only at hSw
          go_simp
          try with_reducible rfl
        try simp only [Act.put, List.setIfInBounds_toArray, List.set_cons_zero, List.set_cons_succ]
        refine takeN15 (v := ?_) (by kernel_rfl) (by kernel_rfl) (by kernel_rfl) (fun _ _ _ h => h) (by rfl) ?_ (by assumption) ?_
        rotate_left
        · intro wz hSw
          try dsimp only at hSw
          go_simp
          try with_reducible rfl
        try simp only [Act.put, List.setIfInBounds_toArray, List.set_cons_zero, List.set_cons_succ]
        refine takeN16 (v := ?_) (by kernel_rfl) (by kernel_rfl) (by kernel_rfl) (fun _ _ _ h => h) (by rfl) ?_ (by assumption) ?_
        rotate_left
        · intro wz hSw
          try dsimp only at hSw
          go_simp
          try with_reducible rfl
        try simp only [Act.put, List.setIfInBounds_toArray, List.set_cons_zero, List.set_cons_succ]
        refine takeN17 (v := ?_) (by kernel_rfl) (by kernel_rfl) (by kernel_rfl) (fun _ _ _ h => h) (by rfl) ?_ (by assumption) ?_
        rotate_left
        · intro wz hSw
          try dsimp only at hSw
          go_simp
          try with_reducible rfl
        try simp only [Act.put, List.setIfInBounds_toArray, List.set_cons_zero, List.set_cons_succ]
        refine takeN18 (v := ?_) (by kernel_rfl) (by kernel_rfl) (by kernel_rfl) (fun _ _ _ h => h) (by rfl) ?_ (by assumption) ?_
        rotate_left
        · intro wz hSw
          try dsimp only at hSw
          go_simp
          try with_reducible rfl
        try simp only [Act.put, List.setIfInBounds_toArray, List.set_cons_zero, List.set_cons_succ]
        refine takeN19 (v := ?_) (by kernel_rfl) (by kernel_rfl) (by kernel_rfl) (fun _ _ _ h => h) (by rfl) ?_ (by assumption) ?_
        rotate_left
        · intro wz hSw
          try dsimp only at hSw
          go_simp
          try with_reducible rfl
        try simp only [Act.put, List.setIfInBounds_toArray, List.set_cons_zero, List.set_cons_succ]
        refine takeN20 (v := ?_) (by kernel_rfl) (by kernel_rfl) (by kernel_rfl) (fun _ _ _ h => h) (by rfl) ?_ (by assumption) ?_
        rotate_left
        · intro wz hSw
          try dsimp only at hSw
          go_simp
          try with_reducible rfl
        try simp only [Act.put, List.setIfInBounds_toArray, List.set_cons_zero, List.set_cons_succ]
        refine wpAnyH_done (by kernel_rfl) ?_ _
        clear hHeld
        clear t0_6 t1_6 t2_6 t3_6 t4_6 t5_6
        go_wp2_with fail
        go_roundw
        case rel => exact ⟨k + 1, by omega, by congr 1, trivial, BW6.out⟩
        case measure => simp [intOf]; omega

end Go.Proofs.Ytagdikghpiiabaa
