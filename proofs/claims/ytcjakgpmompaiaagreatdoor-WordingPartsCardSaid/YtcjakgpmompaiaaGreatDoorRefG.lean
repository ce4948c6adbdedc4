/-
  The reference: the list of firms.
-/
import Derived.Test.YtcjakgpmompaiaaGreatDoorRefE
namespace Go.Proofs.YtcjakgpmompaiaaGreatDoor
open Go.RowKit Rl

set_option maxHeartbeats 6400000 in
set_option maxRecDepth 100000 in
theorem rfirms_x {a0 a1 a2 a3 a4 a5 a6 a7 : Option Addr} {c0 c1 c2 c3 c4 c5 c6 c7 : Nat} {R : Rlm} (w : World) (hr : RS w a0 a1 a2 a3 a4 a5 a6 a7 c0 c1 c2 c3 c4 c5 c6 c7 R) (hF : Fit R) :
    Calls Tryz.prog 71 #[.agg #[.slice a0 R.cur.length c0, .slice a1 R.cities.length c1, .slice a2 R.groups.length c2, .slice a3 R.firms.length c3, .slice a4 R.orders.length c4, .slice a5 R.usances.length c5, .slice a6 R.rates.length c6, .slice a7 R.halts.length c7]] w fun r w' => r = .returned (.int .i64 (orE (groupE R) (firmE R))) ∧ Below w.heap.size w w' := by
  have HR := Lib.hid hr
  have RB0 := Lib.hid (RB.new w (a0 := a0) (a1 := a1) (a2 := a2) (a3 := a3) (a4 := a4) (a5 := a5) (a6 := a6) (a7 := a7) (c0 := c0) (c1 := c1) (c2 := c2) (c3 := c3) (c4 := c4) (c5 := c5) (c6 := c6) (c7 := c7) (R := R))
  have B0 := Lib.hid (Below.new1 (w := w) (.cells #[.slice a0 R.cur.length c0, .slice a1 R.cities.length c1, .slice a2 R.groups.length c2, .slice a3 R.firms.length c3, .slice a4 R.orders.length c4, .slice a5 R.usances.length c5, .slice a6 R.rates.length c6, .slice a7 R.halts.length c7] 31))
  have hs0 := hF.cur
  have hs1 := hF.cities
  have hs2 := hF.groups
  have hs3 := hF.firms
  have hs4 := hF.orders
  have hs5 := hF.usances
  have hs6 := hF.rates
  have hs7 := hF.halts
  clear hr
  have y2 := RB0.out.b2
  by_cases tl : 20 < R.groups.length
  · have kl : 20 < (R.groups.length : Int) := by omega
    have hv : Hid (orE (groupE R) (firmE R) = 6) := by show _ = _; rw [orE_ne (a := groupE R) (by rw [show groupE R = 6 from list_long tl]; decide)]; exact list_long tl
    go_enter Tryz.func71, Tryz.ntmps71
    go_wp2_with fail
    go_ret
    exact ⟨by rw [hv.out]; try rfl, B0.out⟩
  have kl : ¬ 20 < (R.groups.length : Int) := by omega
  obtain ⟨rj, hj, hy0, hy1, hy2⟩ := info_parts infoS
  have Hj := Lib.hid hj
  have Hy0 := Lib.hid hy0
  have Hy1 := Lib.hid hy1
  have Hy2 := Lib.hid hy2
  clear hj hy0 hy1 hy2
  go_enter Tryz.func71, Tryz.ntmps71
  go_wp2_with fail
  go_loopw [3] (fun i wr => LRel R.groups.length (NoE (plainE (at_ R.groups (fun g => wi g 0 9)))) (w.alloc (.cells #[.slice a0 R.cur.length c0, .slice a1 R.cities.length c1, .slice a2 R.groups.length c2, .slice a3 R.firms.length c3, .slice a4 R.orders.length c4, .slice a5 R.usances.length c5, .slice a6 R.rates.length c6, .slice a7 R.halts.length c7] 31)) i wr) (fun i _ => R.groups.length - (intOf i).toNat)
  case atStart => exact ⟨0, Nat.zero_le _, rfl, fun j hj => by omega, Below.refl _ _⟩
  case round =>
    obtain ⟨k, hk, rfl, hall, hbw⟩ := hrel
    have RW := Lib.hid (RB0.out.next hbw)
    have y2 := RW.out.b2
    have y3 := RW.out.b3
    have Ha := Lib.hid hall
    have HB := Lib.hid hbw
    have BW := Lib.hid (chain B0.out hbw)
    have k0 : (0 : Int) ≤ (k : Int) := by omega
    clear hall hbw
    by_cases cl : k < R.groups.length
    case pos =>
      have kc : (k : Int) < (R.groups.length : Int) := by omega
      obtain ⟨x, hx⟩ : ∃ x, R.groups[k]? = some x := ⟨_, List.getElem?_eq_getElem cl⟩
      obtain ⟨b, off, ea, hb, hc⟩ := (HR.out.next BW.out).groups.at hx
      rw [ea] at y2
      try rw [ea]
      have t0 : wr.cell? ⟨b, off + k, none⟩ = some (.int .i64 x) := (by have := hc 0 _ rfl; rw [Nat.mul_one, Nat.add_zero] at this; exact this)
      have HCK := Lib.hid (plain_at (p := fun g => wi g 0 9) hx)
      clear hx hc
      go_wp2_with fail
      refine (Within_x x 0 9 _).mono ?_
      rintro r w1 ⟨rfl, rfl⟩
      cases e : wi x 0 9 with
      | true =>
        have HZ : Hid (NoE (plainE (at_ R.groups (fun g => wi g 0 9))) (k + 1)) := ok_step Ha.out (by rw [HCK.out, e]; rfl)
        clear e
        go_wp2_with fail
        go_roundw
        case rel => exact ⟨k + 1, by omega, by congr 1, HZ.out, by first | exact HB.out | (rw [← ea]; exact HB.out)⟩
        case measure => simp [intOf]; omega
      | false =>
        have hz : plainE (at_ R.groups (fun g => wi g 0 9)) k = 1 := by rw [HCK.out, e]; rfl
        have hc : groupE R = 1 := (list_at tl Ha.out (by rw [hz]; decide) cl).trans hz
        have hv : Hid (orE (groupE R) (firmE R) = 1) := by show _ = _; rw [orE_ne (a := groupE R) (by rw [hc]; decide)]; exact hc
        clear e tl hz hc
        go_wp2_with fail
        go_ret
        exact ⟨by rw [hv.out]; try rfl, BW.out⟩
    case neg =>
      have kc : ¬ (k : Int) < (R.groups.length : Int) := by omega
      have EZ : Hid (groupE R = 0) := list_all tl (fun i hi => Ha.out i (by omega))
      obtain ⟨wA, rfl⟩ : ∃ wA, wA = wr := ⟨_, rfl⟩
      have BA := Lib.hid BW.out
      have RA := Lib.hid RW.out
      clear Ha HB BW RW tl kl
      by_cases tl : 200 < R.firms.length
      · have kl : 200 < (R.firms.length : Int) := by omega
        have hv : Hid (orE (groupE R) (firmE R) = 6) := (orE_zero EZ.out).trans (show firmE R = _ from list_long tl)
        go_wp2_with fail
        go_ret
        exact ⟨by rw [hv.out]; try rfl, BA.out⟩
      have kl : ¬ 200 < (R.firms.length : Int) := by omega
      go_wp2_with fail
      go_loopw [4, 5] (fun v i wr => NamRel (R.firms.map Frm.nm) (namedE (R.firms.map Frm.nm) (at_ R.firms (firmB R.cities.length R.groups.length))) R.firms.length (wA.heap.size) wA v i wr) (fun _ i _ => R.firms.length - (intOf i).toNat)
      case atStart => exact ⟨0, none, 0, Nat.zero_le _, rfl, rfl, fun j hj => by omega, World.ownsRow_nil _ _ _ _, Below.refl _ _⟩
      case round =>
        obtain ⟨k, la, lc, hk, rfl, rfl, hall, hown, hbw⟩ := hrel
        have RW := Lib.hid (RA.out.next hbw)
        have y3 := RW.out.b3
        have Ha := Lib.hid hall
        have HO := Lib.hid hown
        have HB := Lib.hid hbw
        have BW := Lib.hid (chain BA.out hbw)
        have k0 : (0 : Int) ≤ (k : Int) := by omega
        clear hall hown hbw
        by_cases cl : k < R.firms.length
        case neg =>
          have kc : ¬ (k : Int) < (R.firms.length : Int) := by omega
          have hv : Hid (orE (groupE R) (firmE R) = 0) := (orE_zero EZ.out).trans (show firmE R = _ from list_all tl (fun i hi => Ha.out i (by omega)))
          clear tl
          go_wp2_with fail
          go_ret
          exact ⟨by rw [hv.out]; try rfl, BW.out⟩
        case pos =>
          have kc : (k : Int) < (R.firms.length : Int) := by omega
          obtain ⟨x, hx⟩ : ∃ x, R.firms[k]? = some x := ⟨_, List.getElem?_eq_getElem cl⟩
          obtain ⟨b, off, ea, hb, hc⟩ := (HR.out.next BW.out).firms.at hx
          subst ea
          have t0 : wr.cell? ⟨b, off + k * 3, none⟩ = some (.string x.nm) := hc 0 _ rfl
          have t1 : wr.cell? ⟨b, off + k * 3 + 1, none⟩ = some (.int .i64 x.city) := hc 1 _ rfl
          have t2 : wr.cell? ⟨b, off + k * 3 + 2, none⟩ = some (.int .i64 x.grp) := hc 2 _ rfl
          have hn := map_at (f := Frm.nm) hx
          have HN := Lib.hid hn
          have HX := Lib.hid hx
          clear hx hc hn
          go_wp2_with (at_builtin; refine wpList_append_own _ rfl (.tmp 37) (.tmp 44) 22 rfl (wA.heap.size) 9 rj (.string ⟨#[]⟩) 1 16 Tryz.underlying22 Hj.out Hy0.out Hy1.out Hy2.out rfl (by decide) _ k (strs ((R.firms.map Frm.nm).take k)) rfl ((HO.out).alloc _) ⟨wr.heap.size, 0, none⟩ 1 1 [.string x.nm] rfl rfl ?f1 ?f2 ?f3 ?f4 ?f5 ?_)
          case f1 => exact cell_new1 _ _ _ _ (by first | rfl | simp)
          case f2 => first | rfl | (intro u hu; simp at hu; subst hu; rfl)
          case f3 => unfold maxLen; omega
          case f4 => omega
          case f5 => have := HB.out.size; simp at this ⊢; omega
          intro v7 w7 hown7 hgrow7 _
          have hrow : ∀ j, (Value.slice la k lc).ownBlock = some j → wA.heap.size ≤ j := fun j hj => (HO.out.lt j hj).1
          have b7 : Below wr.heap.size wr w7 ∨ True := .inr trivial
          have B7 : Hid (Below wA.heap.size wA w7) := HB.out.trans (((Below.refl wA.heap.size wr).alloc HB.out.size _).grown hgrow7 (by have := HB.out.size; simp at this ⊢; omega) (fun j hj => by have := hrow j hj; simp at this ⊢; omega))
          have HO7 : Hid (w7.ownsRow (wA.heap.size) 9 1 v7 (k + 1) (strs ((R.firms.map Frm.nm).take (k + 1)))) := by
            show w7.ownsRow _ _ _ _ _ _
            rw [List.take_add_one, HN.out]
            simpa [strs] using hown7
          have hl7 : ((R.firms.map Frm.nm).take (k + 1)).length = k + 1 := by rw [List.length_take, List.length_map]; omega
          obtain ⟨la7, lc7, e7⟩ := (own_str HO7.out hl7.symm).shape
          rw [hl7] at e7
          subst e7
          have HS7 := Lib.hid (own_str HO7.out hl7.symm)
          have HSZ : Sz ((R.firms.map Frm.nm).take (k + 1)).length := by rw [hl7]; unfold Sz; omega
          have BW7 := Lib.hid (chain BA.out B7.out)
          have RW7 := Lib.hid (RA.out.next B7.out)
          clear hown7 hgrow7 hrow hl7 b7 y3 t0 t1 t2
          have y3 := RW7.out.b3
          obtain ⟨b8, off8, ea8, -, hc⟩ := (HR.out.next BW7.out).firms.at HX.out
          simp only [Option.some.injEq, Addr.mk.injEq, and_true] at ea8
          obtain ⟨rfl, rfl⟩ := ea8
          have t0 : w7.cell? ⟨b, off + k * 3, none⟩ = some (.string x.nm) := hc 0 _ rfl
          have t1 : w7.cell? ⟨b, off + k * 3 + 1, none⟩ = some (.int .i64 x.city) := hc 1 _ rfl
          have t2 : w7.cell? ⟨b, off + k * 3 + 2, none⟩ = some (.int .i64 x.grp) := hc 2 _ rfl
          clear hc
          go_wp2_with fail
          refine (named_x _ ((R.firms.map Frm.nm).take (k + 1)) k x.nm _ HS7.out HSZ (take_get HN.out)).mono ?_
          rintro r w1 ⟨rfl, rfl⟩
          rw [take_take']
          have HCK := Lib.hid (named_at' (nm := Frm.nm) (p := firmB R.cities.length R.groups.length) HX.out)
          by_cases e : nmE ((R.firms.map Frm.nm).take k) x.nm true = 0
          · have e1 : (nmE ((R.firms.map Frm.nm).take k) x.nm true != 0) = false := nbf e
            have HE := Lib.hid (nmE_rest (ok := firmB R.cities.length R.groups.length x) e)
            clear e
            have y1 := RW7.out.b1
            have y2 := RW7.out.b2
            cases f1 : ix x.city R.cities.length with
            | false =>
              have E1 := Lib.hid f1
              have g1 : wi x.city 0 ((R.cities.length : Int) - 1) = false := E1.out
              have okF : firmB R.cities.length R.groups.length x = false := by simp [firmB, f1]
              clear f1
              go_wp2_with fail
              go_quiet (first | (go_at_call 137; refine Calls.quiet_of_same (Withinq _ _ _ _)))
              have hz : namedE (R.firms.map Frm.nm) (at_ R.firms (firmB R.cities.length R.groups.length)) k = 1 := by rw [HCK.out, HE.out, okF]; rfl
              have hv : Hid (orE (groupE R) (firmE R) = 1) := (orE_zero EZ.out).trans (show firmE R = _ from (by first | exact (list_at tl Ha.out (by rw [hz]; decide) cl).trans hz))
              clear tl hz okF
              go_wp2_with fail
              go_ret
              exact ⟨by rw [hv.out]; try rfl, by first | exact BW7.out | exact below_drewN BW7.out _⟩
            | true =>
              have E1 := Lib.hid f1
              have g1 : wi x.city 0 ((R.cities.length : Int) - 1) = true := E1.out
              clear f1
              cases f2 : ix x.grp R.groups.length with
              | false =>
                have E2 := Lib.hid f2
                have g2 : wi x.grp 0 ((R.groups.length : Int) - 1) = false := E2.out
                have okF : firmB R.cities.length R.groups.length x = false := by simp [firmB, f2]
                clear f2
                go_wp2_with fail
                go_quiet (first | (go_at_call 137; refine Calls.quiet_of_same (Withinq _ _ _ _)))
                have hz : namedE (R.firms.map Frm.nm) (at_ R.firms (firmB R.cities.length R.groups.length)) k = 1 := by rw [HCK.out, HE.out, okF]; rfl
                have hv : Hid (orE (groupE R) (firmE R) = 1) := (orE_zero EZ.out).trans (show firmE R = _ from (by first | exact (list_at tl Ha.out (by rw [hz]; decide) cl).trans hz))
                clear tl hz okF
                go_wp2_with fail
                go_ret
                exact ⟨by rw [hv.out]; try rfl, by first | exact BW7.out | exact below_drewN BW7.out _⟩
              | true =>
                have E2 := Lib.hid f2
                have g2 : wi x.grp 0 ((R.groups.length : Int) - 1) = true := E2.out
                have okT : firmB R.cities.length R.groups.length x = true := by simp [firmB, f2, E1.out]
                have OK := Lib.hid okT
                clear f2 okT
                go_wp2_with fail
                go_quiet (first | (go_at_call 137; refine Calls.quiet_of_same (Withinq _ _ _ _)))
                have HZ : Hid (NoE (namedE (R.firms.map Frm.nm) (at_ R.firms (firmB R.cities.length R.groups.length))) (k + 1)) := ok_step Ha.out (by rw [HCK.out, HE.out, OK.out]; rfl)
                go_wp2_with fail
                go_roundw
                case rel => exact ⟨k + 1, la7, lc7, by omega, rfl, by congr 1, HZ.out, own_nx HO7.out (by first | exact Below.refl _ _ | exact below_drewN (Below.refl _ _) _), by first | exact B7.out | exact below_drewN B7.out _⟩
                case measure => simp [intOf]; omega
          · have e1 : (nmE ((R.firms.map Frm.nm).take k) x.nm true != 0) = true := nbt e
            have hz : namedE (R.firms.map Frm.nm) (at_ R.firms (firmB R.cities.length R.groups.length)) k = nmE ((R.firms.map Frm.nm).take k) x.nm true := by rw [HCK.out, nmE_split e]
            have hv : Hid (orE (groupE R) (firmE R) = nmE ((R.firms.map Frm.nm).take k) x.nm true) := (orE_zero EZ.out).trans (show firmE R = _ from (by first | exact (list_at tl Ha.out (by rw [hz]; exact e) cl).trans hz))
            clear e tl hz
            go_wp2_with fail
            go_ret
            exact ⟨by rw [hv.out]; try rfl, BW7.out⟩

end Go.Proofs.YtcjakgpmompaiaaGreatDoor
