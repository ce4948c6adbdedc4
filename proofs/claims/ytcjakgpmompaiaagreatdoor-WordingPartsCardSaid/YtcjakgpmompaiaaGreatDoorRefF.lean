/-
  The reference: the list of cities.
-/
import Derived.Test.YtcjakgpmompaiaaGreatDoorRefE
namespace Go.Proofs.YtcjakgpmompaiaaGreatDoor
open Go.RowKit Rl

set_option maxHeartbeats 6400000 in
set_option maxRecDepth 100000 in
theorem rcities_x {a0 a1 a2 a3 a4 a5 a6 a7 : Option Addr} {c0 c1 c2 c3 c4 c5 c6 c7 : Nat} {R : Rlm} (w : World) (hr : RS w a0 a1 a2 a3 a4 a5 a6 a7 c0 c1 c2 c3 c4 c5 c6 c7 R) (hF : Fit R) :
    Calls Tryz.prog 70 #[.agg #[.slice a0 R.cur.length c0, .slice a1 R.cities.length c1, .slice a2 R.groups.length c2, .slice a3 R.firms.length c3, .slice a4 R.orders.length c4, .slice a5 R.usances.length c5, .slice a6 R.rates.length c6, .slice a7 R.halts.length c7]] w fun r w' => r = .returned (.int .i64 (orE (curE R) (cityE R))) ∧ Below w.heap.size w w' := by
  have HR := Lib.hid hr
  have RB0 := Lib.hid (RB.new w (a0 := a0) (a1 := a1) (a2 := a2) (a3 := a3) (a4 := a4) (a5 := a5) (a6 := a6) (a7 := a7) (c0 := c0) (c1 := c1) (c2 := c2) (c3 := c3) (c4 := c4) (c5 := c5) (c6 := c6) (c7 := c7) (R := R))
  have B0 := Lib.hid (Below.new1 (w := w) (.cells #[.slice a0 R.cur.length c0, .slice a1 R.cities.length c1, .slice a2 R.groups.length c2, .slice a3 R.firms.length c3, .slice a4 R.orders.length c4, .slice a5 R.usances.length c5, .slice a6 R.rates.length c6, .slice a7 R.halts.length c7] 31))
  have hs0 := hF.cur
  have hs1 := hF.cities
  have hs2 := hF.groups
  have hs3 := hF.firms
  have hs4 := hF.orders
  have hs5 := hF.usances
  have hs6 := hF.rates
  have hs7 := hF.halts
  clear hr
  have y0 := RB0.out.b0
  by_cases tl : 8 < R.cur.length
  · have kl : 8 < (R.cur.length : Int) := by omega
    have hv : Hid (orE (curE R) (cityE R) = 6) := by show _ = _; rw [orE_ne (a := curE R) (by rw [show curE R = 6 from list_long tl]; decide)]; exact list_long tl
    go_enter Tryz.func70, Tryz.ntmps70
    go_wp2_with fail
    go_ret
    exact ⟨by rw [hv.out]; try rfl, B0.out⟩
  have kl : ¬ 8 < (R.cur.length : Int) := by omega
  obtain ⟨rj, hj, hy0, hy1, hy2⟩ := info_parts infoS
  have Hj := Lib.hid hj
  have Hy0 := Lib.hid hy0
  have Hy1 := Lib.hid hy1
  have Hy2 := Lib.hid hy2
  clear hj hy0 hy1 hy2
  go_enter Tryz.func70, Tryz.ntmps70
  go_wp2_with fail
  go_loopw [3] (fun i wr => LRel R.cur.length (NoE (namedE R.cur (fun _ => true))) (w.alloc (.cells #[.slice a0 R.cur.length c0, .slice a1 R.cities.length c1, .slice a2 R.groups.length c2, .slice a3 R.firms.length c3, .slice a4 R.orders.length c4, .slice a5 R.usances.length c5, .slice a6 R.rates.length c6, .slice a7 R.halts.length c7] 31)) i wr) (fun i _ => R.cur.length - (intOf i).toNat)
  case atStart => exact ⟨0, Nat.zero_le _, rfl, fun j hj => by omega, Below.refl _ _⟩
  case round =>
    obtain ⟨k, hk, rfl, hall, hbw⟩ := hrel
    have RW := Lib.hid (RB0.out.next hbw)
    have y0 := RW.out.b0
    have y1 := RW.out.b1
    have Ha := Lib.hid hall
    have HB := Lib.hid hbw
    have BW := Lib.hid (chain B0.out hbw)
    have k0 : (0 : Int) ≤ (k : Int) := by omega
    clear hall hbw
    by_cases cl : k < R.cur.length
    case pos =>
      have kc : (k : Int) < (R.cur.length : Int) := by omega
      obtain ⟨x, hx⟩ : ∃ x, R.cur[k]? = some x := ⟨_, List.getElem?_eq_getElem cl⟩
      have HCK := Lib.hid (named_at_s hx)
      go_wp2_with fail
      refine (named_x _ R.cur k x _ (HR.out.next BW.out).cur hs0 hx).mono ?_
      rintro r w1 ⟨rfl, rfl⟩
      by_cases e : nmE (R.cur.take k) x true = 0
      · have e1 : (nmE (R.cur.take k) x true != 0) = false := nbf e
        have HZ : Hid (NoE (namedE R.cur (fun _ => true)) (k + 1)) := ok_step Ha.out (by rw [HCK.out, e])
        clear e
        go_wp2_with fail
        go_roundw
        case rel => exact ⟨k + 1, by omega, by congr 1, HZ.out, HB.out⟩
        case measure => simp [intOf]; omega
      · have e1 : (nmE (R.cur.take k) x true != 0) = true := nbt e
        have hz : namedE R.cur (fun _ => true) k = nmE (R.cur.take k) x true := HCK.out
        have hc : curE R = nmE (R.cur.take k) x true := (list_at tl Ha.out (by rw [hz]; exact e) cl).trans hz
        have hv : Hid (orE (curE R) (cityE R) = nmE (R.cur.take k) x true) := by show _ = _; rw [orE_ne (a := curE R) (by rw [hc]; exact e)]; exact hc
        clear e tl hz hc
        go_wp2_with fail
        go_ret
        exact ⟨by rw [hv.out]; try rfl, BW.out⟩
    case neg =>
      have kc : ¬ (k : Int) < (R.cur.length : Int) := by omega
      have EZ : Hid (curE R = 0) := list_all tl (fun i hi => Ha.out i (by omega))
      obtain ⟨wA, rfl⟩ : ∃ wA, wA = wr := ⟨_, rfl⟩
      have BA := Lib.hid BW.out
      have RA := Lib.hid RW.out
      clear Ha HB BW RW tl kl
      by_cases tl : 40 < R.cities.length
      · have kl : 40 < (R.cities.length : Int) := by omega
        have hv : Hid (orE (curE R) (cityE R) = 6) := (orE_zero EZ.out).trans (show cityE R = _ from list_long tl)
        go_wp2_with fail
        go_ret
        exact ⟨by rw [hv.out]; try rfl, BA.out⟩
      have kl : ¬ 40 < (R.cities.length : Int) := by omega
      go_wp2_with fail
      go_loopw [5, 6] (fun v i wr => NamRel (R.cities.map Cty.nm) (namedE (R.cities.map Cty.nm) (at_ R.cities (cityB R.orders.length R.cur.length))) R.cities.length (wA.heap.size) wA v i wr) (fun _ i _ => R.cities.length - (intOf i).toNat)
      case atStart => exact ⟨0, none, 0, Nat.zero_le _, rfl, rfl, fun j hj => by omega, World.ownsRow_nil _ _ _ _, Below.refl _ _⟩
      case round =>
        obtain ⟨k, la, lc, hk, rfl, rfl, hall, hown, hbw⟩ := hrel
        have RW := Lib.hid (RA.out.next hbw)
        have y1 := RW.out.b1
        have Ha := Lib.hid hall
        have HO := Lib.hid hown
        have HB := Lib.hid hbw
        have BW := Lib.hid (chain BA.out hbw)
        have k0 : (0 : Int) ≤ (k : Int) := by omega
        clear hall hown hbw
        by_cases cl : k < R.cities.length
        case neg =>
          have kc : ¬ (k : Int) < (R.cities.length : Int) := by omega
          have hv : Hid (orE (curE R) (cityE R) = 0) := (orE_zero EZ.out).trans (show cityE R = _ from list_all tl (fun i hi => Ha.out i (by omega)))
          clear tl
          go_wp2_with fail
          go_ret
          exact ⟨by rw [hv.out]; try rfl, BW.out⟩
        case pos =>
          have kc : (k : Int) < (R.cities.length : Int) := by omega
          obtain ⟨x, hx⟩ : ∃ x, R.cities[k]? = some x := ⟨_, List.getElem?_eq_getElem cl⟩
          obtain ⟨b, off, ea, hb, hc⟩ := (HR.out.next BW.out).cities.at hx
          subst ea
          have t0 : wr.cell? ⟨b, off + k * 6, none⟩ = some (.string x.nm) := hc 0 _ rfl
          have t1 : wr.cell? ⟨b, off + k * 6 + 1, none⟩ = some (.int .i64 x.o) := hc 1 _ rfl
          have t2 : wr.cell? ⟨b, off + k * 6 + 2, none⟩ = some (.int .i64 x.c) := hc 2 _ rfl
          have t3 : wr.cell? ⟨b, off + k * 6 + 3, none⟩ = some (.slice x.a3 x.rest.length x.k3) := hc 3 _ rfl
          have t4 : wr.cell? ⟨b, off + k * 6 + 4, none⟩ = some (.slice x.a4 x.feasts.length x.k4) := hc 4 _ rfl
          have t5 : wr.cell? ⟨b, off + k * 6 + 5, none⟩ = some (.slice x.a5 x.shut.length x.k5) := hc 5 _ rfl
          have hn := map_at (f := Cty.nm) hx
          have HN := Lib.hid hn
          have HX := Lib.hid hx
          clear hx hc hn
          go_wp2_with (at_builtin; refine wpList_append_own _ rfl (.tmp 37) (.tmp 44) 22 rfl (wA.heap.size) 9 rj (.string ⟨#[]⟩) 1 16 Tryz.underlying22 Hj.out Hy0.out Hy1.out Hy2.out rfl (by decide) _ k (strs ((R.cities.map Cty.nm).take k)) rfl ((HO.out).alloc _) ⟨wr.heap.size, 0, none⟩ 1 1 [.string x.nm] rfl rfl ?f1 ?f2 ?f3 ?f4 ?f5 ?_)
          case f1 => exact cell_new1 _ _ _ _ (by first | rfl | simp)
          case f2 => first | rfl | (intro u hu; simp at hu; subst hu; rfl)
          case f3 => unfold maxLen; omega
          case f4 => omega
          case f5 => have := HB.out.size; simp at this ⊢; omega
          intro v7 w7 hown7 hgrow7 _
          have hrow : ∀ j, (Value.slice la k lc).ownBlock = some j → wA.heap.size ≤ j := fun j hj => (HO.out.lt j hj).1
          have b7 : Below wr.heap.size wr w7 ∨ True := .inr trivial
          have B7 : Hid (Below wA.heap.size wA w7) := HB.out.trans (((Below.refl wA.heap.size wr).alloc HB.out.size _).grown hgrow7 (by have := HB.out.size; simp at this ⊢; omega) (fun j hj => by have := hrow j hj; simp at this ⊢; omega))
          have HO7 : Hid (w7.ownsRow (wA.heap.size) 9 1 v7 (k + 1) (strs ((R.cities.map Cty.nm).take (k + 1)))) := by
            show w7.ownsRow _ _ _ _ _ _
            rw [List.take_add_one, HN.out]
            simpa [strs] using hown7
          have hl7 : ((R.cities.map Cty.nm).take (k + 1)).length = k + 1 := by rw [List.length_take, List.length_map]; omega
          obtain ⟨la7, lc7, e7⟩ := (own_str HO7.out hl7.symm).shape
          rw [hl7] at e7
          subst e7
          have HS7 := Lib.hid (own_str HO7.out hl7.symm)
          have HSZ : Sz ((R.cities.map Cty.nm).take (k + 1)).length := by rw [hl7]; unfold Sz; omega
          have BW7 := Lib.hid (chain BA.out B7.out)
          have RW7 := Lib.hid (RA.out.next B7.out)
          clear hown7 hgrow7 hrow hl7 b7 y1 t0 t1 t2 t3 t4 t5
          have y1 := RW7.out.b1
          obtain ⟨b8, off8, ea8, -, hc⟩ := (HR.out.next BW7.out).cities.at HX.out
          simp only [Option.some.injEq, Addr.mk.injEq, and_true] at ea8
          obtain ⟨rfl, rfl⟩ := ea8
          have t0 : w7.cell? ⟨b, off + k * 6, none⟩ = some (.string x.nm) := hc 0 _ rfl
          have t1 : w7.cell? ⟨b, off + k * 6 + 1, none⟩ = some (.int .i64 x.o) := hc 1 _ rfl
          have t2 : w7.cell? ⟨b, off + k * 6 + 2, none⟩ = some (.int .i64 x.c) := hc 2 _ rfl
          have t3 : w7.cell? ⟨b, off + k * 6 + 3, none⟩ = some (.slice x.a3 x.rest.length x.k3) := hc 3 _ rfl
          have t4 : w7.cell? ⟨b, off + k * 6 + 4, none⟩ = some (.slice x.a4 x.feasts.length x.k4) := hc 4 _ rfl
          have t5 : w7.cell? ⟨b, off + k * 6 + 5, none⟩ = some (.slice x.a5 x.shut.length x.k5) := hc 5 _ rfl
          clear hc
          go_wp2_with fail
          refine (named_x _ ((R.cities.map Cty.nm).take (k + 1)) k x.nm _ HS7.out HSZ (take_get HN.out)).mono ?_
          rintro r w1 ⟨rfl, rfl⟩
          rw [take_take']
          have HCK := Lib.hid (named_at' (nm := Cty.nm) (p := cityB R.orders.length R.cur.length) HX.out)
          by_cases e : nmE ((R.cities.map Cty.nm).take k) x.nm true = 0
          · have e1 : (nmE ((R.cities.map Cty.nm).take k) x.nm true != 0) = false := nbf e
            have HE := Lib.hid (nmE_rest (ok := cityB R.orders.length R.cur.length x) e)
            clear e
            obtain ⟨f1, f2, f3, f4⟩ := hF.inC x (List.mem_of_getElem? HX.out)
            have HRS := Lib.hid (HR.out.next BW7.out)
            have HIC := Lib.hid ((HR.out.next BW7.out).inC x (List.mem_of_getElem? HX.out))
            have hS : (fun w' => w'.cell? ⟨w.heap.size, 0, none⟩ = some (.slice a0 R.cur.length c0) ∧ w'.cell? ⟨w.heap.size, 1, none⟩ = some (.slice (some ⟨b, off, none⟩) R.cities.length c1) ∧ w'.cell? ⟨w.heap.size, 2, none⟩ = some (.slice a2 R.groups.length c2) ∧ w'.cell? ⟨w.heap.size, 3, none⟩ = some (.slice a3 R.firms.length c3) ∧ w'.cell? ⟨w.heap.size, 4, none⟩ = some (.slice a4 R.orders.length c4) ∧ w'.cell? ⟨w.heap.size, 5, none⟩ = some (.slice a5 R.usances.length c5) ∧ w'.cell? ⟨w.heap.size, 6, none⟩ = some (.slice a6 R.rates.length c6) ∧ w'.cell? ⟨w.heap.size, 7, none⟩ = some (.slice a7 R.halts.length c7) ∧ w'.cell? ⟨b, off + k * 6, none⟩ = some (.string x.nm) ∧ w'.cell? ⟨b, off + k * 6 + 1, none⟩ = some (.int .i64 x.o) ∧ w'.cell? ⟨b, off + k * 6 + 2, none⟩ = some (.int .i64 x.c) ∧ w'.cell? ⟨b, off + k * 6 + 3, none⟩ = some (.slice x.a3 x.rest.length x.k3) ∧ w'.cell? ⟨b, off + k * 6 + 4, none⟩ = some (.slice x.a4 x.feasts.length x.k4) ∧ w'.cell? ⟨b, off + k * 6 + 5, none⟩ = some (.slice x.a5 x.shut.length x.k5)) w7 := ⟨RW7.out.b0, RW7.out.b1, RW7.out.b2, RW7.out.b3, RW7.out.b4, RW7.out.b5, RW7.out.b6, RW7.out.b7, t0, t1, t2, t3, t4, t5⟩
            go_wp2_with fail
            refine wp_region_held_drew (S := fun w' => w'.cell? ⟨w.heap.size, 0, none⟩ = some (.slice a0 R.cur.length c0) ∧ w'.cell? ⟨w.heap.size, 1, none⟩ = some (.slice (some ⟨b, off, none⟩) R.cities.length c1) ∧ w'.cell? ⟨w.heap.size, 2, none⟩ = some (.slice a2 R.groups.length c2) ∧ w'.cell? ⟨w.heap.size, 3, none⟩ = some (.slice a3 R.firms.length c3) ∧ w'.cell? ⟨w.heap.size, 4, none⟩ = some (.slice a4 R.orders.length c4) ∧ w'.cell? ⟨w.heap.size, 5, none⟩ = some (.slice a5 R.usances.length c5) ∧ w'.cell? ⟨w.heap.size, 6, none⟩ = some (.slice a6 R.rates.length c6) ∧ w'.cell? ⟨w.heap.size, 7, none⟩ = some (.slice a7 R.halts.length c7) ∧ w'.cell? ⟨b, off + k * 6, none⟩ = some (.string x.nm) ∧ w'.cell? ⟨b, off + k * 6 + 1, none⟩ = some (.int .i64 x.o) ∧ w'.cell? ⟨b, off + k * 6 + 2, none⟩ = some (.int .i64 x.c) ∧ w'.cell? ⟨b, off + k * 6 + 3, none⟩ = some (.slice x.a3 x.rest.length x.k3) ∧ w'.cell? ⟨b, off + k * 6 + 4, none⟩ = some (.slice x.a4 x.feasts.length x.k4) ∧ w'.cell? ⟨b, off + k * 6 + 5, none⟩ = some (.slice x.a5 x.shut.length x.k5)) (by kernel_rfl) ?_ (fun hHeld => ?_)
            · exact hS
            refine takeN0 (v := ?_) (by kernel_rfl) (by kernel_rfl) (by kernel_rfl) (fun _ _ _ h => h) (by rfl) ?_ (by assumption) ?_
            rotate_left
            · intro wz hSw
              try dsimp only at hSw
              go_simp
              try with_reducible rfl
            try simp only [Act.put, List.setIfInBounds_toArray, List.set_cons_zero, List.set_cons_succ]
            refine takeN1 (v := ?_) (by kernel_rfl) (by kernel_rfl) (by kernel_rfl) (fun _ _ _ h => h) (by rfl) ?_ (by assumption) ?_
            rotate_left
            · intro wz hSw
              try dsimp only at hSw
              go_simp
              try with_reducible rfl
            try simp only [Act.put, List.setIfInBounds_toArray, List.set_cons_zero, List.set_cons_succ]
            refine takeN2 (v := ?_) (by kernel_rfl) (by kernel_rfl) (by kernel_rfl) (fun _ _ _ h => h) (by rfl) ?_ (by assumption) ?_
            rotate_left
            · intro wz hSw
              try dsimp only at hSw
              go_simp
              try with_reducible rfl
            try simp only [Act.put, List.setIfInBounds_toArray, List.set_cons_zero, List.set_cons_succ]
            refine takeN3 (v := ?_) (by kernel_rfl) (by kernel_rfl) (by kernel_rfl) (fun _ _ _ h => h) (by rfl) ?_ (by assumption) ?_
            rotate_left
            · intro wz hSw
              try dsimp only at hSw
              go_simp
              try with_reducible rfl
            try simp only [Act.put, List.setIfInBounds_toArray, List.set_cons_zero, List.set_cons_succ]
            refine takeN4 (v := ?_) (by kernel_rfl) (by kernel_rfl) (by kernel_rfl) (fun _ _ _ h => h) (by rfl) ?_ (by assumption) ?_
            rotate_left
            · intro wz hSw
              try dsimp only at hSw
              go_simp
              try with_reducible rfl
            try simp only [Act.put, List.setIfInBounds_toArray, List.set_cons_zero, List.set_cons_succ]
            refine takeN5 (v := ?_) (by kernel_rfl) (by kernel_rfl) (by kernel_rfl) (fun _ _ _ h => h) (by rfl) ?_ (by assumption) ?_
            rotate_left
            · intro wz hSw
              try dsimp only at hSw
              go_simp
              try with_reducible rfl
            try simp only [Act.put, List.setIfInBounds_toArray, List.set_cons_zero, List.set_cons_succ]
            refine comeN6 (by kernel_rfl) (by rfl) (fun K hK => ?_)
            go_simp
            (go_at_call 136; refine (RightCity_x x _ (HRS.out.next (below_drew _)) hs4 hs0 (HIC.out.next (below_drew _)) f1 f2 f3 f4).mono ?_; rintro r w8 ⟨rfl, b8⟩)
            try go_wp2_with fail
            have HD := chain (below_drew _) b8
            have hS8 : (fun w' => w'.cell? ⟨w.heap.size, 0, none⟩ = some (.slice a0 R.cur.length c0) ∧ w'.cell? ⟨w.heap.size, 1, none⟩ = some (.slice (some ⟨b, off, none⟩) R.cities.length c1) ∧ w'.cell? ⟨w.heap.size, 2, none⟩ = some (.slice a2 R.groups.length c2) ∧ w'.cell? ⟨w.heap.size, 3, none⟩ = some (.slice a3 R.firms.length c3) ∧ w'.cell? ⟨w.heap.size, 4, none⟩ = some (.slice a4 R.orders.length c4) ∧ w'.cell? ⟨w.heap.size, 5, none⟩ = some (.slice a5 R.usances.length c5) ∧ w'.cell? ⟨w.heap.size, 6, none⟩ = some (.slice a6 R.rates.length c6) ∧ w'.cell? ⟨w.heap.size, 7, none⟩ = some (.slice a7 R.halts.length c7) ∧ w'.cell? ⟨b, off + k * 6, none⟩ = some (.string x.nm) ∧ w'.cell? ⟨b, off + k * 6 + 1, none⟩ = some (.int .i64 x.o) ∧ w'.cell? ⟨b, off + k * 6 + 2, none⟩ = some (.int .i64 x.c) ∧ w'.cell? ⟨b, off + k * 6 + 3, none⟩ = some (.slice x.a3 x.rest.length x.k3) ∧ w'.cell? ⟨b, off + k * 6 + 4, none⟩ = some (.slice x.a4 x.feasts.length x.k4) ∧ w'.cell? ⟨b, off + k * 6 + 5, none⟩ = some (.slice x.a5 x.shut.length x.k5)) w8 := ⟨cell_up HD hS.1, cell_up HD hS.2.1, cell_up HD hS.2.2.1, cell_up HD hS.2.2.2.1, cell_up HD hS.2.2.2.2.1, cell_up HD hS.2.2.2.2.2.1, cell_up HD hS.2.2.2.2.2.2.1, cell_up HD hS.2.2.2.2.2.2.2.1, cell_up HD hS.2.2.2.2.2.2.2.2.1, cell_up HD hS.2.2.2.2.2.2.2.2.2.1, cell_up HD hS.2.2.2.2.2.2.2.2.2.2.1, cell_up HD hS.2.2.2.2.2.2.2.2.2.2.2.1, cell_up HD hS.2.2.2.2.2.2.2.2.2.2.2.2.1, cell_up HD hS.2.2.2.2.2.2.2.2.2.2.2.2.2⟩
            have B8 := Lib.hid (chain BW7.out HD)
            have B8W := Lib.hid (chain B7.out HD)
            have HO8 := Lib.hid (own_nx HO7.out HD)
            clear b8 HD
            refine hK.out _ _ ?_ (fun hHeld => ?_)
            · exact hS8
            clear hK K
            try simp only [Act.put, List.setIfInBounds_toArray, List.set_cons_zero, List.set_cons_succ]
            refine takeN7 (v := ?_) (by kernel_rfl) (by kernel_rfl) (by kernel_rfl) (fun _ _ _ h => h) (by rfl) ?_ (by assumption) ?_
            rotate_left
            · intro wz hSw
              try dsimp only at hSw
              go_simp
              try with_reducible rfl
            try simp only [Act.put, List.setIfInBounds_toArray, List.set_cons_zero, List.set_cons_succ]
            refine wpAnyH_done (by kernel_rfl) ?_ _
            clear hHeld hS hS8 t0 t1 t2 t3 t4 t5 y1
            cases e2 : cityB R.orders.length R.cur.length x with
            | false =>
              have hz : namedE (R.cities.map Cty.nm) (at_ R.cities (cityB R.orders.length R.cur.length)) k = 1 := by rw [HCK.out, HE.out, e2]; rfl
              have hv : Hid (orE (curE R) (cityE R) = 1) := (orE_zero EZ.out).trans (show cityE R = _ from (by first | exact (list_at tl Ha.out (by rw [hz]; decide) cl).trans hz))
              clear tl hz e2
              go_wp2_with fail
              go_ret
              exact ⟨by rw [hv.out]; try rfl, B8.out⟩
            | true =>
              have OK := Lib.hid e2
              clear e2
              have HZ : Hid (NoE (namedE (R.cities.map Cty.nm) (at_ R.cities (cityB R.orders.length R.cur.length))) (k + 1)) := ok_step Ha.out (by rw [HCK.out, HE.out, OK.out]; rfl)
              go_wp2_with fail
              go_roundw
              case rel => exact ⟨k + 1, la7, lc7, by omega, rfl, by congr 1, HZ.out, HO8.out, B8W.out⟩
              case measure => simp [intOf]; omega
          · have e1 : (nmE ((R.cities.map Cty.nm).take k) x.nm true != 0) = true := nbt e
            have hz : namedE (R.cities.map Cty.nm) (at_ R.cities (cityB R.orders.length R.cur.length)) k = nmE ((R.cities.map Cty.nm).take k) x.nm true := by rw [HCK.out, nmE_split e]
            have hv : Hid (orE (curE R) (cityE R) = nmE ((R.cities.map Cty.nm).take k) x.nm true) := (orE_zero EZ.out).trans (show cityE R = _ from (by first | exact (list_at tl Ha.out (by rw [hz]; exact e) cl).trans hz))
            clear e tl hz
            go_wp2_with fail
            go_ret
            exact ⟨by rw [hv.out]; try rfl, BW7.out⟩

end Go.Proofs.YtcjakgpmompaiaaGreatDoor
