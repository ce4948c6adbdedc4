/-
  The reference: lists with names; the list of orders.
-/
import Derived.Test.YtcjakgpmompaiaaGreatDoorRefA
namespace Go.Proofs.YtcjakgpmompaiaaGreatDoor
open Go.RowKit Rl

theorem Withinq (n lo hi : Int) (w : World) : Calls Tryz.prog 137 #[.int .i64 n, .int .i64 lo, .int .i64 hi] w fun r w' => r = .returned (.bool (wi n lo hi)) ∧ w' = w := (Within_x n lo hi w).mono (fun _ _ h => ⟨h.1, h.2.symm⟩)
theorem nmE_split {nms : List B} {s : B} {ok : Bool} (h : nmE nms s true ≠ 0) : nmE nms s ok = nmE nms s true := by
  unfold nmE at *
  split
  · split
    · rename_i h1 h2
      rw [if_pos h1, if_pos h2] at h
      simp at h
    · rfl
  · rfl
theorem nmE_rest {nms : List B} {s : B} {ok : Bool} (h : nmE nms s true = 0) : nmE nms s ok = if ok = true then 0 else 1 := by
  unfold nmE at *
  split
  · rename_i h1
    rw [if_pos h1] at h
    split
    · rfl
    · rename_i h2
      rw [if_neg h2] at h
      simp at h
  · rename_i h1
    rw [if_neg h1] at h
    simp at h
theorem named_at' {T : Type} {nm : T → B} {p : T → Bool} {l : List T} {i : Nat} {x : T} (hx : l[i]? = some x) : namedE (l.map nm) (at_ l p) i = nmE ((l.map nm).take i) (nm x) (p x) := by
  rw [named_at hx, List.map_take]
def NoE (chk : Nat → Int) (k : Nat) : Prop := ∀ j, j < k → chk j = 0
def NamRel (names : List B) (chk : Nat → Int) (n base : Nat) (W : World) (v i : Value) (wr : World) : Prop := ∃ (k : Nat) (la : Option Addr) (lc : Nat), k ≤ n ∧ v = .slice la k lc ∧ i = .int .i64 (k : Int) ∧ NoE chk k ∧ wr.ownsRow base 9 1 (.slice la k lc) k (strs (names.take k)) ∧ Below W.heap.size W wr
theorem take_take' {l : List B} {k : Nat} : (l.take (k + 1)).take k = l.take k := by rw [List.take_take, Nat.min_eq_left (by omega)]
theorem take_get {l : List B} {k : Nat} {s : B} (h : l[k]? = some s) : (l.take (k + 1))[k]? = some s := by rw [List.getElem?_take_of_lt (by omega)]; exact h

set_option maxHeartbeats 6400000 in
set_option maxRecDepth 100000 in
theorem rorders_x {a0 a1 a2 a3 a4 a5 a6 a7 : Option Addr} {c0 c1 c2 c3 c4 c5 c6 c7 : Nat} {R : Rlm} (w : World) (hr : RS w a0 a1 a2 a3 a4 a5 a6 a7 c0 c1 c2 c3 c4 c5 c6 c7 R) (hF : Fit R) :
    Calls Tryz.prog 72 #[.agg #[.slice a0 R.cur.length c0, .slice a1 R.cities.length c1, .slice a2 R.groups.length c2, .slice a3 R.firms.length c3, .slice a4 R.orders.length c4, .slice a5 R.usances.length c5, .slice a6 R.rates.length c6, .slice a7 R.halts.length c7]] w fun r w' => r = .returned (.int .i64 (orderE R)) ∧ Below w.heap.size w w' := by
  have HR := Lib.hid hr
  have RB0 := Lib.hid (RB.new w (a0 := a0) (a1 := a1) (a2 := a2) (a3 := a3) (a4 := a4) (a5 := a5) (a6 := a6) (a7 := a7) (c0 := c0) (c1 := c1) (c2 := c2) (c3 := c3) (c4 := c4) (c5 := c5) (c6 := c6) (c7 := c7) (R := R))
  have B0 := Lib.hid (Below.new1 (w := w) (.cells #[.slice a0 R.cur.length c0, .slice a1 R.cities.length c1, .slice a2 R.groups.length c2, .slice a3 R.firms.length c3, .slice a4 R.orders.length c4, .slice a5 R.usances.length c5, .slice a6 R.rates.length c6, .slice a7 R.halts.length c7] 31))
  have hs0 := hF.cur
  have hs1 := hF.cities
  have hs2 := hF.groups
  have hs3 := hF.firms
  have hs4 := hF.orders
  have hs5 := hF.usances
  have hs6 := hF.rates
  have hs7 := hF.halts
  clear hr
  have y4 := RB0.out.b4
  have BRR := Lib.hid (Below.refl (w.alloc (.cells #[.slice a0 R.cur.length c0, .slice a1 R.cities.length c1, .slice a2 R.groups.length c2, .slice a3 R.firms.length c3, .slice a4 R.orders.length c4, .slice a5 R.usances.length c5, .slice a6 R.rates.length c6, .slice a7 R.halts.length c7] 31)).heap.size (w.alloc (.cells #[.slice a0 R.cur.length c0, .slice a1 R.cities.length c1, .slice a2 R.groups.length c2, .slice a3 R.firms.length c3, .slice a4 R.orders.length c4, .slice a5 R.usances.length c5, .slice a6 R.rates.length c6, .slice a7 R.halts.length c7] 31)))
  have zs : (w.alloc (.cells #[.slice a0 R.cur.length c0, .slice a1 R.cities.length c1, .slice a2 R.groups.length c2, .slice a3 R.firms.length c3, .slice a4 R.orders.length c4, .slice a5 R.usances.length c5, .slice a6 R.rates.length c6, .slice a7 R.halts.length c7] 31)).heap.size = w.heap.size + 1 := by simp
  have ZS := Lib.hid zs
  clear zs
  obtain ⟨rj, hj, hy0, hy1, hy2⟩ := info_parts infoS
  have Hj := Lib.hid hj
  have Hy0 := Lib.hid hy0
  have Hy1 := Lib.hid hy1
  have Hy2 := Lib.hid hy2
  clear hj hy0 hy1 hy2
  by_cases tl : 20 < R.orders.length
  · have kl : 20 < (R.orders.length : Int) := by omega
    have hv : Hid (orderE R = 6) := (show orderE R = _ from list_long tl)
    go_enter Tryz.func72, Tryz.ntmps72
    go_wp2_with fail
    go_ret
    exact ⟨by rw [hv.out]; try rfl, B0.out⟩
  have kl : ¬ 20 < (R.orders.length : Int) := by omega
  go_enter Tryz.func72, Tryz.ntmps72
  go_wp2_with fail
  go_loopw [3, 4] (fun v i wr => NamRel (R.orders.map Odr.nm) (namedE (R.orders.map Odr.nm) (at_ R.orders orderB)) R.orders.length (w.heap.size + 1) (w.alloc (.cells #[.slice a0 R.cur.length c0, .slice a1 R.cities.length c1, .slice a2 R.groups.length c2, .slice a3 R.firms.length c3, .slice a4 R.orders.length c4, .slice a5 R.usances.length c5, .slice a6 R.rates.length c6, .slice a7 R.halts.length c7] 31)) v i wr) (fun _ i _ => R.orders.length - (intOf i).toNat)
  case atStart => exact ⟨0, none, 0, Nat.zero_le _, rfl, rfl, fun j hj => by omega, World.ownsRow_nil _ _ _ _, Below.refl _ _⟩
  case round =>
    obtain ⟨k, la, lc, hk, rfl, rfl, hall, hown, hbw⟩ := hrel
    have RW := Lib.hid (RB0.out.next hbw)
    have y4 := RW.out.b4
    have Ha := Lib.hid hall
    have HO := Lib.hid hown
    have HB := Lib.hid hbw
    have BW := Lib.hid (chain B0.out hbw)
    have k0 : (0 : Int) ≤ (k : Int) := by omega
    clear hall hown hbw
    by_cases cl : k < R.orders.length
    case neg =>
      have kc : ¬ (k : Int) < (R.orders.length : Int) := by omega
      have hv : Hid (orderE R = 0) := (show orderE R = _ from list_all tl (fun i hi => Ha.out i (by omega)))
      clear tl
      go_wp2_with fail
      go_ret
      exact ⟨by rw [hv.out]; try rfl, BW.out⟩
    case pos =>
      have kc : (k : Int) < (R.orders.length : Int) := by omega
      obtain ⟨x, hx⟩ : ∃ x, R.orders[k]? = some x := ⟨_, List.getElem?_eq_getElem cl⟩
      obtain ⟨b, off, ea, hb, hc⟩ := (HR.out.next BW.out).orders.at hx
      subst ea
      have t0 : wr.cell? ⟨b, off + k * 4, none⟩ = some (.string x.nm) := hc 0 _ rfl
      have t1 : wr.cell? ⟨b, off + k * 4 + 1, none⟩ = some (.bool x.acc) := hc 1 _ rfl
      have t2 : wr.cell? ⟨b, off + k * 4 + 2, none⟩ = some (.slice x.a2 x.ch.length x.k2) := hc 2 _ rfl
      have t3 : wr.cell? ⟨b, off + k * 4 + 3, none⟩ = some (.slice x.a3 x.ru.length x.k3) := hc 3 _ rfl
      have hn := map_at (f := Odr.nm) hx
      have HN := Lib.hid hn
      have HX := Lib.hid hx
      clear hx hc hn
      go_wp2_with (at_builtin; refine wpList_append_own _ rfl (.tmp 17) (.tmp 24) 22 rfl (w.heap.size + 1) 9 rj (.string ⟨#[]⟩) 1 16 Tryz.underlying22 Hj.out Hy0.out Hy1.out Hy2.out rfl (by decide) _ k (strs ((R.orders.map Odr.nm).take k)) rfl ((HO.out).alloc _) ⟨wr.heap.size, 0, none⟩ 1 1 [.string x.nm] rfl rfl ?f1 ?f2 ?f3 ?f4 ?f5 ?_)
      case f1 => exact cell_new1 _ _ _ _ (by first | rfl | simp)
      case f2 => first | rfl | (intro u hu; simp at hu; subst hu; rfl)
      case f3 => unfold maxLen; omega
      case f4 => omega
      case f5 => have := HB.out.size; simp at this ⊢; omega
      intro v7 w7 hown7 hgrow7 _
      have hrow : ∀ j, (Value.slice la k lc).ownBlock = some j → w.heap.size + 1 ≤ j := fun j hj => (HO.out.lt j hj).1
      have b7 : Below wr.heap.size wr w7 ∨ True := .inr trivial
      have B7 : Hid (Below (w.alloc (.cells #[.slice a0 R.cur.length c0, .slice a1 R.cities.length c1, .slice a2 R.groups.length c2, .slice a3 R.firms.length c3, .slice (some ⟨b, off, none⟩) R.orders.length c4, .slice a5 R.usances.length c5, .slice a6 R.rates.length c6, .slice a7 R.halts.length c7] 31)).heap.size (w.alloc (.cells #[.slice a0 R.cur.length c0, .slice a1 R.cities.length c1, .slice a2 R.groups.length c2, .slice a3 R.firms.length c3, .slice (some ⟨b, off, none⟩) R.orders.length c4, .slice a5 R.usances.length c5, .slice a6 R.rates.length c6, .slice a7 R.halts.length c7] 31)) w7) := HB.out.trans (((Below.refl (w.alloc (.cells #[.slice a0 R.cur.length c0, .slice a1 R.cities.length c1, .slice a2 R.groups.length c2, .slice a3 R.firms.length c3, .slice (some ⟨b, off, none⟩) R.orders.length c4, .slice a5 R.usances.length c5, .slice a6 R.rates.length c6, .slice a7 R.halts.length c7] 31)).heap.size wr).alloc HB.out.size _).grown hgrow7 (by have := HB.out.size; simp at this ⊢; omega) (fun j hj => by have := hrow j hj; simp at this ⊢; omega))
      have HO7 : Hid (w7.ownsRow (w.heap.size + 1) 9 1 v7 (k + 1) (strs ((R.orders.map Odr.nm).take (k + 1)))) := by
        show w7.ownsRow _ _ _ _ _ _
        rw [List.take_add_one, HN.out]
        simpa [strs] using hown7
      have hl7 : ((R.orders.map Odr.nm).take (k + 1)).length = k + 1 := by rw [List.length_take, List.length_map]; omega
      obtain ⟨la7, lc7, e7⟩ := (own_str HO7.out hl7.symm).shape
      rw [hl7] at e7
      subst e7
      have HS7 := Lib.hid (own_str HO7.out hl7.symm)
      have HSZ : Sz ((R.orders.map Odr.nm).take (k + 1)).length := by rw [hl7]; unfold Sz; omega
      have BW7 := Lib.hid (chain B0.out B7.out)
      have RW7 := Lib.hid (RB0.out.next B7.out)
      clear hown7 hgrow7 hrow hl7 b7 y4 t0 t1 t2 t3
      have y4 := RW7.out.b4
      obtain ⟨b8, off8, ea8, -, hc⟩ := (HR.out.next BW7.out).orders.at HX.out
      simp only [Option.some.injEq, Addr.mk.injEq, and_true] at ea8
      obtain ⟨rfl, rfl⟩ := ea8
      have t0 : w7.cell? ⟨b, off + k * 4, none⟩ = some (.string x.nm) := hc 0 _ rfl
      have t1 : w7.cell? ⟨b, off + k * 4 + 1, none⟩ = some (.bool x.acc) := hc 1 _ rfl
      have t2 : w7.cell? ⟨b, off + k * 4 + 2, none⟩ = some (.slice x.a2 x.ch.length x.k2) := hc 2 _ rfl
      have t3 : w7.cell? ⟨b, off + k * 4 + 3, none⟩ = some (.slice x.a3 x.ru.length x.k3) := hc 3 _ rfl
      clear hc
      go_wp2_with fail
      refine (named_x _ ((R.orders.map Odr.nm).take (k + 1)) k x.nm _ HS7.out HSZ (take_get HN.out)).mono ?_
      rintro r w1 ⟨rfl, rfl⟩
      rw [take_take']
      have HCK := Lib.hid (named_at' (nm := Odr.nm) (p := orderB) HX.out)
      by_cases e : nmE ((R.orders.map Odr.nm).take k) x.nm true = 0
      · have e1 : (nmE ((R.orders.map Odr.nm).take k) x.nm true != 0) = false := nbf e
        have HE := Lib.hid (nmE_rest (ok := orderB x) e)
        clear e
        obtain ⟨f1, f2⟩ := hF.inO x (List.mem_of_getElem? HX.out)
        have HIO := Lib.hid ((HR.out.next BW7.out).inO x (List.mem_of_getElem? HX.out))
        go_wp2_with fail
        refine (RightOrder_x x _ HIO.out f1 f2).mono ?_
        rintro r w8 ⟨rfl, b8⟩
        have B8 := Lib.hid (chain BW7.out b8)
        have B8W := Lib.hid (chain B7.out b8)
        have HO8 := Lib.hid (own_nx HO7.out b8)
        clear b8
        cases e2 : orderB x with
        | false =>
          have hz : namedE (R.orders.map Odr.nm) (at_ R.orders orderB) k = 1 := by rw [HCK.out, HE.out, e2]; rfl
          have hv : Hid (orderE R = 1) := (show orderE R = _ from (by first | exact (list_at tl Ha.out (by rw [hz]; decide) cl).trans hz))
          clear tl hz e2
          go_wp2_with fail
          go_ret
          exact ⟨by rw [hv.out]; try rfl, B8.out⟩
        | true =>
          have OK := Lib.hid e2
          clear e2
          have HZ : Hid (NoE (namedE (R.orders.map Odr.nm) (at_ R.orders orderB)) (k + 1)) := ok_step Ha.out (by rw [HCK.out, HE.out, OK.out]; rfl)
          go_wp2_with fail
          go_roundw
          case rel => exact ⟨k + 1, la7, lc7, by omega, rfl, by congr 1, HZ.out, HO8.out, B8W.out⟩
          case measure => simp [intOf]; omega
      · have e1 : (nmE ((R.orders.map Odr.nm).take k) x.nm true != 0) = true := nbt e
        have hz : namedE (R.orders.map Odr.nm) (at_ R.orders orderB) k = nmE ((R.orders.map Odr.nm).take k) x.nm true := by rw [HCK.out, nmE_split e]
        have hv : Hid (orderE R = nmE ((R.orders.map Odr.nm).take k) x.nm true) := (show orderE R = _ from (by first | exact (list_at tl Ha.out (by rw [hz]; exact e) cl).trans hz))
        clear e tl hz
        go_wp2_with fail
        go_ret
        exact ⟨by rw [hv.out]; try rfl, BW7.out⟩

end Go.Proofs.YtcjakgpmompaiaaGreatDoor

/-
  The reference: the list of cities.
-/
namespace Go.Proofs.YtcjakgpmompaiaaGreatDoor
open Go.RowKit Rl

set_option maxHeartbeats 6400000 in
set_option maxRecDepth 100000 in
theorem rcities_x {a0 a1 a2 a3 a4 a5 a6 a7 : Option Addr} {c0 c1 c2 c3 c4 c5 c6 c7 : Nat} {R : Rlm} (w : World) (hr : RS w a0 a1 a2 a3 a4 a5 a6 a7 c0 c1 c2 c3 c4 c5 c6 c7 R) (hF : Fit R) :
    Calls Tryz.prog 70 #[.agg #[.slice a0 R.cur.length c0, .slice a1 R.cities.length c1, .slice a2 R.groups.length c2, .slice a3 R.firms.length c3, .slice a4 R.orders.length c4, .slice a5 R.usances.length c5, .slice a6 R.rates.length c6, .slice a7 R.halts.length c7]] w fun r w' => r = .returned (.int .i64 (orE (curE R) (cityE R))) ∧ Below w.heap.size w w' := by
  have HR := Lib.hid hr
  have RB0 := Lib.hid (RB.new w (a0 := a0) (a1 := a1) (a2 := a2) (a3 := a3) (a4 := a4) (a5 := a5) (a6 := a6) (a7 := a7) (c0 := c0) (c1 := c1) (c2 := c2) (c3 := c3) (c4 := c4) (c5 := c5) (c6 := c6) (c7 := c7) (R := R))
  have B0 := Lib.hid (Below.new1 (w := w) (.cells #[.slice a0 R.cur.length c0, .slice a1 R.cities.length c1, .slice a2 R.groups.length c2, .slice a3 R.firms.length c3, .slice a4 R.orders.length c4, .slice a5 R.usances.length c5, .slice a6 R.rates.length c6, .slice a7 R.halts.length c7] 31))
  have hs0 := hF.cur
  have hs1 := hF.cities
  have hs2 := hF.groups
  have hs3 := hF.firms
  have hs4 := hF.orders
  have hs5 := hF.usances
  have hs6 := hF.rates
  have hs7 := hF.halts
  clear hr
  have y0 := RB0.out.b0
  by_cases tl : 8 < R.cur.length
  · have kl : 8 < (R.cur.length : Int) := by omega
    have hv : Hid (orE (curE R) (cityE R) = 6) := by show _ = _; rw [orE_ne (a := curE R) (by rw [show curE R = 6 from list_long tl]; decide)]; exact list_long tl
    go_enter Tryz.func70, Tryz.ntmps70
    go_wp2_with fail
    go_ret
    exact ⟨by rw [hv.out]; try rfl, B0.out⟩
  have kl : ¬ 8 < (R.cur.length : Int) := by omega
  obtain ⟨rj, hj, hy0, hy1, hy2⟩ := info_parts infoS
  have Hj := Lib.hid hj
  have Hy0 := Lib.hid hy0
  have Hy1 := Lib.hid hy1
  have Hy2 := Lib.hid hy2
  clear hj hy0 hy1 hy2
  go_enter Tryz.func70, Tryz.ntmps70
  go_wp2_with fail
  go_loopw [3] (fun i wr => LRel R.cur.length (NoE (namedE R.cur (fun _ => true))) (w.alloc (.cells #[.slice a0 R.cur.length c0, .slice a1 R.cities.length c1, .slice a2 R.groups.length c2, .slice a3 R.firms.length c3, .slice a4 R.orders.length c4, .slice a5 R.usances.length c5, .slice a6 R.rates.length c6, .slice a7 R.halts.length c7] 31)) i wr) (fun i _ => R.cur.length - (intOf i).toNat)
  case atStart => exact ⟨0, Nat.zero_le _, rfl, fun j hj => by omega, Below.refl _ _⟩
  case round =>
    obtain ⟨k, hk, rfl, hall, hbw⟩ := hrel
    have RW := Lib.hid (RB0.out.next hbw)
    have y0 := RW.out.b0
    have y1 := RW.out.b1
    have Ha := Lib.hid hall
    have HB := Lib.hid hbw
    have BW := Lib.hid (chain B0.out hbw)
    have k0 : (0 : Int) ≤ (k : Int) := by omega
    clear hall hbw
    by_cases cl : k < R.cur.length
    case pos =>
      have kc : (k : Int) < (R.cur.length : Int) := by omega
      obtain ⟨x, hx⟩ : ∃ x, R.cur[k]? = some x := ⟨_, List.getElem?_eq_getElem cl⟩
      have HCK := Lib.hid (named_at_s hx)
      go_wp2_with fail
      refine (named_x _ R.cur k x _ (HR.out.next BW.out).cur hs0 hx).mono ?_
      rintro r w1 ⟨rfl, rfl⟩
      by_cases e : nmE (R.cur.take k) x true = 0
      · have e1 : (nmE (R.cur.take k) x true != 0) = false := nbf e
        have HZ : Hid (NoE (namedE R.cur (fun _ => true)) (k + 1)) := ok_step Ha.out (by rw [HCK.out, e])
        clear e
        go_wp2_with fail
        go_roundw
        case rel => exact ⟨k + 1, by omega, by congr 1, HZ.out, HB.out⟩
        case measure => simp [intOf]; omega
      · have e1 : (nmE (R.cur.take k) x true != 0) = true := nbt e
        have hz : namedE R.cur (fun _ => true) k = nmE (R.cur.take k) x true := HCK.out
        have hc : curE R = nmE (R.cur.take k) x true := (list_at tl Ha.out (by rw [hz]; exact e) cl).trans hz
        have hv : Hid (orE (curE R) (cityE R) = nmE (R.cur.take k) x true) := by show _ = _; rw [orE_ne (a := curE R) (by rw [hc]; exact e)]; exact hc
        clear e tl hz hc
        go_wp2_with fail
        go_ret
        exact ⟨by rw [hv.out]; try rfl, BW.out⟩
    case neg =>
      have kc : ¬ (k : Int) < (R.cur.length : Int) := by omega
      have EZ : Hid (curE R = 0) := list_all tl (fun i hi => Ha.out i (by omega))
      obtain ⟨wA, rfl⟩ : ∃ wA, wA = wr := ⟨_, rfl⟩
      have BA := Lib.hid BW.out
      have RA := Lib.hid RW.out
      clear Ha HB BW RW tl kl
      by_cases tl : 40 < R.cities.length
      · have kl : 40 < (R.cities.length : Int) := by omega
        have hv : Hid (orE (curE R) (cityE R) = 6) := (orE_zero EZ.out).trans (show cityE R = _ from list_long tl)
        go_wp2_with fail
        go_ret
        exact ⟨by rw [hv.out]; try rfl, BA.out⟩
      have kl : ¬ 40 < (R.cities.length : Int) := by omega
      go_wp2_with fail
      go_loopw [5, 6] (fun v i wr => NamRel (R.cities.map Cty.nm) (namedE (R.cities.map Cty.nm) (at_ R.cities (cityB R.orders.length R.cur.length))) R.cities.length (wA.heap.size) wA v i wr) (fun _ i _ => R.cities.length - (intOf i).toNat)
      case atStart => exact ⟨0, none, 0, Nat.zero_le _, rfl, rfl, fun j hj => by omega, World.ownsRow_nil _ _ _ _, Below.refl _ _⟩
      case round =>
        obtain ⟨k, la, lc, hk, rfl, rfl, hall, hown, hbw⟩ := hrel
        have RW := Lib.hid (RA.out.next hbw)
        have y1 := RW.out.b1
        have Ha := Lib.hid hall
        have HO := Lib.hid hown
        have HB := Lib.hid hbw
        have BW := Lib.hid (chain BA.out hbw)
        have k0 : (0 : Int) ≤ (k : Int) := by omega
        clear hall hown hbw
        by_cases cl : k < R.cities.length
        case neg =>
          have kc : ¬ (k : Int) < (R.cities.length : Int) := by omega
          have hv : Hid (orE (curE R) (cityE R) = 0) := (orE_zero EZ.out).trans (show cityE R = _ from list_all tl (fun i hi => Ha.out i (by omega)))
          clear tl
          go_wp2_with fail
          go_ret
          exact ⟨by rw [hv.out]; try rfl, BW.out⟩
        case pos =>
          have kc : (k : Int) < (R.cities.length : Int) := by omega
          obtain ⟨x, hx⟩ : ∃ x, R.cities[k]? = some x := ⟨_, List.getElem?_eq_getElem cl⟩
          obtain ⟨b, off, ea, hb, hc⟩ := (HR.out.next BW.out).cities.at hx
          subst ea
          have t0 : wr.cell? ⟨b, off + k * 6, none⟩ = some (.string x.nm) := hc 0 _ rfl
          have t1 : wr.cell? ⟨b, off + k * 6 + 1, none⟩ = some (.int .i64 x.o) := hc 1 _ rfl
          have t2 : wr.cell? ⟨b, off + k * 6 + 2, none⟩ = some (.int .i64 x.c) := hc 2 _ rfl
          have t3 : wr.cell? ⟨b, off + k * 6 + 3, none⟩ = some (.slice x.a3 x.rest.length x.k3) := hc 3 _ rfl
          have t4 : wr.cell? ⟨b, off + k * 6 + 4, none⟩ = some (.slice x.a4 x.feasts.length x.k4) := hc 4 _ rfl
          have t5 : wr.cell? ⟨b, off + k * 6 + 5, none⟩ = some (.slice x.a5 x.shut.length x.k5) := hc 5 _ rfl
          have hn := map_at (f := Cty.nm) hx
          have HN := Lib.hid hn
          have HX := Lib.hid hx
          clear hx hc hn
          go_wp2_with (at_builtin; refine wpList_append_own _ rfl (.tmp 37) (.tmp 44) 22 rfl (wA.heap.size) 9 rj (.string ⟨#[]⟩) 1 16 Tryz.underlying22 Hj.out Hy0.out Hy1.out Hy2.out rfl (by decide) _ k (strs ((R.cities.map Cty.nm).take k)) rfl ((HO.out).alloc _) ⟨wr.heap.size, 0, none⟩ 1 1 [.string x.nm] rfl rfl ?f1 ?f2 ?f3 ?f4 ?f5 ?_)
          case f1 => exact cell_new1 _ _ _ _ (by first | rfl | simp)
          case f2 => first | rfl | (intro u hu; simp at hu; subst hu; rfl)
          case f3 => unfold maxLen; omega
          case f4 => omega
          case f5 => have := HB.out.size; simp at this ⊢; omega
          intro v7 w7 hown7 hgrow7 _
          have hrow : ∀ j, (Value.slice la k lc).ownBlock = some j → wA.heap.size ≤ j := fun j hj => (HO.out.lt j hj).1
          have b7 : Below wr.heap.size wr w7 ∨ True := .inr trivial
          have B7 : Hid (Below wA.heap.size wA w7) := HB.out.trans (((Below.refl wA.heap.size wr).alloc HB.out.size _).grown hgrow7 (by have := HB.out.size; simp at this ⊢; omega) (fun j hj => by have := hrow j hj; simp at this ⊢; omega))
          have HO7 : Hid (w7.ownsRow (wA.heap.size) 9 1 v7 (k + 1) (strs ((R.cities.map Cty.nm).take (k + 1)))) := by
            show w7.ownsRow _ _ _ _ _ _
            rw [List.take_add_one, HN.out]
            simpa [strs] using hown7
          have hl7 : ((R.cities.map Cty.nm).take (k + 1)).length = k + 1 := by rw [List.length_take, List.length_map]; omega
          obtain ⟨la7, lc7, e7⟩ := (own_str HO7.out hl7.symm).shape
          rw [hl7] at e7
          subst e7
          have HS7 := Lib.hid (own_str HO7.out hl7.symm)
          have HSZ : Sz ((R.cities.map Cty.nm).take (k + 1)).length := by rw [hl7]; unfold Sz; omega
          have BW7 := Lib.hid (chain BA.out B7.out)
          have RW7 := Lib.hid (RA.out.next B7.out)
          clear hown7 hgrow7 hrow hl7 b7 y1 t0 t1 t2 t3 t4 t5
          have y1 := RW7.out.b1
          obtain ⟨b8, off8, ea8, -, hc⟩ := (HR.out.next BW7.out).cities.at HX.out
          simp only [Option.some.injEq, Addr.mk.injEq, and_true] at ea8
          obtain ⟨rfl, rfl⟩ := ea8
          have t0 : w7.cell? ⟨b, off + k * 6, none⟩ = some (.string x.nm) := hc 0 _ rfl
          have t1 : w7.cell? ⟨b, off + k * 6 + 1, none⟩ = some (.int .i64 x.o) := hc 1 _ rfl
          have t2 : w7.cell? ⟨b, off + k * 6 + 2, none⟩ = some (.int .i64 x.c) := hc 2 _ rfl
          have t3 : w7.cell? ⟨b, off + k * 6 + 3, none⟩ = some (.slice x.a3 x.rest.length x.k3) := hc 3 _ rfl
          have t4 : w7.cell? ⟨b, off + k * 6 + 4, none⟩ = some (.slice x.a4 x.feasts.length x.k4) := hc 4 _ rfl
          have t5 : w7.cell? ⟨b, off + k * 6 + 5, none⟩ = some (.slice x.a5 x.shut.length x.k5) := hc 5 _ rfl
          clear hc
          go_wp2_with fail
          refine (named_x _ ((R.cities.map Cty.nm).take (k + 1)) k x.nm _ HS7.out HSZ (take_get HN.out)).mono ?_
          rintro r w1 ⟨rfl, rfl⟩
          rw [take_take']
          have HCK := Lib.hid (named_at' (nm := Cty.nm) (p := cityB R.orders.length R.cur.length) HX.out)
          by_cases e : nmE ((R.cities.map Cty.nm).take k) x.nm true = 0
          · have e1 : (nmE ((R.cities.map Cty.nm).take k) x.nm true != 0) = false := nbf e
            have HE := Lib.hid (nmE_rest (ok := cityB R.orders.length R.cur.length x) e)
            clear e
            obtain ⟨f1, f2, f3, f4⟩ := hF.inC x (List.mem_of_getElem? HX.out)
            have HRS := Lib.hid (HR.out.next BW7.out)
            have HIC := Lib.hid ((HR.out.next BW7.out).inC x (List.mem_of_getElem? HX.out))
            have hS : (fun w' => w'.cell? ⟨w.heap.size, 0, none⟩ = some (.slice a0 R.cur.length c0) ∧ w'.cell? ⟨w.heap.size, 1, none⟩ = some (.slice (some ⟨b, off, none⟩) R.cities.length c1) ∧ w'.cell? ⟨w.heap.size, 2, none⟩ = some (.slice a2 R.groups.length c2) ∧ w'.cell? ⟨w.heap.size, 3, none⟩ = some (.slice a3 R.firms.length c3) ∧ w'.cell? ⟨w.heap.size, 4, none⟩ = some (.slice a4 R.orders.length c4) ∧ w'.cell? ⟨w.heap.size, 5, none⟩ = some (.slice a5 R.usances.length c5) ∧ w'.cell? ⟨w.heap.size, 6, none⟩ = some (.slice a6 R.rates.length c6) ∧ w'.cell? ⟨w.heap.size, 7, none⟩ = some (.slice a7 R.halts.length c7) ∧ w'.cell? ⟨b, off + k * 6, none⟩ = some (.string x.nm) ∧ w'.cell? ⟨b, off + k * 6 + 1, none⟩ = some (.int .i64 x.o) ∧ w'.cell? ⟨b, off + k * 6 + 2, none⟩ = some (.int .i64 x.c) ∧ w'.cell? ⟨b, off + k * 6 + 3, none⟩ = some (.slice x.a3 x.rest.length x.k3) ∧ w'.cell? ⟨b, off + k * 6 + 4, none⟩ = some (.slice x.a4 x.feasts.length x.k4) ∧ w'.cell? ⟨b, off + k * 6 + 5, none⟩ = some (.slice x.a5 x.shut.length x.k5)) w7 := ⟨RW7.out.b0, RW7.out.b1, RW7.out.b2, RW7.out.b3, RW7.out.b4, RW7.out.b5, RW7.out.b6, RW7.out.b7, t0, t1, t2, t3, t4, t5⟩
            go_wp2_with fail
            refine wp_region_held_drew (S := fun w' => w'.cell? ⟨w.heap.size, 0, none⟩ = some (.slice a0 R.cur.length c0) ∧ w'.cell? ⟨w.heap.size, 1, none⟩ = some (.slice (some ⟨b, off, none⟩) R.cities.length c1) ∧ w'.cell? ⟨w.heap.size, 2, none⟩ = some (.slice a2 R.groups.length c2) ∧ w'.cell? ⟨w.heap.size, 3, none⟩ = some (.slice a3 R.firms.length c3) ∧ w'.cell? ⟨w.heap.size, 4, none⟩ = some (.slice a4 R.orders.length c4) ∧ w'.cell? ⟨w.heap.size, 5, none⟩ = some (.slice a5 R.usances.length c5) ∧ w'.cell? ⟨w.heap.size, 6, none⟩ = some (.slice a6 R.rates.length c6) ∧ w'.cell? ⟨w.heap.size, 7, none⟩ = some (.slice a7 R.halts.length c7) ∧ w'.cell? ⟨b, off + k * 6, none⟩ = some (.string x.nm) ∧ w'.cell? ⟨b, off + k * 6 + 1, none⟩ = some (.int .i64 x.o) ∧ w'.cell? ⟨b, off + k * 6 + 2, none⟩ = some (.int .i64 x.c) ∧ w'.cell? ⟨b, off + k * 6 + 3, none⟩ = some (.slice x.a3 x.rest.length x.k3) ∧ w'.cell? ⟨b, off + k * 6 + 4, none⟩ = some (.slice x.a4 x.feasts.length x.k4) ∧ w'.cell? ⟨b, off + k * 6 + 5, none⟩ = some (.slice x.a5 x.shut.length x.k5)) (by kernel_rfl) ?_ (fun hHeld => ?_)
            · exact hS
            refine takeN0 (v := ?_) (by kernel_rfl) (by kernel_rfl) (by kernel_rfl) (fun _ _ _ h => h) (by rfl) ?_ (by assumption) ?_
            rotate_left
            · intro wz hSw
              try dsimp only at hSw
              go_simp
              try with_reducible rfl
            try simp only [Act.put, List.setIfInBounds_toArray, List.set_cons_zero, List.set_cons_succ]
            refine takeN1 (v := ?_) (by kernel_rfl) (by kernel_rfl) (by kernel_rfl) (fun _ _ _ h => h) (by rfl) ?_ (by assumption) ?_
            rotate_left
            · intro wz hSw
              try dsimp only at hSw
              go_simp
              try with_reducible rfl
            try simp only [Act.put, List.setIfInBounds_toArray, List.set_cons_zero, List.set_cons_succ]
            refine takeN2 (v := ?_) (by kernel_rfl) (by kernel_rfl) (by kernel_rfl) (fun _ _ _ h => h) (by rfl) ?_ (by assumption) ?_
            rotate_left
            · intro wz hSw
              try dsimp only at hSw
              go_simp
              try with_reducible rfl
            try simp only [Act.put, List.setIfInBounds_toArray, List.set_cons_zero, List.set_cons_succ]
            refine takeN3 (v := ?_) (by kernel_rfl) (by kernel_rfl) (by kernel_rfl) (fun _ _ _ h => h) (by rfl) ?_ (by assumption) ?_
            rotate_left
            · intro wz hSw
              try dsimp only at hSw
              go_simp
              try with_reducible rfl
            try simp only [Act.put, List.setIfInBounds_toArray, List.set_cons_zero, List.set_cons_succ]
            refine takeN4 (v := ?_) (by kernel_rfl) (by kernel_rfl) (by kernel_rfl) (fun _ _ _ h => h) (by rfl) ?_ (by assumption) ?_
            rotate_left
            · intro wz hSw
              try dsimp only at hSw
              go_simp
              try with_reducible rfl
            try simp only [Act.put, List.setIfInBounds_toArray, List.set_cons_zero, List.set_cons_succ]
            refine takeN5 (v := ?_) (by kernel_rfl) (by kernel_rfl) (by kernel_rfl) (fun _ _ _ h => h) (by rfl) ?_ (by assumption) ?_
            rotate_left
            · intro wz hSw
              try dsimp only at hSw
              go_simp
              try with_reducible rfl
            try simp only [Act.put, List.setIfInBounds_toArray, List.set_cons_zero, List.set_cons_succ]
            refine comeN6 (by kernel_rfl) (by rfl) (fun K hK => ?_)
            go_simp
            (go_at_call 136; refine (RightCity_x x _ (HRS.out.next (below_drew _)) hs4 hs0 (HIC.out.next (below_drew _)) f1 f2 f3 f4).mono ?_; rintro r w8 ⟨rfl, b8⟩)
            try go_wp2_with fail
            have HD := chain (below_drew _) b8
            have hS8 : (fun w' => w'.cell? ⟨w.heap.size, 0, none⟩ = some (.slice a0 R.cur.length c0) ∧ w'.cell? ⟨w.heap.size, 1, none⟩ = some (.slice (some ⟨b, off, none⟩) R.cities.length c1) ∧ w'.cell? ⟨w.heap.size, 2, none⟩ = some (.slice a2 R.groups.length c2) ∧ w'.cell? ⟨w.heap.size, 3, none⟩ = some (.slice a3 R.firms.length c3) ∧ w'.cell? ⟨w.heap.size, 4, none⟩ = some (.slice a4 R.orders.length c4) ∧ w'.cell? ⟨w.heap.size, 5, none⟩ = some (.slice a5 R.usances.length c5) ∧ w'.cell? ⟨w.heap.size, 6, none⟩ = some (.slice a6 R.rates.length c6) ∧ w'.cell? ⟨w.heap.size, 7, none⟩ = some (.slice a7 R.halts.length c7) ∧ w'.cell? ⟨b, off + k * 6, none⟩ = some (.string x.nm) ∧ w'.cell? ⟨b, off + k * 6 + 1, none⟩ = some (.int .i64 x.o) ∧ w'.cell? ⟨b, off + k * 6 + 2, none⟩ = some (.int .i64 x.c) ∧ w'.cell? ⟨b, off + k * 6 + 3, none⟩ = some (.slice x.a3 x.rest.length x.k3) ∧ w'.cell? ⟨b, off + k * 6 + 4, none⟩ = some (.slice x.a4 x.feasts.length x.k4) ∧ w'.cell? ⟨b, off + k * 6 + 5, none⟩ = some (.slice x.a5 x.shut.length x.k5)) w8 := ⟨cell_up HD hS.1, cell_up HD hS.2.1, cell_up HD hS.2.2.1, cell_up HD hS.2.2.2.1, cell_up HD hS.2.2.2.2.1, cell_up HD hS.2.2.2.2.2.1, cell_up HD hS.2.2.2.2.2.2.1, cell_up HD hS.2.2.2.2.2.2.2.1, cell_up HD hS.2.2.2.2.2.2.2.2.1, cell_up HD hS.2.2.2.2.2.2.2.2.2.1, cell_up HD hS.2.2.2.2.2.2.2.2.2.2.1, cell_up HD hS.2.2.2.2.2.2.2.2.2.2.2.1, cell_up HD hS.2.2.2.2.2.2.2.2.2.2.2.2.1, cell_up HD hS.2.2.2.2.2.2.2.2.2.2.2.2.2⟩
            have B8 := Lib.hid (chain BW7.out HD)
            have B8W := Lib.hid (chain B7.out HD)
            have HO8 := Lib.hid (own_nx HO7.out HD)
            clear b8 HD
            refine hK.out _ _ ?_ (fun hHeld => ?_)
            · exact hS8
            clear hK K
            try simp only [Act.put, List.setIfInBounds_toArray, List.set_cons_zero, List.set_cons_succ]
            refine takeN7 (v := ?_) (by kernel_rfl) (by kernel_rfl) (by kernel_rfl) (fun _ _ _ h => h) (by rfl) ?_ (by assumption) ?_
            rotate_left
            · intro wz hSw
              try dsimp only at hSw
              go_simp
              try with_reducible rfl
            try simp only [Act.put, List.setIfInBounds_toArray, List.set_cons_zero, List.set_cons_succ]
            refine wpAnyH_done (by kernel_rfl) ?_ _
            clear hHeld hS hS8 t0 t1 t2 t3 t4 t5 y1
            cases e2 : cityB R.orders.length R.cur.length x with
            | false =>
              have hz : namedE (R.cities.map Cty.nm) (at_ R.cities (cityB R.orders.length R.cur.length)) k = 1 := by rw [HCK.out, HE.out, e2]; rfl
              have hv : Hid (orE (curE R) (cityE R) = 1) := (orE_zero EZ.out).trans (show cityE R = _ from (by first | exact (list_at tl Ha.out (by rw [hz]; decide) cl).trans hz))
              clear tl hz e2
              go_wp2_with fail
              go_ret
              exact ⟨by rw [hv.out]; try rfl, B8.out⟩
            | true =>
              have OK := Lib.hid e2
              clear e2
              have HZ : Hid (NoE (namedE (R.cities.map Cty.nm) (at_ R.cities (cityB R.orders.length R.cur.length))) (k + 1)) := ok_step Ha.out (by rw [HCK.out, HE.out, OK.out]; rfl)
              go_wp2_with fail
              go_roundw
              case rel => exact ⟨k + 1, la7, lc7, by omega, rfl, by congr 1, HZ.out, HO8.out, B8W.out⟩
              case measure => simp [intOf]; omega
          · have e1 : (nmE ((R.cities.map Cty.nm).take k) x.nm true != 0) = true := nbt e
            have hz : namedE (R.cities.map Cty.nm) (at_ R.cities (cityB R.orders.length R.cur.length)) k = nmE ((R.cities.map Cty.nm).take k) x.nm true := by rw [HCK.out, nmE_split e]
            have hv : Hid (orE (curE R) (cityE R) = nmE ((R.cities.map Cty.nm).take k) x.nm true) := (orE_zero EZ.out).trans (show cityE R = _ from (by first | exact (list_at tl Ha.out (by rw [hz]; exact e) cl).trans hz))
            clear e tl hz
            go_wp2_with fail
            go_ret
            exact ⟨by rw [hv.out]; try rfl, BW7.out⟩

end Go.Proofs.YtcjakgpmompaiaaGreatDoor

/-
  The reference: the list of firms.
-/
namespace Go.Proofs.YtcjakgpmompaiaaGreatDoor
open Go.RowKit Rl

set_option maxHeartbeats 6400000 in
set_option maxRecDepth 100000 in
theorem rfirms_x {a0 a1 a2 a3 a4 a5 a6 a7 : Option Addr} {c0 c1 c2 c3 c4 c5 c6 c7 : Nat} {R : Rlm} (w : World) (hr : RS w a0 a1 a2 a3 a4 a5 a6 a7 c0 c1 c2 c3 c4 c5 c6 c7 R) (hF : Fit R) :
    Calls Tryz.prog 71 #[.agg #[.slice a0 R.cur.length c0, .slice a1 R.cities.length c1, .slice a2 R.groups.length c2, .slice a3 R.firms.length c3, .slice a4 R.orders.length c4, .slice a5 R.usances.length c5, .slice a6 R.rates.length c6, .slice a7 R.halts.length c7]] w fun r w' => r = .returned (.int .i64 (orE (groupE R) (firmE R))) ∧ Below w.heap.size w w' := by
  have HR := Lib.hid hr
  have RB0 := Lib.hid (RB.new w (a0 := a0) (a1 := a1) (a2 := a2) (a3 := a3) (a4 := a4) (a5 := a5) (a6 := a6) (a7 := a7) (c0 := c0) (c1 := c1) (c2 := c2) (c3 := c3) (c4 := c4) (c5 := c5) (c6 := c6) (c7 := c7) (R := R))
  have B0 := Lib.hid (Below.new1 (w := w) (.cells #[.slice a0 R.cur.length c0, .slice a1 R.cities.length c1, .slice a2 R.groups.length c2, .slice a3 R.firms.length c3, .slice a4 R.orders.length c4, .slice a5 R.usances.length c5, .slice a6 R.rates.length c6, .slice a7 R.halts.length c7] 31))
  have hs0 := hF.cur
  have hs1 := hF.cities
  have hs2 := hF.groups
  have hs3 := hF.firms
  have hs4 := hF.orders
  have hs5 := hF.usances
  have hs6 := hF.rates
  have hs7 := hF.halts
  clear hr
  have y2 := RB0.out.b2
  by_cases tl : 20 < R.groups.length
  · have kl : 20 < (R.groups.length : Int) := by omega
    have hv : Hid (orE (groupE R) (firmE R) = 6) := by show _ = _; rw [orE_ne (a := groupE R) (by rw [show groupE R = 6 from list_long tl]; decide)]; exact list_long tl
    go_enter Tryz.func71, Tryz.ntmps71
    go_wp2_with fail
    go_ret
    exact ⟨by rw [hv.out]; try rfl, B0.out⟩
  have kl : ¬ 20 < (R.groups.length : Int) := by omega
  obtain ⟨rj, hj, hy0, hy1, hy2⟩ := info_parts infoS
  have Hj := Lib.hid hj
  have Hy0 := Lib.hid hy0
  have Hy1 := Lib.hid hy1
  have Hy2 := Lib.hid hy2
  clear hj hy0 hy1 hy2
  go_enter Tryz.func71, Tryz.ntmps71
  go_wp2_with fail
  go_loopw [3] (fun i wr => LRel R.groups.length (NoE (plainE (at_ R.groups (fun g => wi g 0 9)))) (w.alloc (.cells #[.slice a0 R.cur.length c0, .slice a1 R.cities.length c1, .slice a2 R.groups.length c2, .slice a3 R.firms.length c3, .slice a4 R.orders.length c4, .slice a5 R.usances.length c5, .slice a6 R.rates.length c6, .slice a7 R.halts.length c7] 31)) i wr) (fun i _ => R.groups.length - (intOf i).toNat)
  case atStart => exact ⟨0, Nat.zero_le _, rfl, fun j hj => by omega, Below.refl _ _⟩
  case round =>
    obtain ⟨k, hk, rfl, hall, hbw⟩ := hrel
    have RW := Lib.hid (RB0.out.next hbw)
    have y2 := RW.out.b2
    have y3 := RW.out.b3
    have Ha := Lib.hid hall
    have HB := Lib.hid hbw
    have BW := Lib.hid (chain B0.out hbw)
    have k0 : (0 : Int) ≤ (k : Int) := by omega
    clear hall hbw
    by_cases cl : k < R.groups.length
    case pos =>
      have kc : (k : Int) < (R.groups.length : Int) := by omega
      obtain ⟨x, hx⟩ : ∃ x, R.groups[k]? = some x := ⟨_, List.getElem?_eq_getElem cl⟩
      obtain ⟨b, off, ea, hb, hc⟩ := (HR.out.next BW.out).groups.at hx
      rw [ea] at y2
      try rw [ea]
      have t0 : wr.cell? ⟨b, off + k, none⟩ = some (.int .i64 x) := (by have := hc 0 _ rfl; rw [Nat.mul_one, Nat.add_zero] at this; exact this)
      have HCK := Lib.hid (plain_at (p := fun g => wi g 0 9) hx)
      clear hx hc
      go_wp2_with fail
      refine (Within_x x 0 9 _).mono ?_
      rintro r w1 ⟨rfl, rfl⟩
      cases e : wi x 0 9 with
      | true =>
        have HZ : Hid (NoE (plainE (at_ R.groups (fun g => wi g 0 9))) (k + 1)) := ok_step Ha.out (by rw [HCK.out, e]; rfl)
        clear e
        go_wp2_with fail
        go_roundw
        case rel => exact ⟨k + 1, by omega, by congr 1, HZ.out, by first | exact HB.out | (rw [← ea]; exact HB.out)⟩
        case measure => simp [intOf]; omega
      | false =>
        have hz : plainE (at_ R.groups (fun g => wi g 0 9)) k = 1 := by rw [HCK.out, e]; rfl
        have hc : groupE R = 1 := (list_at tl Ha.out (by rw [hz]; decide) cl).trans hz
        have hv : Hid (orE (groupE R) (firmE R) = 1) := by show _ = _; rw [orE_ne (a := groupE R) (by rw [hc]; decide)]; exact hc
        clear e tl hz hc
        go_wp2_with fail
        go_ret
        exact ⟨by rw [hv.out]; try rfl, BW.out⟩
    case neg =>
      have kc : ¬ (k : Int) < (R.groups.length : Int) := by omega
      have EZ : Hid (groupE R = 0) := list_all tl (fun i hi => Ha.out i (by omega))
      obtain ⟨wA, rfl⟩ : ∃ wA, wA = wr := ⟨_, rfl⟩
      have BA := Lib.hid BW.out
      have RA := Lib.hid RW.out
      clear Ha HB BW RW tl kl
      by_cases tl : 200 < R.firms.length
      · have kl : 200 < (R.firms.length : Int) := by omega
        have hv : Hid (orE (groupE R) (firmE R) = 6) := (orE_zero EZ.out).trans (show firmE R = _ from list_long tl)
        go_wp2_with fail
        go_ret
        exact ⟨by rw [hv.out]; try rfl, BA.out⟩
      have kl : ¬ 200 < (R.firms.length : Int) := by omega
      go_wp2_with fail
      go_loopw [4, 5] (fun v i wr => NamRel (R.firms.map Frm.nm) (namedE (R.firms.map Frm.nm) (at_ R.firms (firmB R.cities.length R.groups.length))) R.firms.length (wA.heap.size) wA v i wr) (fun _ i _ => R.firms.length - (intOf i).toNat)
      case atStart => exact ⟨0, none, 0, Nat.zero_le _, rfl, rfl, fun j hj => by omega, World.ownsRow_nil _ _ _ _, Below.refl _ _⟩
      case round =>
        obtain ⟨k, la, lc, hk, rfl, rfl, hall, hown, hbw⟩ := hrel
        have RW := Lib.hid (RA.out.next hbw)
        have y3 := RW.out.b3
        have Ha := Lib.hid hall
        have HO := Lib.hid hown
        have HB := Lib.hid hbw
        have BW := Lib.hid (chain BA.out hbw)
        have k0 : (0 : Int) ≤ (k : Int) := by omega
        clear hall hown hbw
        by_cases cl : k < R.firms.length
        case neg =>
          have kc : ¬ (k : Int) < (R.firms.length : Int) := by omega
          have hv : Hid (orE (groupE R) (firmE R) = 0) := (orE_zero EZ.out).trans (show firmE R = _ from list_all tl (fun i hi => Ha.out i (by omega)))
          clear tl
          go_wp2_with fail
          go_ret
          exact ⟨by rw [hv.out]; try rfl, BW.out⟩
        case pos =>
          have kc : (k : Int) < (R.firms.length : Int) := by omega
          obtain ⟨x, hx⟩ : ∃ x, R.firms[k]? = some x := ⟨_, List.getElem?_eq_getElem cl⟩
          obtain ⟨b, off, ea, hb, hc⟩ := (HR.out.next BW.out).firms.at hx
          subst ea
          have t0 : wr.cell? ⟨b, off + k * 3, none⟩ = some (.string x.nm) := hc 0 _ rfl
          have t1 : wr.cell? ⟨b, off + k * 3 + 1, none⟩ = some (.int .i64 x.city) := hc 1 _ rfl
          have t2 : wr.cell? ⟨b, off + k * 3 + 2, none⟩ = some (.int .i64 x.grp) := hc 2 _ rfl
          have hn := map_at (f := Frm.nm) hx
          have HN := Lib.hid hn
          have HX := Lib.hid hx
          clear hx hc hn
          go_wp2_with (at_builtin; refine wpList_append_own _ rfl (.tmp 37) (.tmp 44) 22 rfl (wA.heap.size) 9 rj (.string ⟨#[]⟩) 1 16 Tryz.underlying22 Hj.out Hy0.out Hy1.out Hy2.out rfl (by decide) _ k (strs ((R.firms.map Frm.nm).take k)) rfl ((HO.out).alloc _) ⟨wr.heap.size, 0, none⟩ 1 1 [.string x.nm] rfl rfl ?f1 ?f2 ?f3 ?f4 ?f5 ?_)
          case f1 => exact cell_new1 _ _ _ _ (by first | rfl | simp)
          case f2 => first | rfl | (intro u hu; simp at hu; subst hu; rfl)
          case f3 => unfold maxLen; omega
          case f4 => omega
          case f5 => have := HB.out.size; simp at this ⊢; omega
          intro v7 w7 hown7 hgrow7 _
          have hrow : ∀ j, (Value.slice la k lc).ownBlock = some j → wA.heap.size ≤ j := fun j hj => (HO.out.lt j hj).1
          have b7 : Below wr.heap.size wr w7 ∨ True := .inr trivial
          have B7 : Hid (Below wA.heap.size wA w7) := HB.out.trans (((Below.refl wA.heap.size wr).alloc HB.out.size _).grown hgrow7 (by have := HB.out.size; simp at this ⊢; omega) (fun j hj => by have := hrow j hj; simp at this ⊢; omega))
          have HO7 : Hid (w7.ownsRow (wA.heap.size) 9 1 v7 (k + 1) (strs ((R.firms.map Frm.nm).take (k + 1)))) := by
            show w7.ownsRow _ _ _ _ _ _
            rw [List.take_add_one, HN.out]
            simpa [strs] using hown7
          have hl7 : ((R.firms.map Frm.nm).take (k + 1)).length = k + 1 := by rw [List.length_take, List.length_map]; omega
          obtain ⟨la7, lc7, e7⟩ := (own_str HO7.out hl7.symm).shape
          rw [hl7] at e7
          subst e7
          have HS7 := Lib.hid (own_str HO7.out hl7.symm)
          have HSZ : Sz ((R.firms.map Frm.nm).take (k + 1)).length := by rw [hl7]; unfold Sz; omega
          have BW7 := Lib.hid (chain BA.out B7.out)
          have RW7 := Lib.hid (RA.out.next B7.out)
          clear hown7 hgrow7 hrow hl7 b7 y3 t0 t1 t2
          have y3 := RW7.out.b3
          obtain ⟨b8, off8, ea8, -, hc⟩ := (HR.out.next BW7.out).firms.at HX.out
          simp only [Option.some.injEq, Addr.mk.injEq, and_true] at ea8
          obtain ⟨rfl, rfl⟩ := ea8
          have t0 : w7.cell? ⟨b, off + k * 3, none⟩ = some (.string x.nm) := hc 0 _ rfl
          have t1 : w7.cell? ⟨b, off + k * 3 + 1, none⟩ = some (.int .i64 x.city) := hc 1 _ rfl
          have t2 : w7.cell? ⟨b, off + k * 3 + 2, none⟩ = some (.int .i64 x.grp) := hc 2 _ rfl
          clear hc
          go_wp2_with fail
          refine (named_x _ ((R.firms.map Frm.nm).take (k + 1)) k x.nm _ HS7.out HSZ (take_get HN.out)).mono ?_
          rintro r w1 ⟨rfl, rfl⟩
          rw [take_take']
          have HCK := Lib.hid (named_at' (nm := Frm.nm) (p := firmB R.cities.length R.groups.length) HX.out)
          by_cases e : nmE ((R.firms.map Frm.nm).take k) x.nm true = 0
          · have e1 : (nmE ((R.firms.map Frm.nm).take k) x.nm true != 0) = false := nbf e
            have HE := Lib.hid (nmE_rest (ok := firmB R.cities.length R.groups.length x) e)
            clear e
            have y1 := RW7.out.b1
            have y2 := RW7.out.b2
            cases f1 : ix x.city R.cities.length with
            | false =>
              have E1 := Lib.hid f1
              have g1 : wi x.city 0 ((R.cities.length : Int) - 1) = false := E1.out
              have okF : firmB R.cities.length R.groups.length x = false := by simp [firmB, f1]
              clear f1
              go_wp2_with fail
              go_quiet (first | (go_at_call 137; refine Calls.quiet_of_same (Withinq _ _ _ _)))
              have hz : namedE (R.firms.map Frm.nm) (at_ R.firms (firmB R.cities.length R.groups.length)) k = 1 := by rw [HCK.out, HE.out, okF]; rfl
              have hv : Hid (orE (groupE R) (firmE R) = 1) := (orE_zero EZ.out).trans (show firmE R = _ from (by first | exact (list_at tl Ha.out (by rw [hz]; decide) cl).trans hz))
              clear tl hz okF
              go_wp2_with fail
              go_ret
              exact ⟨by rw [hv.out]; try rfl, by first | exact BW7.out | exact below_drewN BW7.out _⟩
            | true =>
              have E1 := Lib.hid f1
              have g1 : wi x.city 0 ((R.cities.length : Int) - 1) = true := E1.out
              clear f1
              cases f2 : ix x.grp R.groups.length with
              | false =>
                have E2 := Lib.hid f2
                have g2 : wi x.grp 0 ((R.groups.length : Int) - 1) = false := E2.out
                have okF : firmB R.cities.length R.groups.length x = false := by simp [firmB, f2]
                clear f2
                go_wp2_with fail
                go_quiet (first | (go_at_call 137; refine Calls.quiet_of_same (Withinq _ _ _ _)))
                have hz : namedE (R.firms.map Frm.nm) (at_ R.firms (firmB R.cities.length R.groups.length)) k = 1 := by rw [HCK.out, HE.out, okF]; rfl
                have hv : Hid (orE (groupE R) (firmE R) = 1) := (orE_zero EZ.out).trans (show firmE R = _ from (by first | exact (list_at tl Ha.out (by rw [hz]; decide) cl).trans hz))
                clear tl hz okF
                go_wp2_with fail
                go_ret
                exact ⟨by rw [hv.out]; try rfl, by first | exact BW7.out | exact below_drewN BW7.out _⟩
              | true =>
                have E2 := Lib.hid f2
                have g2 : wi x.grp 0 ((R.groups.length : Int) - 1) = true := E2.out
                have okT : firmB R.cities.length R.groups.length x = true := by simp [firmB, f2, E1.out]
                have OK := Lib.hid okT
                clear f2 okT
                go_wp2_with fail
                go_quiet (first | (go_at_call 137; refine Calls.quiet_of_same (Withinq _ _ _ _)))
                have HZ : Hid (NoE (namedE (R.firms.map Frm.nm) (at_ R.firms (firmB R.cities.length R.groups.length))) (k + 1)) := ok_step Ha.out (by rw [HCK.out, HE.out, OK.out]; rfl)
                go_wp2_with fail
                go_roundw
                case rel => exact ⟨k + 1, la7, lc7, by omega, rfl, by congr 1, HZ.out, own_nx HO7.out (by first | exact Below.refl _ _ | exact below_drewN (Below.refl _ _) _), by first | exact B7.out | exact below_drewN B7.out _⟩
                case measure => simp [intOf]; omega
          · have e1 : (nmE ((R.firms.map Frm.nm).take k) x.nm true != 0) = true := nbt e
            have hz : namedE (R.firms.map Frm.nm) (at_ R.firms (firmB R.cities.length R.groups.length)) k = nmE ((R.firms.map Frm.nm).take k) x.nm true := by rw [HCK.out, nmE_split e]
            have hv : Hid (orE (groupE R) (firmE R) = nmE ((R.firms.map Frm.nm).take k) x.nm true) := (orE_zero EZ.out).trans (show firmE R = _ from (by first | exact (list_at tl Ha.out (by rw [hz]; exact e) cl).trans hz))
            clear e tl hz
            go_wp2_with fail
            go_ret
            exact ⟨by rw [hv.out]; try rfl, BW7.out⟩

end Go.Proofs.YtcjakgpmompaiaaGreatDoor

/-
  The reference: usances, rates and halts.
-/
namespace Go.Proofs.YtcjakgpmompaiaaGreatDoor
open Go.RowKit Rl

theorem halt_eq (h : Hlt) (no : Nat) : haltB no h = (ix h.o no && (wi h.fr 0 h.to && decide (h.to ≤ 100000))) := by
  rw [Bool.eq_iff_iff]
  unfold haltB dayB
  simp only [Bool.and_eq_true, wi_iff, decide_eq_true_iff]
  constructor
  · rintro ⟨a, b, c⟩; exact ⟨a, ⟨b.1, c.1⟩, c.2⟩
  · rintro ⟨a, b, c⟩; exact ⟨a, ⟨b.1, by omega⟩, b.2, c⟩
theorem usEv_bad {l : List Usn} {u : Usn} {ok : Bool} (h : ok = false) : usEv l u ok = 1 := by unfold usEv; rw [h]; rfl
theorem usEv_twice {l : List Usn} {u : Usn} {ok : Bool} (h : ok = true) {x : Usn} (hx : x ∈ l) (hs : sameU x u = true) : usEv l u ok = 5 := by
  unfold usEv
  rw [if_pos h, if_pos (List.any_eq_true.2 ⟨x, hx, hs⟩)]
theorem usEv_ok {l : List Usn} {u : Usn} {ok : Bool} (h : ok = true) (hs : ∀ x ∈ l, sameU x u = false) : usEv l u ok = 0 := by
  unfold usEv
  rw [if_pos h, if_neg]
  rw [List.any_eq_true]
  rintro ⟨x, hx, e⟩
  rw [hs x hx] at e
  cases e
def NoS (l : List Usn) (u : Usn) (k : Nat) : Prop := ∀ (j : Nat) (x : Usn), j < k → l[j]? = some x → sameU x u = false
theorem NoS.next {l : List Usn} {u x : Usn} {k : Nat} (h : NoS l u k) (hx : l[k]? = some x) (hn : sameU x u = false) : NoS l u (k + 1) := by
  intro j y hj hy
  by_cases c : j = k
  · subst c
    rw [hx] at hy
    simp only [Option.some.injEq] at hy
    subst hy
    exact hn
  · exact h j y (by omega) hy
theorem NoS.all {l : List Usn} {u : Usn} {k : Nat} (h : NoS l u k) : ∀ x ∈ l.take k, sameU x u = false := by
  intro x hx
  obtain ⟨j, hj⟩ := List.getElem?_of_mem hx
  rw [List.getElem?_take] at hj
  split at hj
  · exact h j x (by assumption) hj
  · cases hj
theorem mem_take {l : List Usn} {x : Usn} {m k : Nat} (h : l[m]? = some x) (hm : m < k) : x ∈ l.take k := List.mem_of_getElem? (i := m) (by rw [List.getElem?_take_of_lt hm]; exact h)

set_option maxHeartbeats 6400000 in
set_option maxRecDepth 100000 in
theorem rothers_x {a0 a1 a2 a3 a4 a5 a6 a7 : Option Addr} {c0 c1 c2 c3 c4 c5 c6 c7 : Nat} {R : Rlm} (w : World) (hr : RS w a0 a1 a2 a3 a4 a5 a6 a7 c0 c1 c2 c3 c4 c5 c6 c7 R) (hF : Fit R) :
    Calls Tryz.prog 74 #[.agg #[.slice a0 R.cur.length c0, .slice a1 R.cities.length c1, .slice a2 R.groups.length c2, .slice a3 R.firms.length c3, .slice a4 R.orders.length c4, .slice a5 R.usances.length c5, .slice a6 R.rates.length c6, .slice a7 R.halts.length c7]] w fun r w' => r = .returned (.int .i64 (orE (ratesE R) (haltE R))) ∧ Below w.heap.size w w' := by
  have HR := Lib.hid hr
  have RB0 := Lib.hid (RB.new w (a0 := a0) (a1 := a1) (a2 := a2) (a3 := a3) (a4 := a4) (a5 := a5) (a6 := a6) (a7 := a7) (c0 := c0) (c1 := c1) (c2 := c2) (c3 := c3) (c4 := c4) (c5 := c5) (c6 := c6) (c7 := c7) (R := R))
  have B0 := Lib.hid (Below.new1 (w := w) (.cells #[.slice a0 R.cur.length c0, .slice a1 R.cities.length c1, .slice a2 R.groups.length c2, .slice a3 R.firms.length c3, .slice a4 R.orders.length c4, .slice a5 R.usances.length c5, .slice a6 R.rates.length c6, .slice a7 R.halts.length c7] 31))
  have hs0 := hF.cur
  have hs1 := hF.cities
  have hs2 := hF.groups
  have hs3 := hF.firms
  have hs4 := hF.orders
  have hs5 := hF.usances
  have hs6 := hF.rates
  have hs7 := hF.halts
  clear hr
  have y6 := RB0.out.b6
  have y7 := RB0.out.b7
  by_cases tl : 100 < R.rates.length
  · have kl : 100 < (R.rates.length : Int) := by omega
    have hv : Hid (orE (ratesE R) (haltE R) = 6) := by
      have q := show ratesE R = _ from list_long tl
      show _ = _
      rw [orE_ne (by rw [q]; decide)]
      exact q
    go_enter Tryz.func74, Tryz.ntmps74
    go_wp2_with fail
    go_ret
    exact ⟨by rw [hv.out]; try rfl, B0.out⟩
  have kl : ¬ 100 < (R.rates.length : Int) := by omega
  go_enter Tryz.func74, Tryz.ntmps74
  go_wp2_with fail
  go_loopw [3] (fun i wr => LRel R.rates.length (NoE (plainE (at_ R.rates (rateB R.cur.length)))) (w.alloc (.cells #[.slice a0 R.cur.length c0, .slice a1 R.cities.length c1, .slice a2 R.groups.length c2, .slice a3 R.firms.length c3, .slice a4 R.orders.length c4, .slice a5 R.usances.length c5, .slice a6 R.rates.length c6, .slice a7 R.halts.length c7] 31)) i wr) (fun i _ => R.rates.length - (intOf i).toNat)
  case atStart => exact ⟨0, Nat.zero_le _, rfl, fun j hj => by omega, Below.refl _ _⟩
  case round =>
    obtain ⟨k, hk, rfl, hall, hbw⟩ := hrel
    have RW := Lib.hid (RB0.out.next hbw)
    have y0 := RW.out.b0
    have y6 := RW.out.b6
    have y4 := RW.out.b4
    have y7 := RW.out.b7
    have Ha := Lib.hid hall
    have HB := Lib.hid hbw
    have BW := Lib.hid (chain B0.out hbw)
    have k0 : (0 : Int) ≤ (k : Int) := by omega
    clear hall hbw
    by_cases cl : k < R.rates.length
    case neg =>
      have kc : ¬ (k : Int) < (R.rates.length : Int) := by omega
      have EZ : Hid (ratesE R = 0) := list_all tl (fun i hi => Ha.out i (by omega))
      obtain ⟨wA, rfl⟩ : ∃ wA, wA = wr := ⟨_, rfl⟩
      have BA := Lib.hid BW.out
      have RA := Lib.hid RW.out
      clear Ha HB BW RW tl kl
      by_cases tl : 20 < R.halts.length
      · have kl : 20 < (R.halts.length : Int) := by omega
        have hv : Hid (orE (ratesE R) (haltE R) = 6) := (orE_zero EZ.out).trans (show haltE R = _ from list_long tl)
        go_wp2_with fail
        go_ret
        exact ⟨by rw [hv.out]; try rfl, BA.out⟩
      have kl : ¬ 20 < (R.halts.length : Int) := by omega
      go_wp2_with fail
      go_loopw [5] (fun i wr => LRel R.halts.length (NoE (plainE (at_ R.halts (haltB R.orders.length)))) wA i wr) (fun i _ => R.halts.length - (intOf i).toNat)
      case atStart => exact ⟨0, Nat.zero_le _, rfl, fun j hj => by omega, Below.refl _ _⟩
      case round =>
        obtain ⟨k, hk, rfl, hall, hbw⟩ := hrel
        have RW := Lib.hid (RA.out.next hbw)
        have y4 := RW.out.b4
        have y7 := RW.out.b7
        have Ha := Lib.hid hall
        have HB := Lib.hid hbw
        have BW := Lib.hid (chain BA.out hbw)
        have k0 : (0 : Int) ≤ (k : Int) := by omega
        clear hall hbw
        by_cases cl : k < R.halts.length
        case neg =>
          have kc : ¬ (k : Int) < (R.halts.length : Int) := by omega
          have hv : Hid (orE (ratesE R) (haltE R) = 0) := (orE_zero EZ.out).trans (show haltE R = _ from list_all tl (fun i hi => Ha.out i (by omega)))
          clear tl
          go_wp2_with fail
          go_ret
          exact ⟨by rw [hv.out]; try rfl, BW.out⟩
        case pos =>
          have kc : (k : Int) < (R.halts.length : Int) := by omega
          obtain ⟨x, hx⟩ : ∃ x, R.halts[k]? = some x := ⟨_, List.getElem?_eq_getElem cl⟩
          obtain ⟨b, off, ea, hb, hc⟩ := (HR.out.next BW.out).halts.at hx
          subst ea
          have t0 : wr.cell? ⟨b, off + k * 3, none⟩ = some (.int .i64 x.o) := hc 0 _ rfl
          have t1 : wr.cell? ⟨b, off + k * 3 + 1, none⟩ = some (.int .i64 x.fr) := hc 1 _ rfl
          have t2 : wr.cell? ⟨b, off + k * 3 + 2, none⟩ = some (.int .i64 x.to) := hc 2 _ rfl
          have HCK := Lib.hid (plain_at (p := haltB R.orders.length) hx)
          have HX := Lib.hid hx
          have BU := Lib.hid (chain BW.out (Below.new1 (w := wr) (.cells #[.int .i64 x.o, .int .i64 x.fr, .int .i64 x.to] 156)))
          have BUW := Lib.hid (chain HB.out (Below.new1 (w := wr) (.cells #[.int .i64 x.o, .int .i64 x.fr, .int .i64 x.to] 156)))
          have RU := Lib.hid (RW.out.next (Below.new1 (w := wr) (.cells #[.int .i64 x.o, .int .i64 x.fr, .int .i64 x.to] 156)))
          clear hx hc
          have z4 := RU.out.b4
          have z7 := RU.out.b7
          go_wp2_with fail
          refine (Within_x x.o 0 ((R.orders.length : Int) - 1) _).mono ?_
          rintro r w1 ⟨rfl, rfl⟩
          rw [show wi x.o 0 ((R.orders.length : Int) - 1) = ix x.o R.orders.length from rfl]
          cases e0 : ix x.o R.orders.length with
          | false =>
            have hz : plainE (at_ R.halts (haltB R.orders.length)) k = 1 := by rw [HCK.out, show haltB R.orders.length x = false by rw [halt_eq, e0]; rfl]; rfl
            have hv : Hid (orE (ratesE R) (haltE R) = 1) := (orE_zero EZ.out).trans (show haltE R = _ from (list_at tl Ha.out (by rw [hz]; decide) cl).trans hz)
            clear tl hz e0
            go_wp2_with fail
            go_ret
            exact ⟨by rw [hv.out]; try rfl, BU.out⟩
          | true =>
            have E0 := Lib.hid e0
            clear e0
            go_wp2_with fail
            refine (Within_x x.fr 0 x.to _).mono ?_
            rintro r w1 ⟨rfl, rfl⟩
            cases e1 : wi x.fr 0 x.to with
            | false =>
              have hz : plainE (at_ R.halts (haltB R.orders.length)) k = 1 := by rw [HCK.out, show haltB R.orders.length x = false by rw [halt_eq, e1]; simp]; rfl
              have hv : Hid (orE (ratesE R) (haltE R) = 1) := (orE_zero EZ.out).trans (show haltE R = _ from (list_at tl Ha.out (by rw [hz]; decide) cl).trans hz)
              clear tl hz e1
              go_wp2_with fail
              go_ret
              exact ⟨by rw [hv.out]; try rfl, BU.out⟩
            | true =>
              have E1 := Lib.hid e1
              clear e1
              by_cases e2 : 100000 < x.to
              · have u2 := e2
                have hz : plainE (at_ R.halts (haltB R.orders.length)) k = 1 := by rw [HCK.out, show haltB R.orders.length x = false by rw [halt_eq]; simp; omega]; rfl
                have hv : Hid (orE (ratesE R) (haltE R) = 1) := (orE_zero EZ.out).trans (show haltE R = _ from (list_at tl Ha.out (by rw [hz]; decide) cl).trans hz)
                clear tl hz e2
                go_wp2_with fail
                go_ret
                exact ⟨by rw [hv.out]; try rfl, BU.out⟩
              · have u2 : ¬ 100000 < x.to := e2
                have D2 := Lib.hid e2
                clear e2
                have HZ : Hid (NoE (plainE (at_ R.halts (haltB R.orders.length))) (k + 1)) := ok_step Ha.out (by rw [HCK.out, show haltB R.orders.length x = true by rw [halt_eq, E0.out, E1.out]; have := D2.out; simp; omega]; rfl)
                go_wp2_with fail
                go_roundw
                case rel => exact ⟨k + 1, by omega, by congr 1, HZ.out, BUW.out⟩
                case measure => simp [intOf]; omega
    case pos =>
      have kc : (k : Int) < (R.rates.length : Int) := by omega
      obtain ⟨x, hx⟩ : ∃ x, R.rates[k]? = some x := ⟨_, List.getElem?_eq_getElem cl⟩
      obtain ⟨b, off, ea, hb, hc⟩ := (HR.out.next BW.out).rates.at hx
      subst ea
      have t0 : wr.cell? ⟨b, off + k * 5, none⟩ = some (.int .i64 x.fr) := hc 0 _ rfl
      have t1 : wr.cell? ⟨b, off + k * 5 + 1, none⟩ = some (.int .i64 x.to) := hc 1 _ rfl
      have t2 : wr.cell? ⟨b, off + k * 5 + 2, none⟩ = some (.int .i64 x.num) := hc 2 _ rfl
      have t3 : wr.cell? ⟨b, off + k * 5 + 3, none⟩ = some (.int .i64 x.den) := hc 3 _ rfl
      have t4 : wr.cell? ⟨b, off + k * 5 + 4, none⟩ = some (.int .i64 x.since) := hc 4 _ rfl
      have HCK := Lib.hid (plain_at (p := rateB R.cur.length) hx)
      have HX := Lib.hid hx
      have BU := Lib.hid (chain BW.out (Below.new1 (w := wr) (.cells #[.int .i64 x.fr, .int .i64 x.to, .int .i64 x.num, .int .i64 x.den, .int .i64 x.since] 150)))
      have BUW := Lib.hid (chain HB.out (Below.new1 (w := wr) (.cells #[.int .i64 x.fr, .int .i64 x.to, .int .i64 x.num, .int .i64 x.den, .int .i64 x.since] 150)))
      have RU := Lib.hid (RW.out.next (Below.new1 (w := wr) (.cells #[.int .i64 x.fr, .int .i64 x.to, .int .i64 x.num, .int .i64 x.den, .int .i64 x.since] 150)))
      clear hx hc
      have z0 := RU.out.b0
      have z6 := RU.out.b6
      have z4 := RU.out.b4
      have z7 := RU.out.b7
      go_wp2_with fail
      refine (Within_x x.fr 0 ((R.cur.length : Int) - 1) _).mono ?_
      rintro r w1 ⟨rfl, rfl⟩
      rw [show wi x.fr 0 ((R.cur.length : Int) - 1) = ix x.fr R.cur.length from rfl]
      cases e0 : ix x.fr R.cur.length with
      | false =>
        have hz : plainE (at_ R.rates (rateB R.cur.length)) k = 1 := by rw [HCK.out, show rateB R.cur.length x = false by simp [rateB, e0]]; rfl
        have hv : Hid (orE (ratesE R) (haltE R) = 1) := by
            have q := show ratesE R = _ from (list_at tl Ha.out (by rw [hz]; decide) cl).trans hz
            show _ = _
            rw [orE_ne (by rw [q]; decide)]
            exact q
        clear tl hz e0
        go_wp2_with fail
        go_ret
        exact ⟨by rw [hv.out]; try rfl, BU.out⟩
      | true =>
        have E0 := Lib.hid e0
        clear e0
        go_wp2_with fail
        refine (Within_x x.to 0 ((R.cur.length : Int) - 1) _).mono ?_
        rintro r w1 ⟨rfl, rfl⟩
        rw [show wi x.to 0 ((R.cur.length : Int) - 1) = ix x.to R.cur.length from rfl]
        cases e1 : ix x.to R.cur.length with
        | false =>
          have hz : plainE (at_ R.rates (rateB R.cur.length)) k = 1 := by rw [HCK.out, show rateB R.cur.length x = false by simp [rateB, e1]]; rfl
          have hv : Hid (orE (ratesE R) (haltE R) = 1) := by
              have q := show ratesE R = _ from (list_at tl Ha.out (by rw [hz]; decide) cl).trans hz
              show _ = _
              rw [orE_ne (by rw [q]; decide)]
              exact q
          clear tl hz e1
          go_wp2_with fail
          go_ret
          exact ⟨by rw [hv.out]; try rfl, BU.out⟩
        | true =>
          have E1 := Lib.hid e1
          clear e1
          by_cases e2 : x.fr = x.to
          · have u2 : (x.fr == x.to) = true := bt e2
            have hz : plainE (at_ R.rates (rateB R.cur.length)) k = 1 := by rw [HCK.out, show rateB R.cur.length x = false by simp [rateB, e2]]; rfl
            have hv : Hid (orE (ratesE R) (haltE R) = 1) := by
                have q := show ratesE R = _ from (list_at tl Ha.out (by rw [hz]; decide) cl).trans hz
                show _ = _
                rw [orE_ne (by rw [q]; decide)]
                exact q
            clear tl hz e2
            go_wp2_with fail
            go_ret
            exact ⟨by rw [hv.out]; try rfl, BU.out⟩
          · have u2 : (x.fr == x.to) = false := bf e2
            have D2 := Lib.hid e2
            clear e2
            go_wp2_with fail
            refine (Within_x x.num 1 1073741824 _).mono ?_
            rintro r w1 ⟨rfl, rfl⟩
            cases e3 : wi x.num 1 1073741824 with
            | false =>
              have hz : plainE (at_ R.rates (rateB R.cur.length)) k = 1 := by rw [HCK.out, show rateB R.cur.length x = false by simp [rateB, e3]]; rfl
              have hv : Hid (orE (ratesE R) (haltE R) = 1) := by
                  have q := show ratesE R = _ from (list_at tl Ha.out (by rw [hz]; decide) cl).trans hz
                  show _ = _
                  rw [orE_ne (by rw [q]; decide)]
                  exact q
              clear tl hz e3
              go_wp2_with fail
              go_ret
              exact ⟨by rw [hv.out]; try rfl, BU.out⟩
            | true =>
              have E3 := Lib.hid e3
              clear e3
              go_wp2_with fail
              refine (Within_x x.den 1 1073741824 _).mono ?_
              rintro r w1 ⟨rfl, rfl⟩
              cases e4 : wi x.den 1 1073741824 with
              | false =>
                have hz : plainE (at_ R.rates (rateB R.cur.length)) k = 1 := by rw [HCK.out, show rateB R.cur.length x = false by simp [rateB, e4]]; rfl
                have hv : Hid (orE (ratesE R) (haltE R) = 1) := by
                    have q := show ratesE R = _ from (list_at tl Ha.out (by rw [hz]; decide) cl).trans hz
                    show _ = _
                    rw [orE_ne (by rw [q]; decide)]
                    exact q
                clear tl hz e4
                go_wp2_with fail
                go_ret
                exact ⟨by rw [hv.out]; try rfl, BU.out⟩
              | true =>
                have E4 := Lib.hid e4
                clear e4
                go_wp2_with fail
                refine (Within_x x.since 0 100000 _).mono ?_
                rintro r w1 ⟨rfl, rfl⟩
                rw [show wi x.since 0 100000 = dayB x.since from rfl]
                cases e5 : dayB x.since with
                | false =>
                  have hz : plainE (at_ R.rates (rateB R.cur.length)) k = 1 := by rw [HCK.out, show rateB R.cur.length x = false by simp [rateB, e5]]; rfl
                  have hv : Hid (orE (ratesE R) (haltE R) = 1) := by
                      have q := show ratesE R = _ from (list_at tl Ha.out (by rw [hz]; decide) cl).trans hz
                      show _ = _
                      rw [orE_ne (by rw [q]; decide)]
                      exact q
                  clear tl hz e5
                  go_wp2_with fail
                  go_ret
                  exact ⟨by rw [hv.out]; try rfl, BU.out⟩
                | true =>
                  have E5 := Lib.hid e5
                  clear e5
                  have HZ : Hid (NoE (plainE (at_ R.rates (rateB R.cur.length))) (k + 1)) := ok_step Ha.out (by rw [HCK.out, show rateB R.cur.length x = true by simp [rateB, E0.out, E1.out, D2.out, E3.out, E4.out, E5.out]]; rfl)
                  go_wp2_with fail
                  go_roundw
                  case rel => exact ⟨k + 1, by omega, by congr 1, HZ.out, BUW.out⟩
                  case measure => simp [intOf]; omega

set_option maxHeartbeats 6400000 in
set_option maxRecDepth 100000 in
theorem rusances_x {a0 a1 a2 a3 a4 a5 a6 a7 : Option Addr} {c0 c1 c2 c3 c4 c5 c6 c7 : Nat} {R : Rlm} (w : World) (hr : RS w a0 a1 a2 a3 a4 a5 a6 a7 c0 c1 c2 c3 c4 c5 c6 c7 R) (hF : Fit R) :
    Calls Tryz.prog 73 #[.agg #[.slice a0 R.cur.length c0, .slice a1 R.cities.length c1, .slice a2 R.groups.length c2, .slice a3 R.firms.length c3, .slice a4 R.orders.length c4, .slice a5 R.usances.length c5, .slice a6 R.rates.length c6, .slice a7 R.halts.length c7]] w fun r w' => r = .returned (.int .i64 (usanceE R)) ∧ Below w.heap.size w w' := by
  have HR := Lib.hid hr
  have RB0 := Lib.hid (RB.new w (a0 := a0) (a1 := a1) (a2 := a2) (a3 := a3) (a4 := a4) (a5 := a5) (a6 := a6) (a7 := a7) (c0 := c0) (c1 := c1) (c2 := c2) (c3 := c3) (c4 := c4) (c5 := c5) (c6 := c6) (c7 := c7) (R := R))
  have B0 := Lib.hid (Below.new1 (w := w) (.cells #[.slice a0 R.cur.length c0, .slice a1 R.cities.length c1, .slice a2 R.groups.length c2, .slice a3 R.firms.length c3, .slice a4 R.orders.length c4, .slice a5 R.usances.length c5, .slice a6 R.rates.length c6, .slice a7 R.halts.length c7] 31))
  have hs0 := hF.cur
  have hs1 := hF.cities
  have hs2 := hF.groups
  have hs3 := hF.firms
  have hs4 := hF.orders
  have hs5 := hF.usances
  have hs6 := hF.rates
  have hs7 := hF.halts
  clear hr
  have y5 := RB0.out.b5
  have y1 := RB0.out.b1
  by_cases tl : 100 < R.usances.length
  · have kl : 100 < (R.usances.length : Int) := by omega
    have hv : Hid (usanceE R = 6) := (show usanceE R = _ from list_long tl)
    go_enter Tryz.func73, Tryz.ntmps73
    go_wp2_with fail
    go_ret
    exact ⟨by rw [hv.out]; try rfl, B0.out⟩
  have kl : ¬ 100 < (R.usances.length : Int) := by omega
  go_enter Tryz.func73, Tryz.ntmps73
  go_wp2_with fail
  go_loopw [3] (fun i wr => LRel R.usances.length (NoE (usE R)) (w.alloc (.cells #[.slice a0 R.cur.length c0, .slice a1 R.cities.length c1, .slice a2 R.groups.length c2, .slice a3 R.firms.length c3, .slice a4 R.orders.length c4, .slice a5 R.usances.length c5, .slice a6 R.rates.length c6, .slice a7 R.halts.length c7] 31)) i wr) (fun i _ => R.usances.length - (intOf i).toNat)
  case atStart => exact ⟨0, Nat.zero_le _, rfl, fun j hj => by omega, Below.refl _ _⟩
  case round =>
    obtain ⟨k, hk, rfl, hall, hbw⟩ := hrel
    have RW := Lib.hid (RB0.out.next hbw)
    have y1 := RW.out.b1
    have y5 := RW.out.b5
    have Ha := Lib.hid hall
    have HB := Lib.hid hbw
    have BW := Lib.hid (chain B0.out hbw)
    have k0 : (0 : Int) ≤ (k : Int) := by omega
    clear hall hbw
    by_cases cl : k < R.usances.length
    case neg =>
      have kc : ¬ (k : Int) < (R.usances.length : Int) := by omega
      have hv : Hid (usanceE R = 0) := (show usanceE R = _ from list_all tl (fun i hi => Ha.out i (by omega)))
      clear tl
      go_wp2_with fail
      go_ret
      exact ⟨by rw [hv.out]; try rfl, BW.out⟩
    case pos =>
      have kc : (k : Int) < (R.usances.length : Int) := by omega
      obtain ⟨x, hx⟩ : ∃ x, R.usances[k]? = some x := ⟨_, List.getElem?_eq_getElem cl⟩
      obtain ⟨b, off, ea, hb, hc⟩ := (HR.out.next BW.out).usances.at hx
      subst ea
      have t0 : wr.cell? ⟨b, off + k * 3, none⟩ = some (.int .i64 x.fr) := hc 0 _ rfl
      have t1 : wr.cell? ⟨b, off + k * 3 + 1, none⟩ = some (.int .i64 x.to) := hc 1 _ rfl
      have t2 : wr.cell? ⟨b, off + k * 3 + 2, none⟩ = some (.int .i64 x.days) := hc 2 _ rfl
      have HCK := Lib.hid (us_at hx)
      have HX := Lib.hid hx
      have BU := Lib.hid (chain BW.out (Below.new1 (w := wr) (.cells #[.int .i64 x.fr, .int .i64 x.to, .int .i64 x.days] 97)))
      have BUW := Lib.hid (chain HB.out (Below.new1 (w := wr) (.cells #[.int .i64 x.fr, .int .i64 x.to, .int .i64 x.days] 97)))
      have RU := Lib.hid (RW.out.next (Below.new1 (w := wr) (.cells #[.int .i64 x.fr, .int .i64 x.to, .int .i64 x.days] 97)))
      clear hx hc
      have z1 := RU.out.b1
      have z5 := RU.out.b5
      go_wp2_with fail
      refine (Within_x x.fr 0 ((R.cities.length : Int) - 1) _).mono ?_
      rintro r w1 ⟨rfl, rfl⟩
      rw [show wi x.fr 0 ((R.cities.length : Int) - 1) = ix x.fr R.cities.length from rfl]
      cases e0 : ix x.fr R.cities.length with
      | false =>
        have hz : usE R k = 1 := by rw [HCK.out]; exact usEv_bad (by simp [usB, e0])
        have hv : Hid (usanceE R = 1) := (show usanceE R = _ from (list_at tl Ha.out (by rw [hz]; decide) cl).trans hz)
        clear tl hz e0
        go_wp2_with fail
        go_ret
        exact ⟨by rw [hv.out]; try rfl, BU.out⟩
      | true =>
        have E0 := Lib.hid e0
        clear e0
        go_wp2_with fail
        refine (Within_x x.to 0 ((R.cities.length : Int) - 1) _).mono ?_
        rintro r w1 ⟨rfl, rfl⟩
        rw [show wi x.to 0 ((R.cities.length : Int) - 1) = ix x.to R.cities.length from rfl]
        cases e1 : ix x.to R.cities.length with
        | false =>
          have hz : usE R k = 1 := by rw [HCK.out]; exact usEv_bad (by simp [usB, e1])
          have hv : Hid (usanceE R = 1) := (show usanceE R = _ from (list_at tl Ha.out (by rw [hz]; decide) cl).trans hz)
          clear tl hz e1
          go_wp2_with fail
          go_ret
          exact ⟨by rw [hv.out]; try rfl, BU.out⟩
        | true =>
          have E1 := Lib.hid e1
          clear e1
          go_wp2_with fail
          refine (Within_x x.days 1 20000 _).mono ?_
          rintro r w1 ⟨rfl, rfl⟩
          cases e2 : wi x.days 1 20000 with
          | false =>
            have hz : usE R k = 1 := by rw [HCK.out]; exact usEv_bad (by simp [usB, e2])
            have hv : Hid (usanceE R = 1) := (show usanceE R = _ from (list_at tl Ha.out (by rw [hz]; decide) cl).trans hz)
            clear tl hz e2
            go_wp2_with fail
            go_ret
            exact ⟨by rw [hv.out]; try rfl, BU.out⟩
          | true =>
            have E2 := Lib.hid e2
            clear e2
            have hok : Hid (usB R.cities.length x = true) := by show _ = _; simp [usB, E0.out, E1.out, E2.out]
            obtain ⟨wA, rfl⟩ : ∃ wA, wA = wr := ⟨_, rfl⟩
            obtain ⟨p0, p1⟩ := UBox.new wA x
            have P0 := Lib.hid p0
            have P1 := Lib.hid p1
            clear p0 p1 t0 t1 t2
            go_wp2_with fail
            go_loopw [5] (fun i wr => LRel k (NoS R.usances x) (wA.alloc (.cells #[.int .i64 x.fr, .int .i64 x.to, .int .i64 x.days] 97)) i wr) (fun i _ => k - (intOf i).toNat)
            case atStart => exact ⟨0, Nat.zero_le _, rfl, fun j u hj => by omega, Below.refl _ _⟩
            case round =>
              obtain ⟨m, hm, rfl, hall, hbw⟩ := hrel
              have q5 := cell_up hbw z5
              have q0 := cell_up hbw P0.out
              have q1 := cell_up hbw P1.out
              have HS := Lib.hid hall
              have B9 := Lib.hid (chain BU.out hbw)
              have B9W := Lib.hid (chain BUW.out hbw)
              have HB9 := Lib.hid hbw
              have m0 : (0 : Int) ≤ (m : Int) := by omega
              clear hall hbw
              by_cases cm : m < k
              case neg =>
                have mc : ¬ (m : Int) < (k : Int) := by omega
                obtain rfl : m = k := by omega
                have HZ : Hid (NoE (usE R) (m + 1)) := ok_step Ha.out (by rw [HCK.out]; exact usEv_ok hok.out HS.out.all)
                go_wp2_with fail
                go_roundw
                case rel => exact ⟨m + 1, by omega, by congr 1, HZ.out, B9W.out⟩
                case measure => simp [intOf]; omega
              case pos =>
                have mc : (m : Int) < (k : Int) := by omega
                have mc2 : (m : Int) < (R.usances.length : Int) := by omega
                obtain ⟨y, hy⟩ : ∃ y, R.usances[m]? = some y := ⟨_, List.getElem?_eq_getElem (by omega)⟩
                obtain ⟨b8, off8, ea8, -, hc⟩ := (HR.out.next B9.out).usances.at hy
                simp only [Option.some.injEq, Addr.mk.injEq, and_true] at ea8
                obtain ⟨rfl, rfl⟩ := ea8
                have t0 : wr.cell? ⟨b, off + m * 3, none⟩ = some (.int .i64 y.fr) := hc 0 _ rfl
                have t1 : wr.cell? ⟨b, off + m * 3 + 1, none⟩ = some (.int .i64 y.to) := hc 1 _ rfl
                have t2 : wr.cell? ⟨b, off + m * 3 + 2, none⟩ = some (.int .i64 y.days) := hc 2 _ rfl
                have HY := Lib.hid hy
                clear hy hc
                by_cases f1 : y.fr = x.fr
                · have g1 : (y.fr == x.fr) = true := bt f1
                  by_cases f2 : y.to = x.to
                  · have g2 : (y.to == x.to) = true := bt f2
                    have hz : usE R k = 5 := by rw [HCK.out]; exact usEv_twice hok.out (mem_take HY.out cm) (by simp [sameU, f1, f2])
                    have hv : Hid (usanceE R = 5) := (list_at tl Ha.out (by rw [hz]; decide) cl).trans hz
                    clear f1 f2 hz tl
                    go_wp2_with fail
                    go_quiet (fail)
                    go_wp2_with fail
                    go_ret
                    exact ⟨by rw [hv.out]; try rfl, by first | exact B9.out | exact below_drewN B9.out _⟩
                  · have g2 : (y.to == x.to) = false := bf f2
                    have HN := Lib.hid (HS.out.next HY.out (by simp [sameU, f2]))
                    clear f1 f2
                    go_wp2_with fail
                    go_quiet (fail)
                    go_wp2_with fail
                    go_roundw
                    case rel => exact ⟨m + 1, by omega, by congr 1, HN.out, by first | exact HB9.out | exact below_drewN HB9.out _⟩
                    case measure => simp [intOf]; omega
                · have g1 : (y.fr == x.fr) = false := bf f1
                  have HN := Lib.hid (HS.out.next HY.out (by simp [sameU, f1]))
                  clear f1
                  go_wp2_with fail
                  go_quiet (fail)
                  go_wp2_with fail
                  go_roundw
                  case rel => exact ⟨m + 1, by omega, by congr 1, HN.out, by first | exact HB9.out | exact below_drewN HB9.out _⟩
                  case measure => simp [intOf]; omega

end Go.Proofs.YtcjakgpmompaiaaGreatDoor

/-
  The reference: Check, Few, SameInts.
-/
namespace Go.Proofs.YtcjakgpmompaiaaGreatDoor
open Go.RowKit Rl

theorem check_eq (R : Rlm) : checkP R = orE (orE (curE R) (cityE R)) (orE (orE (groupE R) (firmE R)) (orE (orderE R) (orE (usanceE R) (orE (ratesE R) (haltE R))))) := by
  show orE (orE (orE (orE (orE (orE (orE (orE 0 (curE R)) (cityE R)) (groupE R)) (firmE R)) (orderE R)) (usanceE R)) (ratesE R)) (haltE R) = _
  rw [orE_zero rfl]
  simp only [orE_assoc]

set_option maxHeartbeats 6400000 in
set_option maxRecDepth 100000 in
theorem rCheck_x {a0 a1 a2 a3 a4 a5 a6 a7 : Option Addr} {c0 c1 c2 c3 c4 c5 c6 c7 : Nat} {R : Rlm} (w : World) (hr : RS w a0 a1 a2 a3 a4 a5 a6 a7 c0 c1 c2 c3 c4 c5 c6 c7 R) (hF : Fit R) :
    Calls Tryz.prog 40 #[.agg #[.slice a0 R.cur.length c0, .slice a1 R.cities.length c1, .slice a2 R.groups.length c2, .slice a3 R.firms.length c3, .slice a4 R.orders.length c4, .slice a5 R.usances.length c5, .slice a6 R.rates.length c6, .slice a7 R.halts.length c7]] w fun r w' => r = .returned (.int .i64 (checkP R)) ∧ Below w.heap.size w w' := by
  have HR := Lib.hid hr
  have RB0 := Lib.hid (RB.new w (a0 := a0) (a1 := a1) (a2 := a2) (a3 := a3) (a4 := a4) (a5 := a5) (a6 := a6) (a7 := a7) (c0 := c0) (c1 := c1) (c2 := c2) (c3 := c3) (c4 := c4) (c5 := c5) (c6 := c6) (c7 := c7) (R := R))
  have B0 := Lib.hid (Below.new1 (w := w) (.cells #[.slice a0 R.cur.length c0, .slice a1 R.cities.length c1, .slice a2 R.groups.length c2, .slice a3 R.firms.length c3, .slice a4 R.orders.length c4, .slice a5 R.usances.length c5, .slice a6 R.rates.length c6, .slice a7 R.halts.length c7] 31))
  have hs0 := hF.cur
  have hs1 := hF.cities
  have hs2 := hF.groups
  have hs3 := hF.firms
  have hs4 := hF.orders
  have hs5 := hF.usances
  have hs6 := hF.rates
  have hs7 := hF.halts
  clear hr
  go_enter Tryz.func40, Tryz.ntmps40
  have y0_0 := RB0.out.b0
  have y1_0 := RB0.out.b1
  have y2_0 := RB0.out.b2
  have y3_0 := RB0.out.b3
  have y4_0 := RB0.out.b4
  have y5_0 := RB0.out.b5
  have y6_0 := RB0.out.b6
  have y7_0 := RB0.out.b7
  go_wp2_with fail
  refine (rcities_x _ (HR.out.next B0.out) hF).mono ?_
  rintro r w1 ⟨rfl, b1⟩
  have B1 := Lib.hid (chain B0.out b1)
  have RB1 := Lib.hid (RB0.out.next b1)
  clear b1 y0_0 y1_0 y2_0 y3_0 y4_0 y5_0 y6_0 y7_0
  by_cases e : orE (curE R) (cityE R) = 0
  · have f0 : (orE (curE R) (cityE R) == 0) = true := bt e
    have E0 := Lib.hid e
    clear e
    have y0_1 := RB1.out.b0
    have y1_1 := RB1.out.b1
    have y2_1 := RB1.out.b2
    have y3_1 := RB1.out.b3
    have y4_1 := RB1.out.b4
    have y5_1 := RB1.out.b5
    have y6_1 := RB1.out.b6
    have y7_1 := RB1.out.b7
    go_wp2_with fail
    refine (rfirms_x _ (HR.out.next B1.out) hF).mono ?_
    rintro r w2 ⟨rfl, b2⟩
    have B2 := Lib.hid (chain B1.out b2)
    have RB2 := Lib.hid (RB1.out.next b2)
    clear b2 y0_1 y1_1 y2_1 y3_1 y4_1 y5_1 y6_1 y7_1
    by_cases e : orE (groupE R) (firmE R) = 0
    · have f1 : (orE (groupE R) (firmE R) == 0) = true := bt e
      have E1 := Lib.hid e
      clear e
      have y0_2 := RB2.out.b0
      have y1_2 := RB2.out.b1
      have y2_2 := RB2.out.b2
      have y3_2 := RB2.out.b3
      have y4_2 := RB2.out.b4
      have y5_2 := RB2.out.b5
      have y6_2 := RB2.out.b6
      have y7_2 := RB2.out.b7
      go_wp2_with fail
      refine (rorders_x _ (HR.out.next B2.out) hF).mono ?_
      rintro r w3 ⟨rfl, b3⟩
      have B3 := Lib.hid (chain B2.out b3)
      have RB3 := Lib.hid (RB2.out.next b3)
      clear b3 y0_2 y1_2 y2_2 y3_2 y4_2 y5_2 y6_2 y7_2
      by_cases e : orderE R = 0
      · have f2 : (orderE R == 0) = true := bt e
        have E2 := Lib.hid e
        clear e
        have y0_3 := RB3.out.b0
        have y1_3 := RB3.out.b1
        have y2_3 := RB3.out.b2
        have y3_3 := RB3.out.b3
        have y4_3 := RB3.out.b4
        have y5_3 := RB3.out.b5
        have y6_3 := RB3.out.b6
        have y7_3 := RB3.out.b7
        go_wp2_with fail
        refine (rusances_x _ (HR.out.next B3.out) hF).mono ?_
        rintro r w4 ⟨rfl, b4⟩
        have B4 := Lib.hid (chain B3.out b4)
        have RB4 := Lib.hid (RB3.out.next b4)
        clear b4 y0_3 y1_3 y2_3 y3_3 y4_3 y5_3 y6_3 y7_3
        by_cases e : usanceE R = 0
        · have f3 : (usanceE R == 0) = true := bt e
          have E3 := Lib.hid e
          clear e
          have y0_4 := RB4.out.b0
          have y1_4 := RB4.out.b1
          have y2_4 := RB4.out.b2
          have y3_4 := RB4.out.b3
          have y4_4 := RB4.out.b4
          have y5_4 := RB4.out.b5
          have y6_4 := RB4.out.b6
          have y7_4 := RB4.out.b7
          go_wp2_with fail
          refine (rothers_x _ (HR.out.next B4.out) hF).mono ?_
          rintro r w5 ⟨rfl, b5⟩
          have B5 := Lib.hid (chain B4.out b5)
          have RB5 := Lib.hid (RB4.out.next b5)
          clear b5 y0_4 y1_4 y2_4 y3_4 y4_4 y5_4 y6_4 y7_4
          have hv : Hid (checkP R = orE (ratesE R) (haltE R)) := by show _ = _; rw [check_eq, orE_zero (E0.out), orE_zero (E1.out), orE_zero (E2.out), orE_zero (E3.out)]
          go_wp2_with fail
          go_ret
          exact ⟨by rw [hv.out]; try rfl, B5.out⟩
        · have f3 : (usanceE R == 0) = false := bf e
          have hv : Hid (checkP R = usanceE R) := by show _ = _; rw [check_eq, orE_zero (E0.out), orE_zero (E1.out), orE_zero (E2.out), orE_ne e]
          clear e
          go_wp2_with fail
          go_ret
          exact ⟨by rw [hv.out]; try rfl, B4.out⟩
      · have f2 : (orderE R == 0) = false := bf e
        have hv : Hid (checkP R = orderE R) := by show _ = _; rw [check_eq, orE_zero (E0.out), orE_zero (E1.out), orE_ne e]
        clear e
        go_wp2_with fail
        go_ret
        exact ⟨by rw [hv.out]; try rfl, B3.out⟩
    · have f1 : (orE (groupE R) (firmE R) == 0) = false := bf e
      have hv : Hid (checkP R = orE (groupE R) (firmE R)) := by show _ = _; rw [check_eq, orE_zero (E0.out), orE_ne e]
      clear e
      go_wp2_with fail
      go_ret
      exact ⟨by rw [hv.out]; try rfl, B2.out⟩
  · have f0 : (orE (curE R) (cityE R) == 0) = false := bf e
    have hv : Hid (checkP R = orE (curE R) (cityE R)) := by show _ = _; rw [check_eq, orE_ne e]
    clear e
    go_wp2_with fail
    go_ret
    exact ⟨by rw [hv.out]; try rfl, B1.out⟩

def FewP (R : Rlm) (r : Ending) : Prop := ∃ b : Bool, r = .returned (.bool b) ∧ (b = true → Fit R)
def CitR (R : Rlm) (W : World) (i : Value) (wr : World) : Prop := ∃ k : Nat, k ≤ R.cities.length ∧ i = .int .i64 (k : Int) ∧ W = wr
def OrdR (R : Rlm) (W : World) (i : Value) (wr : World) : Prop := ∃ k : Nat, k ≤ R.orders.length ∧ i = .int .i64 (k : Int) ∧ (∀ (j : Nat) (o : Odr), j < k → R.orders[j]? = some o → o.ch.length ≤ 40 ∧ o.ru.length ≤ 40) ∧ W = wr
set_option maxHeartbeats 6400000 in
set_option maxRecDepth 100000 in
theorem Few_x {a0 a1 a2 a3 a4 a5 a6 a7 : Option Addr} {c0 c1 c2 c3 c4 c5 c6 c7 : Nat} {R : Rlm} (w : World) (hr : RS w a0 a1 a2 a3 a4 a5 a6 a7 c0 c1 c2 c3 c4 c5 c6 c7 R) (hF : FitW R) :
    Calls Tryz.prog 20 #[.agg #[.slice a0 R.cur.length c0, .slice a1 R.cities.length c1, .slice a2 R.groups.length c2, .slice a3 R.firms.length c3, .slice a4 R.orders.length c4, .slice a5 R.usances.length c5, .slice a6 R.rates.length c6, .slice a7 R.halts.length c7]] w fun r w' => FewP R r ∧ Below w.heap.size w w' := by
  have HR := Lib.hid hr
  have RB0 := Lib.hid (RB.new w (a0 := a0) (a1 := a1) (a2 := a2) (a3 := a3) (a4 := a4) (a5 := a5) (a6 := a6) (a7 := a7) (c0 := c0) (c1 := c1) (c2 := c2) (c3 := c3) (c4 := c4) (c5 := c5) (c6 := c6) (c7 := c7) (R := R))
  have B0 := Lib.hid (Below.new1 (w := w) (.cells #[.slice a0 R.cur.length c0, .slice a1 R.cities.length c1, .slice a2 R.groups.length c2, .slice a3 R.firms.length c3, .slice a4 R.orders.length c4, .slice a5 R.usances.length c5, .slice a6 R.rates.length c6, .slice a7 R.halts.length c7] 31))
  have hs0 := hF.cur
  have hs1 := hF.cities
  have hs2 := hF.groups
  have hs3 := hF.firms
  have hs4 := hF.orders
  have hs5 := hF.usances
  have hs6 := hF.rates
  have hs7 := hF.halts
  clear hr
  have y0 := RB0.out.b0
  have y1 := RB0.out.b1
  have y2 := RB0.out.b2
  have y3 := RB0.out.b3
  have y4 := RB0.out.b4
  have y5 := RB0.out.b5
  have y6 := RB0.out.b6
  have y7 := RB0.out.b7
  go_enter Tryz.func20, Tryz.ntmps20
  go_wp2_with fail
  go_loopw [3] (fun i wr => CitR R (w.alloc (.cells #[.slice a0 R.cur.length c0, .slice a1 R.cities.length c1, .slice a2 R.groups.length c2, .slice a3 R.firms.length c3, .slice a4 R.orders.length c4, .slice a5 R.usances.length c5, .slice a6 R.rates.length c6, .slice a7 R.halts.length c7] 31)) i wr) (fun i _ => R.cities.length - (intOf i).toNat)
  case atStart => exact ⟨0, Nat.zero_le _, rfl, rfl⟩
  case round =>
    obtain ⟨k, hk, rfl, rfl⟩ := hrel
    have k0 : (0 : Int) ≤ (k : Int) := by omega
    by_cases cl : k < R.cities.length
    case neg =>
      have kc : ¬ (k : Int) < (R.cities.length : Int) := by omega
      go_wp2_with fail
      go_loopw [4] (fun i wr => OrdR R (w.alloc (.cells #[.slice a0 R.cur.length c0, .slice a1 R.cities.length c1, .slice a2 R.groups.length c2, .slice a3 R.firms.length c3, .slice a4 R.orders.length c4, .slice a5 R.usances.length c5, .slice a6 R.rates.length c6, .slice a7 R.halts.length c7] 31)) i wr) (fun i _ => R.orders.length - (intOf i).toNat)
      case atStart => exact ⟨0, Nat.zero_le _, rfl, fun j o hj => by omega, rfl⟩
      case round =>
        obtain ⟨k, hk, rfl, hall, rfl⟩ := hrel
        have Ha := Lib.hid hall
        have k0 : (0 : Int) ≤ (k : Int) := by omega
        clear hall
        by_cases cl : k < R.orders.length
        case neg =>
          have kc : ¬ (k : Int) < (R.orders.length : Int) := by omega
          by_cases p0 : R.cur.length < 50
          · have q0 : (R.cur.length : Int) < 50 := by omega
            by_cases p1 : R.cities.length < 50
            · have q1 : (R.cities.length : Int) < 50 := by omega
              by_cases p2 : R.groups.length < 50
              · have q2 : (R.groups.length : Int) < 50 := by omega
                by_cases p3 : R.firms.length < 210
                · have q3 : (R.firms.length : Int) < 210 := by omega
                  by_cases p4 : R.orders.length < 50
                  · have q4 : (R.orders.length : Int) < 50 := by omega
                    by_cases p5 : R.usances.length < 110
                    · have q5 : (R.usances.length : Int) < 110 := by omega
                      by_cases p6 : R.rates.length < 110
                      · have q6 : (R.rates.length : Int) < 110 := by omega
                        by_cases p7 : R.halts.length < 50
                        · have q7 : (R.halts.length : Int) < 50 := by omega
                          have HFIT : Hid (Fit R) := ⟨hF, p0, p1, p2, p3, p4, p5, p6, p7, fun o ho => by
                            obtain ⟨j, hj⟩ := List.getElem?_of_mem ho
                            exact Ha.out j o (by have := (List.getElem?_eq_some_iff.1 hj).1; omega) hj⟩
                          go_wp2_with fail
                          go_ret
                          exact ⟨⟨true, rfl, fun _ => HFIT.out⟩, B0.out⟩
                        · have q7 : ¬ (R.halts.length : Int) < 50 := by omega
                          go_wp2_with fail
                          go_ret
                          exact ⟨⟨false, rfl, fun h => by cases h⟩, B0.out⟩
                      · have q6 : ¬ (R.rates.length : Int) < 110 := by omega
                        go_wp2_with fail
                        go_ret
                        exact ⟨⟨false, rfl, fun h => by cases h⟩, B0.out⟩
                    · have q5 : ¬ (R.usances.length : Int) < 110 := by omega
                      go_wp2_with fail
                      go_ret
                      exact ⟨⟨false, rfl, fun h => by cases h⟩, B0.out⟩
                  · have q4 : ¬ (R.orders.length : Int) < 50 := by omega
                    go_wp2_with fail
                    go_ret
                    exact ⟨⟨false, rfl, fun h => by cases h⟩, B0.out⟩
                · have q3 : ¬ (R.firms.length : Int) < 210 := by omega
                  go_wp2_with fail
                  go_ret
                  exact ⟨⟨false, rfl, fun h => by cases h⟩, B0.out⟩
              · have q2 : ¬ (R.groups.length : Int) < 50 := by omega
                go_wp2_with fail
                go_ret
                exact ⟨⟨false, rfl, fun h => by cases h⟩, B0.out⟩
            · have q1 : ¬ (R.cities.length : Int) < 50 := by omega
              go_wp2_with fail
              go_ret
              exact ⟨⟨false, rfl, fun h => by cases h⟩, B0.out⟩
          · have q0 : ¬ (R.cur.length : Int) < 50 := by omega
            go_wp2_with fail
            go_ret
            exact ⟨⟨false, rfl, fun h => by cases h⟩, B0.out⟩
        case pos =>
          have kc : (k : Int) < (R.orders.length : Int) := by omega
          by_cases c50 : k < 50
          · have kd : (k : Int) < 50 := by omega
            obtain ⟨x, hx⟩ : ∃ x, R.orders[k]? = some x := ⟨_, List.getElem?_eq_getElem cl⟩
            obtain ⟨b, off, ea, hb, hc⟩ := (HR.out.next B0.out).orders.at hx
            have t0 : (w.alloc (.cells #[.slice a0 R.cur.length c0, .slice a1 R.cities.length c1, .slice a2 R.groups.length c2, .slice a3 R.firms.length c3, .slice a4 R.orders.length c4, .slice a5 R.usances.length c5, .slice a6 R.rates.length c6, .slice a7 R.halts.length c7] 31)).cell? ⟨b, off + k * 4, none⟩ = some (.string x.nm) := hc 0 _ rfl
            have t1 : (w.alloc (.cells #[.slice a0 R.cur.length c0, .slice a1 R.cities.length c1, .slice a2 R.groups.length c2, .slice a3 R.firms.length c3, .slice a4 R.orders.length c4, .slice a5 R.usances.length c5, .slice a6 R.rates.length c6, .slice a7 R.halts.length c7] 31)).cell? ⟨b, off + k * 4 + 1, none⟩ = some (.bool x.acc) := hc 1 _ rfl
            have t2 : (w.alloc (.cells #[.slice a0 R.cur.length c0, .slice a1 R.cities.length c1, .slice a2 R.groups.length c2, .slice a3 R.firms.length c3, .slice a4 R.orders.length c4, .slice a5 R.usances.length c5, .slice a6 R.rates.length c6, .slice a7 R.halts.length c7] 31)).cell? ⟨b, off + k * 4 + 2, none⟩ = some (.slice x.a2 x.ch.length x.k2) := hc 2 _ rfl
            have t3 : (w.alloc (.cells #[.slice a0 R.cur.length c0, .slice a1 R.cities.length c1, .slice a2 R.groups.length c2, .slice a3 R.firms.length c3, .slice a4 R.orders.length c4, .slice a5 R.usances.length c5, .slice a6 R.rates.length c6, .slice a7 R.halts.length c7] 31)).cell? ⟨b, off + k * 4 + 3, none⟩ = some (.slice x.a3 x.ru.length x.k3) := hc 3 _ rfl
            have HX := Lib.hid hx
            clear hx hc
            subst ea
            by_cases u1 : x.ch.length ≤ 40
            · have v1 : ¬ 40 < (x.ch.length : Int) := by omega
              by_cases u2 : x.ru.length ≤ 40
              · have v2 : ¬ 40 < (x.ru.length : Int) := by omega
                have HN : Hid (∀ (j : Nat) (o : Odr), j < k + 1 → R.orders[j]? = some o → o.ch.length ≤ 40 ∧ o.ru.length ≤ 40) := by
                  intro j o hj ho
                  by_cases cj : j = k
                  · subst cj
                    have := HX.out
                    rw [ho] at this
                    simp only [Option.some.injEq] at this
                    subst this
                    exact ⟨u1, u2⟩
                  · exact Ha.out j o (by omega) ho
                go_wp2_with fail
                go_roundw
                case rel => exact ⟨k + 1, by omega, by congr 1, HN.out, rfl⟩
                case measure => simp [intOf]; omega
              · have v2 : 40 < (x.ru.length : Int) := by omega
                go_wp2_with fail
                go_ret
                exact ⟨⟨false, rfl, fun h => by cases h⟩, B0.out⟩
            · have v1 : 40 < (x.ch.length : Int) := by omega
              go_wp2_with fail
              go_ret
              exact ⟨⟨false, rfl, fun h => by cases h⟩, B0.out⟩
          · have kd : ¬ (k : Int) < 50 := by omega
            have no4 : ¬ R.orders.length < 50 := by omega
            by_cases p0 : R.cur.length < 50
            · have q0 : (R.cur.length : Int) < 50 := by omega
              by_cases p1 : R.cities.length < 50
              · have q1 : (R.cities.length : Int) < 50 := by omega
                by_cases p2 : R.groups.length < 50
                · have q2 : (R.groups.length : Int) < 50 := by omega
                  by_cases p3 : R.firms.length < 210
                  · have q3 : (R.firms.length : Int) < 210 := by omega
                    by_cases p4 : R.orders.length < 50
                    · have q4 : (R.orders.length : Int) < 50 := by omega
                      exact absurd p4 no4
                    · have q4 : ¬ (R.orders.length : Int) < 50 := by omega
                      go_wp2_with fail
                      go_ret
                      exact ⟨⟨false, rfl, fun h => by cases h⟩, B0.out⟩
                  · have q3 : ¬ (R.firms.length : Int) < 210 := by omega
                    go_wp2_with fail
                    go_ret
                    exact ⟨⟨false, rfl, fun h => by cases h⟩, B0.out⟩
                · have q2 : ¬ (R.groups.length : Int) < 50 := by omega
                  go_wp2_with fail
                  go_ret
                  exact ⟨⟨false, rfl, fun h => by cases h⟩, B0.out⟩
              · have q1 : ¬ (R.cities.length : Int) < 50 := by omega
                go_wp2_with fail
                go_ret
                exact ⟨⟨false, rfl, fun h => by cases h⟩, B0.out⟩
            · have q0 : ¬ (R.cur.length : Int) < 50 := by omega
              go_wp2_with fail
              go_ret
              exact ⟨⟨false, rfl, fun h => by cases h⟩, B0.out⟩
    case pos =>
      have kc : (k : Int) < (R.cities.length : Int) := by omega
      by_cases c50 : k < 50
      · have kd : (k : Int) < 50 := by omega
        obtain ⟨x, hx⟩ : ∃ x, R.cities[k]? = some x := ⟨_, List.getElem?_eq_getElem cl⟩
        obtain ⟨b, off, ea, hb, hc⟩ := (HR.out.next B0.out).cities.at hx
        have t0 : (w.alloc (.cells #[.slice a0 R.cur.length c0, .slice a1 R.cities.length c1, .slice a2 R.groups.length c2, .slice a3 R.firms.length c3, .slice a4 R.orders.length c4, .slice a5 R.usances.length c5, .slice a6 R.rates.length c6, .slice a7 R.halts.length c7] 31)).cell? ⟨b, off + k * 6, none⟩ = some (.string x.nm) := hc 0 _ rfl
        have t1 : (w.alloc (.cells #[.slice a0 R.cur.length c0, .slice a1 R.cities.length c1, .slice a2 R.groups.length c2, .slice a3 R.firms.length c3, .slice a4 R.orders.length c4, .slice a5 R.usances.length c5, .slice a6 R.rates.length c6, .slice a7 R.halts.length c7] 31)).cell? ⟨b, off + k * 6 + 1, none⟩ = some (.int .i64 x.o) := hc 1 _ rfl
        have t2 : (w.alloc (.cells #[.slice a0 R.cur.length c0, .slice a1 R.cities.length c1, .slice a2 R.groups.length c2, .slice a3 R.firms.length c3, .slice a4 R.orders.length c4, .slice a5 R.usances.length c5, .slice a6 R.rates.length c6, .slice a7 R.halts.length c7] 31)).cell? ⟨b, off + k * 6 + 2, none⟩ = some (.int .i64 x.c) := hc 2 _ rfl
        have t3 : (w.alloc (.cells #[.slice a0 R.cur.length c0, .slice a1 R.cities.length c1, .slice a2 R.groups.length c2, .slice a3 R.firms.length c3, .slice a4 R.orders.length c4, .slice a5 R.usances.length c5, .slice a6 R.rates.length c6, .slice a7 R.halts.length c7] 31)).cell? ⟨b, off + k * 6 + 3, none⟩ = some (.slice x.a3 x.rest.length x.k3) := hc 3 _ rfl
        have t4 : (w.alloc (.cells #[.slice a0 R.cur.length c0, .slice a1 R.cities.length c1, .slice a2 R.groups.length c2, .slice a3 R.firms.length c3, .slice a4 R.orders.length c4, .slice a5 R.usances.length c5, .slice a6 R.rates.length c6, .slice a7 R.halts.length c7] 31)).cell? ⟨b, off + k * 6 + 4, none⟩ = some (.slice x.a4 x.feasts.length x.k4) := hc 4 _ rfl
        have t5 : (w.alloc (.cells #[.slice a0 R.cur.length c0, .slice a1 R.cities.length c1, .slice a2 R.groups.length c2, .slice a3 R.firms.length c3, .slice a4 R.orders.length c4, .slice a5 R.usances.length c5, .slice a6 R.rates.length c6, .slice a7 R.halts.length c7] 31)).cell? ⟨b, off + k * 6 + 5, none⟩ = some (.slice x.a5 x.shut.length x.k5) := hc 5 _ rfl
        clear hx hc
        subst ea
        by_cases v1 : 70 < (x.feasts.length : Int)
        · skip
          go_wp2_with fail
          go_ret
          exact ⟨⟨false, rfl, fun h => by cases h⟩, B0.out⟩
        by_cases v2 : 210 < (x.shut.length : Int)
        · skip
          go_wp2_with fail
          go_ret
          exact ⟨⟨false, rfl, fun h => by cases h⟩, B0.out⟩
        by_cases v3 : 8 < (x.rest.length : Int)
        · skip
          go_wp2_with fail
          go_ret
          exact ⟨⟨false, rfl, fun h => by cases h⟩, B0.out⟩
        go_wp2_with fail
        go_roundw
        case rel => exact ⟨k + 1, by omega, by congr 1, rfl⟩
        case measure => simp [intOf]; omega
      · have kd : ¬ (k : Int) < 50 := by omega
        have no1 : ¬ R.cities.length < 50 := by omega
        go_wp2_with fail
        go_loopw [4] (fun i wr => OrdR R (w.alloc (.cells #[.slice a0 R.cur.length c0, .slice a1 R.cities.length c1, .slice a2 R.groups.length c2, .slice a3 R.firms.length c3, .slice a4 R.orders.length c4, .slice a5 R.usances.length c5, .slice a6 R.rates.length c6, .slice a7 R.halts.length c7] 31)) i wr) (fun i _ => R.orders.length - (intOf i).toNat)
        case atStart => exact ⟨0, Nat.zero_le _, rfl, fun j o hj => by omega, rfl⟩
        case round =>
          obtain ⟨k, hk, rfl, hall, rfl⟩ := hrel
          have Ha := Lib.hid hall
          have k0 : (0 : Int) ≤ (k : Int) := by omega
          clear hall
          by_cases cl : k < R.orders.length
          case neg =>
            have kc : ¬ (k : Int) < (R.orders.length : Int) := by omega
            by_cases p0 : R.cur.length < 50
            · have q0 : (R.cur.length : Int) < 50 := by omega
              by_cases p1 : R.cities.length < 50
              · have q1 : (R.cities.length : Int) < 50 := by omega
                exact absurd p1 no1
              · have q1 : ¬ (R.cities.length : Int) < 50 := by omega
                go_wp2_with fail
                go_ret
                exact ⟨⟨false, rfl, fun h => by cases h⟩, B0.out⟩
            · have q0 : ¬ (R.cur.length : Int) < 50 := by omega
              go_wp2_with fail
              go_ret
              exact ⟨⟨false, rfl, fun h => by cases h⟩, B0.out⟩
          case pos =>
            have kc : (k : Int) < (R.orders.length : Int) := by omega
            by_cases c50 : k < 50
            · have kd : (k : Int) < 50 := by omega
              obtain ⟨x, hx⟩ : ∃ x, R.orders[k]? = some x := ⟨_, List.getElem?_eq_getElem cl⟩
              obtain ⟨b, off, ea, hb, hc⟩ := (HR.out.next B0.out).orders.at hx
              have t0 : (w.alloc (.cells #[.slice a0 R.cur.length c0, .slice a1 R.cities.length c1, .slice a2 R.groups.length c2, .slice a3 R.firms.length c3, .slice a4 R.orders.length c4, .slice a5 R.usances.length c5, .slice a6 R.rates.length c6, .slice a7 R.halts.length c7] 31)).cell? ⟨b, off + k * 4, none⟩ = some (.string x.nm) := hc 0 _ rfl
              have t1 : (w.alloc (.cells #[.slice a0 R.cur.length c0, .slice a1 R.cities.length c1, .slice a2 R.groups.length c2, .slice a3 R.firms.length c3, .slice a4 R.orders.length c4, .slice a5 R.usances.length c5, .slice a6 R.rates.length c6, .slice a7 R.halts.length c7] 31)).cell? ⟨b, off + k * 4 + 1, none⟩ = some (.bool x.acc) := hc 1 _ rfl
              have t2 : (w.alloc (.cells #[.slice a0 R.cur.length c0, .slice a1 R.cities.length c1, .slice a2 R.groups.length c2, .slice a3 R.firms.length c3, .slice a4 R.orders.length c4, .slice a5 R.usances.length c5, .slice a6 R.rates.length c6, .slice a7 R.halts.length c7] 31)).cell? ⟨b, off + k * 4 + 2, none⟩ = some (.slice x.a2 x.ch.length x.k2) := hc 2 _ rfl
              have t3 : (w.alloc (.cells #[.slice a0 R.cur.length c0, .slice a1 R.cities.length c1, .slice a2 R.groups.length c2, .slice a3 R.firms.length c3, .slice a4 R.orders.length c4, .slice a5 R.usances.length c5, .slice a6 R.rates.length c6, .slice a7 R.halts.length c7] 31)).cell? ⟨b, off + k * 4 + 3, none⟩ = some (.slice x.a3 x.ru.length x.k3) := hc 3 _ rfl
              have HX := Lib.hid hx
              clear hx hc
              subst ea
              by_cases u1 : x.ch.length ≤ 40
              · have v1 : ¬ 40 < (x.ch.length : Int) := by omega
                by_cases u2 : x.ru.length ≤ 40
                · have v2 : ¬ 40 < (x.ru.length : Int) := by omega
                  have HN : Hid (∀ (j : Nat) (o : Odr), j < k + 1 → R.orders[j]? = some o → o.ch.length ≤ 40 ∧ o.ru.length ≤ 40) := by
                    intro j o hj ho
                    by_cases cj : j = k
                    · subst cj
                      have := HX.out
                      rw [ho] at this
                      simp only [Option.some.injEq] at this
                      subst this
                      exact ⟨u1, u2⟩
                    · exact Ha.out j o (by omega) ho
                  go_wp2_with fail
                  go_roundw
                  case rel => exact ⟨k + 1, by omega, by congr 1, HN.out, rfl⟩
                  case measure => simp [intOf]; omega
                · have v2 : 40 < (x.ru.length : Int) := by omega
                  go_wp2_with fail
                  go_ret
                  exact ⟨⟨false, rfl, fun h => by cases h⟩, B0.out⟩
              · have v1 : 40 < (x.ch.length : Int) := by omega
                go_wp2_with fail
                go_ret
                exact ⟨⟨false, rfl, fun h => by cases h⟩, B0.out⟩
            · have kd : ¬ (k : Int) < 50 := by omega
              have no4 : ¬ R.orders.length < 50 := by omega
              by_cases p0 : R.cur.length < 50
              · have q0 : (R.cur.length : Int) < 50 := by omega
                by_cases p1 : R.cities.length < 50
                · have q1 : (R.cities.length : Int) < 50 := by omega
                  exact absurd p1 no1
                · have q1 : ¬ (R.cities.length : Int) < 50 := by omega
                  go_wp2_with fail
                  go_ret
                  exact ⟨⟨false, rfl, fun h => by cases h⟩, B0.out⟩
              · have q0 : ¬ (R.cur.length : Int) < 50 := by omega
                go_wp2_with fail
                go_ret
                exact ⟨⟨false, rfl, fun h => by cases h⟩, B0.out⟩

def smRel (a b : List Int) (w : World) (i : Value) (wr : World) : Prop := ∃ k : Nat, k ≤ a.length ∧ i = .int .i64 (k : Int) ∧ (∀ j, j < k → a.getD j 0 = b.getD j 0) ∧ Below w.heap.size w wr
end Go.Proofs.YtcjakgpmompaiaaGreatDoor

