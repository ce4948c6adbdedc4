/-
  The reference: lists with names; the list of orders.
-/
import Derived.Test.YtcjakgpmompaiaaGreatDoorRefD
namespace Go.Proofs.YtcjakgpmompaiaaGreatDoor
open Go.RowKit Rl

theorem Withinq (n lo hi : Int) (w : World) : Calls Tryz.prog 137 #[.int .i64 n, .int .i64 lo, .int .i64 hi] w fun r w' => r = .returned (.bool (wi n lo hi)) ∧ w' = w := (Within_x n lo hi w).mono (fun _ _ h => ⟨h.1, h.2.symm⟩)
theorem nmE_split {nms : List B} {s : B} {ok : Bool} (h : nmE nms s true ≠ 0) : nmE nms s ok = nmE nms s true := by
  unfold nmE at *
  split
  · split
    · rename_i h1 h2
      rw [if_pos h1, if_pos h2] at h
      simp at h
    · rfl
  · rfl
theorem nmE_rest {nms : List B} {s : B} {ok : Bool} (h : nmE nms s true = 0) : nmE nms s ok = if ok = true then 0 else 1 := by
  unfold nmE at *
  split
  · rename_i h1
    rw [if_pos h1] at h
    split
    · rfl
    · rename_i h2
      rw [if_neg h2] at h
      simp at h
  · rename_i h1
    rw [if_neg h1] at h
    simp at h
theorem named_at' {T : Type} {nm : T → B} {p : T → Bool} {l : List T} {i : Nat} {x : T} (hx : l[i]? = some x) : namedE (l.map nm) (at_ l p) i = nmE ((l.map nm).take i) (nm x) (p x) := by
  rw [named_at hx, List.map_take]
def NoE (chk : Nat → Int) (k : Nat) : Prop := ∀ j, j < k → chk j = 0
def NamRel (names : List B) (chk : Nat → Int) (n base : Nat) (W : World) (v i : Value) (wr : World) : Prop := ∃ (k : Nat) (la : Option Addr) (lc : Nat), k ≤ n ∧ v = .slice la k lc ∧ i = .int .i64 (k : Int) ∧ NoE chk k ∧ wr.ownsRow base 9 1 (.slice la k lc) k (strs (names.take k)) ∧ Below W.heap.size W wr
theorem take_take' {l : List B} {k : Nat} : (l.take (k + 1)).take k = l.take k := by rw [List.take_take, Nat.min_eq_left (by omega)]
theorem take_get {l : List B} {k : Nat} {s : B} (h : l[k]? = some s) : (l.take (k + 1))[k]? = some s := by rw [List.getElem?_take_of_lt (by omega)]; exact h

set_option maxHeartbeats 6400000 in
set_option maxRecDepth 100000 in
theorem rorders_x {a0 a1 a2 a3 a4 a5 a6 a7 : Option Addr} {c0 c1 c2 c3 c4 c5 c6 c7 : Nat} {R : Rlm} (w : World) (hr : RS w a0 a1 a2 a3 a4 a5 a6 a7 c0 c1 c2 c3 c4 c5 c6 c7 R) (hF : Fit R) :
    Calls Tryz.prog 72 #[.agg #[.slice a0 R.cur.length c0, .slice a1 R.cities.length c1, .slice a2 R.groups.length c2, .slice a3 R.firms.length c3, .slice a4 R.orders.length c4, .slice a5 R.usances.length c5, .slice a6 R.rates.length c6, .slice a7 R.halts.length c7]] w fun r w' => r = .returned (.int .i64 (orderE R)) ∧ Below w.heap.size w w' := by
  have HR := Lib.hid hr
  have RB0 := Lib.hid (RB.new w (a0 := a0) (a1 := a1) (a2 := a2) (a3 := a3) (a4 := a4) (a5 := a5) (a6 := a6) (a7 := a7) (c0 := c0) (c1 := c1) (c2 := c2) (c3 := c3) (c4 := c4) (c5 := c5) (c6 := c6) (c7 := c7) (R := R))
  have B0 := Lib.hid (Below.new1 (w := w) (.cells #[.slice a0 R.cur.length c0, .slice a1 R.cities.length c1, .slice a2 R.groups.length c2, .slice a3 R.firms.length c3, .slice a4 R.orders.length c4, .slice a5 R.usances.length c5, .slice a6 R.rates.length c6, .slice a7 R.halts.length c7] 31))
  have hs0 := hF.cur
  have hs1 := hF.cities
  have hs2 := hF.groups
  have hs3 := hF.firms
  have hs4 := hF.orders
  have hs5 := hF.usances
  have hs6 := hF.rates
  have hs7 := hF.halts
  clear hr
  have y4 := RB0.out.b4
  have BRR := Lib.hid (Below.refl (w.alloc (.cells #[.slice a0 R.cur.length c0, .slice a1 R.cities.length c1, .slice a2 R.groups.length c2, .slice a3 R.firms.length c3, .slice a4 R.orders.length c4, .slice a5 R.usances.length c5, .slice a6 R.rates.length c6, .slice a7 R.halts.length c7] 31)).heap.size (w.alloc (.cells #[.slice a0 R.cur.length c0, .slice a1 R.cities.length c1, .slice a2 R.groups.length c2, .slice a3 R.firms.length c3, .slice a4 R.orders.length c4, .slice a5 R.usances.length c5, .slice a6 R.rates.length c6, .slice a7 R.halts.length c7] 31)))
  have zs : (w.alloc (.cells #[.slice a0 R.cur.length c0, .slice a1 R.cities.length c1, .slice a2 R.groups.length c2, .slice a3 R.firms.length c3, .slice a4 R.orders.length c4, .slice a5 R.usances.length c5, .slice a6 R.rates.length c6, .slice a7 R.halts.length c7] 31)).heap.size = w.heap.size + 1 := by simp
  have ZS := Lib.hid zs
  clear zs
  obtain ⟨rj, hj, hy0, hy1, hy2⟩ := info_parts infoS
  have Hj := Lib.hid hj
  have Hy0 := Lib.hid hy0
  have Hy1 := Lib.hid hy1
  have Hy2 := Lib.hid hy2
  clear hj hy0 hy1 hy2
  by_cases tl : 20 < R.orders.length
  · have kl : 20 < (R.orders.length : Int) := by omega
    have hv : Hid (orderE R = 6) := (show orderE R = _ from list_long tl)
    go_enter Tryz.func72, Tryz.ntmps72
    go_wp2_with fail
    go_ret
    exact ⟨by rw [hv.out]; try rfl, B0.out⟩
  have kl : ¬ 20 < (R.orders.length : Int) := by omega
  go_enter Tryz.func72, Tryz.ntmps72
  go_wp2_with fail
  go_loopw [3, 4] (fun v i wr => NamRel (R.orders.map Odr.nm) (namedE (R.orders.map Odr.nm) (at_ R.orders orderB)) R.orders.length (w.heap.size + 1) (w.alloc (.cells #[.slice a0 R.cur.length c0, .slice a1 R.cities.length c1, .slice a2 R.groups.length c2, .slice a3 R.firms.length c3, .slice a4 R.orders.length c4, .slice a5 R.usances.length c5, .slice a6 R.rates.length c6, .slice a7 R.halts.length c7] 31)) v i wr) (fun _ i _ => R.orders.length - (intOf i).toNat)
  case atStart => exact ⟨0, none, 0, Nat.zero_le _, rfl, rfl, fun j hj => by omega, World.ownsRow_nil _ _ _ _, Below.refl _ _⟩
  case round =>
    obtain ⟨k, la, lc, hk, rfl, rfl, hall, hown, hbw⟩ := hrel
    have RW := Lib.hid (RB0.out.next hbw)
    have y4 := RW.out.b4
    have Ha := Lib.hid hall
    have HO := Lib.hid hown
    have HB := Lib.hid hbw
    have BW := Lib.hid (chain B0.out hbw)
    have k0 : (0 : Int) ≤ (k : Int) := by omega
    clear hall hown hbw
    by_cases cl : k < R.orders.length
    case neg =>
      have kc : ¬ (k : Int) < (R.orders.length : Int) := by omega
      have hv : Hid (orderE R = 0) := (show orderE R = _ from list_all tl (fun i hi => Ha.out i (by omega)))
      clear tl
      go_wp2_with fail
      go_ret
      exact ⟨by rw [hv.out]; try rfl, BW.out⟩
    case pos =>
      have kc : (k : Int) < (R.orders.length : Int) := by omega
      obtain ⟨x, hx⟩ : ∃ x, R.orders[k]? = some x := ⟨_, List.getElem?_eq_getElem cl⟩
      obtain ⟨b, off, ea, hb, hc⟩ := (HR.out.next BW.out).orders.at hx
      subst ea
      have t0 : wr.cell? ⟨b, off + k * 4, none⟩ = some (.string x.nm) := hc 0 _ rfl
      have t1 : wr.cell? ⟨b, off + k * 4 + 1, none⟩ = some (.bool x.acc) := hc 1 _ rfl
      have t2 : wr.cell? ⟨b, off + k * 4 + 2, none⟩ = some (.slice x.a2 x.ch.length x.k2) := hc 2 _ rfl
      have t3 : wr.cell? ⟨b, off + k * 4 + 3, none⟩ = some (.slice x.a3 x.ru.length x.k3) := hc 3 _ rfl
      have hn := map_at (f := Odr.nm) hx
      have HN := Lib.hid hn
      have HX := Lib.hid hx
      clear hx hc hn
      go_wp2_with (at_builtin; refine wpList_append_own _ rfl (.tmp 17) (.tmp 24) 22 rfl (w.heap.size + 1) 9 rj (.string ⟨#[]⟩) 1 16 Tryz.underlying22 Hj.out Hy0.out Hy1.out Hy2.out rfl (by decide) _ k (strs ((R.orders.map Odr.nm).take k)) rfl ((HO.out).alloc _) ⟨wr.heap.size, 0, none⟩ 1 1 [.string x.nm] rfl rfl ?f1 ?f2 ?f3 ?f4 ?f5 ?_)
      case f1 => exact cell_new1 _ _ _ _ (by first | rfl | simp)
      case f2 => first | rfl | (intro u hu; simp at hu; subst hu; rfl)
      case f3 => unfold maxLen; omega
      case f4 => omega
      case f5 => have := HB.out.size; simp at this ⊢; omega
      intro v7 w7 hown7 hgrow7 _
      have hrow : ∀ j, (Value.slice la k lc).ownBlock = some j → w.heap.size + 1 ≤ j := fun j hj => (HO.out.lt j hj).1
      have b7 : Below wr.heap.size wr w7 ∨ True := .inr trivial
      have B7 : Hid (Below (w.alloc (.cells #[.slice a0 R.cur.length c0, .slice a1 R.cities.length c1, .slice a2 R.groups.length c2, .slice a3 R.firms.length c3, .slice (some ⟨b, off, none⟩) R.orders.length c4, .slice a5 R.usances.length c5, .slice a6 R.rates.length c6, .slice a7 R.halts.length c7] 31)).heap.size (w.alloc (.cells #[.slice a0 R.cur.length c0, .slice a1 R.cities.length c1, .slice a2 R.groups.length c2, .slice a3 R.firms.length c3, .slice (some ⟨b, off, none⟩) R.orders.length c4, .slice a5 R.usances.length c5, .slice a6 R.rates.length c6, .slice a7 R.halts.length c7] 31)) w7) := HB.out.trans (((Below.refl (w.alloc (.cells #[.slice a0 R.cur.length c0, .slice a1 R.cities.length c1, .slice a2 R.groups.length c2, .slice a3 R.firms.length c3, .slice (some ⟨b, off, none⟩) R.orders.length c4, .slice a5 R.usances.length c5, .slice a6 R.rates.length c6, .slice a7 R.halts.length c7] 31)).heap.size wr).alloc HB.out.size _).grown hgrow7 (by have := HB.out.size; simp at this ⊢; omega) (fun j hj => by have := hrow j hj; simp at this ⊢; omega))
      have HO7 : Hid (w7.ownsRow (w.heap.size + 1) 9 1 v7 (k + 1) (strs ((R.orders.map Odr.nm).take (k + 1)))) := by
        show w7.ownsRow _ _ _ _ _ _
        rw [List.take_add_one, HN.out]
        simpa [strs] using hown7
      have hl7 : ((R.orders.map Odr.nm).take (k + 1)).length = k + 1 := by rw [List.length_take, List.length_map]; omega
      obtain ⟨la7, lc7, e7⟩ := (own_str HO7.out hl7.symm).shape
      rw [hl7] at e7
      subst e7
      have HS7 := Lib.hid (own_str HO7.out hl7.symm)
      have HSZ : Sz ((R.orders.map Odr.nm).take (k + 1)).length := by rw [hl7]; unfold Sz; omega
      have BW7 := Lib.hid (chain B0.out B7.out)
      have RW7 := Lib.hid (RB0.out.next B7.out)
      clear hown7 hgrow7 hrow hl7 b7 y4 t0 t1 t2 t3
      have y4 := RW7.out.b4
      obtain ⟨b8, off8, ea8, -, hc⟩ := (HR.out.next BW7.out).orders.at HX.out
      simp only [Option.some.injEq, Addr.mk.injEq, and_true] at ea8
      obtain ⟨rfl, rfl⟩ := ea8
      have t0 : w7.cell? ⟨b, off + k * 4, none⟩ = some (.string x.nm) := hc 0 _ rfl
      have t1 : w7.cell? ⟨b, off + k * 4 + 1, none⟩ = some (.bool x.acc) := hc 1 _ rfl
      have t2 : w7.cell? ⟨b, off + k * 4 + 2, none⟩ = some (.slice x.a2 x.ch.length x.k2) := hc 2 _ rfl
      have t3 : w7.cell? ⟨b, off + k * 4 + 3, none⟩ = some (.slice x.a3 x.ru.length x.k3) := hc 3 _ rfl
      clear hc
      go_wp2_with fail
      refine (named_x _ ((R.orders.map Odr.nm).take (k + 1)) k x.nm _ HS7.out HSZ (take_get HN.out)).mono ?_
      rintro r w1 ⟨rfl, rfl⟩
      rw [take_take']
      have HCK := Lib.hid (named_at' (nm := Odr.nm) (p := orderB) HX.out)
      by_cases e : nmE ((R.orders.map Odr.nm).take k) x.nm true = 0
      · have e1 : (nmE ((R.orders.map Odr.nm).take k) x.nm true != 0) = false := nbf e
        have HE := Lib.hid (nmE_rest (ok := orderB x) e)
        clear e
        obtain ⟨f1, f2⟩ := hF.inO x (List.mem_of_getElem? HX.out)
        have HIO := Lib.hid ((HR.out.next BW7.out).inO x (List.mem_of_getElem? HX.out))
        go_wp2_with fail
        refine (RightOrder_x x _ HIO.out f1 f2).mono ?_
        rintro r w8 ⟨rfl, b8⟩
        have B8 := Lib.hid (chain BW7.out b8)
        have B8W := Lib.hid (chain B7.out b8)
        have HO8 := Lib.hid (own_nx HO7.out b8)
        clear b8
        cases e2 : orderB x with
        | false =>
          have hz : namedE (R.orders.map Odr.nm) (at_ R.orders orderB) k = 1 := by rw [HCK.out, HE.out, e2]; rfl
          have hv : Hid (orderE R = 1) := (show orderE R = _ from (by first | exact (list_at tl Ha.out (by rw [hz]; decide) cl).trans hz))
          clear tl hz e2
          go_wp2_with fail
          go_ret
          exact ⟨by rw [hv.out]; try rfl, B8.out⟩
        | true =>
          have OK := Lib.hid e2
          clear e2
          have HZ : Hid (NoE (namedE (R.orders.map Odr.nm) (at_ R.orders orderB)) (k + 1)) := ok_step Ha.out (by rw [HCK.out, HE.out, OK.out]; rfl)
          go_wp2_with fail
          go_roundw
          case rel => exact ⟨k + 1, la7, lc7, by omega, rfl, by congr 1, HZ.out, HO8.out, B8W.out⟩
          case measure => simp [intOf]; omega
      · have e1 : (nmE ((R.orders.map Odr.nm).take k) x.nm true != 0) = true := nbt e
        have hz : namedE (R.orders.map Odr.nm) (at_ R.orders orderB) k = nmE ((R.orders.map Odr.nm).take k) x.nm true := by rw [HCK.out, nmE_split e]
        have hv : Hid (orderE R = nmE ((R.orders.map Odr.nm).take k) x.nm true) := (show orderE R = _ from (by first | exact (list_at tl Ha.out (by rw [hz]; exact e) cl).trans hz))
        clear e tl hz
        go_wp2_with fail
        go_ret
        exact ⟨by rw [hv.out]; try rfl, BW7.out⟩

end Go.Proofs.YtcjakgpmompaiaaGreatDoor
