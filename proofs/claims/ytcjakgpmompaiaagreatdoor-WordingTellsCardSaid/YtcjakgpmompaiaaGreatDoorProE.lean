/-
  The program: which orders are right; Members.
-/
import Derived.Test.YtcjakgpmompaiaaGreatDoorProD
namespace Go.Proofs.YtcjakgpmompaiaaGreatDoor
open Go.RowKit Rl

theorem infoI : (Tryz.prog.info? 3).map (fun i => (i.zero, i.size, i.bytes)) = some (some (.int .i64 0), 1, 8) := by kernel_rfl
theorem infoS : (Tryz.prog.info? 9).map (fun i => (i.zero, i.size, i.bytes)) = some (some (.string ⟨#[]⟩), 1, 16) := by kernel_rfl
theorem info_parts {P : Program} {e : TypeId} {z : Value} {n b : Nat} (h : (P.info? e).map (fun i => (i.zero, i.size, i.bytes)) = some (some z, n, b)) : ∃ i, P.info? e = some i ∧ i.zero = some z ∧ i.size = n ∧ i.bytes = b := by
  obtain ⟨i, hi, h1⟩ := Option.map_eq_some_iff.1 h
  simp only [Prod.mk.injEq] at h1
  exact ⟨i, hi, h1.1, h1.2.1, h1.2.2⟩
theorem cell_new1 (w : World) (x : Value) (T : TypeId) (n : Nat) (hn : n = w.heap.size) : ∀ j u, [x][j]? = some u → (w.alloc (.cells #[x] T)).cell? ((⟨n, 0, none⟩ : Addr).add j) = some u := by
  subst hn
  intro j u hu
  cases j with
  | succ j => simp at hu
  | zero =>
    simp at hu
    subst hu
    show (w.alloc (.cells #[x] T)).cell? ⟨w.heap.size, 0, none⟩ = _
    rw [World.cell?_alloc_new]
    rfl
theorem own_nx {W W' : World} {base n s : Nat} {T : TypeId} {v : Value} {xs : List Value} (h : W.ownsRow base T s v n xs) (hb : Below W.heap.size W W') : W'.ownsRow base T s v n xs := by
  refine ⟨h.1, ?_⟩
  rcases h.2 with ⟨h1, h2⟩ | ⟨g, cap, cur, h1, h2, h3, h4⟩
  · exact .inl ⟨h1, h2⟩
  · exact .inr ⟨g, cap, cur, h1, h2, by rw [hb.block g (Array.getElem?_eq_some_iff.1 h3).1]; exact h3, h4⟩
abbrev ints (l : List Int) : List Value := l.map (Value.int .i64)
abbrev strs (l : List B) : List Value := l.map Value.string
/-- what the call owns reads as a list of values of one cell -/
theorem own_at {T' : Type} {w : World} {base n : Nat} {T : TypeId} {v : Value} {l : List T'} {f : T' → Value} (h : w.ownsRow base T 1 v n (l.map f)) (hn : n = l.length) : LAt w 1 (fun x => [f x]) v l := by
  subst hn
  rcases h.2 with ⟨rfl, h0⟩ | ⟨g, cap, cur, rfl, hg, hh, h1, h2, h3, h4⟩
  · have : l = [] := List.eq_nil_of_length_eq_zero h0
    subst this
    exact ⟨KAt.nil _ _⟩
  · refine ⟨⟨some ⟨g, 0, none⟩, cap, by rw [List.length_map], by rw [List.length_map]; exact h1, fun j x hx => ⟨g, 0, rfl, (h.lt g rfl).2, fun i y hy => ?_⟩⟩⟩
    rw [List.getElem?_map] at hx
    obtain ⟨z, hz, rfl⟩ := Option.map_eq_some_iff.1 hx
    have hj := (List.getElem?_eq_some_iff.1 hz).1
    cases i with
    | succ i => simp at hy
    | zero =>
      simp only [List.getElem?_cons_zero, Option.some.injEq] at hy
      subst hy
      rw [Nat.mul_one, Nat.add_zero, Nat.zero_add, h.cellAt j (by omega), List.getElem?_map, hz]
      rfl
theorem own_int {w : World} {base n : Nat} {T : TypeId} {v : Value} {l : List Int} (h : w.ownsRow base T 1 v n (ints l)) (hn : n = l.length) : IAt w v l := own_at (f := Value.int .i64) h hn
theorem own_str {w : World} {base n : Nat} {T : TypeId} {v : Value} {l : List B} (h : w.ownsRow base T 1 v n (strs l)) (hn : n = l.length) : SAt w v l := own_at (f := Value.string) h hn
theorem take_map {T : Type} {f : T → Int} {l : List T} {k : Nat} {x : T} (h : l[k]? = some x) : (l.take (k + 1)).map f = (l.take k).map f ++ [f x] := by rw [List.take_add_one, h]; simp
theorem ints_app (l : List Int) (n : Int) : ints (l ++ [n]) = ints l ++ [.int .i64 n] := by simp [ints]
theorem strs_app (l : List B) (n : B) : strs (l ++ [n]) = strs l ++ [.string n] := by simp [strs]
def AskRel (n : Nat) (l : List Int) (ok : Nat → Prop) (base : Nat) (W : World) (v i : Value) (wr : World) : Prop := ∃ (k : Nat) (la : Option Addr) (lc : Nat), k ≤ n ∧ v = .slice la k lc ∧ i = .int .i64 (k : Int) ∧ ok k ∧ wr.ownsRow base 3 1 (.slice la k lc) k (ints (l.take k)) ∧ Below W.heap.size W wr

set_option maxHeartbeats 6400000 in
set_option maxRecDepth 100000 in
theorem rightOdr_x (x : Odr) (w : World) (hc : InO w x) (h1 : x.ch.length ≤ 40) (h2 : x.ru.length ≤ 40) :
    Calls Tryz.prog 120 #[vOdr x] w fun r w' => r = .returned (.bool (orderB x)) ∧ Below w.heap.size w w' := by
  have b0 := Below.new1 (w := w) (.cells #[.string x.nm, .bool x.acc, .slice x.a2 x.ch.length x.k2, .slice x.a3 x.ru.length x.k3] 85)
  obtain ⟨hch, hru⟩ := hc.next b0
  have HCH := Lib.hid hch
  have HRU := Lib.hid hru
  have B0 := Lib.hid b0
  clear hc hch hru b0
  have zs : (w.alloc (.cells #[.string x.nm, .bool x.acc, .slice x.a2 x.ch.length x.k2, .slice x.a3 x.ru.length x.k3] 85)).heap.size = w.heap.size + 1 := by simp
  have x2 : (w.alloc (.cells #[.string x.nm, .bool x.acc, .slice x.a2 x.ch.length x.k2, .slice x.a3 x.ru.length x.k3] 85)).cell? ⟨w.heap.size, 2, none⟩ = some (.slice x.a2 x.ch.length x.k2) := by rw [World.cell?_alloc_new]; rfl
  have x3 : (w.alloc (.cells #[.string x.nm, .bool x.acc, .slice x.a2 x.ch.length x.k2, .slice x.a3 x.ru.length x.k3] 85)).cell? ⟨w.heap.size, 3, none⟩ = some (.slice x.a3 x.ru.length x.k3) := by rw [World.cell?_alloc_new]; rfl
  have ZS := Lib.hid zs
  have X3 := Lib.hid x3
  clear zs x3 x2
  obtain ⟨rj, hj, hy0, hy1, hy2⟩ := info_parts infoI
  have Hj := Lib.hid hj
  have Hy0 := Lib.hid hy0
  have Hy1 := Lib.hid hy1
  have Hy2 := Lib.hid hy2
  clear hj hy0 hy1 hy2
  go_enter Tryz.func120, Tryz.ntmps120
  go_wp2_with fail
  go_loopw [3, 12] (fun v i wr => AskRel x.ch.length (x.ch.map Chc.ask) (fun k => ∀ (j : Nat) (c : Chc), j < k → x.ch[j]? = some c → chB c = true) (w.heap.size + 1) (w.alloc (.cells #[.string x.nm, .bool x.acc, .slice x.a2 x.ch.length x.k2, .slice x.a3 x.ru.length x.k3] 85)) v i wr) (fun _ i _ => x.ch.length - (intOf i).toNat)
  case atStart => exact ⟨0, none, 0, Nat.zero_le _, rfl, rfl, fun j c hj => by omega, World.ownsRow_nil _ _ _ _, Below.refl _ _⟩
  case round =>
    obtain ⟨k, la, lc, hk, rfl, rfl, hall, hown, hbw⟩ := hrel
    have Ha := Lib.hid hall
    have HO := Lib.hid hown
    have HB := Lib.hid hbw
    have k0 : (0 : Int) ≤ (k : Int) := by omega
    clear hall hown hbw
    by_cases c : k < x.ch.length
    case pos =>
      have c0 : (k : Int) < (x.ch.length : Int) := by omega
      obtain ⟨c, hx⟩ : ∃ c, x.ch[k]? = some c := ⟨_, List.getElem?_eq_getElem c⟩
      obtain ⟨b, off, ea, hb, hc⟩ := (HCH.out.next HB.out).at hx
      rw [ea]
      have t0 : wr.cell? ⟨b, off + k * 3, none⟩ = some (.int .i64 c.ask) := hc 0 _ rfl
      have t1 : wr.cell? ⟨b, off + k * 3 + 1, none⟩ = some (.int .i64 c.how) := hc 1 _ rfl
      have t2 : wr.cell? ⟨b, off + k * 3 + 2, none⟩ = some (.bool c.whole) := hc 2 _ rfl
      have HX := Lib.hid hx
      clear hx hc
      go_wp2_with fail
      refine (within_x _ _ _ _).mono ?_
      rintro r w1 ⟨rfl, rfl⟩
      cases e : wi c.how 0 4 with
      | false =>
        have hv : Hid (orderB x = false) := by
          have : x.ch.all chB = false := List.all_eq_false.2 ⟨c, List.mem_of_getElem? HX.out, by show ¬ wi c.how 0 4 = true; rw [e]; decide⟩
          show _ = _
          simp [orderB, this]
        clear e
        go_wp2_with fail
        go_ret
        exact ⟨by rw [hv.out]; try rfl, chain B0.out (HB.out.trans ((Below.new1 _).mono HB.out.size))⟩
      | true =>
        have HN : Hid (∀ (j : Nat) (y : Chc), j < k + 1 → x.ch[j]? = some y → chB y = true) := by
          intro j y hj hy
          by_cases cj : j = k
          · subst cj
            have := HX.out
            rw [hy] at this
            simp only [Option.some.injEq] at this
            subst this
            exact e
          · exact Ha.out j y (by omega) hy
        clear e
        go_wp2_with (at_builtin; refine wpList_append_own _ rfl (.tmp 20) (.tmp 23) 73 rfl (w.heap.size + 1) 3 rj (.int .i64 0) 1 8 Tryz.underlying73 Hj.out Hy0.out Hy1.out Hy2.out rfl (by decide) _ k (ints ((x.ch.map Chc.ask).take k)) rfl ((HO.out.alloc _).alloc _) ⟨wr.heap.size + 1, 0, none⟩ 1 1 [.int .i64 c.ask] rfl rfl ?f1 ?f2 ?f3 ?f4 ?f5 ?_)
        case f1 => exact cell_new1 _ _ _ _ (by first | rfl | simp)
        case f2 => first | rfl | (intro u hu; simp at hu; subst hu; rfl)
        case f3 => unfold maxLen; omega
        case f4 => omega
        case f5 => have := HB.out.size; simp at this ⊢; omega
        intro v7 w7 hown7 hgrow7 _
        have hrow : ∀ j, (Value.slice la k lc).ownBlock = some j → w.heap.size + 1 ≤ j := fun j hj => (HO.out.lt j hj).1
        have B7 : Hid (Below (w.alloc (.cells #[.string x.nm, .bool x.acc, .slice x.a2 x.ch.length x.k2, .slice x.a3 x.ru.length x.k3] 85)).heap.size (w.alloc (.cells #[.string x.nm, .bool x.acc, .slice x.a2 x.ch.length x.k2, .slice x.a3 x.ru.length x.k3] 85)) w7) := HB.out.trans ((((Below.refl (w.alloc (.cells #[.string x.nm, .bool x.acc, .slice x.a2 x.ch.length x.k2, .slice x.a3 x.ru.length x.k3] 85)).heap.size wr).alloc HB.out.size _).alloc (by have := HB.out.size; simp at this ⊢; omega) _).grown hgrow7 (by have := HB.out.size; simp at this ⊢; omega) (fun j hj => by have := hrow j hj; simp at this ⊢; omega))
        have HO7 : Hid (w7.ownsRow (w.heap.size + 1) 3 1 v7 (k + 1) (ints ((x.ch.map Chc.ask).take (k + 1)))) := by
          show w7.ownsRow _ _ _ _ _ _
          rw [← List.map_take, take_map HX.out, ints_app, List.map_take]
          simpa [ints] using hown7
        obtain ⟨la7, lc7, e7⟩ := (own_int HO7.out (by rw [List.length_take, List.length_map]; omega)).shape
        rw [List.length_take, List.length_map, Nat.min_eq_left (by omega)] at e7
        subst e7
        clear hown7 hgrow7 hrow
        go_wp2_with fail
        go_roundw
        case rel => exact ⟨k + 1, la7, lc7, by omega, rfl, by congr 1, HN.out, HO7.out, by first | exact B7.out | (rw [← ea]; exact B7.out)⟩
        case measure => simp [intOf]; omega
    case neg =>
      have c0 : ¬ (k : Int) < (x.ch.length : Int) := by omega
      obtain rfl : k = x.ch.length := by omega
      obtain ⟨wA, rfl⟩ : ∃ wA, wA = wr := ⟨_, rfl⟩
      have hall2 : x.ch.all chB = true := by
        rw [List.all_eq_true]
        intro y hy
        obtain ⟨j, hj⟩ := List.getElem?_of_mem hy
        exact Ha.out j y (List.getElem?_eq_some_iff.1 hj).1 hj
      have HA2 := Lib.hid hall2
      have ho := HO.out
      rw [List.take_of_length_le (by simp)] at ho
      have HO2 := Lib.hid ho
      have y3 := cell_up HB.out X3.out
      have HRU2 := Lib.hid (HRU.out.next HB.out)
      clear hall2 ho Ha HO X3 HRU
      go_wp2_with fail
      go_loopw [4, 29] (fun v i w2 => AskRel x.ru.length (x.ru.map Rul.ask) (fun _ => True) wA.heap.size wA v i w2) (fun _ i _ => x.ru.length - (intOf i).toNat)
      case atStart => exact ⟨0, none, 0, Nat.zero_le _, rfl, rfl, trivial, World.ownsRow_nil _ _ _ _, Below.refl _ _⟩
      case round =>
        obtain ⟨k, la2, lc2, hk, rfl, rfl, -, hown, hbw⟩ := hrel
        have HO := Lib.hid hown
        have HB2 := Lib.hid hbw
        have k0 : (0 : Int) ≤ (k : Int) := by omega
        clear hown hbw y3
        by_cases c : k < x.ru.length
        case pos =>
          have c0 : (k : Int) < (x.ru.length : Int) := by omega
          obtain ⟨c, hx⟩ : ∃ c, x.ru[k]? = some c := ⟨_, List.getElem?_eq_getElem c⟩
          obtain ⟨b, off, ea, hb, hc⟩ := (HRU2.out.next HB2.out).at hx
          rw [ea]
          have t0 : wr.cell? ⟨b, off + k * 4, none⟩ = some (.int .i64 c.ask) := hc 0 _ rfl
          have t1 : wr.cell? ⟨b, off + k * 4 + 1, none⟩ = some (.int .i64 c.op) := hc 1 _ rfl
          have t2 : wr.cell? ⟨b, off + k * 4 + 2, none⟩ = some (.int .i64 c.n) := hc 2 _ rfl
          have t3 : wr.cell? ⟨b, off + k * 4 + 3, none⟩ = some (.slice c.a c.m c.k) := hc 3 _ rfl
          have HX := Lib.hid hx
          clear hx hc
          go_wp2_with (at_builtin; refine wpList_append_own _ rfl (.tmp 33) (.tmp 36) 73 rfl (wA.heap.size) 3 rj (.int .i64 0) 1 8 Tryz.underlying73 Hj.out Hy0.out Hy1.out Hy2.out rfl (by decide) _ k (ints ((x.ru.map Rul.ask).take k)) rfl ((HO.out.alloc _).alloc _) ⟨wr.heap.size + 1, 0, none⟩ 1 1 [.int .i64 c.ask] rfl rfl ?f1 ?f2 ?f3 ?f4 ?f5 ?_)
          case f1 => exact cell_new1 _ _ _ _ (by first | rfl | simp)
          case f2 => first | rfl | (intro u hu; simp at hu; subst hu; rfl)
          case f3 => unfold maxLen; omega
          case f4 => omega
          case f5 => have := HB2.out.size; simp at this ⊢; omega
          intro v7 w7 hown7 hgrow7 _
          have hrow : ∀ j, (Value.slice la2 k lc2).ownBlock = some j → wA.heap.size ≤ j := fun j hj => (HO.out.lt j hj).1
          have B7 : Hid (Below wA.heap.size wA w7) := HB2.out.trans ((((Below.refl wA.heap.size wr).alloc HB2.out.size _).alloc (by have := HB2.out.size; simp at this ⊢; omega) _).grown hgrow7 (by have := HB2.out.size; simp at this ⊢; omega) (fun j hj => by have := hrow j hj; simp at this ⊢; omega))
          have HO7 : Hid (w7.ownsRow (wA.heap.size) 3 1 v7 (k + 1) (ints ((x.ru.map Rul.ask).take (k + 1)))) := by
            show w7.ownsRow _ _ _ _ _ _
            rw [← List.map_take, take_map HX.out, ints_app, List.map_take]
            simpa [ints] using hown7
          obtain ⟨la7, lc7, e7⟩ := (own_int HO7.out (by rw [List.length_take, List.length_map]; omega)).shape
          rw [List.length_take, List.length_map, Nat.min_eq_left (by omega)] at e7
          subst e7
          clear hown7 hgrow7 hrow
          go_wp2_with fail
          go_roundw
          case rel => exact ⟨k + 1, la7, lc7, by omega, rfl, by congr 1, trivial, HO7.out, by first | exact B7.out | (rw [← ea]; exact B7.out)⟩
          case measure => simp [intOf]; omega
        case neg =>
          have c1 : ¬ (k : Int) < (x.ru.length : Int) := by omega
          obtain rfl : k = x.ru.length := by omega
          have ho := HO.out
          rw [List.take_of_length_le (by simp)] at ho
          have HQ1 := Lib.hid (own_int (own_nx HO2.out HB2.out) (by simp))
          have HQ2 := Lib.hid (own_int ho (by simp))
          have BB := Lib.hid (chain B0.out (chain HB.out HB2.out))
          have s1 : Sz (x.ch.map Chc.ask).length := by rw [List.length_map]; omega
          have s2 : Sz (x.ru.map Rul.ask).length := by rw [List.length_map]; omega
          clear ho HO HO2
          go_wp2_with fail
          refine (risesQu_x _ _ _ HQ1.out s1).mono ?_
          rintro r w3 ⟨rfl, rfl⟩
          cases e : risesB quB (x.ch.map Chc.ask) with
          | false =>
            have hv : Hid (orderB x = false) := by show _ = _; simp [orderB, e]
            clear e
            go_wp2_with fail
            go_ret
            exact ⟨by rw [hv.out]; try rfl, BB.out⟩
          | true =>
            have E0 := Lib.hid e
            clear e
            go_wp2_with fail
            refine (risesQu_x _ _ _ HQ2.out s2).mono ?_
            rintro r w3 ⟨rfl, rfl⟩
            have hv : Hid (orderB x = risesB quB (x.ru.map Rul.ask)) := by show _ = _; simp [orderB, E0.out, HA2.out]
            go_wp2_with fail
            go_ret
            exact ⟨by rw [hv.out]; try rfl, BB.out⟩

end Go.Proofs.YtcjakgpmompaiaaGreatDoor
