/-
  The reference's SameInts, SameBools, SameLists.
-/
import Derived.Test.YtndcbhgdlaemaaaRefA
namespace Go.Proofs.Ytndcbhgdlaemaaa
open Go.RowKit Gr

theorem SAt.drewN {w : World} {v : Value} {l : List Value} (h : SAt w v l) (q : Nat) : SAt (w.drewN q) v l := h.below (below_drewN (Below.refl _ _) q) (Nat.le_refl _)
theorem LAt.drewN {w : World} {v : Value} {l : List (List Int)} (h : LAt w v l) (q : Nat) : LAt (w.drewN q) v l := h.below (below_drewN (Below.refl _ _) q) (Nat.le_refl _)
theorem SAt.get {w : World} {v : Value} {l : List Value} (h : SAt w v l) : ∃ a cap, v = .slice a l.length cap ∧ l.length ≤ cap ∧ Hid (∀ (j : Nat) (x : Value), l[j]? = some x → ∃ b off, a = some ⟨b, off, none⟩ ∧ b < w.heap.size ∧ w.cell? ⟨b, off + j, none⟩ = some x) := by
  obtain ⟨a, cap, h1, h2, h3⟩ := h
  exact ⟨a, cap, h1, h2, h3⟩
theorem quiet_at {P : Program} {f : FuncId} {args : Array Value} {w : World} {q x : Nat} {v : Value}
    (h : Calls P f args (w.drewN (q + x)) fun e w' => e = .returned v ∧ ∃ m, w' = (w.drewN (q + x)).drewN m) : Calls P f args (w.drewN (q + x)) fun e w'' => e = .returned v ∧ ∃ n, w'' = w.drewN (q + n) :=
  h.mono fun _ _ ⟨he, m, hm⟩ => ⟨he, x + m, by rw [hm, World.drewN_drewN, Nat.add_assoc]⟩
def SameRel {α : Type} (l m : List α) (w : World) (i : Value) (wr : World) : Prop := ∃ k : Nat, k ≤ l.length ∧ i = .int .i64 (k : Int) ∧ l.take k = m.take k ∧ ∃ q, wr = w.drewN q
theorem same_next {α : Type} {l m : List α} {k : Nat} {x : α} (h : l.take k = m.take k) (hl : l[k]? = some x) (hm : m[k]? = some x) : l.take (k + 1) = m.take (k + 1) := by
  rw [List.take_add_one, List.take_add_one, hl, hm, h]
theorem same_not {α : Type} {l m : List α} {k : Nat} {x y : α} (hl : l[k]? = some x) (hm : m[k]? = some y) (hxy : x ≠ y) : l ≠ m := by
  intro h
  rw [h, hm] at hl
  exact hxy (by simpa using hl.symm)

set_option maxHeartbeats 3200000 in
theorem SameInts_x (x y : Value) (l m : List Int) (w : World) (hx : SAt w x (ints l)) (hy : SAt w y (ints m)) (hl : l.length ≤ 1152921504606846976) :
    Calls Try.prog 13 #[x, y] w fun r w' => r = .returned (.bool (decide (l = m))) ∧ ∃ q, w' = w.drewN q := by
  obtain ⟨a, cap, rfl, -, HX⟩ := hx.get
  obtain ⟨b, cap2, rfl, -, HY⟩ := hy.get
  rw [List.length_map] at hx hy ⊢
  rw [List.length_map]
  clear hx hy
  by_cases hlen : l.length = m.length
  case neg =>
    have hv : Hid (decide (l = m) = false) := decide_eq_false (fun h => hlen (by rw [h]))
    have f1 : ((l.length : Int) != (m.length : Int)) = true := by simp; omega
    clear hlen
    go_enter Try.func13, Try.ntmps13
    go_wp2_with fail
    go_ret
    exact ⟨by rw [hv.out]; try rfl, 0, rfl⟩
  have f1 : ((l.length : Int) != (m.length : Int)) = false := by simp; omega
  have HL := Lib.hid hlen
  clear hlen
  go_enter Try.func13, Try.ntmps13
  go_wp2_with fail
  go_loopw [5] (fun i wr => SameRel l m w i wr) (fun i _ => l.length - (intOf i).toNat)
  case atStart => exact ⟨0, Nat.zero_le _, rfl, by simp, 0, rfl⟩
  case round =>
    obtain ⟨k, hk, rfl, hs, q, rfl⟩ := hrel
    have Hs := Lib.hid hs
    clear hs
    have k0 : (0 : Int) ≤ (k : Int) := by omega
    by_cases c : k < l.length
    case neg =>
      have c0 : ¬ (k : Int) < (l.length : Int) := by omega
      have hv : Hid (decide (l = m) = true) := by
        have h := Hs.out
        rw [List.take_of_length_le (by omega), List.take_of_length_le (by have := HL.out; omega)] at h
        exact decide_eq_true h
      go_wp2_with fail
      go_ret
      exact ⟨by rw [hv.out]; try rfl, q, rfl⟩
    case pos =>
      obtain ⟨u, hu⟩ : ∃ u, l[k]? = some u := ⟨l[k], List.getElem?_eq_getElem c⟩
      obtain ⟨t, ht⟩ : ∃ t, m[k]? = some t := ⟨m[k]'(by have := HL.out; omega), List.getElem?_eq_getElem _⟩
      obtain ⟨g1, o1, rfl, hb1, p1⟩ := HX.out k (.int .i64 u) (by rw [List.getElem?_map, hu]; rfl)
      obtain ⟨g2, o2, rfl, hb2, p2⟩ := HY.out k (.int .i64 t) (by rw [List.getElem?_map, ht]; rfl)
      have c0 : (k : Int) < (l.length : Int) := by omega
      have c1 : (k : Int) < (m.length : Int) := by have := HL.out; omega
      have Hu := Lib.hid hu
      have Ht := Lib.hid ht
      clear hu ht
      by_cases e1 : u = t
      · have f2 : (u != t) = false := by simp [e1]
        have Hn : Hid (l.take (k + 1) = m.take (k + 1)) := same_next Hs.out Hu.out (e1 ▸ Ht.out)
        clear e1
        go_wp2_with fail
        go_quiet (fail)
        go_wp2_with fail
        go_roundw
        case rel => exact ⟨k + 1, by omega, by congr 1, Hn.out, _, by first | rfl | rw [World.drewN_drewN]⟩
        case measure => simp [intOf]; omega
      · have f2 : (u != t) = true := by simp [e1]
        have hv : Hid (decide (l = m) = false) := decide_eq_false (same_not Hu.out Ht.out e1)
        clear e1
        go_wp2_with fail
        go_quiet (fail)
        go_wp2_with fail
        go_ret
        exact ⟨by rw [hv.out]; try rfl, _, by first | rfl | rw [World.drewN_drewN]⟩

set_option maxHeartbeats 3200000 in
theorem SameBools_x (x y : Value) (l m : List Bool) (w : World) (hx : SAt w x (bools l)) (hy : SAt w y (bools m)) (hl : l.length ≤ 1152921504606846976) :
    Calls Try.prog 14 #[x, y] w fun r w' => r = .returned (.bool (decide (l = m))) ∧ ∃ q, w' = w.drewN q := by
  obtain ⟨a, cap, rfl, -, HX⟩ := hx.get
  obtain ⟨b, cap2, rfl, -, HY⟩ := hy.get
  rw [List.length_map] at hx hy ⊢
  rw [List.length_map]
  clear hx hy
  by_cases hlen : l.length = m.length
  case neg =>
    have hv : Hid (decide (l = m) = false) := decide_eq_false (fun h => hlen (by rw [h]))
    have f1 : ((l.length : Int) != (m.length : Int)) = true := by simp; omega
    clear hlen
    go_enter Try.func14, Try.ntmps14
    go_wp2_with fail
    go_ret
    exact ⟨by rw [hv.out]; try rfl, 0, rfl⟩
  have f1 : ((l.length : Int) != (m.length : Int)) = false := by simp; omega
  have HL := Lib.hid hlen
  clear hlen
  go_enter Try.func14, Try.ntmps14
  go_wp2_with fail
  go_loopw [5] (fun i wr => SameRel l m w i wr) (fun i _ => l.length - (intOf i).toNat)
  case atStart => exact ⟨0, Nat.zero_le _, rfl, by simp, 0, rfl⟩
  case round =>
    obtain ⟨k, hk, rfl, hs, q, rfl⟩ := hrel
    have Hs := Lib.hid hs
    clear hs
    have k0 : (0 : Int) ≤ (k : Int) := by omega
    by_cases c : k < l.length
    case neg =>
      have c0 : ¬ (k : Int) < (l.length : Int) := by omega
      have hv : Hid (decide (l = m) = true) := by
        have h := Hs.out
        rw [List.take_of_length_le (by omega), List.take_of_length_le (by have := HL.out; omega)] at h
        exact decide_eq_true h
      go_wp2_with fail
      go_ret
      exact ⟨by rw [hv.out]; try rfl, q, rfl⟩
    case pos =>
      obtain ⟨u, hu⟩ : ∃ u, l[k]? = some u := ⟨l[k], List.getElem?_eq_getElem c⟩
      obtain ⟨t, ht⟩ : ∃ t, m[k]? = some t := ⟨m[k]'(by have := HL.out; omega), List.getElem?_eq_getElem _⟩
      obtain ⟨g1, o1, rfl, hb1, p1⟩ := HX.out k (.bool u) (by rw [List.getElem?_map, hu]; rfl)
      obtain ⟨g2, o2, rfl, hb2, p2⟩ := HY.out k (.bool t) (by rw [List.getElem?_map, ht]; rfl)
      have c0 : (k : Int) < (l.length : Int) := by omega
      have c1 : (k : Int) < (m.length : Int) := by have := HL.out; omega
      have Hu := Lib.hid hu
      have Ht := Lib.hid ht
      clear hu ht
      by_cases e1 : u = t
      · have f2 : (!u == t) = false := by cases u <;> cases t <;> simp_all -- simp [e1]
        have Hn : Hid (l.take (k + 1) = m.take (k + 1)) := same_next Hs.out Hu.out (e1 ▸ Ht.out)
        clear e1
        go_wp2_with fail
        go_quiet (fail)
        go_wp2_with fail
        go_roundw
        case rel => exact ⟨k + 1, by omega, by congr 1, Hn.out, _, by first | rfl | rw [World.drewN_drewN]⟩
        case measure => simp [intOf]; omega
      · have f2 : (!u == t) = true := by cases u <;> cases t <;> simp_all -- simp [e1]
        have hv : Hid (decide (l = m) = false) := decide_eq_false (same_not Hu.out Ht.out e1)
        clear e1
        go_wp2_with fail
        go_quiet (fail)
        go_wp2_with fail
        go_ret
        exact ⟨by rw [hv.out]; try rfl, _, by first | rfl | rw [World.drewN_drewN]⟩

set_option maxHeartbeats 3200000 in
theorem SameLists_x (x y : Value) (l m : List (List Int)) (w : World) (hx : LAt w x l) (hy : LAt w y m) (hl : l.length ≤ 1152921504606846976) (hl2 : ∀ u ∈ l, u.length ≤ 1152921504606846976) :
    Calls Try.prog 19 #[x, y] w fun r w' => r = .returned (.bool (decide (l = m))) ∧ ∃ q, w' = w.drewN q := by
  obtain ⟨vx, sx, lx, dx⟩ := hx
  obtain ⟨vy, sy, ly, dy⟩ := hy
  obtain ⟨a, cap, rfl, -, HX⟩ := sx.get
  obtain ⟨b, cap2, rfl, -, HY⟩ := sy.get
  rw [lx, ly]
  have DX := Lib.hid dx
  have DY := Lib.hid dy
  have LX := Lib.hid lx
  have LY := Lib.hid ly
  have L2 := Lib.hid hl2
  clear sx sy dx dy lx ly hl2
  by_cases hlen : l.length = m.length
  case neg =>
    have hv : Hid (decide (l = m) = false) := decide_eq_false (fun h => hlen (by rw [h]))
    have f1 : ((l.length : Int) != (m.length : Int)) = true := by simp; omega
    clear hlen
    go_enter Try.func19, Try.ntmps19
    go_wp2_with fail
    go_ret
    exact ⟨by rw [hv.out]; try rfl, 0, rfl⟩
  have f1 : ((l.length : Int) != (m.length : Int)) = false := by simp; omega
  have HL := Lib.hid hlen
  clear hlen
  go_enter Try.func19, Try.ntmps19
  go_wp2_with fail
  go_loopw [5] (fun i wr => SameRel l m w i wr) (fun i _ => l.length - (intOf i).toNat)
  case atStart => exact ⟨0, Nat.zero_le _, rfl, by simp, 0, rfl⟩
  case round =>
    obtain ⟨k, hk, rfl, hs, q, rfl⟩ := hrel
    have Hs := Lib.hid hs
    clear hs
    have k0 : (0 : Int) ≤ (k : Int) := by omega
    by_cases c : k < l.length
    case neg =>
      have c0 : ¬ (k : Int) < (l.length : Int) := by omega
      have hv : Hid (decide (l = m) = true) := by
        have h := Hs.out
        rw [List.take_of_length_le (by omega), List.take_of_length_le (by have := HL.out; omega)] at h
        exact decide_eq_true h
      go_wp2_with fail
      go_ret
      exact ⟨by rw [hv.out]; try rfl, q, rfl⟩
    case pos =>
      obtain ⟨u, hu⟩ : ∃ u, l[k]? = some u := ⟨l[k], List.getElem?_eq_getElem c⟩
      obtain ⟨t, ht⟩ : ∃ t, m[k]? = some t := ⟨m[k]'(by have := HL.out; omega), List.getElem?_eq_getElem _⟩
      obtain ⟨vu, hvu⟩ : ∃ vu, vx[k]? = some vu := ⟨vx[k]'(by have := LX.out; omega), List.getElem?_eq_getElem _⟩
      obtain ⟨vt, hvt⟩ : ∃ vt, vy[k]? = some vt := ⟨vy[k]'(by have := LY.out; have := HL.out; omega), List.getElem?_eq_getElem _⟩
      have su := DX.out k vu u hvu hu
      have st := DY.out k vt t hvt ht
      obtain ⟨g1, o1, rfl, hb1, p1⟩ := HX.out k vu hvu
      obtain ⟨g2, o2, rfl, hb2, p2⟩ := HY.out k vt hvt
      have c0 : (k : Int) < (l.length : Int) := by omega
      have c1 : (k : Int) < (m.length : Int) := by have := HL.out; omega
      have Hu := Lib.hid hu
      have Ht := Lib.hid ht
      have SI : Hid (∀ W : World, (∃ k, W = w.drewN k) → Calls Try.prog 13 #[vu, vt] W fun r w' => r = .returned (.bool (decide (u = t))) ∧ ∃ q, w' = W.drewN q) := fun W hW => by
        obtain ⟨Q, rfl⟩ := hW
        exact SameInts_x vu vt u t _ (su.drewN Q) (st.drewN Q) (L2.out u (List.mem_of_getElem? hu))
      obtain ⟨a1, cu, rfl, -, -⟩ := su
      obtain ⟨a2, ct, rfl, -, -⟩ := st
      clear hu ht hvu hvt
      simp only [List.length_map] at SI
      by_cases e1 : u = t
      · have Hn : Hid (l.take (k + 1) = m.take (k + 1)) := same_next Hs.out Hu.out (e1 ▸ Ht.out)
        rw [decide_eq_true e1] at SI
        clear e1
        go_wp2_with fail
        go_quiet (first | (go_at_call 13; refine quiet_at (SI.out _ ⟨_, rfl⟩)))
        go_wp2_with fail
        go_roundw
        case rel => exact ⟨k + 1, by omega, by congr 1, Hn.out, _, by first | rfl | rw [World.drewN_drewN]⟩
        case measure => simp [intOf]; omega
      · have hv : Hid (decide (l = m) = false) := decide_eq_false (same_not Hu.out Ht.out e1)
        rw [decide_eq_false e1] at SI
        clear e1
        go_wp2_with fail
        go_quiet (first | (go_at_call 13; refine quiet_at (SI.out _ ⟨_, rfl⟩)))
        go_wp2_with fail
        go_ret
        exact ⟨by rw [hv.out]; try rfl, _, by first | rfl | rw [World.drewN_drewN]⟩

end Go.Proofs.Ytndcbhgdlaemaaa
