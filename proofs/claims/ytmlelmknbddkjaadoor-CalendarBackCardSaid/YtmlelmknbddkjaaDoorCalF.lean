/-
  The reference's Next, Plus and Count.
-/
import Derived.Test.YtmlelmknbddkjaaDoorCalE
namespace Go.Proofs.YtmlelmknbddkjaaDoor
open Go.RowKit

/-- the first open day among so many days from t on -/
def seek (C : Lists) : Nat → Int → Option Int
  | 0, _ => none
  | k + 1, t => if isOpen C t then some t else seek C k (t + 1)
def nextV (C : Lists) (t : Int) : Int × Int := if valid t then (match seek C 401 t with | some u => (u, 0) | none => (0, 3)) else (0, 3)
def plusN (C : Lists) : Nat → Int → Int × Int
  | 0, t => (t, 0)
  | k + 1, t => if (nextV C (t + 1)).2 = 0 then plusN C k (nextV C (t + 1)).1 else (0, 3)
def plusV (C : Lists) (t n : Int) : Int × Int := if valid t = true ∧ 0 ≤ n ∧ n ≤ 20000 then plusN C n.toNat t else (0, 3)
/-- how many of so many days from t on are open -/
def cntN (C : Lists) : Nat → Int → Nat
  | 0, _ => 0
  | k + 1, t => (if isOpen C t then 1 else 0) + cntN C k (t + 1)
def countV (C : Lists) (a b : Int) : Int × Int := if valid a = true ∧ valid b = true then ((cntN C (b + 1 - a).toNat a : Nat), 0) else (0, 3)

theorem seek_some {C : Lists} : ∀ {k : Nat} {t u : Int}, seek C k t = some u → t ≤ u ∧ u < t + k ∧ isOpen C u = true ∧ ∀ s, t ≤ s → s < u → isOpen C s = false
  | 0, _, _, h => by cases h
  | k + 1, t, u, h => by
    unfold seek at h
    split at h
    · rename_i c
      injection h with h
      subst h
      exact ⟨Int.le_refl _, by omega, c, fun s h1 h2 => absurd h2 (by omega)⟩
    · rename_i c
      obtain ⟨h1, h2, h3, h4⟩ := seek_some h
      refine ⟨by omega, by omega, h3, fun s k1 k2 => ?_⟩
      by_cases e : s = t
      · subst e; simpa using c
      · exact h4 s (by omega) k2
theorem seek_none {C : Lists} : ∀ {k : Nat} {t : Int}, seek C k t = none → ∀ s, t ≤ s → s < t + k → isOpen C s = false
  | 0, _, _, s, h1, h2 => absurd h2 (by omega)
  | k + 1, t, h, s, h1, h2 => by
    unfold seek at h
    split at h
    · cases h
    · rename_i c
      by_cases e : s = t
      · subst e; simpa using c
      · exact seek_none h s (by omega) (by omega)
theorem isOpen_valid {C : Lists} {t : Int} (h : isOpen C t = true) : 0 ≤ t ∧ t ≤ 100000 := by
  cases hv : valid t with
  | true => exact valid_iff.1 hv
  | false => rw [isOpen_not hv] at h; cases h
theorem nextV_two (C : Lists) (t : Int) : (∃ u, nextV C t = (u, 0) ∧ t ≤ u ∧ isOpen C u = true ∧ 0 ≤ u ∧ u ≤ 100000 ∧ valid t = true ∧ u ≤ t + 400 ∧ ∀ s, t ≤ s → s < u → isOpen C s = false) ∨
    (nextV C t = (0, 3) ∧ (valid t = true → ∀ s, t ≤ s → s ≤ t + 400 → isOpen C s = false)) := by
  unfold nextV
  cases hv : valid t with
  | false => exact .inr ⟨rfl, fun h => by cases h⟩
  | true =>
    cases hs : seek C 401 t with
    | none => exact .inr ⟨rfl, fun _ s h1 h2 => seek_none hs s h1 (by omega)⟩
    | some u =>
      obtain ⟨h1, h2, h3, h4⟩ := seek_some hs
      obtain ⟨h5, h6⟩ := isOpen_valid h3
      exact .inl ⟨u, rfl, h1, h3, h5, h6, rfl, by omega, h4⟩

/-- the city in a new block -/
structure Bx6 (w : World) (nm : ByteArray) (o c : Int) (v3 v4 v5 : Value) (C : Lists) (W : World) : Prop where
  below : Below w.heap.size w W
  size : w.heap.size < W.heap.size
  c0 : W.cell? ⟨w.heap.size, 0, none⟩ = some (.string nm)
  c1 : W.cell? ⟨w.heap.size, 1, none⟩ = some (.int .i64 o)
  c2 : W.cell? ⟨w.heap.size, 2, none⟩ = some (.int .i64 c)
  c3 : W.cell? ⟨w.heap.size, 3, none⟩ = some v3
  c4 : W.cell? ⟨w.heap.size, 4, none⟩ = some v4
  c5 : W.cell? ⟨w.heap.size, 5, none⟩ = some v5
  city : CityAt W v3 v4 v5 C
theorem Bx6.next {w : World} {nm : ByteArray} {o c : Int} {v3 v4 v5 : Value} {C : Lists} {W W' : World} (h : Bx6 w nm o c v3 v4 v5 C W) (hb : Below W.heap.size W W') : Bx6 w nm o c v3 v4 v5 C W' := by
  have s := h.size
  refine ⟨chain h.below hb, by have := hb.size; omega, ?_, ?_, ?_, ?_, ?_, ?_, h.city.below hb⟩
  · rw [hb.cell (p := ⟨w.heap.size, 0, none⟩) s]; exact h.c0
  · rw [hb.cell (p := ⟨w.heap.size, 1, none⟩) s]; exact h.c1
  · rw [hb.cell (p := ⟨w.heap.size, 2, none⟩) s]; exact h.c2
  · rw [hb.cell (p := ⟨w.heap.size, 3, none⟩) s]; exact h.c3
  · rw [hb.cell (p := ⟨w.heap.size, 4, none⟩) s]; exact h.c4
  · rw [hb.cell (p := ⟨w.heap.size, 5, none⟩) s]; exact h.c5
theorem Bx6.start {w : World} {nm : ByteArray} {o c : Int} {v3 v4 v5 : Value} {C : Lists} (h : CityAt w v3 v4 v5 C) (T : TypeId) : Bx6 w nm o c v3 v4 v5 C (w.alloc (.cells #[.string nm, .int .i64 o, .int .i64 c, v3, v4, v5] T)) := by
  refine ⟨(Below.refl _ _).alloc (Nat.le_refl _) _, by simp, ?_, ?_, ?_, ?_, ?_, ?_, h.below ((Below.refl _ _).alloc (Nat.le_refl _) _)⟩ <;> rw [World.cell?_alloc_new] <;> rfl

def NRel (C : Lists) (t : Int) (w : World) (nm : ByteArray) (o c : Int) (v3 v4 v5 : Value) (i : Value) (wr : World) : Prop := ∃ k : Nat, k ≤ 401 ∧ i = .int .i64 (k : Int) ∧ seek C 401 t = seek C (401 - k) (t + k) ∧ Bx6 w nm o c v3 v4 v5 C wr
def PRel (C : Lists) (t : Int) (n : Nat) (w : World) (nm : ByteArray) (o c : Int) (v3 v4 v5 : Value) (a i : Value) (wr : World) : Prop := ∃ (k : Nat) (u : Int), k ≤ n ∧ a = .int .i64 u ∧ i = .int .i64 (k : Int) ∧ 0 ≤ u ∧ u ≤ 100000 ∧ plusN C n t = plusN C (n - k) u ∧ Bx6 w nm o c v3 v4 v5 C wr
def QRel (C : Lists) (T b : Int) (tot : Nat) (w : World) (nm : ByteArray) (o c : Int) (v3 v4 v5 : Value) (n d : Value) (wr : World) : Prop := ∃ (k : Nat) (t : Int), n = .int .i64 (k : Int) ∧ d = .int .i64 t ∧ T ≤ t ∧ (k : Int) ≤ t - T ∧ t ≤ 100001 ∧ k + cntN C (b + 1 - t).toNat t = tot ∧ Bx6 w nm o c v3 v4 v5 C wr

set_option maxHeartbeats 3200000 in
theorem Next_x (nm : ByteArray) (o c : Int) (v3 v4 v5 : Value) (C : Lists) (t : Int) (w : World) (h : CityAt w v3 v4 v5 C) :
    Calls Tryd.prog 22 #[cityV nm o c v3 v4 v5, .int .i64 t] w fun e w' => e = .returned (pv (nextV C t)) ∧ Below w.heap.size w w' := by
  have hC := Lib.hid h
  clear h
  by_cases hb : 0 ≤ t ∧ t ≤ 100000
  case neg =>
    have V : Hid (valid t = false) := valid_no (by omega)
    have hv : Hid (nextV C t = (0, 3)) := by show _ = _; unfold nextV; rw [V.out]; rfl
    clear hb
    go_enter Tryd.func22, Tryd.ntmps22
    go_wp2_with fail
    refine (Valid_x _ _).mono ?_
    rintro e w1 ⟨rfl, rfl⟩
    rw [V.out]
    go_wp2_with fail
    go_ret2
    exact ⟨by rw [hv.out]; try rfl, (Below.refl _ _).alloc (Nat.le_refl _) _⟩
  case pos =>
    have V : Hid (valid t = true) := valid_yes hb.1 hb.2
    obtain ⟨t0, t1⟩ := hb
    go_enter Tryd.func22, Tryd.ntmps22
    go_wp2_with fail
    refine (Valid_x _ _).mono ?_
    rintro e w1 ⟨rfl, rfl⟩
    rw [V.out]
    have H := Bx6.start (nm := nm) (o := o) (c := c) hC.out 24
    go_wp2_with fail
    go_loopw [6] (fun i wr => NRel C t w nm o c v3 v4 v5 i wr) (fun i _ => 401 - (intOf i).toNat)
    case atStart => exact ⟨0, by omega, rfl, by simp, H⟩
    case round =>
      clear H
      obtain ⟨k, hk, rfl, hs, H⟩ := hrel
      have Hs := Lib.hid hs
      have k0 : (0 : Int) ≤ (k : Int) := by omega
      by_cases e : k = 401
      · have hv : Hid (nextV C t = (0, 3)) := by
          show _ = _
          unfold nextV
          rw [V.out, hs, e]
          rfl
        have k1 : ¬ (k : Int) ≤ 400 := by omega
        clear hs e
        go_wp2_with fail
        go_ret2
        exact ⟨by rw [hv.out]; try rfl, H.below⟩
      · have k1 : (k : Int) ≤ 400 := by omega
        have hstep : Hid (seek C 401 t = if isOpen C (t + k) then some (t + k) else seek C (401 - (k + 1)) (t + k + 1)) := by
          show _ = _
          rw [hs, show 401 - k = 401 - (k + 1) + 1 by omega]
          rfl
        clear hs
        obtain ⟨g, hg⟩ : ∃ g, isOpen C (t + k) = g := ⟨_, rfl⟩
        have hO : Hid (∃ er, openV C (t + k) = (g, er)) := by
          show ∃ _, _
          unfold openV
          cases hv : valid (t + k) with
          | true => exact ⟨0, by rw [hg]; rfl⟩
          | false => rw [isOpen_not hv] at hg; subst hg; exact ⟨3, rfl⟩
        rw [hg] at hstep
        clear hg
        cases g
        case true =>
          have hv : Hid (nextV C t = (t + k, 0)) := by
            show _ = _
            unfold nextV
            rw [V.out, hstep.out]
            rfl
          have y0 := H.size
          have y1 := H.c0
          have y2 := H.c1
          have y3 := H.c2
          have y4 := H.c3
          have y5 := H.c4
          have y6 := H.c5
          go_wp2_with fail
          refine (Open_x _ _ _ _ _ _ C _ _ H.city).mono ?_
          rintro e w1 ⟨rfl, b1⟩
          obtain ⟨er, he⟩ := hO.out
          rw [he]
          have H1 := H.next b1
          clear H he y0 y1 y2 y3 y4 y5 y6 b1
          go_wp2_with fail
          go_ret2
          exact ⟨by rw [hv.out]; try rfl, H1.below⟩
        case false =>
          have hn : Hid (seek C 401 t = seek C (401 - (k + 1)) (t + ((k + 1 : Nat) : Int))) := by
            show _ = _
            rw [hstep.out, show t + ((k + 1 : Nat) : Int) = t + k + 1 by omega]
            rfl
          have y0 := H.size
          have y1 := H.c0
          have y2 := H.c1
          have y3 := H.c2
          have y4 := H.c3
          have y5 := H.c4
          have y6 := H.c5
          go_wp2_with fail
          refine (Open_x _ _ _ _ _ _ C _ _ H.city).mono ?_
          rintro e w1 ⟨rfl, b1⟩
          obtain ⟨er, he⟩ := hO.out
          rw [he]
          have H1 := H.next b1
          clear H he y0 y1 y2 y3 y4 y5 y6 b1
          go_wp2_with fail
          go_roundw
          case rel => exact ⟨k + 1, by omega, by congr 1, hn.out, H1⟩
          case measure => simp [intOf]; omega

set_option maxHeartbeats 3200000 in
theorem Plus_x (nm : ByteArray) (o c : Int) (v3 v4 v5 : Value) (C : Lists) (t n : Int) (w : World) (h : CityAt w v3 v4 v5 C) :
    Calls Tryd.prog 24 #[cityV nm o c v3 v4 v5, .int .i64 t, .int .i64 n] w fun e w' => e = .returned (pv (plusV C t n)) ∧ Below w.heap.size w w' := by
  have hC := Lib.hid h
  clear h
  by_cases hb : 0 ≤ t ∧ t ≤ 100000
  case neg =>
    have V : Hid (valid t = false) := valid_no (by omega)
    have hv : Hid (plusV C t n = (0, 3)) := by show _ = _; unfold plusV; rw [if_neg (by rw [V.out]; simp)]
    clear hb
    go_enter Tryd.func24, Tryd.ntmps24
    go_wp2_with fail
    refine (Valid_x _ _).mono ?_
    rintro e w1 ⟨rfl, rfl⟩
    rw [V.out]
    go_wp2_with fail
    go_ret2
    exact ⟨by rw [hv.out]; try rfl, (Below.refl _ _).alloc (Nat.le_refl _) _⟩
  case pos =>
    have V : Hid (valid t = true) := valid_yes hb.1 hb.2
    obtain ⟨t0, t1⟩ := hb
    by_cases n0 : n < 0
    · have hv : Hid (plusV C t n = (0, 3)) := by show _ = _; unfold plusV; rw [if_neg (by omega)]
      go_enter Tryd.func24, Tryd.ntmps24
      go_wp2_with fail
      refine (Valid_x _ _).mono ?_
      rintro e w1 ⟨rfl, rfl⟩
      rw [V.out]
      go_wp2_with fail
      go_ret2
      exact ⟨by rw [hv.out]; try rfl, (Below.refl _ _).alloc (Nat.le_refl _) _⟩
    by_cases n1 : 20000 < n
    · have hv : Hid (plusV C t n = (0, 3)) := by show _ = _; unfold plusV; rw [if_neg (by omega)]
      go_enter Tryd.func24, Tryd.ntmps24
      go_wp2_with fail
      refine (Valid_x _ _).mono ?_
      rintro e w1 ⟨rfl, rfl⟩
      rw [V.out]
      go_wp2_with fail
      go_ret2
      exact ⟨by rw [hv.out]; try rfl, (Below.refl _ _).alloc (Nat.le_refl _) _⟩
    obtain ⟨N, rfl⟩ : ∃ N : Nat, n = N := ⟨n.toNat, by omega⟩
    have hP : Hid (plusV C t N = plusN C N t) := by show _ = _; unfold plusV; rw [if_pos ⟨V.out, by omega, by omega⟩, Int.toNat_natCast]
    have N0 : (0 : Int) ≤ (N : Int) := by omega
    have N1 : (N : Int) ≤ 20000 := by omega
    clear n0 n1
    go_enter Tryd.func24, Tryd.ntmps24
    go_wp2_with fail
    refine (Valid_x _ _).mono ?_
    rintro e w1 ⟨rfl, rfl⟩
    rw [V.out]
    have H := Bx6.start (nm := nm) (o := o) (c := c) hC.out 24
    go_wp2_with fail
    go_loopw [8, 9] (fun a i wr => PRel C t N w nm o c v3 v4 v5 a i wr) (fun _ i _ => N - (intOf i).toNat)
    case atStart => exact ⟨0, t, Nat.zero_le _, rfl, rfl, t0, t1, rfl, H⟩
    case round =>
      clear H
      obtain ⟨k, u, hk, rfl, rfl, u0, u1, hs, H⟩ := hrel
      have Hs := Lib.hid hs
      have k0 : (0 : Int) ≤ (k : Int) := by omega
      by_cases e : k = N
      · have hv : Hid (plusV C t N = (u, 0)) := by
          show _ = _
          rw [hP.out, hs, e, Nat.sub_self]
          rfl
        have k1 : ¬ (k : Int) < (N : Int) := by omega
        clear hs e
        go_wp2_with fail
        go_ret2
        exact ⟨by rw [hv.out]; try rfl, H.below⟩
      · have k1 : (k : Int) < (N : Int) := by omega
        have hstep : plusN C N t = if (nextV C (u + 1)).2 = 0 then plusN C (N - (k + 1)) (nextV C (u + 1)).1 else (0, 3) := by
          rw [hs, show N - k = N - (k + 1) + 1 by omega]
          rfl
        clear hs
        rcases nextV_two C (u + 1) with ⟨x, hx, -, -, x0, x1, -⟩ | ⟨hx, -⟩
        · rw [hx] at hstep
          have hn : Hid (plusN C N t = plusN C (N - (k + 1)) x) := hstep
          have Hx := Lib.hid hx
          clear hx hstep
          have y0 := H.size
          have y1 := H.c0
          have y2 := H.c1
          have y3 := H.c2
          have y4 := H.c3
          have y5 := H.c4
          have y6 := H.c5
          go_wp2_with fail
          refine (Next_x _ _ _ _ _ _ C _ _ H.city).mono ?_
          rintro e w1 ⟨rfl, b1⟩
          rw [Hx.out]
          have H1 := H.next b1
          clear H y0 y1 y2 y3 y4 y5 y6 b1
          go_wp2_with fail
          go_roundw
          case rel => exact ⟨k + 1, x, by omega, rfl, by congr 1, x0, x1, hn.out, H1⟩
          case measure => simp [intOf]; omega
        · rw [hx] at hstep
          have hv : Hid (plusV C t N = (0, 3)) := by
            show _ = _
            rw [hP.out]
            exact hstep
          have Hx := Lib.hid hx
          clear hx hstep
          have y0 := H.size
          have y1 := H.c0
          have y2 := H.c1
          have y3 := H.c2
          have y4 := H.c3
          have y5 := H.c4
          have y6 := H.c5
          go_wp2_with fail
          refine (Next_x _ _ _ _ _ _ C _ _ H.city).mono ?_
          rintro e w1 ⟨rfl, b1⟩
          rw [Hx.out]
          have H1 := H.next b1
          clear H y0 y1 y2 y3 y4 y5 y6 b1
          go_wp2_with fail
          go_ret2
          exact ⟨by rw [hv.out]; try rfl, H1.below⟩

set_option maxHeartbeats 3200000 in
theorem Count_x (nm : ByteArray) (o c : Int) (v3 v4 v5 : Value) (C : Lists) (a b : Int) (w : World) (h : CityAt w v3 v4 v5 C) :
    Calls Tryd.prog 27 #[cityV nm o c v3 v4 v5, .int .i64 a, .int .i64 b] w fun e w' => e = .returned (pv (countV C a b)) ∧ Below w.heap.size w w' := by
  have hC := Lib.hid h
  clear h
  by_cases hb : 0 ≤ a ∧ a ≤ 100000
  case neg =>
    have V : Hid (valid a = false) := valid_no (by omega)
    have hv : Hid (countV C a b = (0, 3)) := by show _ = _; unfold countV; rw [if_neg (by rw [V.out]; simp)]
    clear hb
    go_enter Tryd.func27, Tryd.ntmps27
    go_wp2_with fail
    refine (Valid_x _ _).mono ?_
    rintro e w1 ⟨rfl, rfl⟩
    rw [V.out]
    go_wp2_with fail
    go_ret2
    exact ⟨by rw [hv.out]; try rfl, (Below.refl _ _).alloc (Nat.le_refl _) _⟩
  case pos =>
    have V : Hid (valid a = true) := valid_yes hb.1 hb.2
    obtain ⟨t0, t1⟩ := hb
    by_cases hb : 0 ≤ b ∧ b ≤ 100000
    case neg =>
      have V2 : Hid (valid b = false) := valid_no (by omega)
      have hv : Hid (countV C a b = (0, 3)) := by show _ = _; unfold countV; rw [if_neg (by rw [V2.out]; simp)]
      clear hb
      go_enter Tryd.func27, Tryd.ntmps27
      go_wp2_with fail
      refine (Valid_x _ _).mono ?_
      rintro e w1 ⟨rfl, rfl⟩
      rw [V.out]
      go_wp2_with fail
      refine (Valid_x _ _).mono ?_
      rintro e w1 ⟨rfl, rfl⟩
      rw [V2.out]
      go_wp2_with fail
      go_ret2
      exact ⟨by rw [hv.out]; try rfl, (Below.refl _ _).alloc (Nat.le_refl _) _⟩
    case pos =>
      have V2 : Hid (valid b = true) := valid_yes hb.1 hb.2
      obtain ⟨b0, b1⟩ := hb
      obtain ⟨tot, ht⟩ : ∃ tot, cntN C (b + 1 - a).toNat a = tot := ⟨_, rfl⟩
      have hv : Hid (countV C a b = ((tot : Int), 0)) := by show _ = _; unfold countV; rw [if_pos ⟨V.out, V2.out⟩, ht]
      have Ht := Lib.hid ht
      clear ht
      go_enter Tryd.func27, Tryd.ntmps27
      go_wp2_with fail
      refine (Valid_x _ _).mono ?_
      rintro e w1 ⟨rfl, rfl⟩
      rw [V.out]
      go_wp2_with fail
      refine (Valid_x _ _).mono ?_
      rintro e w1 ⟨rfl, rfl⟩
      rw [V2.out]
      have H := Bx6.start (nm := nm) (o := o) (c := c) hC.out 24
      go_wp2_with fail
      go_loopw [8, 9] (fun n d wr => QRel C a b tot w nm o c v3 v4 v5 n d wr) (fun _ d _ => (b + 1 - intOf d).toNat)
      case atStart => exact ⟨0, a, rfl, rfl, Int.le_refl _, by omega, by omega, by rw [Nat.zero_add]; exact Ht.out, H⟩
      case round =>
        clear H
        obtain ⟨k, t, rfl, rfl, g0, g1, g2, hs, H⟩ := hrel
        have Hs := Lib.hid hs
        have k0 : (0 : Int) ≤ (k : Int) := by omega
        by_cases e : b < t
        · have hk : Hid ((k : Int) = (tot : Int)) := by
            rw [show (b + 1 - t).toNat = 0 by omega] at hs
            show _ = _
            have : cntN C 0 t = 0 := rfl
            omega
          have e2 : ¬ t ≤ b := by omega
          clear hs
          go_wp2_with fail
          go_ret2
          exact ⟨by rw [hv.out, hk.out]; try rfl, H.below⟩
        · have e2 : t ≤ b := by omega
          have hstep : cntN C (b + 1 - t).toNat t = (if isOpen C t then 1 else 0) + cntN C (b + 1 - (t + 1)).toNat (t + 1) := by
            rw [show (b + 1 - t).toNat = (b + 1 - (t + 1)).toNat + 1 by omega]
            rfl
          have hO : openV C t = (isOpen C t, 0) := by unfold openV; rw [valid_yes (by omega) (by omega)]; rfl
          obtain ⟨g, hg⟩ : ∃ g, isOpen C t = g := ⟨_, rfl⟩
          rw [hg] at hstep hO
          have HO := Lib.hid hO
          clear hg hO e
          cases g
          case true =>
            have hn : Hid (k + 1 + cntN C (b + 1 - (t + 1)).toNat (t + 1) = tot) := by
              show _ = _
              simp only [if_true] at hstep
              omega
            clear hs hstep
            have y0 := H.size
            have y1 := H.c0
            have y2 := H.c1
            have y3 := H.c2
            have y4 := H.c3
            have y5 := H.c4
            have y6 := H.c5
            go_wp2_with fail
            refine (Open_x _ _ _ _ _ _ C _ _ H.city).mono ?_
            rintro e w1 ⟨rfl, b1⟩
            rw [HO.out]
            have H1 := H.next b1
            clear H y0 y1 y2 y3 y4 y5 y6 b1
            go_wp2_with fail
            go_roundw
            case rel => exact ⟨k + 1, t + 1, by congr 1, rfl, by omega, by omega, by omega, hn.out, H1⟩
            case measure => simp [intOf]; omega
          case false =>
            have hn : Hid (k + cntN C (b + 1 - (t + 1)).toNat (t + 1) = tot) := by
              show _ = _
              simp only [Bool.false_eq_true, if_false] at hstep
              omega
            clear hs hstep
            have y0 := H.size
            have y1 := H.c0
            have y2 := H.c1
            have y3 := H.c2
            have y4 := H.c3
            have y5 := H.c4
            have y6 := H.c5
            go_wp2_with fail
            refine (Open_x _ _ _ _ _ _ C _ _ H.city).mono ?_
            rintro e w1 ⟨rfl, b1⟩
            rw [HO.out]
            have H1 := H.next b1
            clear H y0 y1 y2 y3 y4 y5 y6 b1
            go_wp2_with fail
            go_roundw
            case rel => exact ⟨k, t + 1, rfl, rfl, by omega, by omega, by omega, hn.out, H1⟩
            case measure => simp [intOf]; omega

end Go.Proofs.YtmlelmknbddkjaaDoor
