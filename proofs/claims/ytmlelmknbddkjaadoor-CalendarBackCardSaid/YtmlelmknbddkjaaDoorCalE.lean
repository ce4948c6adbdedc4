/-
  The reference's has and Open: whether a day is open in a city.
-/
import Derived.Test.YtmlelmknbddkjaaDoorCalD
namespace Go.Proofs.YtmlelmknbddkjaaDoor
open Go.RowKit

/-- a slice of integers -/
def Ints (w : World) (v : Value) (l : List Int) : Prop := ∃ a cap, v = .slice a l.length cap ∧ ∀ j x, l[j]? = some x → ∃ b off, a = some ⟨b, off, none⟩ ∧ b < w.heap.size ∧ w.cell? ⟨b, off + j, none⟩ = some (.int .i64 x)
theorem Ints.below {w w' : World} {v : Value} {l : List Int} (h : Ints w v l) (hb : Below w.heap.size w w') : Ints w' v l := by
  obtain ⟨a, cap, rfl, h⟩ := h
  refine ⟨a, cap, rfl, fun j x hx => ?_⟩
  obtain ⟨b, off, e, hlt, hc⟩ := h j x hx
  refine ⟨b, off, e, by have := hb.size; omega, ?_⟩
  rw [hb.cell (p := ⟨b, off + j, none⟩) (by show b < _; omega)]
  exact hc

def hasB (l : List Int) (x : Int) : Bool := l.contains x
theorem hasB_iff {l : List Int} {x : Int} : hasB l x = true ↔ x ∈ l := List.contains_iff_mem

def HRel (l : List Int) (x : Int) (w : World) (i : Value) (wr : World) : Prop := ∃ k : Nat, k ≤ l.length ∧ i = .int .i64 (k : Int) ∧ (∀ j y, j < k → l[j]? = some y → y ≠ x) ∧ w = wr

theorem has_x (v : Value) (l : List Int) (x : Int) (w : World) (h : Ints w v l) (hl : l.length ≤ 1099511627776) :
    Calls Tryd.prog 38 #[v, .int .i64 x] w fun e w' => e = .returned (.bool (hasB l x)) ∧ w = w' := by
  obtain ⟨a, cap, rfl, hc⟩ := h
  have HC := Lib.hid hc
  clear hc
  go_enter Tryd.func38, Tryd.ntmps38
  go_wp2_with fail
  go_loopw [5] (fun i wr => HRel l x w i wr) (fun i _ => l.length - (intOf i).toNat)
  case atStart => exact ⟨0, Nat.zero_le _, rfl, fun j y h => absurd h (Nat.not_lt_zero j), rfl⟩
  case round =>
    obtain ⟨k, hk, rfl, hno, rfl⟩ := hrel
    have Hno := Lib.hid hno
    clear hno
    by_cases c : k < l.length
    · obtain ⟨y, hy⟩ : ∃ y, l[k]? = some y := ⟨l[k], List.getElem?_eq_getElem c⟩
      obtain ⟨b, off, rfl, hb, hcell⟩ := HC.out k y hy
      have c0 : (k : Int) < (l.length : Int) := by omega
      have k0 : (0 : Int) ≤ (k : Int) := by omega
      have Hy := Lib.hid hy
      clear hy
      by_cases e : y = x
      · have e1 : (y == x) = true := by simp [e]
        have hv : Hid (hasB l x = true) := by
          show _ = _
          rw [hasB_iff]
          exact e ▸ List.mem_of_getElem? Hy.out
        clear e HC
        go_wp2_with fail
        go_ret
        exact ⟨by rw [hv.out]; try rfl, rfl⟩
      · have e1 : (y == x) = false := by simp [e]
        have hn : Hid (∀ j z, j < k + 1 → l[j]? = some z → z ≠ x) := fun j z hj hz => by
          rcases Nat.lt_or_ge j k with h | h
          · exact Hno.out j z h hz
          · have : j = k := by omega
            subst this
            have h2 := Hy.out
            rw [hz] at h2
            cases h2
            exact e
        clear e
        go_wp2_with fail
        go_roundw
        case rel => exact ⟨k + 1, by omega, by congr 1, hn.out, rfl⟩
        case measure => simp [intOf]; omega
    · have hv : Hid (hasB l x = false) := by
        show _ = _
        rw [← Bool.not_eq_true, hasB_iff]
        intro hm
        obtain ⟨j, hj⟩ := List.getElem?_of_mem hm
        have h1 : j < l.length := by
          rcases Nat.lt_or_ge j l.length with h | h
          · exact h
          · rw [List.getElem?_eq_none h] at hj; cases hj
        exact Hno.out j x (by omega) hj rfl
      have c0 : ¬ (k : Int) < (l.length : Int) := by omega
      clear HC
      go_wp2_with fail
      go_ret
      exact ⟨by rw [hv.out]; try rfl, rfl⟩

/-- the lists of a city; the city as a value -/
structure Lists where
  r : List Int
  f : List Int
  s : List Int
abbrev cityV (nm : ByteArray) (o c : Int) (v3 v4 v5 : Value) : Value := .agg #[.string nm, .int .i64 o, .int .i64 c, v3, v4, v5]
structure CityAt (w : World) (v3 v4 v5 : Value) (C : Lists) : Prop where
  r : Ints w v3 C.r
  f : Ints w v4 C.f
  s : Ints w v5 C.s
  lr : C.r.length ≤ 1099511627776
  lf : C.f.length ≤ 1099511627776
  ls : C.s.length ≤ 1099511627776
  okf : ∀ x ∈ C.f, I64 x
theorem CityAt.below {w w' : World} {v3 v4 v5 : Value} {C : Lists} (h : CityAt w v3 v4 v5 C) (hb : Below w.heap.size w w') : CityAt w' v3 v4 v5 C :=
  ⟨h.r.below hb, h.f.below hb, h.s.below hb, h.lr, h.lf, h.ls, h.okf⟩
theorem chain {W a b : World} (h : Below W.heap.size W a) (k : Below a.heap.size a b) : Below W.heap.size W b := h.trans (k.mono h.size)

def isOpen (C : Lists) (t : Int) : Bool := valid t && !hasB C.r ((t + 5) % 7) && !hasB C.f (100 * (date t).2.1 + (date t).2.2.1) && !hasB C.s t
def openV (C : Lists) (t : Int) : Bool × Int := if valid t then (isOpen C t, 0) else (false, 3)
abbrev bv (x : Bool × Int) : Value := .tuple #[.bool x.1, .int .i64 x.2]
theorem isOpen_not {C : Lists} {t : Int} (h : valid t = false) : isOpen C t = false := by unfold isOpen; rw [h]; rfl

set_option maxHeartbeats 1600000 in
theorem Open_x (nm : ByteArray) (o c : Int) (v3 v4 v5 : Value) (C : Lists) (t : Int) (w : World) (h : CityAt w v3 v4 v5 C) :
    Calls Tryd.prog 20 #[cityV nm o c v3 v4 v5, .int .i64 t] w fun e w' => e = .returned (bv (openV C t)) ∧ Below w.heap.size w w' := by
  have hC := Lib.hid h
  clear h
  by_cases hb : 0 ≤ t ∧ t ≤ 100000
  case neg =>
    have V : valid t = false := valid_no (by omega)
    have D : Hid (date t = (0, 0, 0, 3)) := by show _ = _; unfold date; rw [V]; rfl
    have hv : Hid (openV C t = (false, 3)) := by show _ = _; unfold openV; rw [V]; rfl
    clear hb V
    go_enter Tryd.func20, Tryd.ntmps20
    go_wp2_with fail
    refine (Date_x t _).mono ?_
    rintro e w1 ⟨rfl, rfl⟩
    rw [D.out]
    simp only [dv]
    go_wp2_with fail
    go_ret2
    exact ⟨by rw [hv.out]; try rfl, (Below.refl _ _).alloc (Nat.le_refl _) _⟩
  case pos =>
    have V : valid t = true := valid_yes hb.1 hb.2
    obtain ⟨y, m, d, hD, m0, m1, d0, d1⟩ : ∃ y m d : Int, date t = (y, m, d, 0) ∧ 1 ≤ m ∧ m ≤ 12 ∧ 1 ≤ d ∧ d ≤ 31 := by
      refine ⟨((2000 + Cal.mon t.toNat / 12 : Nat) : Int), ((Cal.mon t.toNat % 12 + 1 : Nat) : Int), ((Cal.dom t.toNat : Nat) : Int), by unfold date; rw [if_pos V], ?_, ?_, ?_, ?_⟩
      all_goals (have h1 := Cal.dom_spec t.toNat; have h2 := Cal.len_bounds (Cal.mon t.toNat); omega)
    have D := Lib.hid hD
    have hv : Hid (openV C t = (((!hasB C.r ((t + 5) % 7)) && ((!hasB C.f (100 * m + d)) && (!hasB C.s t))), 0)) := by
      show _ = _
      unfold openV isOpen
      rw [V, hD]
      simp [Bool.and_assoc]
    obtain ⟨t0, t1⟩ := hb
    clear V hD
    obtain ⟨g1, hg1⟩ : ∃ g, hasB C.r ((t + 5) % 7) = g := ⟨_, rfl⟩
    obtain ⟨g2, hg2⟩ : ∃ g, hasB C.f (100 * m + d) = g := ⟨_, rfl⟩
    obtain ⟨g3, hg3⟩ : ∃ g, hasB C.s t = g := ⟨_, rfl⟩
    rw [hg1, hg2, hg3] at hv
    have G1 := Lib.hid hg1
    have G2 := Lib.hid hg2
    have G3 := Lib.hid hg3
    clear hg1 hg2 hg3
    have hB : Below w.heap.size w (w.alloc (.cells #[.string nm, .int .i64 o, .int .i64 c, v3, v4, v5] 24)) := (Below.refl _ _).alloc (Nat.le_refl _) _
    have C1 : Hid (CityAt (w.alloc (.cells #[.string nm, .int .i64 o, .int .i64 c, v3, v4, v5] 24)) v3 v4 v5 C) := hC.out.below hB
    have HB := Lib.hid hB
    clear hB hC
    cases g1
    case true =>
      go_enter Tryd.func20, Tryd.ntmps20
      go_wp2_with fail
      refine (Date_x t _).mono ?_
      rintro e w1 ⟨rfl, rfl⟩
      rw [D.out]
      simp only [dv]
      go_wp2_with fail
      refine (has_x _ _ _ _ C1.out.r C1.out.lr).mono ?_
      rintro e w1 ⟨rfl, rfl⟩
      rw [G1.out]
      go_wp2_with fail
      go_ret2
      exact ⟨by rw [hv.out]; try rfl, HB.out⟩
    case false =>
      cases g2
      case true =>
        go_enter Tryd.func20, Tryd.ntmps20
        go_wp2_with fail
        refine (Date_x t _).mono ?_
        rintro e w1 ⟨rfl, rfl⟩
        rw [D.out]
        simp only [dv]
        go_wp2_with fail
        refine (has_x _ _ _ _ C1.out.r C1.out.lr).mono ?_
        rintro e w1 ⟨rfl, rfl⟩
        rw [G1.out]
        go_wp2_with fail
        refine (has_x _ _ _ _ C1.out.f C1.out.lf).mono ?_
        rintro e w1 ⟨rfl, rfl⟩
        rw [G2.out]
        go_wp2_with fail
        go_ret2
        exact ⟨by rw [hv.out]; try rfl, HB.out⟩
      case false =>
        cases g3
        all_goals
          go_enter Tryd.func20, Tryd.ntmps20
          go_wp2_with fail
          refine (Date_x t _).mono ?_
          rintro e w1 ⟨rfl, rfl⟩
          rw [D.out]
          simp only [dv]
          go_wp2_with fail
          refine (has_x _ _ _ _ C1.out.r C1.out.lr).mono ?_
          rintro e w1 ⟨rfl, rfl⟩
          rw [G1.out]
          go_wp2_with fail
          refine (has_x _ _ _ _ C1.out.f C1.out.lf).mono ?_
          rintro e w1 ⟨rfl, rfl⟩
          rw [G2.out]
          go_wp2_with fail
          refine (has_x _ _ _ _ C1.out.s C1.out.ls).mono ?_
          rintro e w1 ⟨rfl, rfl⟩
          rw [G3.out]
          go_wp2_with fail
          go_ret2
          exact ⟨by rw [hv.out]; try rfl, HB.out⟩

end Go.Proofs.YtmlelmknbddkjaaDoor
