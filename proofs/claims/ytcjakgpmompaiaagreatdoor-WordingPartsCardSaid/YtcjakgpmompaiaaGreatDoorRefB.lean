/-
  The reference: Name, Before, Rising, named, RightCity, RightOrder.
-/
import Derived.Test.YtcjakgpmompaiaaGreatDoorRefA
namespace Go.Proofs.YtcjakgpmompaiaaGreatDoor
open Go.RowKit Rl

def NmRel (s : B) (w : World) (i : Value) (wr : World) : Prop := ∃ k : Nat, k ≤ s.size ∧ i = .int .i64 (k : Int) ∧ (∀ i, (h : i < s.size) → i < k → okAt s i h) ∧ w = wr

set_option maxHeartbeats 3200000 in
set_option maxRecDepth 100000 in
theorem Name_x (s : B) (w : World) :
    Calls Tryz.prog 166 #[.string s] w fun r w' => r = .returned (.bool (nameB s)) ∧ w = w' := by
  by_cases t1 : s.size < 1
  · have f1 : (s.size : Int) < 1 := by omega
    have hv : Hid (nameB s = false) := name_no (fun h => by omega)
    go_enter Tryz.func166, Tryz.ntmps166
    go_wp2_with fail
    go_ret
    exact ⟨by rw [hv.out]; try rfl, rfl⟩
  have f1 : ¬ (s.size : Int) < 1 := by omega
  by_cases t2 : 20 < s.size
  · have f2 : 20 < (s.size : Int) := by omega
    have hv : Hid (nameB s = false) := name_no (fun h => by omega)
    go_enter Tryz.func166, Tryz.ntmps166
    go_wp2_with fail
    go_ret
    exact ⟨by rw [hv.out]; try rfl, rfl⟩
  have f2 : ¬ 20 < (s.size : Int) := by omega
  go_enter Tryz.func166, Tryz.ntmps166
  go_wp2_with fail
  go_loopw [3] (fun i wr => NmRel s w i wr) (fun i _ => s.size - (intOf i).toNat)
  case atStart => exact ⟨0, Nat.zero_le _, rfl, fun j h hj => by omega, rfl⟩
  case round =>
    obtain ⟨k, hk, rfl, hall, rfl⟩ := hrel
    have Ha := Lib.hid hall
    have k0 : (0 : Int) ≤ (k : Int) := by omega
    clear hall
    by_cases c : k < s.size
    case neg =>
      have c0 : ¬ (k : Int) < (s.size : Int) := by omega
      have hv : Hid (nameB s = true) := name_iff.2 ⟨by omega, fun i h => Ha.out i h (by omega)⟩
      go_wp2_with fail
      go_ret
      exact ⟨by rw [hv.out]; try rfl, rfl⟩
    case pos =>
      have c0 : (k : Int) < (s.size : Int) := by omega
      obtain ⟨q1, q2⟩ := byte_le s[k]
      by_cases g1 : (s[k].toNat : Int) = 95
      · have g1' : ((s[k].toNat : Int) == 95) = true := bt g1
        have G1 := Lib.hid g1
        clear g1
        cases hl : letB s[k] with
        | true =>
          have HL := Lib.hid hl
          have hm : Hid (morB s[k] = true) := by show _ = _; simp [morB, hl]
          have hz : Hid (k = 0 → letB s[k] = true) := fun _ => hl
          clear hl
          have HN := Lib.hid (ok_next Ha.out c ⟨hm.out, hz.out⟩)
          go_wp2_with fail
          refine (Letter_x s[k] _).mono ?_
          rintro r w1 ⟨rfl, rfl⟩
          rw [HL.out]
          go_wp2_with fail
          go_roundw
          case rel => exact ⟨k + 1, by omega, by congr 1, HN.out, rfl⟩
          case measure => simp [intOf]; omega
        | false =>
          have HL := Lib.hid hl
          by_cases kz : k = 0
          · have kf : ((k : Int) == 0) = true := bt (by omega)
            have hv : Hid (nameB s = false) := name_no (fun h => by have := (h.2 k c).2 kz; rw [hl] at this; cases this)
            clear hl kz
            go_wp2_with fail
            refine (Letter_x s[k] _).mono ?_
            rintro r w1 ⟨rfl, rfl⟩
            rw [HL.out]
            go_wp2_with fail
            go_ret
            exact ⟨by rw [hv.out]; try rfl, rfl⟩
          · have kf : ((k : Int) == 0) = false := bf (by omega)
            have hm : Hid (morB s[k] = true) := by show _ = _; simp [morB, hl]; have g1 := G1.out; omega
            have hz : Hid (k = 0 → letB s[k] = true) := fun e => absurd e kz
            clear hl kz
            have HN := Lib.hid (ok_next Ha.out c ⟨hm.out, hz.out⟩)
            go_wp2_with fail
            refine (Letter_x s[k] _).mono ?_
            rintro r w1 ⟨rfl, rfl⟩
            rw [HL.out]
            go_wp2_with fail
            go_roundw
            case rel => exact ⟨k + 1, by omega, by congr 1, HN.out, rfl⟩
            case measure => simp [intOf]; omega
      have g1' : ((s[k].toNat : Int) == 95) = false := bf g1
      by_cases g2 : (48 : Int) ≤ (s[k].toNat : Int)
      · by_cases g3 : (s[k].toNat : Int) ≤ 57
        · skip
          cases hl : letB s[k] with
          | true =>
            have HL := Lib.hid hl
            have hm : Hid (morB s[k] = true) := by show _ = _; simp [morB, hl]
            have hz : Hid (k = 0 → letB s[k] = true) := fun _ => hl
            clear hl
            have HN := Lib.hid (ok_next Ha.out c ⟨hm.out, hz.out⟩)
            go_wp2_with fail
            refine (Letter_x s[k] _).mono ?_
            rintro r w1 ⟨rfl, rfl⟩
            rw [HL.out]
            go_wp2_with fail
            go_roundw
            case rel => exact ⟨k + 1, by omega, by congr 1, HN.out, rfl⟩
            case measure => simp [intOf]; omega
          | false =>
            have HL := Lib.hid hl
            by_cases kz : k = 0
            · have kf : ((k : Int) == 0) = true := bt (by omega)
              have hv : Hid (nameB s = false) := name_no (fun h => by have := (h.2 k c).2 kz; rw [hl] at this; cases this)
              clear hl kz
              go_wp2_with fail
              refine (Letter_x s[k] _).mono ?_
              rintro r w1 ⟨rfl, rfl⟩
              rw [HL.out]
              go_wp2_with fail
              go_ret
              exact ⟨by rw [hv.out]; try rfl, rfl⟩
            · have kf : ((k : Int) == 0) = false := bf (by omega)
              have hm : Hid (morB s[k] = true) := by show _ = _; simp [morB, hl]; omega
              have hz : Hid (k = 0 → letB s[k] = true) := fun e => absurd e kz
              clear hl kz
              have HN := Lib.hid (ok_next Ha.out c ⟨hm.out, hz.out⟩)
              go_wp2_with fail
              refine (Letter_x s[k] _).mono ?_
              rintro r w1 ⟨rfl, rfl⟩
              rw [HL.out]
              go_wp2_with fail
              go_roundw
              case rel => exact ⟨k + 1, by omega, by congr 1, HN.out, rfl⟩
              case measure => simp [intOf]; omega
        · skip
          cases hl : letB s[k] with
          | true =>
            have HL := Lib.hid hl
            have hm : Hid (morB s[k] = true) := by show _ = _; simp [morB, hl]
            have hz : Hid (k = 0 → letB s[k] = true) := fun _ => hl
            clear hl
            have HN := Lib.hid (ok_next Ha.out c ⟨hm.out, hz.out⟩)
            go_wp2_with fail
            refine (Letter_x s[k] _).mono ?_
            rintro r w1 ⟨rfl, rfl⟩
            rw [HL.out]
            go_wp2_with fail
            go_roundw
            case rel => exact ⟨k + 1, by omega, by congr 1, HN.out, rfl⟩
            case measure => simp [intOf]; omega
          | false =>
            have HL := Lib.hid hl
            by_cases kz : k = 0
            · have kf : ((k : Int) == 0) = true := bt (by omega)
              have hv : Hid (nameB s = false) := name_no (fun h => by have := (h.2 k c).2 kz; rw [hl] at this; cases this)
              clear hl kz
              go_wp2_with fail
              refine (Letter_x s[k] _).mono ?_
              rintro r w1 ⟨rfl, rfl⟩
              rw [HL.out]
              go_wp2_with fail
              go_ret
              exact ⟨by rw [hv.out]; try rfl, rfl⟩
            · have kf : ((k : Int) == 0) = false := bf (by omega)
              have hm : Hid (morB s[k] = false) := by show _ = _; simp [morB, hl]; omega
              have hv : Hid (nameB s = false) := name_no (fun h => by have := (h.2 k c).1; rw [hm.out] at this; cases this)
              clear hl kz
              go_wp2_with fail
              refine (Letter_x s[k] _).mono ?_
              rintro r w1 ⟨rfl, rfl⟩
              rw [HL.out]
              go_wp2_with fail
              go_ret
              exact ⟨by rw [hv.out]; try rfl, rfl⟩
      · skip
        cases hl : letB s[k] with
        | true =>
          have HL := Lib.hid hl
          have hm : Hid (morB s[k] = true) := by show _ = _; simp [morB, hl]
          have hz : Hid (k = 0 → letB s[k] = true) := fun _ => hl
          clear hl
          have HN := Lib.hid (ok_next Ha.out c ⟨hm.out, hz.out⟩)
          go_wp2_with fail
          refine (Letter_x s[k] _).mono ?_
          rintro r w1 ⟨rfl, rfl⟩
          rw [HL.out]
          go_wp2_with fail
          go_roundw
          case rel => exact ⟨k + 1, by omega, by congr 1, HN.out, rfl⟩
          case measure => simp [intOf]; omega
        | false =>
          have HL := Lib.hid hl
          by_cases kz : k = 0
          · have kf : ((k : Int) == 0) = true := bt (by omega)
            have hv : Hid (nameB s = false) := name_no (fun h => by have := (h.2 k c).2 kz; rw [hl] at this; cases this)
            clear hl kz
            go_wp2_with fail
            refine (Letter_x s[k] _).mono ?_
            rintro r w1 ⟨rfl, rfl⟩
            rw [HL.out]
            go_wp2_with fail
            go_ret
            exact ⟨by rw [hv.out]; try rfl, rfl⟩
          · have kf : ((k : Int) == 0) = false := bf (by omega)
            have hm : Hid (morB s[k] = false) := by show _ = _; simp [morB, hl]; omega
            have hv : Hid (nameB s = false) := name_no (fun h => by have := (h.2 k c).1; rw [hm.out] at this; cases this)
            clear hl kz
            go_wp2_with fail
            refine (Letter_x s[k] _).mono ?_
            rintro r w1 ⟨rfl, rfl⟩
            rw [HL.out]
            go_wp2_with fail
            go_ret
            exact ⟨by rw [hv.out]; try rfl, rfl⟩

theorem find_take {l : List B} {s : B} {n : Nat} (h : NoN l s n) : findV (l.take n) s = -1 := find_none (fun j x hx => by
  rw [List.getElem?_take] at hx
  split at hx
  · exact h j x (by assumption) hx
  · cases hx)
theorem find_in {l : List B} {s : B} {n k : Nat} (hk : k < n) (h : l[k]? = some s) : findV (l.take n) s ≠ -1 := by
  rcases find_cases (l.take n) s with ⟨j, -, -, e⟩ | ⟨h1, -⟩
  · rw [e]; omega
  · exact absurd rfl (h1 k s (by rw [List.getElem?_take_of_lt hk]; exact h))
/-- s is among the first n -/
def befB (l : List B) (n : Nat) (s : B) : Bool := decide (findV (l.take n) s ≠ -1)
theorem Before_x (v : Value) (l : List B) (n : Nat) (s : B) (w : World) (h : SAt w v l) (hl : Sz l.length) (hn : n ≤ l.length) :
    Calls Tryz.prog 167 #[v, .int .i64 (n : Int), .string s] w fun r w' => r = .returned (.bool (befB l n s)) ∧ w = w' := by
  obtain ⟨a, cap, rfl⟩ := h.shape
  have HL := Lib.hid h
  clear h
  go_enter Tryz.func167, Tryz.ntmps167
  go_wp2_with fail
  go_loopw [7] (fun i wr => ∃ k : Nat, k ≤ n ∧ i = .int .i64 (k : Int) ∧ NoN l s k ∧ w = wr) (fun i _ => n - (intOf i).toNat)
  case atStart => exact ⟨0, Nat.zero_le _, rfl, fun j x hj => by omega, rfl⟩
  case round =>
    obtain ⟨k, hk, rfl, hall, rfl⟩ := hrel
    have Ha := Lib.hid hall
    have k0 : (0 : Int) ≤ (k : Int) := by omega
    clear hall
    by_cases c : k < n
    case neg =>
      have c0 : ¬ (k : Int) < (n : Int) := by omega
      obtain rfl : k = n := by omega
      have hv : Hid (befB l k s = false) := decide_eq_false (fun h => h (find_take Ha.out))
      go_wp2_with fail
      go_ret
      exact ⟨by rw [hv.out]; try rfl, rfl⟩
    case pos =>
      have c0 : (k : Int) < (n : Int) := by omega
      have c1 : (k : Int) < (l.length : Int) := by omega
      obtain ⟨x, hx⟩ : ∃ x, l[k]? = some x := ⟨_, List.getElem?_eq_getElem (by omega)⟩
      obtain ⟨b, off, rfl, hb, hc⟩ := HL.out.at hx
      have t0 : w.cell? ⟨b, off + k, none⟩ = some (.string x) := (by have := hc 0 _ rfl; rw [Nat.mul_one, Nat.add_zero] at this; exact this)
      have HX := Lib.hid hx
      clear hx hc
      by_cases e : x = s
      · have e1 : (x.toList == s.toList) = true := list_eq e
        have hv : Hid (befB l n s = true) := decide_eq_true (find_in c (by rw [HX.out, e]))
        clear e
        go_wp2_with fail
        go_ret
        exact ⟨by rw [hv.out]; try rfl, rfl⟩
      · have e1 : (x.toList == s.toList) = false := list_ne e
        have HN := Lib.hid (Ha.out.next HX.out e)
        clear e
        go_wp2_with fail
        go_roundw
        case rel => exact ⟨k + 1, by omega, by congr 1, HN.out, by first | rfl | trivial⟩
        case measure => simp [intOf]; omega
theorem named_x (v : Value) (l : List B) (i : Nat) (s : B) (w : World) (h : SAt w v l) (hl : Sz l.length) (hx : l[i]? = some s) :
    Calls Tryz.prog 135 #[v, .int .i64 (i : Int)] w fun r w' => r = .returned (.int .i64 (nmE (l.take i) s true)) ∧ w = w' := by
  obtain ⟨a, cap, rfl⟩ := h.shape
  have HL := Lib.hid h
  have hi := (List.getElem?_eq_some_iff.1 hx).1
  have i0 : (0 : Int) ≤ (i : Int) := by omega
  have i1 : (i : Int) < (l.length : Int) := by omega
  obtain ⟨b, off, rfl, hb, hc⟩ := h.at hx
  have t0 : w.cell? ⟨b, off + i, none⟩ = some (.string s) := (by have := hc 0 _ rfl; rw [Nat.mul_one, Nat.add_zero] at this; exact this)
  clear h hx hc
  go_enter Tryz.func135, Tryz.ntmps135
  go_wp2_with fail
  refine (Name_x s _).mono ?_
  rintro r w1 ⟨rfl, rfl⟩
  cases e : nameB s with
  | false =>
    have hv : Hid (nmE (l.take i) s true = 2) := nmE_form e
    clear e
    go_wp2_with fail
    go_ret
    exact ⟨by rw [hv.out]; try rfl, rfl⟩
  | true =>
    have E := Lib.hid e
    clear e
    go_wp2_with fail
    refine (Before_x _ l i s _ HL.out hl (Nat.le_of_lt hi)).mono ?_
    rintro r w1 ⟨rfl, rfl⟩
    cases e : befB l i s with
    | true =>
      have hv : Hid (nmE (l.take i) s true = 5) := nmE_twice E.out (of_decide_eq_true e)
      clear e
      go_wp2_with fail
      go_ret
      exact ⟨by rw [hv.out]; try rfl, rfl⟩
    | false =>
      have hv : Hid (nmE (l.take i) s true = 0) := nmE_ok E.out (Decidable.of_not_not (of_decide_eq_false e)) rfl
      clear e
      go_wp2_with fail
      go_ret
      exact ⟨by rw [hv.out]; try rfl, rfl⟩

def SiRel (p : Int → Bool) (l : List Int) (w : World) (i : Value) (wr : World) : Prop := ∃ k : Nat, k ≤ l.length ∧ i = .int .i64 (k : Int) ∧ (∀ i, i < k → p (l.getD i 0) = true ∧ (0 < i → l.getD (i - 1) 0 < l.getD i 0)) ∧ Below w.heap.size w wr
theorem i_get {l : List Int} {k n cap : Nat} {a : Option Addr} {w : World} (h : IAt w (.slice a n cap) l) (hk : k < l.length) :
    ∃ b off y, a = some ⟨b, off, none⟩ ∧ l[k]? = some y ∧ b < w.heap.size ∧ w.cell? ⟨b, off + k, none⟩ = some (.int .i64 y) := by
  obtain ⟨b, off, e, hlt, hc⟩ := h.at (List.getElem?_eq_getElem hk)
  refine ⟨b, off, _, e, List.getElem?_eq_getElem hk, hlt, ?_⟩
  have := hc 0 _ rfl
  rw [Nat.mul_one, Nat.add_zero] at this
  exact this
set_option maxHeartbeats 1600000 in
theorem Rising_x (v : Value) (l : List Int) (lo hi : Int) (w : World) (h : IAt w v l) (hl : Sz l.length) :
    Calls Tryz.prog 168 #[v, .int .i64 lo, .int .i64 hi] w fun r w' => r = .returned (.bool (risesB (fun n => wi n lo hi) l)) ∧ Below w.heap.size w w' := by
  obtain ⟨a, cap, rfl⟩ := h.shape
  have HL := Lib.hid h
  clear h
  go_enter Tryz.func168, Tryz.ntmps168
  go_wp2_with fail
  go_loopw [7] (fun i wr => SiRel (fun n => wi n lo hi) l w i wr) (fun i _ => l.length - (intOf i).toNat)
  case atStart => exact ⟨0, Nat.zero_le _, rfl, fun j hj => by omega, Below.refl _ _⟩
  case round =>
    obtain ⟨k, hk, rfl, hall, hbw⟩ := hrel
    have Ha := Lib.hid hall
    have HB := Lib.hid hbw
    have k0 : (0 : Int) ≤ (k : Int) := by omega
    clear hall hbw
    by_cases c : k < l.length
    case neg =>
      have c0 : ¬ (k : Int) < (l.length : Int) := by omega
      have hv : Hid (risesB (fun n => wi n lo hi) l = true) := rises_iff.2 (fun i h => Ha.out i (by omega))
      go_wp2_with fail
      go_ret
      exact ⟨by rw [hv.out]; try rfl, HB.out⟩
    case pos =>
      have c0 : (k : Int) < (l.length : Int) := by omega
      have HW := HL.out.next HB.out
      by_cases kz : k = 0
      · subst kz
        obtain ⟨b, off, y, rfl, hy, hb, t1⟩ := i_get HW c
        have HY := Lib.hid hy
        clear hy HW
        rw [Nat.add_zero] at t1
        go_wp2_with fail
        refine (Within_x y lo hi _).mono ?_
        rintro r w1 ⟨rfl, rfl⟩
        cases hp : wi y lo hi with
        | false =>
          have hv : Hid (risesB (fun n => wi n lo hi) l = false) := rises_not HY.out (fun h => by have := h.1; rw [hp] at this; cases this)
          clear hp
          go_wp2_with fail
          go_ret
          exact ⟨by rw [hv.out]; try rfl, by first | exact HB.out | exact below_drewN HB.out _⟩
        | true =>
          have HP : Hid ((fun n => wi n lo hi) y = true) := hp
          clear hp
          go_wp2_with fail
          go_quiet (fail)
          have HN := Lib.hid (rises_next (p := fun n => wi n lo hi) Ha.out HY.out HP.out (fun h => by omega))
          go_wp2_with fail
          go_roundw
          case rel => exact ⟨0 + 1, by omega, by congr 1, HN.out, by first | exact HB.out | exact below_drewN HB.out _⟩
          case measure => simp [intOf]; omega
      · obtain ⟨m, hkm⟩ : ∃ m, k = m + 1 := ⟨k - 1, by omega⟩
        have cm : m < l.length := by omega
        obtain ⟨b2, off2, z, eb, hz, -, t2⟩ := i_get HW cm
        obtain ⟨b, off, y, rfl, hy, hb, t1⟩ := i_get HW c
        simp only [Option.some.injEq, Addr.mk.injEq, and_true] at eb
        obtain ⟨rfl, rfl⟩ := eb
        have e0 : (k : Int) - 1 = (m : Int) := by omega
        have m0 : (0 : Int) ≤ (m : Int) := by omega
        have m1 : (m : Int) < (l.length : Int) := by omega
        have m2 : 0 < (k : Int) := by omega
        have hzd : l.getD (k - 1) 0 = z := by rw [show k - 1 = m by omega, List.getD_eq_getElem?_getD, hz]; rfl
        have HZ := Lib.hid hzd
        have HY := Lib.hid hy
        have hkm' := Lib.hid hkm
        clear hy hz hzd hkm kz HW
        go_wp2_with fail
        refine (Within_x y lo hi _).mono ?_
        rintro r w1 ⟨rfl, rfl⟩
        cases hp : wi y lo hi with
        | false =>
          have hv : Hid (risesB (fun n => wi n lo hi) l = false) := rises_not HY.out (fun h => by have := h.1; rw [hp] at this; cases this)
          clear hp
          go_wp2_with fail
          go_ret
          exact ⟨by rw [hv.out]; try rfl, by first | exact HB.out | exact below_drewN HB.out _⟩
        | true =>
          have HP : Hid ((fun n => wi n lo hi) y = true) := hp
          clear hp
          have dk : decide (0 < k) = true := decide_eq_true (by omega)
          by_cases g : z < y
          · have g' : ¬ y ≤ z := by omega
            have d1 : decide (y ≤ z) = false := decide_eq_false g'
            go_wp2_with fail
            go_quiet (fail)
            have HN := Lib.hid (rises_next (p := fun n => wi n lo hi) Ha.out HY.out HP.out (fun _ => by rw [HZ.out]; exact g))
            go_wp2_with fail
            go_roundw
            case rel => exact ⟨k + 1, by omega, by congr 1, HN.out, by first | exact HB.out | exact below_drewN HB.out _⟩
            case measure => simp [intOf]; omega
          · have g' : y ≤ z := by omega
            have d1 : decide (y ≤ z) = true := decide_eq_true g'
            go_wp2_with fail
            go_quiet (fail)
            have hv : Hid (risesB (fun n => wi n lo hi) l = false) := rises_not HY.out (fun h => by have := h.2 (by have := hkm'.out; omega); rw [HZ.out] at this; omega)
            go_wp2_with fail
            go_ret
            exact ⟨by rw [hv.out]; try rfl, by first | exact HB.out | exact below_drewN HB.out _⟩

end Go.Proofs.YtcjakgpmompaiaaGreatDoor
