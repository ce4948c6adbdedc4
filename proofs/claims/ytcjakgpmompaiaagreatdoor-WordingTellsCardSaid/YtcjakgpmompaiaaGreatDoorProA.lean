/-
  The program: isName, rises, the functions of names, find.
-/
import Derived.Test.YtcjakgpmompaiaaGreatDoorMem
import Derived.Lib.ConvBytes
namespace Go.Proofs.YtcjakgpmompaiaaGreatDoor
open Go.RowKit Rl

theorem bf {a b : Int} (h : a ≠ b) : (a == b) = false := beq_eq_false_iff_ne.2 h
theorem bt {a b : Int} (h : a = b) : (a == b) = true := beq_iff_eq.2 h
theorem nbf {a b : Int} (h : a = b) : (a != b) = false := by subst h; simp
theorem nbt {a b : Int} (h : a ≠ b) : (a != b) = true := bne_iff_ne.2 h
theorem below_bytes (w : World) (e : TypeId) (s : B) : Below w.heap.size w (Lib.bytesWorld w e s) := by
  refine ⟨?_, ?_, ?_, ?_, fun j hj => Lib.bytesWorld_at_old w e s j hj⟩
  all_goals simp [Lib.bytesWorld, World.freeze, World.alloc, World.drew, -World.alloc_eq, -World.drew_eq]
theorem ok_next {s : B} {k : Nat} (h : ∀ i, (h : i < s.size) → i < k → okAt s i h) (hk : k < s.size) (h1 : okAt s k hk) : ∀ i, (h : i < s.size) → i < k + 1 → okAt s i h := by
  intro i hi hik
  by_cases c : i = k
  · subst c; exact h1
  · exact h i hi (by omega)
def NRel (s : B) (w : World) (i : Value) (wr : World) : Prop := ∃ k : Nat, k ≤ s.size ∧ i = .int .i64 (k : Int) ∧ (∀ i, (h : i < s.size) → i < k → okAt s i h) ∧ wr = Lib.bytesWorld w 5 s
set_option maxRecDepth 100000 in
theorem isName_x (s : B) (w : World) :
    Calls Tryz.prog 156 #[.string s] w fun r w' => r = .returned (.bool (nameB s)) ∧ Below w.heap.size w w' := by
  have kc := fun (w : World) => Lib.run_convert_string_bytes (P := Tryz.prog) w 9 164 5 s Tryz.underlying9 Tryz.underlying164 Tryz.underlying5
  by_cases t1 : s.size = 0
  · obtain rfl : s = ByteArray.empty := by
      apply ByteArray.ext; apply Array.eq_empty_of_size_eq_zero; exact t1
    have hv : Hid (nameB ByteArray.empty = false) := name_no (fun h => by have := h.1.1; simp at this)
    go_enter Tryz.func156, Tryz.ntmps156
    go_wp2_with fail
    go_ret
    exact ⟨by rw [hv.out]; try rfl, Below.refl _ _⟩
  by_cases t2 : 20 < s.size
  · have hv : Hid (nameB s = false) := name_no (fun h => by have := h.1.2; omega)
    have f1 : ((s.size : Int) == 0) = false := bf (by omega)
    have f2 : 20 < (s.size : Int) := by omega
    go_enter Tryz.func156, Tryz.ntmps156
    go_wp2_with fail
    go_ret
    exact ⟨by rw [hv.out]; try rfl, Below.refl _ _⟩
  have f1 : ((s.size : Int) == 0) = false := bf (by omega)
  have f2 : ¬ 20 < (s.size : Int) := by omega
  have f3 : 0 < s.size := by omega
  cases hl : letB s[0] with
  | false =>
    have hv : Hid (nameB s = false) := name_no (fun h => by have := (h.2 0 f3).2 rfl; rw [hl] at this; cases this)
    have Hl := Lib.hid hl
    clear hl
    go_enter Tryz.func156, Tryz.ntmps156
    go_wp2_with fail
    refine (isLetter_x s[0] _).mono ?_
    rintro r w1 ⟨rfl, rfl⟩
    rw [Hl.out]
    go_wp2_with fail
    go_ret
    exact ⟨by rw [hv.out]; try rfl, Below.refl _ _⟩
  | true =>
    have Hl := Lib.hid hl
    clear hl
    go_enter Tryz.func156, Tryz.ntmps156
    go_wp2_with fail
    refine (isLetter_x s[0] _).mono ?_
    rintro r w1 ⟨rfl, rfl⟩
    rw [Hl.out]
    go_wp2_with fail
    go_loopw [22] (fun i wr => NRel s w i wr) (fun i _ => s.size - (intOf i).toNat)
    case atStart => exact ⟨0, Nat.zero_le _, rfl, fun j h hj => by omega, rfl⟩
    case round =>
      obtain ⟨k, hk, rfl, hall, rfl⟩ := hrel
      have Ha := Lib.hid hall
      have k0 : (0 : Int) ≤ (k : Int) := by omega
      clear hall
      by_cases c : k < s.size
      case neg =>
        have c0 : ¬ (k : Int) < (s.size : Int) := by omega
        have hv : Hid (nameB s = true) := name_iff.2 ⟨by omega, fun i h => Ha.out i h (by omega)⟩
        go_wp2_with fail
        go_ret
        exact ⟨by rw [hv.out]; try rfl, below_bytes w _ s⟩
      case pos =>
        have c0 : (k : Int) < (s.size : Int) := by omega
        have c1 : (Lib.bytesWorld w 5 s).cell? ⟨w.heap.size, k, none⟩ = some (.int .u8 (s[k].toNat : Int)) := by
          rw [Lib.bytesWorld_cell w _ s k c]
          congr 3
          rw [List.getD_eq_getElem?_getD, List.getElem?_eq_getElem (by simpa using c)]
          rfl
        obtain ⟨q1, q2⟩ := byte_le s[k]
        have hz : k = 0 → letB s[k] = true := by rintro rfl; exact Hl.out
        have HZ := Lib.hid hz
        clear hz
        cases hc : letB s[k] with
        | true =>
          have Hc := Lib.hid hc
          have hm : Hid (morB s[k] = true) := by show _ = _; simp [morB, hc]
          clear hc
          have HN := Lib.hid (ok_next Ha.out c ⟨hm.out, HZ.out⟩)
          go_wp2_with fail
          refine (isLetter_x s[k] _).mono ?_
          rintro r w1 ⟨rfl, rfl⟩
          rw [Hc.out]
          go_wp2_with fail
          go_roundw
          case rel => exact ⟨k + 1, by omega, by congr 1, HN.out, rfl⟩
          case measure => simp [intOf]; omega
        | false =>
          have Hc := Lib.hid hc
          clear hc
          by_cases g1 : (s[k].toNat : Int) = 95
          · have g1' : ((s[k].toNat : Int) != 95) = false := nbf g1
            have hm : Hid (morB s[k] = true) := by show _ = _; simp [morB, Hc.out]; omega
            clear g1
            have HN := Lib.hid (ok_next Ha.out c ⟨hm.out, HZ.out⟩)
            go_wp2_with fail
            refine (isLetter_x s[k] _).mono ?_
            rintro r w1 ⟨rfl, rfl⟩
            rw [Hc.out]
            go_wp2_with fail
            go_roundw
            case rel => exact ⟨k + 1, by omega, by congr 1, HN.out, rfl⟩
            case measure => simp [intOf]; omega
          have g1' : ((s[k].toNat : Int) != 95) = true := nbt g1
          by_cases g2 : (s[k].toNat : Int) < 48
          · have hm : Hid (morB s[k] = false) := by show _ = _; simp [morB, Hc.out]; omega
            have hv : Hid (nameB s = false) := name_no (fun h => by have := (h.2 k c).1; rw [hm.out] at this; cases this)
            go_wp2_with fail
            refine (isLetter_x s[k] _).mono ?_
            rintro r w1 ⟨rfl, rfl⟩
            rw [Hc.out]
            go_wp2_with fail
            go_ret
            exact ⟨by rw [hv.out]; try rfl, below_bytes w _ s⟩
          by_cases g3 : 57 < (s[k].toNat : Int)
          · have hm : Hid (morB s[k] = false) := by show _ = _; simp [morB, Hc.out]; omega
            have hv : Hid (nameB s = false) := name_no (fun h => by have := (h.2 k c).1; rw [hm.out] at this; cases this)
            go_wp2_with fail
            refine (isLetter_x s[k] _).mono ?_
            rintro r w1 ⟨rfl, rfl⟩
            rw [Hc.out]
            go_wp2_with fail
            go_ret
            exact ⟨by rw [hv.out]; try rfl, below_bytes w _ s⟩
          have hm : Hid (morB s[k] = true) := by show _ = _; simp [morB, Hc.out]; omega
          have HN := Lib.hid (ok_next Ha.out c ⟨hm.out, HZ.out⟩)
          go_wp2_with fail
          refine (isLetter_x s[k] _).mono ?_
          rintro r w1 ⟨rfl, rfl⟩
          rw [Hc.out]
          go_wp2_with fail
          go_roundw
          case rel => exact ⟨k + 1, by omega, by congr 1, HN.out, rfl⟩
          case measure => simp [intOf]; omega
theorem rises_next {p : Int → Bool} {l : List Int} {k : Nat} {y : Int} (h : ∀ i, i < k → p (l.getD i 0) = true ∧ (0 < i → l.getD (i - 1) 0 < l.getD i 0)) (hy : l[k]? = some y) (h1 : p y = true) (h2 : 0 < k → l.getD (k - 1) 0 < y) : ∀ i, i < k + 1 → p (l.getD i 0) = true ∧ (0 < i → l.getD (i - 1) 0 < l.getD i 0) := by
  intro i hi
  by_cases c : i = k
  · subst c
    have e : l.getD i 0 = y := by rw [List.getD_eq_getElem?_getD, hy]; rfl
    rw [e]
    exact ⟨h1, h2⟩
  · exact h i (by omega)
theorem rises_not {p : Int → Bool} {l : List Int} {k : Nat} {y : Int} (hy : l[k]? = some y) (h : ¬ (p y = true ∧ (0 < k → l.getD (k - 1) 0 < y))) : risesB p l = false := by
  refine rises_no (i := k) (List.getElem?_eq_some_iff.1 hy).1 ?_
  have e : l.getD k 0 = y := by rw [List.getD_eq_getElem?_getD, hy]; rfl
  rw [e]
  exact h
theorem getD_at {l : List Int} {k : Nat} (h : k < l.length) : l[k]? = some (l.getD k 0) := by rw [List.getD_eq_getElem?_getD, List.getElem?_eq_getElem h]; rfl
def SRel (p : Int → Bool) (l : List Int) (w : World) (i : Value) (wr : World) : Prop := ∃ k : Nat, k ≤ l.length ∧ i = .int .i64 (k : Int) ∧ (∀ i, i < k → p (l.getD i 0) = true ∧ (0 < i → l.getD (i - 1) 0 < l.getD i 0)) ∧ w = wr
theorem i_at {l : List Int} {k : Nat} {a : Option Addr} {w : World} (h : ∀ (j : Nat) (x : Int), l[j]? = some x → ∃ b off, a = some ⟨b, off, none⟩ ∧ b < w.heap.size ∧ ∀ (i : Nat) (y : Value), (cInt x)[i]? = some y → w.cell? ⟨b, off + j * 1 + i, none⟩ = some y) (hk : k < l.length) :
    ∃ b off y, a = some ⟨b, off, none⟩ ∧ l[k]? = some y ∧ b < w.heap.size ∧ w.cell? ⟨b, off + k, none⟩ = some (.int .i64 y) := by
  obtain ⟨b, off, e, hlt, hc⟩ := h k _ (List.getElem?_eq_getElem hk)
  refine ⟨b, off, _, e, List.getElem?_eq_getElem hk, hlt, ?_⟩
  have := hc 0 _ rfl
  rw [Nat.mul_one, Nat.add_zero] at this
  exact this
set_option maxHeartbeats 1600000 in
theorem risesWk_x (v : Value) (l : List Int) (w : World) (h : IAt w v l) (hl : Sz l.length) :
    Calls Tryz.prog 102 #[v, .func (.func 103) #[] #[]] w fun r w' => r = .returned (.bool (risesB wkB l)) ∧ w = w' := by
  obtain ⟨a, cap, rfl, -, HC⟩ := h.form
  clear h
  go_enter Tryz.func102, Tryz.ntmps102
  go_wp2_with fail
  go_loopw [9] (fun i wr => SRel wkB l w i wr) (fun i _ => l.length - (intOf i).toNat)
  case atStart => exact ⟨0, Nat.zero_le _, rfl, fun j hj => by omega, rfl⟩
  case round =>
    obtain ⟨k, hk, rfl, hall, rfl⟩ := hrel
    have Ha := Lib.hid hall
    have k0 : (0 : Int) ≤ (k : Int) := by omega
    clear hall
    by_cases c : k < l.length
    case neg =>
      have c0 : ¬ (k : Int) < (l.length : Int) := by omega
      have hv : Hid (risesB wkB l = true) := rises_iff.2 (fun i h => Ha.out i (by omega))
      go_wp2_with fail
      go_ret
      exact ⟨by rw [hv.out]; try rfl, rfl⟩
    case pos =>
      have c0 : (k : Int) < (l.length : Int) := by omega
      by_cases kz : k = 0
      · subst kz
        obtain ⟨b, off, y, rfl, hy, hb, t1⟩ := i_at HC.out c
        have HY := Lib.hid hy

        clear hy
        rw [Nat.add_zero] at t1
        cases hp : wkB y with
        | false =>
          have HP := Lib.hid hp
          clear hp
          have hv : Hid (risesB wkB l = false) := rises_not HY.out (fun h => by have := h.1; rw [HP.out] at this; cases this)
          go_wp2_with fail
          refine (isWeekday_x y _).mono ?_
          rintro r w1 ⟨rfl, rfl⟩
          rw [HP.out]
          go_wp2_with fail
          go_ret
          exact ⟨by rw [hv.out]; try rfl, rfl⟩
        | true =>
          have HP := Lib.hid hp
          clear hp
          have HN := Lib.hid (rises_next Ha.out HY.out HP.out (fun h => by omega))
          go_wp2_with fail
          refine (isWeekday_x y _).mono ?_
          rintro r w1 ⟨rfl, rfl⟩
          rw [HP.out]
          go_wp2_with fail
          go_roundw
          case rel => exact ⟨0 + 1, by omega, by congr 1, HN.out, rfl⟩
          case measure => simp [intOf]; omega
      · obtain ⟨m, hkm⟩ : ∃ m, k = m + 1 := ⟨k - 1, by omega⟩
        have cm : m < l.length := by omega
        obtain ⟨b2, off2, z, eb, hz, -, t2⟩ := i_at HC.out cm
        obtain ⟨b, off, y, rfl, hy, hb, t1⟩ := i_at HC.out c
        simp only [Option.some.injEq, Addr.mk.injEq, and_true] at eb
        obtain ⟨rfl, rfl⟩ := eb
        have e0 : (k : Int) - 1 = (m : Int) := by omega
        have m0 : (0 : Int) ≤ (m : Int) := by omega
        have m1 : (m : Int) < (l.length : Int) := by omega
        have m2 : 0 < (k : Int) := by omega
        have hzd : l.getD (k - 1) 0 = z := by rw [show k - 1 = m by omega, List.getD_eq_getElem?_getD, hz]; rfl
        have HZ := Lib.hid hzd
        have HY := Lib.hid hy

        have hkm' := Lib.hid hkm
        clear hy hz hzd hkm kz
        cases hp : wkB y with
        | false =>
          have HP := Lib.hid hp
          clear hp
          have hv : Hid (risesB wkB l = false) := rises_not HY.out (fun h => by have := h.1; rw [HP.out] at this; cases this)
          go_wp2_with fail
          refine (isWeekday_x y _).mono ?_
          rintro r w1 ⟨rfl, rfl⟩
          rw [HP.out]
          go_wp2_with fail
          go_ret
          exact ⟨by rw [hv.out]; try rfl, rfl⟩
        | true =>
          have HP := Lib.hid hp
          clear hp
          by_cases g : z < y
          · have g' : ¬ y ≤ z := by omega
            have HN := Lib.hid (rises_next Ha.out HY.out HP.out (fun _ => by rw [HZ.out]; exact g))
            go_wp2_with fail
            refine (isWeekday_x y _).mono ?_
            rintro r w1 ⟨rfl, rfl⟩
            rw [HP.out]
            go_wp2_with fail
            go_roundw
            case rel => exact ⟨k + 1, by omega, by congr 1, HN.out, rfl⟩
            case measure => simp [intOf]; omega
          · have g' : y ≤ z := by omega
            have hv : Hid (risesB wkB l = false) := rises_not HY.out (fun h => by have := h.2 (by have := hkm'.out; omega); rw [HZ.out] at this; omega)
            go_wp2_with fail
            refine (isWeekday_x y _).mono ?_
            rintro r w1 ⟨rfl, rfl⟩
            rw [HP.out]
            go_wp2_with fail
            go_ret
            exact ⟨by rw [hv.out]; try rfl, rfl⟩
set_option maxHeartbeats 1600000 in
theorem risesDay_x (v : Value) (l : List Int) (w : World) (h : IAt w v l) (hl : Sz l.length) :
    Calls Tryz.prog 102 #[v, .func (.func 105) #[] #[]] w fun r w' => r = .returned (.bool (risesB dayB l)) ∧ w = w' := by
  obtain ⟨a, cap, rfl, -, HC⟩ := h.form
  clear h
  go_enter Tryz.func102, Tryz.ntmps102
  go_wp2_with fail
  go_loopw [9] (fun i wr => SRel dayB l w i wr) (fun i _ => l.length - (intOf i).toNat)
  case atStart => exact ⟨0, Nat.zero_le _, rfl, fun j hj => by omega, rfl⟩
  case round =>
    obtain ⟨k, hk, rfl, hall, rfl⟩ := hrel
    have Ha := Lib.hid hall
    have k0 : (0 : Int) ≤ (k : Int) := by omega
    clear hall
    by_cases c : k < l.length
    case neg =>
      have c0 : ¬ (k : Int) < (l.length : Int) := by omega
      have hv : Hid (risesB dayB l = true) := rises_iff.2 (fun i h => Ha.out i (by omega))
      go_wp2_with fail
      go_ret
      exact ⟨by rw [hv.out]; try rfl, rfl⟩
    case pos =>
      have c0 : (k : Int) < (l.length : Int) := by omega
      by_cases kz : k = 0
      · subst kz
        obtain ⟨b, off, y, rfl, hy, hb, t1⟩ := i_at HC.out c
        have HY := Lib.hid hy

        clear hy
        rw [Nat.add_zero] at t1
        cases hp : dayB y with
        | false =>
          have HP := Lib.hid hp
          clear hp
          have hv : Hid (risesB dayB l = false) := rises_not HY.out (fun h => by have := h.1; rw [HP.out] at this; cases this)
          go_wp2_with fail
          refine (isDay_x y _).mono ?_
          rintro r w1 ⟨rfl, rfl⟩
          rw [HP.out]
          go_wp2_with fail
          go_ret
          exact ⟨by rw [hv.out]; try rfl, rfl⟩
        | true =>
          have HP := Lib.hid hp
          clear hp
          have HN := Lib.hid (rises_next Ha.out HY.out HP.out (fun h => by omega))
          go_wp2_with fail
          refine (isDay_x y _).mono ?_
          rintro r w1 ⟨rfl, rfl⟩
          rw [HP.out]
          go_wp2_with fail
          go_roundw
          case rel => exact ⟨0 + 1, by omega, by congr 1, HN.out, rfl⟩
          case measure => simp [intOf]; omega
      · obtain ⟨m, hkm⟩ : ∃ m, k = m + 1 := ⟨k - 1, by omega⟩
        have cm : m < l.length := by omega
        obtain ⟨b2, off2, z, eb, hz, -, t2⟩ := i_at HC.out cm
        obtain ⟨b, off, y, rfl, hy, hb, t1⟩ := i_at HC.out c
        simp only [Option.some.injEq, Addr.mk.injEq, and_true] at eb
        obtain ⟨rfl, rfl⟩ := eb
        have e0 : (k : Int) - 1 = (m : Int) := by omega
        have m0 : (0 : Int) ≤ (m : Int) := by omega
        have m1 : (m : Int) < (l.length : Int) := by omega
        have m2 : 0 < (k : Int) := by omega
        have hzd : l.getD (k - 1) 0 = z := by rw [show k - 1 = m by omega, List.getD_eq_getElem?_getD, hz]; rfl
        have HZ := Lib.hid hzd
        have HY := Lib.hid hy

        have hkm' := Lib.hid hkm
        clear hy hz hzd hkm kz
        cases hp : dayB y with
        | false =>
          have HP := Lib.hid hp
          clear hp
          have hv : Hid (risesB dayB l = false) := rises_not HY.out (fun h => by have := h.1; rw [HP.out] at this; cases this)
          go_wp2_with fail
          refine (isDay_x y _).mono ?_
          rintro r w1 ⟨rfl, rfl⟩
          rw [HP.out]
          go_wp2_with fail
          go_ret
          exact ⟨by rw [hv.out]; try rfl, rfl⟩
        | true =>
          have HP := Lib.hid hp
          clear hp
          by_cases g : z < y
          · have g' : ¬ y ≤ z := by omega
            have HN := Lib.hid (rises_next Ha.out HY.out HP.out (fun _ => by rw [HZ.out]; exact g))
            go_wp2_with fail
            refine (isDay_x y _).mono ?_
            rintro r w1 ⟨rfl, rfl⟩
            rw [HP.out]
            go_wp2_with fail
            go_roundw
            case rel => exact ⟨k + 1, by omega, by congr 1, HN.out, rfl⟩
            case measure => simp [intOf]; omega
          · have g' : y ≤ z := by omega
            have hv : Hid (risesB dayB l = false) := rises_not HY.out (fun h => by have := h.2 (by have := hkm'.out; omega); rw [HZ.out] at this; omega)
            go_wp2_with fail
            refine (isDay_x y _).mono ?_
            rintro r w1 ⟨rfl, rfl⟩
            rw [HP.out]
            go_wp2_with fail
            go_ret
            exact ⟨by rw [hv.out]; try rfl, rfl⟩
set_option maxHeartbeats 1600000 in
theorem risesQu_x (v : Value) (l : List Int) (w : World) (h : IAt w v l) (hl : Sz l.length) :
    Calls Tryz.prog 102 #[v, .func (.func 121) #[] #[]] w fun r w' => r = .returned (.bool (risesB quB l)) ∧ w = w' := by
  obtain ⟨a, cap, rfl, -, HC⟩ := h.form
  clear h
  go_enter Tryz.func102, Tryz.ntmps102
  go_wp2_with fail
  go_loopw [9] (fun i wr => SRel quB l w i wr) (fun i _ => l.length - (intOf i).toNat)
  case atStart => exact ⟨0, Nat.zero_le _, rfl, fun j hj => by omega, rfl⟩
  case round =>
    obtain ⟨k, hk, rfl, hall, rfl⟩ := hrel
    have Ha := Lib.hid hall
    have k0 : (0 : Int) ≤ (k : Int) := by omega
    clear hall
    by_cases c : k < l.length
    case neg =>
      have c0 : ¬ (k : Int) < (l.length : Int) := by omega
      have hv : Hid (risesB quB l = true) := rises_iff.2 (fun i h => Ha.out i (by omega))
      go_wp2_with fail
      go_ret
      exact ⟨by rw [hv.out]; try rfl, rfl⟩
    case pos =>
      have c0 : (k : Int) < (l.length : Int) := by omega
      by_cases kz : k = 0
      · subst kz
        obtain ⟨b, off, y, rfl, hy, hb, t1⟩ := i_at HC.out c
        have HY := Lib.hid hy

        clear hy
        rw [Nat.add_zero] at t1
        cases hp : quB y with
        | false =>
          have HP := Lib.hid hp
          clear hp
          have hv : Hid (risesB quB l = false) := rises_not HY.out (fun h => by have := h.1; rw [HP.out] at this; cases this)
          go_wp2_with fail
          refine (isQuestion_x y _).mono ?_
          rintro r w1 ⟨rfl, rfl⟩
          rw [HP.out]
          go_wp2_with fail
          go_ret
          exact ⟨by rw [hv.out]; try rfl, rfl⟩
        | true =>
          have HP := Lib.hid hp
          clear hp
          have HN := Lib.hid (rises_next Ha.out HY.out HP.out (fun h => by omega))
          go_wp2_with fail
          refine (isQuestion_x y _).mono ?_
          rintro r w1 ⟨rfl, rfl⟩
          rw [HP.out]
          go_wp2_with fail
          go_roundw
          case rel => exact ⟨0 + 1, by omega, by congr 1, HN.out, rfl⟩
          case measure => simp [intOf]; omega
      · obtain ⟨m, hkm⟩ : ∃ m, k = m + 1 := ⟨k - 1, by omega⟩
        have cm : m < l.length := by omega
        obtain ⟨b2, off2, z, eb, hz, -, t2⟩ := i_at HC.out cm
        obtain ⟨b, off, y, rfl, hy, hb, t1⟩ := i_at HC.out c
        simp only [Option.some.injEq, Addr.mk.injEq, and_true] at eb
        obtain ⟨rfl, rfl⟩ := eb
        have e0 : (k : Int) - 1 = (m : Int) := by omega
        have m0 : (0 : Int) ≤ (m : Int) := by omega
        have m1 : (m : Int) < (l.length : Int) := by omega
        have m2 : 0 < (k : Int) := by omega
        have hzd : l.getD (k - 1) 0 = z := by rw [show k - 1 = m by omega, List.getD_eq_getElem?_getD, hz]; rfl
        have HZ := Lib.hid hzd
        have HY := Lib.hid hy

        have hkm' := Lib.hid hkm
        clear hy hz hzd hkm kz
        cases hp : quB y with
        | false =>
          have HP := Lib.hid hp
          clear hp
          have hv : Hid (risesB quB l = false) := rises_not HY.out (fun h => by have := h.1; rw [HP.out] at this; cases this)
          go_wp2_with fail
          refine (isQuestion_x y _).mono ?_
          rintro r w1 ⟨rfl, rfl⟩
          rw [HP.out]
          go_wp2_with fail
          go_ret
          exact ⟨by rw [hv.out]; try rfl, rfl⟩
        | true =>
          have HP := Lib.hid hp
          clear hp
          by_cases g : z < y
          · have g' : ¬ y ≤ z := by omega
            have HN := Lib.hid (rises_next Ha.out HY.out HP.out (fun _ => by rw [HZ.out]; exact g))
            go_wp2_with fail
            refine (isQuestion_x y _).mono ?_
            rintro r w1 ⟨rfl, rfl⟩
            rw [HP.out]
            go_wp2_with fail
            go_roundw
            case rel => exact ⟨k + 1, by omega, by congr 1, HN.out, rfl⟩
            case measure => simp [intOf]; omega
          · have g' : y ≤ z := by omega
            have hv : Hid (risesB quB l = false) := rises_not HY.out (fun h => by have := h.2 (by have := hkm'.out; omega); rw [HZ.out] at this; omega)
            go_wp2_with fail
            refine (isQuestion_x y _).mono ?_
            rintro r w1 ⟨rfl, rfl⟩
            rw [HP.out]
            go_wp2_with fail
            go_ret
            exact ⟨by rw [hv.out]; try rfl, rfl⟩
set_option maxHeartbeats 1600000 in
theorem risesFs_x (v : Value) (l : List Int) (w : World) (h : IAt w v l) (hl : Sz l.length) (hi : ∀ n ∈ l, I64 n) :
    Calls Tryz.prog 102 #[v, .func (.func 104) #[] #[]] w fun r w' => r = .returned (.bool (risesB fsB l)) ∧ w = w' := by
  obtain ⟨a, cap, rfl, -, HC⟩ := h.form
  clear h
  go_enter Tryz.func102, Tryz.ntmps102
  go_wp2_with fail
  go_loopw [9] (fun i wr => SRel fsB l w i wr) (fun i _ => l.length - (intOf i).toNat)
  case atStart => exact ⟨0, Nat.zero_le _, rfl, fun j hj => by omega, rfl⟩
  case round =>
    obtain ⟨k, hk, rfl, hall, rfl⟩ := hrel
    have Ha := Lib.hid hall
    have k0 : (0 : Int) ≤ (k : Int) := by omega
    clear hall
    by_cases c : k < l.length
    case neg =>
      have c0 : ¬ (k : Int) < (l.length : Int) := by omega
      have hv : Hid (risesB fsB l = true) := rises_iff.2 (fun i h => Ha.out i (by omega))
      go_wp2_with fail
      go_ret
      exact ⟨by rw [hv.out]; try rfl, rfl⟩
    case pos =>
      have c0 : (k : Int) < (l.length : Int) := by omega
      by_cases kz : k = 0
      · subst kz
        obtain ⟨b, off, y, rfl, hy, hb, t1⟩ := i_at HC.out c
        have HY := Lib.hid hy
        have HI := hi y (List.mem_of_getElem? hy)
        clear hy
        rw [Nat.add_zero] at t1
        cases hp : fsB y with
        | false =>
          have HP := Lib.hid hp
          clear hp
          have hv : Hid (risesB fsB l = false) := rises_not HY.out (fun h => by have := h.1; rw [HP.out] at this; cases this)
          go_wp2_with fail
          refine (isFeast_x y _ HI).mono ?_
          rintro r w1 ⟨rfl, rfl⟩
          rw [HP.out]
          go_wp2_with fail
          go_ret
          exact ⟨by rw [hv.out]; try rfl, rfl⟩
        | true =>
          have HP := Lib.hid hp
          clear hp
          have HN := Lib.hid (rises_next Ha.out HY.out HP.out (fun h => by omega))
          go_wp2_with fail
          refine (isFeast_x y _ HI).mono ?_
          rintro r w1 ⟨rfl, rfl⟩
          rw [HP.out]
          go_wp2_with fail
          go_roundw
          case rel => exact ⟨0 + 1, by omega, by congr 1, HN.out, rfl⟩
          case measure => simp [intOf]; omega
      · obtain ⟨m, hkm⟩ : ∃ m, k = m + 1 := ⟨k - 1, by omega⟩
        have cm : m < l.length := by omega
        obtain ⟨b2, off2, z, eb, hz, -, t2⟩ := i_at HC.out cm
        obtain ⟨b, off, y, rfl, hy, hb, t1⟩ := i_at HC.out c
        simp only [Option.some.injEq, Addr.mk.injEq, and_true] at eb
        obtain ⟨rfl, rfl⟩ := eb
        have e0 : (k : Int) - 1 = (m : Int) := by omega
        have m0 : (0 : Int) ≤ (m : Int) := by omega
        have m1 : (m : Int) < (l.length : Int) := by omega
        have m2 : 0 < (k : Int) := by omega
        have hzd : l.getD (k - 1) 0 = z := by rw [show k - 1 = m by omega, List.getD_eq_getElem?_getD, hz]; rfl
        have HZ := Lib.hid hzd
        have HY := Lib.hid hy
        have HI := hi y (List.mem_of_getElem? hy)
        have hkm' := Lib.hid hkm
        clear hy hz hzd hkm kz
        cases hp : fsB y with
        | false =>
          have HP := Lib.hid hp
          clear hp
          have hv : Hid (risesB fsB l = false) := rises_not HY.out (fun h => by have := h.1; rw [HP.out] at this; cases this)
          go_wp2_with fail
          refine (isFeast_x y _ HI).mono ?_
          rintro r w1 ⟨rfl, rfl⟩
          rw [HP.out]
          go_wp2_with fail
          go_ret
          exact ⟨by rw [hv.out]; try rfl, rfl⟩
        | true =>
          have HP := Lib.hid hp
          clear hp
          by_cases g : z < y
          · have g' : ¬ y ≤ z := by omega
            have HN := Lib.hid (rises_next Ha.out HY.out HP.out (fun _ => by rw [HZ.out]; exact g))
            go_wp2_with fail
            refine (isFeast_x y _ HI).mono ?_
            rintro r w1 ⟨rfl, rfl⟩
            rw [HP.out]
            go_wp2_with fail
            go_roundw
            case rel => exact ⟨k + 1, by omega, by congr 1, HN.out, rfl⟩
            case measure => simp [intOf]; omega
          · have g' : y ≤ z := by omega
            have hv : Hid (risesB fsB l = false) := rises_not HY.out (fun h => by have := h.2 (by have := hkm'.out; omega); rw [HZ.out] at this; omega)
            go_wp2_with fail
            refine (isFeast_x y _ HI).mono ?_
            rintro r w1 ⟨rfl, rfl⟩
            rw [HP.out]
            go_wp2_with fail
            go_ret
            exact ⟨by rw [hv.out]; try rfl, rfl⟩

end Go.Proofs.YtcjakgpmompaiaaGreatDoor

/-
  The program: the functions of names, find.
-/
namespace Go.Proofs.YtcjakgpmompaiaaGreatDoor
open Go.RowKit Rl

theorem LAt.at {T : Type} {w : World} {k n cap j : Nat} {c : T → List Value} {a : Option Addr} {l : List T} {x : T} (h : LAt w k c (.slice a n cap) l) (hx : l[j]? = some x) :
    ∃ b off, a = some ⟨b, off, none⟩ ∧ b < w.heap.size ∧ ∀ (i : Nat) (y : Value), (c x)[i]? = some y → w.cell? ⟨b, off + j * k + i, none⟩ = some y := by
  obtain ⟨a', cap', e, -, h⟩ := h.row
  simp only [Value.slice.injEq] at e
  obtain ⟨rfl, -, rfl⟩ := e
  exact h j (c x) (by rw [List.getElem?_map, hx]; rfl)
theorem LAt.len {T : Type} {w : World} {k n cap : Nat} {c : T → List Value} {a : Option Addr} {l : List T} (h : LAt w k c (.slice a n cap) l) : n = l.length ∧ n ≤ cap := by
  obtain ⟨a', cap', e, hcap, h⟩ := h.row
  simp only [Value.slice.injEq] at e
  obtain ⟨rfl, rfl, rfl⟩ := e
  rw [List.length_map] at hcap ⊢
  exact ⟨rfl, hcap⟩
theorem LAt.shape {T : Type} {w : World} {k : Nat} {c : T → List Value} {v : Value} {l : List T} (h : LAt w k c v l) : ∃ a cap, v = .slice a l.length cap := by
  obtain ⟨a, cap, rfl, -, -⟩ := h.form
  exact ⟨a, cap, rfl⟩
theorem toList_data (b : B) : b.toList = b.data.toList := ByteArray.toList_mk b.data.toList
theorem list_eq {a b : B} (h : a = b) : (a.toList == b.toList) = true := by rw [h]; simp
theorem list_ne {a b : B} (h : a ≠ b) : (a.toList == b.toList) = false := by
  rw [beq_eq_false_iff_ne]
  intro e
  refine h ?_
  rw [toList_data, toList_data] at e
  exact ByteArray.ext (Array.toList_inj.1 e)
/-- no one of the first k names is s -/
def NoN (nms : List B) (s : B) (k : Nat) : Prop := ∀ (j : Nat) (x : B), j < k → nms[j]? = some x → x ≠ s
theorem NoN.next {nms : List B} {s x : B} {k : Nat} (h : NoN nms s k) (hx : nms[k]? = some x) (hn : x ≠ s) : NoN nms s (k + 1) := by
  intro j y hj hy
  by_cases c : j = k
  · subst c
    rw [hx] at hy
    simp only [Option.some.injEq] at hy
    subst hy
    exact hn
  · exact h j y (by omega) hy
theorem NoN.none {nms : List B} {s : B} {k : Nat} (h : NoN nms s k) (hk : nms.length ≤ k) : findV nms s = -1 := find_none (fun j x hx => h j x (by have := (List.getElem?_eq_some_iff.1 hx).1; omega) hx)
theorem map_at {T : Type} {f : T → B} {l : List T} {k : Nat} {x : T} (h : l[k]? = some x) : (l.map f)[k]? = some (f x) := by rw [List.getElem?_map, h]; rfl
def FRel (n : Nat) (nms : List B) (s : B) (w : World) (i : Value) (wr : World) : Prop := ∃ k : Nat, k ≤ n ∧ i = .int .i64 (k : Int) ∧ NoN nms s k ∧ Below w.heap.size w wr

theorem nameB_x (x : B) (w : World) :
    Calls Tryz.prog 95 #[.string x] w fun r w' => r = .returned (.string x) ∧ w = w' := by
  go_enter Tryz.func95, Tryz.ntmps95
  go_wp2_with fail
  go_ret
  exact ⟨rfl, rfl⟩
set_option maxHeartbeats 1600000 in
theorem findB_x (v : Value) (l : List B) (s : B) (w : World) (h : SAt w v l) (hl : Sz l.length) :
    Calls Tryz.prog 157 #[v, .func (.func 95) #[] #[], .string s] w fun r w' => r = .returned (.int .i64 (findV l s)) ∧ Below w.heap.size w w' := by
  obtain ⟨a, cap, rfl⟩ := h.shape
  have HL := Lib.hid h
  clear h
  go_enter Tryz.func157, Tryz.ntmps157
  go_wp2_with fail
  go_loopw [11] (fun i wr => FRel l.length l s w i wr) (fun i _ => l.length - (intOf i).toNat)
  case atStart => exact ⟨0, Nat.zero_le _, rfl, fun j x hj => by omega, Below.refl _ _⟩
  case round =>
    obtain ⟨k, hk, rfl, hall, hbw⟩ := hrel
    have Ha := Lib.hid hall
    have HB := Lib.hid hbw
    have k0 : (0 : Int) ≤ (k : Int) := by omega
    clear hall hbw
    by_cases c : k < l.length
    case neg =>
      have c0 : ¬ (k : Int) < (l.length : Int) := by omega
      have hv : Hid (findV l s = -1) := Ha.out.none (by omega)
      go_wp2_with fail
      go_ret
      exact ⟨by rw [hv.out]; try rfl, HB.out⟩
    case pos =>
      have c0 : (k : Int) < (l.length : Int) := by omega
      obtain ⟨x, hx⟩ : ∃ x, l[k]? = some x := ⟨_, List.getElem?_eq_getElem c⟩
      have hn : l[k]? = some x := hx
      have HN := Lib.hid hn
      obtain ⟨b, off, rfl, hb, hc⟩ := (HL.out.next HB.out).at hx
      have t0 : wr.cell? ⟨b, off + k, none⟩ = some (.string x) := (by have := hc 0 _ rfl; rw [Nat.mul_one, Nat.add_zero] at this; exact this)
      clear hx hc hn
      by_cases e : x = s
      · have HE := Lib.hid e
        have e1 : (x.toList == s.toList) = true := list_eq e
        have hv : Hid (findV l s = (k : Int)) := find_at (by rw [HN.out, HE.out]) Ha.out
        clear e
        go_wp2_with fail
        refine (nameB_x x _).mono ?_
        rintro r w1 ⟨rfl, rfl⟩
        go_wp2_with fail
        go_ret
        exact ⟨by rw [hv.out]; try rfl, HB.out⟩
      · have HE := Lib.hid e
        have e1 : (x.toList == s.toList) = false := list_ne e
        have HX := Lib.hid (Ha.out.next HN.out e)
        clear e
        go_wp2_with fail
        refine (nameB_x x _).mono ?_
        rintro r w1 ⟨rfl, rfl⟩
        go_wp2_with fail
        go_roundw
        case rel => exact ⟨k + 1, by omega, by congr 1, HX.out, HB.out⟩
        case measure => simp [intOf]; omega

theorem nameCty_x (x : Cty) (w : World) :
    Calls Tryz.prog 108 #[vCty x] w fun r w' => r = .returned (.string x.nm) ∧ Below w.heap.size w w' := by
  go_enter Tryz.func108, Tryz.ntmps108
  go_wp2_with fail
  go_ret
  exact ⟨rfl, Below.new1 _⟩
set_option maxHeartbeats 1600000 in
theorem findCty_x (v : Value) (l : List Cty) (s : B) (w : World) (h : CAt w v l) (hl : Sz l.length) :
    Calls Tryz.prog 147 #[v, .func (.func 108) #[] #[], .string s] w fun r w' => r = .returned (.int .i64 (findV (l.map Cty.nm) s)) ∧ Below w.heap.size w w' := by
  obtain ⟨a, cap, rfl⟩ := h.shape
  have HL := Lib.hid h
  clear h
  go_enter Tryz.func147, Tryz.ntmps147
  go_wp2_with fail
  go_loopw [11] (fun i wr => FRel l.length (l.map Cty.nm) s w i wr) (fun i _ => l.length - (intOf i).toNat)
  case atStart => exact ⟨0, Nat.zero_le _, rfl, fun j x hj => by omega, Below.refl _ _⟩
  case round =>
    obtain ⟨k, hk, rfl, hall, hbw⟩ := hrel
    have Ha := Lib.hid hall
    have HB := Lib.hid hbw
    have k0 : (0 : Int) ≤ (k : Int) := by omega
    clear hall hbw
    by_cases c : k < l.length
    case neg =>
      have c0 : ¬ (k : Int) < (l.length : Int) := by omega
      have hv : Hid (findV (l.map Cty.nm) s = -1) := Ha.out.none (by rw [List.length_map]; omega)
      go_wp2_with fail
      go_ret
      exact ⟨by rw [hv.out]; try rfl, HB.out⟩
    case pos =>
      have c0 : (k : Int) < (l.length : Int) := by omega
      obtain ⟨x, hx⟩ : ∃ x, l[k]? = some x := ⟨_, List.getElem?_eq_getElem c⟩
      have hn : (l.map Cty.nm)[k]? = some x.nm := map_at hx
      have HN := Lib.hid hn
      obtain ⟨b, off, rfl, hb, hc⟩ := (HL.out.next HB.out).at hx
      have t0 : wr.cell? ⟨b, off + k * 6, none⟩ = some (.string x.nm) := hc 0 _ rfl
      have t1 : wr.cell? ⟨b, off + k * 6 + 1, none⟩ = some (.int .i64 x.o) := hc 1 _ rfl
      have t2 : wr.cell? ⟨b, off + k * 6 + 2, none⟩ = some (.int .i64 x.c) := hc 2 _ rfl
      have t3 : wr.cell? ⟨b, off + k * 6 + 3, none⟩ = some (.slice x.a3 x.rest.length x.k3) := hc 3 _ rfl
      have t4 : wr.cell? ⟨b, off + k * 6 + 4, none⟩ = some (.slice x.a4 x.feasts.length x.k4) := hc 4 _ rfl
      have t5 : wr.cell? ⟨b, off + k * 6 + 5, none⟩ = some (.slice x.a5 x.shut.length x.k5) := hc 5 _ rfl
      clear hx hc hn
      by_cases e : x.nm = s
      · have HE := Lib.hid e
        have e1 : (x.nm.toList == s.toList) = true := list_eq e
        have hv : Hid (findV (l.map Cty.nm) s = (k : Int)) := find_at (by rw [HN.out, HE.out]) Ha.out
        clear e
        go_wp2_with fail
        refine (nameCty_x x _).mono ?_
        rintro r w1 ⟨rfl, b1⟩
        go_wp2_with fail
        go_ret
        exact ⟨by rw [hv.out]; try rfl, chain (HB.out.trans ((Below.new1 _).mono HB.out.size)) b1⟩
      · have HE := Lib.hid e
        have e1 : (x.nm.toList == s.toList) = false := list_ne e
        have HX := Lib.hid (Ha.out.next HN.out e)
        clear e
        go_wp2_with fail
        refine (nameCty_x x _).mono ?_
        rintro r w1 ⟨rfl, b1⟩
        go_wp2_with fail
        go_roundw
        case rel => exact ⟨k + 1, by omega, by congr 1, HX.out, chain (HB.out.trans ((Below.new1 _).mono HB.out.size)) b1⟩
        case measure => simp [intOf]; omega

theorem nameFrm_x (x : Frm) (w : World) :
    Calls Tryz.prog 118 #[vFrm x] w fun r w' => r = .returned (.string x.nm) ∧ Below w.heap.size w w' := by
  go_enter Tryz.func118, Tryz.ntmps118
  go_wp2_with fail
  go_ret
  exact ⟨rfl, Below.new1 _⟩
set_option maxHeartbeats 1600000 in
theorem findFrm_x (v : Value) (l : List Frm) (s : B) (w : World) (h : FAt w v l) (hl : Sz l.length) :
    Calls Tryz.prog 152 #[v, .func (.func 118) #[] #[], .string s] w fun r w' => r = .returned (.int .i64 (findV (l.map Frm.nm) s)) ∧ Below w.heap.size w w' := by
  obtain ⟨a, cap, rfl⟩ := h.shape
  have HL := Lib.hid h
  clear h
  go_enter Tryz.func152, Tryz.ntmps152
  go_wp2_with fail
  go_loopw [11] (fun i wr => FRel l.length (l.map Frm.nm) s w i wr) (fun i _ => l.length - (intOf i).toNat)
  case atStart => exact ⟨0, Nat.zero_le _, rfl, fun j x hj => by omega, Below.refl _ _⟩
  case round =>
    obtain ⟨k, hk, rfl, hall, hbw⟩ := hrel
    have Ha := Lib.hid hall
    have HB := Lib.hid hbw
    have k0 : (0 : Int) ≤ (k : Int) := by omega
    clear hall hbw
    by_cases c : k < l.length
    case neg =>
      have c0 : ¬ (k : Int) < (l.length : Int) := by omega
      have hv : Hid (findV (l.map Frm.nm) s = -1) := Ha.out.none (by rw [List.length_map]; omega)
      go_wp2_with fail
      go_ret
      exact ⟨by rw [hv.out]; try rfl, HB.out⟩
    case pos =>
      have c0 : (k : Int) < (l.length : Int) := by omega
      obtain ⟨x, hx⟩ : ∃ x, l[k]? = some x := ⟨_, List.getElem?_eq_getElem c⟩
      have hn : (l.map Frm.nm)[k]? = some x.nm := map_at hx
      have HN := Lib.hid hn
      obtain ⟨b, off, rfl, hb, hc⟩ := (HL.out.next HB.out).at hx
      have t0 : wr.cell? ⟨b, off + k * 3, none⟩ = some (.string x.nm) := hc 0 _ rfl
      have t1 : wr.cell? ⟨b, off + k * 3 + 1, none⟩ = some (.int .i64 x.city) := hc 1 _ rfl
      have t2 : wr.cell? ⟨b, off + k * 3 + 2, none⟩ = some (.int .i64 x.grp) := hc 2 _ rfl
      clear hx hc hn
      by_cases e : x.nm = s
      · have HE := Lib.hid e
        have e1 : (x.nm.toList == s.toList) = true := list_eq e
        have hv : Hid (findV (l.map Frm.nm) s = (k : Int)) := find_at (by rw [HN.out, HE.out]) Ha.out
        clear e
        go_wp2_with fail
        refine (nameFrm_x x _).mono ?_
        rintro r w1 ⟨rfl, b1⟩
        go_wp2_with fail
        go_ret
        exact ⟨by rw [hv.out]; try rfl, chain (HB.out.trans ((Below.new1 _).mono HB.out.size)) b1⟩
      · have HE := Lib.hid e
        have e1 : (x.nm.toList == s.toList) = false := list_ne e
        have HX := Lib.hid (Ha.out.next HN.out e)
        clear e
        go_wp2_with fail
        refine (nameFrm_x x _).mono ?_
        rintro r w1 ⟨rfl, b1⟩
        go_wp2_with fail
        go_roundw
        case rel => exact ⟨k + 1, by omega, by congr 1, HX.out, chain (HB.out.trans ((Below.new1 _).mono HB.out.size)) b1⟩
        case measure => simp [intOf]; omega

theorem nameOdr_x (x : Odr) (w : World) :
    Calls Tryz.prog 119 #[vOdr x] w fun r w' => r = .returned (.string x.nm) ∧ Below w.heap.size w w' := by
  go_enter Tryz.func119, Tryz.ntmps119
  go_wp2_with fail
  go_ret
  exact ⟨rfl, Below.new1 _⟩
set_option maxHeartbeats 1600000 in
theorem findOdr_x (v : Value) (l : List Odr) (s : B) (w : World) (h : OAt w v l) (hl : Sz l.length) :
    Calls Tryz.prog 162 #[v, .func (.func 119) #[] #[], .string s] w fun r w' => r = .returned (.int .i64 (findV (l.map Odr.nm) s)) ∧ Below w.heap.size w w' := by
  obtain ⟨a, cap, rfl⟩ := h.shape
  have HL := Lib.hid h
  clear h
  go_enter Tryz.func162, Tryz.ntmps162
  go_wp2_with fail
  go_loopw [11] (fun i wr => FRel l.length (l.map Odr.nm) s w i wr) (fun i _ => l.length - (intOf i).toNat)
  case atStart => exact ⟨0, Nat.zero_le _, rfl, fun j x hj => by omega, Below.refl _ _⟩
  case round =>
    obtain ⟨k, hk, rfl, hall, hbw⟩ := hrel
    have Ha := Lib.hid hall
    have HB := Lib.hid hbw
    have k0 : (0 : Int) ≤ (k : Int) := by omega
    clear hall hbw
    by_cases c : k < l.length
    case neg =>
      have c0 : ¬ (k : Int) < (l.length : Int) := by omega
      have hv : Hid (findV (l.map Odr.nm) s = -1) := Ha.out.none (by rw [List.length_map]; omega)
      go_wp2_with fail
      go_ret
      exact ⟨by rw [hv.out]; try rfl, HB.out⟩
    case pos =>
      have c0 : (k : Int) < (l.length : Int) := by omega
      obtain ⟨x, hx⟩ : ∃ x, l[k]? = some x := ⟨_, List.getElem?_eq_getElem c⟩
      have hn : (l.map Odr.nm)[k]? = some x.nm := map_at hx
      have HN := Lib.hid hn
      obtain ⟨b, off, rfl, hb, hc⟩ := (HL.out.next HB.out).at hx
      have t0 : wr.cell? ⟨b, off + k * 4, none⟩ = some (.string x.nm) := hc 0 _ rfl
      have t1 : wr.cell? ⟨b, off + k * 4 + 1, none⟩ = some (.bool x.acc) := hc 1 _ rfl
      have t2 : wr.cell? ⟨b, off + k * 4 + 2, none⟩ = some (.slice x.a2 x.ch.length x.k2) := hc 2 _ rfl
      have t3 : wr.cell? ⟨b, off + k * 4 + 3, none⟩ = some (.slice x.a3 x.ru.length x.k3) := hc 3 _ rfl
      clear hx hc hn
      by_cases e : x.nm = s
      · have HE := Lib.hid e
        have e1 : (x.nm.toList == s.toList) = true := list_eq e
        have hv : Hid (findV (l.map Odr.nm) s = (k : Int)) := find_at (by rw [HN.out, HE.out]) Ha.out
        clear e
        go_wp2_with fail
        refine (nameOdr_x x _).mono ?_
        rintro r w1 ⟨rfl, b1⟩
        go_wp2_with fail
        go_ret
        exact ⟨by rw [hv.out]; try rfl, chain (HB.out.trans ((Below.new1 _).mono HB.out.size)) b1⟩
      · have HE := Lib.hid e
        have e1 : (x.nm.toList == s.toList) = false := list_ne e
        have HX := Lib.hid (Ha.out.next HN.out e)
        clear e
        go_wp2_with fail
        refine (nameOdr_x x _).mono ?_
        rintro r w1 ⟨rfl, b1⟩
        go_wp2_with fail
        go_roundw
        case rel => exact ⟨k + 1, by omega, by congr 1, HX.out, chain (HB.out.trans ((Below.new1 _).mono HB.out.size)) b1⟩
        case measure => simp [intOf]; omega

end Go.Proofs.YtcjakgpmompaiaaGreatDoor

