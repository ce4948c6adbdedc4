/-
  The reference reads: beginnings, words, numbers, lines.
-/
import Derived.Test.YtcjakgpmompaiaaGreatDoorWdV
import Derived.Test.YtcjakgpmompaiaaGreatDoorRdB
namespace Go.Proofs.YtcjakgpmompaiaaGreatDoor
open Go.RowKit Rl Wd

theorem bytes_bq (a b : B) : (a == b) = true ↔ a = b := by
  obtain ⟨x⟩ := a
  obtain ⟨y⟩ := b
  constructor
  · intro h
    have e : x = y := by simpa using (show (x == y) = true from h)
    rw [e]
  · intro h
    cases h
    show (x == x) = true
    simp
theorem ext_take {s : B} {k : Nat} : (s.extract 0 k).data.toList = s.data.toList.take k := by rw [ext_list, List.drop_zero]
theorem ext_drop {s : B} {k : Nat} : (s.extract k s.size).data.toList = s.data.toList.drop k := by rw [ext_list, List.take_of_length_le (by rw [← size_list]; exact Nat.le_refl _)]
theorem ext_take_eq {s : B} {k : Nat} : s.extract 0 k = mkB (s.data.toList.take k) := by rw [← ext_take]; rfl
theorem ext_drop_eq {s : B} {k : Nat} : s.extract k s.size = mkB (s.data.toList.drop k) := by rw [← ext_drop]; rfl
theorem hp_take {s h : L8} : hp s h = decide (s.take h.length = h) := by
  unfold hp Lib.hasPrefix
  cases e : h.isPrefixOf s
  · refine (decide_eq_false fun e2 => ?_).symm
    have : h.isPrefixOf s = true := by rw [List.isPrefixOf_iff_prefix]; exact ⟨s.drop h.length, (congrArg (fun z => z ++ s.drop h.length) e2).symm.trans (List.take_append_drop h.length s)⟩
    rw [e] at this
    cases this
  · refine (decide_eq_true ?_).symm
    rw [List.isPrefixOf_iff_prefix] at e
    obtain ⟨t, rfl⟩ := e
    exact List.take_left

/-- the text behind a beginning -/
def eatB (s h : B) : B := mkB (tk s.data.toList h.data.toList)
theorem eat_size (s h : B) : (eatB s h).size ≤ s.size := by
  unfold eatB
  rw [mkB_size, size_list s]
  exact tk_size _ _
theorem eat_no {s h : B} (e : hp s.data.toList h.data.toList = false) : eatB s h = s := by
  unfold eatB
  rw [tk_miss e]
  rfl
theorem eat_yes {s h : B} (e : hp s.data.toList h.data.toList = true) : eatB s h = s.extract h.size s.size := by
  unfold eatB tk Lib.trimPrefix
  rw [show Lib.hasPrefix s.data.toList h.data.toList = true from e, if_pos rfl, ← size_list, ext_drop_eq]
set_option maxHeartbeats 3200000 in
set_option maxRecDepth 100000 in
theorem Reat_x (s h : B) (w : World) (_hs : s.size ≤ 100000) (_hh : h.size ≤ 1000) :
    Calls Tryz.prog 22 #[.string s, .string h] w fun r w' => r = .returned (.tuple #[.string (eatB s h), .bool (hp s.data.toList h.data.toList)]) ∧ w = w' := by
  by_cases q : s.size < h.size
  case pos =>
    have hq : decide ((s.size : Int) < (h.size : Int)) = true := decide_eq_true (by omega)
    have e : hp s.data.toList h.data.toList = false := by
      rw [hp_take]
      refine decide_eq_false fun e => ?_
      have := congrArg List.length e
      rw [List.length_take, ← size_list, ← size_list] at this
      omega
    have he := Lib.hid (eat_no e)
    have hx := Lib.hid e
    clear e
    go_enter Tryz.func22, Tryz.ntmps22
    go_wp2_with fail
    go_ret2
    refine ⟨?_, rfl⟩
    show Ending.returned (.tuple #[.string s, .bool false]) = _
    rw [he.out, hx.out]
  case neg =>
    have hq : decide ((s.size : Int) < (h.size : Int)) = false := decide_eq_false (by omega)
    have hle : h.size ≤ s.size := by omega
    have hx : (s.extract 0 h.size == h) = hp s.data.toList h.data.toList := by
      rw [hp_take, ← size_list]
      by_cases c : s.extract 0 h.size = h
      · rw [(bytes_bq _ _).2 c, decide_eq_true]
        rw [← ext_take, c]
      · rw [Bool.eq_false_iff.2 (fun e => c ((bytes_bq _ _).1 e)), decide_eq_false]
        intro e
        refine c ?_
        rw [ext_take_eq, e]
        rfl
    cases e : hp s.data.toList h.data.toList
    · rw [e] at hx
      have he := Lib.hid (eat_no e)
      have hf := Lib.hid e
      have hn : ((s.extract 0 h.size).toList == h.toList) = false := (Lib.bytes_beq_false_iff _ _).2 (fun c => by rw [c] at hx; rw [(bytes_bq _ _).2 rfl] at hx; cases hx)
      clear e hx
      go_enter Tryz.func22, Tryz.ntmps22
      go_wp2_with fail
      go_ret2
      refine ⟨?_, rfl⟩
      show Ending.returned (.tuple #[.string s, .bool false]) = _
      rw [he.out]
    · rw [e] at hx
      have he := Lib.hid (eat_yes e)
      have hn : ((s.extract 0 h.size).toList == h.toList) = true := (Lib.bytes_beq_iff _ _).2 ((bytes_bq _ _).1 hx)
      clear e hx
      go_enter Tryz.func22, Tryz.ntmps22
      go_wp2_with fail
      go_ret2
      refine ⟨?_, rfl⟩
      show Ending.returned (.tuple #[.string (s.extract h.size s.size), .bool true]) = _
      rw [he.out]

theorem tw_at {p : UInt8 → Bool} {l : L8} {k : Nat} (h : ∀ j c, j < k → l[j]? = some c → p c = true) (hk : k ≤ l.length) (hn : ∀ c, l[k]? = some c → p c = false) : l.takeWhile p = l.take k ∧ l.dropWhile p = l.drop k := by
  induction k generalizing l with
  | zero =>
    cases l with
    | nil => exact ⟨rfl, rfl⟩
    | cons a t =>
      have := hn a rfl
      exact ⟨List.takeWhile_cons_of_neg (by rw [this]; decide), List.dropWhile_cons_of_neg (by rw [this]; decide)⟩
  | succ k ih =>
    cases l with
    | nil => simp at hk
    | cons a t =>
      have ha := h 0 a (by omega) rfl
      have := ih (l := t) (fun j c hj hc => h (j + 1) c (by omega) hc) (by simpa using hk) hn
      rw [List.takeWhile_cons_of_pos ha, List.dropWhile_cons_of_pos ha, this.1, this.2]
      exact ⟨rfl, rfl⟩
def AllK (p : UInt8 → Bool) (l : L8) (k : Nat) : Prop := ∀ j c, j < k → l[j]? = some c → p c = true
theorem AllK.succ {p : UInt8 → Bool} {l : L8} {k : Nat} {b : UInt8} (h : AllK p l k) (hb : l[k]? = some b) (hp : p b = true) : AllK p l (k + 1) := fun j c hj hc => by
  rcases Nat.lt_or_ge j k with h1 | h1
  · exact h j c h1 hc
  · have : j = k := by omega
    subst this
    rw [hb] at hc
    cases hc
    exact hp
def WRel (p : UInt8 → Bool) (s : B) (w : World) (i : Value) (wr : World) : Prop := ∃ k : Nat, k ≤ s.size ∧ i = .int .i64 (k : Int) ∧ AllK p s.data.toList k ∧ w = wr
theorem mor_iff {b : UInt8} : morB b = true ↔ (48 ≤ b.toNat ∧ b.toNat ≤ 57) ∨ b.toNat = 95 ∨ (97 ≤ b.toNat ∧ b.toNat ≤ 122) ∨ (65 ≤ b.toNat ∧ b.toNat ≤ 90) := by
  unfold morB letB
  simp only [Bool.or_eq_true, Bool.and_eq_true, decide_eq_true_iff]
  omega

set_option maxHeartbeats 3200000 in
set_option maxRecDepth 100000 in
theorem Rword_x (s : B) (w : World) (hs : s.size ≤ 100000) :
    Calls Tryz.prog 25 #[.string s] w fun r w' => r = .returned (.tuple #[.string (mkB (s.data.toList.takeWhile morB)), .string (mkB (s.data.toList.dropWhile morB))]) ∧ Below w.heap.size w w' := by
  go_enter Tryz.func25, Tryz.ntmps25
  go_wp2_with fail
  go_loopw [4] (fun i wr => WRel morB s w i wr) (fun i _ => s.size - (intOf i).toNat)
  case atStart => exact ⟨0, by omega, rfl, fun j c hj => by omega, rfl⟩
  case round =>
    obtain ⟨k, hk, rfl, hd, rfl⟩ := hrel
    have HD := Lib.hid hd
    clear hd
    by_cases hz : k < s.size
    case neg =>
      have hzi : decide ((k : Int) < (s.size : Int)) = false := decide_eq_false (by omega)
      have hend : mkB (s.data.toList.takeWhile morB) = mkB (s.data.toList.take k) ∧ mkB (s.data.toList.dropWhile morB) = mkB (s.data.toList.drop k) := by have := tw_at HD.out (by rw [← size_list]; omega) (fun c e => by rw [List.getElem?_eq_none (by rw [← size_list]; omega)] at e; cases e); rw [this.1, this.2]; exact ⟨rfl, rfl⟩
      rw [← ext_take_eq, ← ext_drop_eq] at hend
      have HEND := Lib.hid hend
      have hkj : (k : Int) ≤ (s.size : Int) := by omega
      clear hend
      go_wp2_with fail
      go_region
      all_goals go_wp2
      all_goals (try simp +zetaDelta only [Exit.inBlock, Exit.then])
      go_ret2
      refine ⟨?_, (Below.refl _ _).drew⟩
      show Ending.returned (.tuple #[.string (s.extract 0 k), .string (s.extract k s.size)]) = _
      rw [HEND.out.1, HEND.out.2]
    case pos =>
      have hzi : decide ((k : Int) < (s.size : Int)) = true := decide_eq_true (by omega)
      have hzj : (k : Int) < (s.size : Int) := by omega
      obtain ⟨b, hb0⟩ : ∃ b : UInt8, s[k]'hz = b := ⟨_, rfl⟩
      have hbl : s.data.toList[k]? = some b := by rw [← hb0]; exact Lib.data_getElem? s k hz
      have Hb := Lib.hid hbl
      clear hbl
      by_cases q0 : b.toNat < 48
      · have u0 : (b.toNat : Int) < (48 : Int) := by omega
        have u1 : ((b.toNat : Int) == (95 : Int)) = false := by exact beq_eq_false_iff_ne.2 (by omega)
        have u2 : (b.toNat : Int) < (97 : Int) := by omega
        have u3 : (b.toNat : Int) < (65 : Int) := by omega
        have hnm : Hid (∀ c, s.data.toList[k]? = some c → morB c = false) := fun c e => by rw [Hb.out] at e; cases e; rw [← Bool.not_eq_true, mor_iff]; omega
        clear q0
        have hend : mkB (s.data.toList.takeWhile morB) = mkB (s.data.toList.take k) ∧ mkB (s.data.toList.dropWhile morB) = mkB (s.data.toList.drop k) := by have := tw_at HD.out (by rw [← size_list]; omega) (hnm.out); rw [this.1, this.2]; exact ⟨rfl, rfl⟩
        rw [← ext_take_eq, ← ext_drop_eq] at hend
        have HEND := Lib.hid hend
        have hkj : (k : Int) ≤ (s.size : Int) := by omega
        clear hend
        go_wp2_with fail
        go_region
        all_goals go_wp2
        all_goals (try simp +zetaDelta only [Exit.inBlock, Exit.then])
        go_ret2
        refine ⟨?_, (Below.refl _ _).drew⟩
        show Ending.returned (.tuple #[.string (s.extract 0 k), .string (s.extract k s.size)]) = _
        rw [HEND.out.1, HEND.out.2]
      · by_cases q1 : b.toNat ≤ 57
        · have u0 : (48 : Int) ≤ (b.toNat : Int) := by omega
          have u1 : (b.toNat : Int) ≤ (57 : Int) := by omega
          have hm : Hid (AllK morB s.data.toList (k + 1)) := HD.out.succ Hb.out (mor_iff.2 (by omega))
          clear q0 q1
          go_wp2
          go_roundw
          case measure => simp [intOf]; omega
          case rel => exact ⟨k + 1, by omega, by go_num, hm.out, rfl⟩
        · by_cases q2 : b.toNat < 65
          · have u0 : (48 : Int) ≤ (b.toNat : Int) := by omega
            have u1 : (57 : Int) < (b.toNat : Int) := by omega
            have u2 : ((b.toNat : Int) == (95 : Int)) = false := by exact beq_eq_false_iff_ne.2 (by omega)
            have u3 : (b.toNat : Int) < (97 : Int) := by omega
            have u4 : (b.toNat : Int) < (65 : Int) := by omega
            have hnm : Hid (∀ c, s.data.toList[k]? = some c → morB c = false) := fun c e => by rw [Hb.out] at e; cases e; rw [← Bool.not_eq_true, mor_iff]; omega
            clear q0 q1 q2
            have hend : mkB (s.data.toList.takeWhile morB) = mkB (s.data.toList.take k) ∧ mkB (s.data.toList.dropWhile morB) = mkB (s.data.toList.drop k) := by have := tw_at HD.out (by rw [← size_list]; omega) (hnm.out); rw [this.1, this.2]; exact ⟨rfl, rfl⟩
            rw [← ext_take_eq, ← ext_drop_eq] at hend
            have HEND := Lib.hid hend
            have hkj : (k : Int) ≤ (s.size : Int) := by omega
            clear hend
            go_wp2_with fail
            go_region
            all_goals go_wp2
            all_goals (try simp +zetaDelta only [Exit.inBlock, Exit.then])
            go_ret2
            refine ⟨?_, (Below.refl _ _).drew⟩
            show Ending.returned (.tuple #[.string (s.extract 0 k), .string (s.extract k s.size)]) = _
            rw [HEND.out.1, HEND.out.2]
          · by_cases q3 : b.toNat ≤ 90
            · have u0 : (48 : Int) ≤ (b.toNat : Int) := by omega
              have u1 : (57 : Int) < (b.toNat : Int) := by omega
              have u2 : ((b.toNat : Int) == (95 : Int)) = false := by exact beq_eq_false_iff_ne.2 (by omega)
              have u3 : (b.toNat : Int) < (97 : Int) := by omega
              have u4 : (65 : Int) ≤ (b.toNat : Int) := by omega
              have u5 : (b.toNat : Int) ≤ (90 : Int) := by omega
              have hm : Hid (AllK morB s.data.toList (k + 1)) := HD.out.succ Hb.out (mor_iff.2 (by omega))
              clear q0 q1 q2 q3
              go_wp2
              go_roundw
              case measure => simp [intOf]; omega
              case rel => exact ⟨k + 1, by omega, by go_num, hm.out, rfl⟩
            · by_cases q4 : b.toNat < 95
              · have u0 : (48 : Int) ≤ (b.toNat : Int) := by omega
                have u1 : (57 : Int) < (b.toNat : Int) := by omega
                have u2 : ((b.toNat : Int) == (95 : Int)) = false := by exact beq_eq_false_iff_ne.2 (by omega)
                have u3 : (b.toNat : Int) < (97 : Int) := by omega
                have u4 : (65 : Int) ≤ (b.toNat : Int) := by omega
                have u5 : (90 : Int) < (b.toNat : Int) := by omega
                have hnm : Hid (∀ c, s.data.toList[k]? = some c → morB c = false) := fun c e => by rw [Hb.out] at e; cases e; rw [← Bool.not_eq_true, mor_iff]; omega
                clear q0 q1 q2 q3 q4
                have hend : mkB (s.data.toList.takeWhile morB) = mkB (s.data.toList.take k) ∧ mkB (s.data.toList.dropWhile morB) = mkB (s.data.toList.drop k) := by have := tw_at HD.out (by rw [← size_list]; omega) (hnm.out); rw [this.1, this.2]; exact ⟨rfl, rfl⟩
                rw [← ext_take_eq, ← ext_drop_eq] at hend
                have HEND := Lib.hid hend
                have hkj : (k : Int) ≤ (s.size : Int) := by omega
                clear hend
                go_wp2_with fail
                go_region
                all_goals go_wp2
                all_goals (try simp +zetaDelta only [Exit.inBlock, Exit.then])
                go_ret2
                refine ⟨?_, (Below.refl _ _).drew⟩
                show Ending.returned (.tuple #[.string (s.extract 0 k), .string (s.extract k s.size)]) = _
                rw [HEND.out.1, HEND.out.2]
              · by_cases q5 : b.toNat = 95
                · have u0 : (48 : Int) ≤ (b.toNat : Int) := by omega
                  have u1 : (57 : Int) < (b.toNat : Int) := by omega
                  have u2 : (b.toNat : Int) = (95 : Int) := by omega
                  have hm : Hid (AllK morB s.data.toList (k + 1)) := HD.out.succ Hb.out (mor_iff.2 (by omega))
                  clear q0 q1 q2 q3 q4 q5
                  go_wp2
                  go_roundw
                  case measure => simp [intOf]; omega
                  case rel => exact ⟨k + 1, by omega, by go_num, hm.out, rfl⟩
                · by_cases q6 : b.toNat = 96
                  · have u0 : (48 : Int) ≤ (b.toNat : Int) := by omega
                    have u1 : (57 : Int) < (b.toNat : Int) := by omega
                    have u2 : ((b.toNat : Int) == (95 : Int)) = false := by exact beq_eq_false_iff_ne.2 (by omega)
                    have u3 : (b.toNat : Int) < (97 : Int) := by omega
                    have u4 : (65 : Int) ≤ (b.toNat : Int) := by omega
                    have u5 : (90 : Int) < (b.toNat : Int) := by omega
                    have hnm : Hid (∀ c, s.data.toList[k]? = some c → morB c = false) := fun c e => by rw [Hb.out] at e; cases e; rw [← Bool.not_eq_true, mor_iff]; omega
                    clear q0 q1 q2 q3 q4 q5 q6
                    have hend : mkB (s.data.toList.takeWhile morB) = mkB (s.data.toList.take k) ∧ mkB (s.data.toList.dropWhile morB) = mkB (s.data.toList.drop k) := by have := tw_at HD.out (by rw [← size_list]; omega) (hnm.out); rw [this.1, this.2]; exact ⟨rfl, rfl⟩
                    rw [← ext_take_eq, ← ext_drop_eq] at hend
                    have HEND := Lib.hid hend
                    have hkj : (k : Int) ≤ (s.size : Int) := by omega
                    clear hend
                    go_wp2_with fail
                    go_region
                    all_goals go_wp2
                    all_goals (try simp +zetaDelta only [Exit.inBlock, Exit.then])
                    go_ret2
                    refine ⟨?_, (Below.refl _ _).drew⟩
                    show Ending.returned (.tuple #[.string (s.extract 0 k), .string (s.extract k s.size)]) = _
                    rw [HEND.out.1, HEND.out.2]
                  · by_cases q7 : b.toNat ≤ 122
                    · have u0 : (48 : Int) ≤ (b.toNat : Int) := by omega
                      have u1 : (57 : Int) < (b.toNat : Int) := by omega
                      have u2 : ((b.toNat : Int) == (95 : Int)) = false := by exact beq_eq_false_iff_ne.2 (by omega)
                      have u3 : (97 : Int) ≤ (b.toNat : Int) := by omega
                      have u4 : (b.toNat : Int) ≤ (122 : Int) := by omega
                      have hm : Hid (AllK morB s.data.toList (k + 1)) := HD.out.succ Hb.out (mor_iff.2 (by omega))
                      clear q0 q1 q2 q3 q4 q5 q6 q7
                      go_wp2
                      go_roundw
                      case measure => simp [intOf]; omega
                      case rel => exact ⟨k + 1, by omega, by go_num, hm.out, rfl⟩
                    · have u0 : (48 : Int) ≤ (b.toNat : Int) := by omega
                      have u1 : (57 : Int) < (b.toNat : Int) := by omega
                      have u2 : ((b.toNat : Int) == (95 : Int)) = false := by exact beq_eq_false_iff_ne.2 (by omega)
                      have u3 : (97 : Int) ≤ (b.toNat : Int) := by omega
                      have u4 : (122 : Int) < (b.toNat : Int) := by omega
                      have u5 : (65 : Int) ≤ (b.toNat : Int) := by omega
                      have u6 : (90 : Int) < (b.toNat : Int) := by omega
                      have hnm : Hid (∀ c, s.data.toList[k]? = some c → morB c = false) := fun c e => by rw [Hb.out] at e; cases e; rw [← Bool.not_eq_true, mor_iff]; omega
                      clear q0 q1 q2 q3 q4 q5 q6 q7
                      have hend : mkB (s.data.toList.takeWhile morB) = mkB (s.data.toList.take k) ∧ mkB (s.data.toList.dropWhile morB) = mkB (s.data.toList.drop k) := by have := tw_at HD.out (by rw [← size_list]; omega) (hnm.out); rw [this.1, this.2]; exact ⟨rfl, rfl⟩
                      rw [← ext_take_eq, ← ext_drop_eq] at hend
                      have HEND := Lib.hid hend
                      have hkj : (k : Int) ≤ (s.size : Int) := by omega
                      clear hend
                      go_wp2_with fail
                      go_region
                      all_goals go_wp2
                      all_goals (try simp +zetaDelta only [Exit.inBlock, Exit.then])
                      go_ret2
                      refine ⟨?_, (Below.refl _ _).drew⟩
                      show Ending.returned (.tuple #[.string (s.extract 0 k), .string (s.extract k s.size)]) = _
                      rw [HEND.out.1, HEND.out.2]

def DgV (s : B) (k : Nat) : Nat := val 0 (s.data.toList.take k)
theorem val_lt : ∀ (l : L8) (a : Nat), (∀ c ∈ l, isD c = true) → val a l < (a + 1) * 10 ^ l.length
  | [], a, _ => by simp [val]
  | c :: l, a, h => by
    have hc := isD_iff.1 (h c (by simp))
    have ih := val_lt l (10 * a + (c.toNat - 48)) (fun x hx => h x (by simp [hx]))
    show val (10 * a + (c.toNat - 48)) l < _
    refine Nat.lt_of_lt_of_le ih ?_
    rw [List.length_cons, Nat.pow_succ, ← Nat.mul_assoc, Nat.mul_right_comm]
    exact Nat.mul_le_mul_right _ (by omega)
def NuRel (s : B) (w : World) (n i : Value) (wr : World) : Prop := ∃ k : Nat, k ≤ s.size ∧ k ≤ 13 ∧ i = .int .i64 (k : Int) ∧ n = .int .i64 ((DgV s k : Nat) : Int) ∧ AllK isD s.data.toList k ∧ w = wr
theorem dgv_lt {s : B} {k : Nat} (h : AllK isD s.data.toList k) (hk : k ≤ 13) : DgV s k < 10 ^ 13 := by
  unfold DgV
  have h1 := val_lt (s.data.toList.take k) 0 (fun c hc => by
    obtain ⟨j, hj⟩ := List.mem_iff_getElem?.1 hc
    rw [List.getElem?_take] at hj
    split at hj
    · rename_i h2; exact h j c h2 hj
    · cases hj)
  have h2 : (s.data.toList.take k).length ≤ 13 := by rw [List.length_take]; omega
  have h3 : 10 ^ (s.data.toList.take k).length ≤ 10 ^ 13 := Nat.pow_le_pow_right (by decide) h2
  omega
theorem dgv_succ {s : B} {k : Nat} {b : UInt8} (hb : s.data.toList[k]? = some b) : DgV s (k + 1) = 10 * DgV s k + (b.toNat - 48) := by
  unfold DgV
  rw [List.take_add_one, hb]
  exact val_snoc _ _ _
/-- the end of the digits -/
theorem num_stop {s : B} {k : Nat} (hk : k ≤ s.size) (hd : AllK isD s.data.toList k) (h13 : k ≤ 13) (hn : k = 13 ∨ ∀ c, s.data.toList[k]? = some c → isD c = false) : numP s.data.toList = if k = 0 then (-1, s.data.toList) else (((DgV s k : Nat) : Int), s.data.toList.drop k) := by
  have hl : k ≤ s.data.toList.length := by rw [← size_list]; exact hk
  have e : ndig s.data.toList = s.data.toList.take k := by
    unfold ndig
    have := tw_at (p := isD) (l := s.data.toList.take 13) (k := k) (fun j c hj hc => hd j c hj (by rw [List.getElem?_take] at hc; split at hc; exact hc; cases hc)) (by rw [List.length_take]; omega) (fun c hc => by
      rw [List.getElem?_take] at hc
      split at hc
      · rcases hn with h | h
        · omega
        · exact h c hc
      · cases hc)
    rw [this.1, List.take_take, Nat.min_eq_left h13]
  have el : (s.data.toList.take k).length = k := by rw [List.length_take]; omega
  unfold numP
  rw [e, el]
  by_cases h0 : k = 0
  · rw [if_pos h0, h0, if_pos (by simp)]
  · rw [if_neg h0, if_neg (fun e2 => h0 (by rw [← el, e2]; rfl))]
    rfl

set_option maxHeartbeats 3200000 in
set_option maxRecDepth 100000 in
theorem RNumber_x (s : B) (w : World) (hs : s.size ≤ 100000) :
    Calls Tryz.prog 23 #[.string s] w fun r w' => r = .returned (.tuple #[.int .i64 (numP s.data.toList).1, .string (mkB (numP s.data.toList).2)]) ∧ Below w.heap.size w w' := by
  go_enter Tryz.func23, Tryz.ntmps23
  go_wp2_with fail
  go_loopw [4, 5] (fun n i wr => NuRel s w n i wr) (fun n i _ => s.size - (intOf i).toNat)
  case atStart => exact ⟨0, by omega, by omega, rfl, rfl, fun j c hj => by omega, rfl⟩
  case round =>
    obtain ⟨k, hk, hk2, rfl, rfl, hd, rfl⟩ := hrel
    have HD := Lib.hid hd
    clear hd
    by_cases hz : k < s.size
    case neg =>
      have hzi : decide ((k : Int) < (s.size : Int)) = false := decide_eq_false (by omega)
      have hend := num_stop hk HD.out hk2 (Or.inr (fun c e => by rw [List.getElem?_eq_none (by rw [← size_list]; omega)] at e; cases e))
      have hkj : (k : Int) ≤ (s.size : Int) := by omega
      by_cases k0 : k = 0
      · have HEND := Lib.hid (hend.trans (if_pos k0))
        have hk0 : (((k : Nat) : Int) == 0) = true := beq_iff_eq.2 (by omega)
        clear hend k0
        go_wp2_with fail
        all_goals (try simp +zetaDelta only [Exit.inBlock, Exit.then])
        all_goals (go_ret2; refine ⟨?_, Below.refl _ _⟩; rw [HEND.out]; rfl)
      · have HEND := Lib.hid (hend.trans (if_neg k0))
        have hk0 : (((k : Nat) : Int) == 0) = false := beq_eq_false_iff_ne.2 (by omega)
        clear hend k0
        go_wp2_with fail
        go_region
        all_goals go_wp2
        all_goals (try simp +zetaDelta only [Exit.inBlock, Exit.then])
        go_ret2
        refine ⟨?_, (Below.refl _ _).drew⟩
        rw [HEND.out]
        show Ending.returned (.tuple #[.int .i64 ((DgV s k : Nat) : Int), .string (s.extract k s.size)]) = _
        rw [ext_drop_eq]
    case pos =>
      have hzi : decide ((k : Int) < (s.size : Int)) = true := decide_eq_true (by omega)
      have hzj : (k : Int) < (s.size : Int) := by omega
      by_cases h13 : k < 13
      case neg =>
        have hzk : decide ((k : Int) < (13 : Int)) = false := decide_eq_false (by omega)
        have hend := num_stop hk HD.out hk2 (Or.inl (by omega))
        have hkj : (k : Int) ≤ (s.size : Int) := by omega
        by_cases k0 : k = 0
        · have HEND := Lib.hid (hend.trans (if_pos k0))
          have hk0 : (((k : Nat) : Int) == 0) = true := beq_iff_eq.2 (by omega)
          clear hend k0
          go_wp2_with fail
          all_goals (try simp +zetaDelta only [Exit.inBlock, Exit.then])
          all_goals (go_ret2; refine ⟨?_, Below.refl _ _⟩; rw [HEND.out]; rfl)
        · have HEND := Lib.hid (hend.trans (if_neg k0))
          have hk0 : (((k : Nat) : Int) == 0) = false := beq_eq_false_iff_ne.2 (by omega)
          clear hend k0
          go_wp2_with fail
          go_region
          all_goals go_wp2
          all_goals (try simp +zetaDelta only [Exit.inBlock, Exit.then])
          go_ret2
          refine ⟨?_, (Below.refl _ _).drew⟩
          rw [HEND.out]
          show Ending.returned (.tuple #[.int .i64 ((DgV s k : Nat) : Int), .string (s.extract k s.size)]) = _
          rw [ext_drop_eq]
      case pos =>
        have hzk : decide ((k : Int) < (13 : Int)) = true := decide_eq_true (by omega)
        obtain ⟨b, hb0⟩ : ∃ b : UInt8, s[k]'hz = b := ⟨_, rfl⟩
        have hbl : s.data.toList[k]? = some b := by rw [← hb0]; exact Lib.data_getElem? s k hz
        have Hb := Lib.hid hbl
        clear hbl
        by_cases h1 : 48 ≤ b.toNat
        case neg =>
          have hnd : Hid (∀ c, s.data.toList[k]? = some c → isD c = false) := fun c e => by rw [Hb.out] at e; cases e; rw [← Bool.not_eq_true, isD_iff]; omega
          have u1 : (b.toNat : Int) < (48 : Int) := by omega
          have hend := num_stop hk HD.out hk2 (Or.inr hnd.out)
          have hkj : (k : Int) ≤ (s.size : Int) := by omega
          by_cases k0 : k = 0
          · have HEND := Lib.hid (hend.trans (if_pos k0))
            have hk0 : (((k : Nat) : Int) == 0) = true := beq_iff_eq.2 (by omega)
            clear hend k0
            go_wp2_with fail
            all_goals (try simp +zetaDelta only [Exit.inBlock, Exit.then])
            all_goals (go_ret2; refine ⟨?_, Below.refl _ _⟩; rw [HEND.out]; rfl)
          · have HEND := Lib.hid (hend.trans (if_neg k0))
            have hk0 : (((k : Nat) : Int) == 0) = false := beq_eq_false_iff_ne.2 (by omega)
            clear hend k0
            go_wp2_with fail
            go_region
            all_goals go_wp2
            all_goals (try simp +zetaDelta only [Exit.inBlock, Exit.then])
            go_ret2
            refine ⟨?_, (Below.refl _ _).drew⟩
            rw [HEND.out]
            show Ending.returned (.tuple #[.int .i64 ((DgV s k : Nat) : Int), .string (s.extract k s.size)]) = _
            rw [ext_drop_eq]
        case pos =>
          by_cases h2 : b.toNat ≤ 57
          case neg =>
            have hnd : Hid (∀ c, s.data.toList[k]? = some c → isD c = false) := fun c e => by rw [Hb.out] at e; cases e; rw [← Bool.not_eq_true, isD_iff]; omega
            have u1 : (48 : Int) ≤ (b.toNat : Int) := by omega
            have u2 : (57 : Int) < (b.toNat : Int) := by omega
            have hend := num_stop hk HD.out hk2 (Or.inr hnd.out)
            have hkj : (k : Int) ≤ (s.size : Int) := by omega
            by_cases k0 : k = 0
            · have HEND := Lib.hid (hend.trans (if_pos k0))
              have hk0 : (((k : Nat) : Int) == 0) = true := beq_iff_eq.2 (by omega)
              clear hend k0
              go_wp2_with fail
              all_goals (try simp +zetaDelta only [Exit.inBlock, Exit.then])
              all_goals (go_ret2; refine ⟨?_, Below.refl _ _⟩; rw [HEND.out]; rfl)
            · have HEND := Lib.hid (hend.trans (if_neg k0))
              have hk0 : (((k : Nat) : Int) == 0) = false := beq_eq_false_iff_ne.2 (by omega)
              clear hend k0
              go_wp2_with fail
              go_region
              all_goals go_wp2
              all_goals (try simp +zetaDelta only [Exit.inBlock, Exit.then])
              go_ret2
              refine ⟨?_, (Below.refl _ _).drew⟩
              rw [HEND.out]
              show Ending.returned (.tuple #[.int .i64 ((DgV s k : Nat) : Int), .string (s.extract k s.size)]) = _
              rw [ext_drop_eq]
          case pos =>
            have u1 : (48 : Int) ≤ (b.toNat : Int) := by omega
            have u2 : (b.toNat : Int) ≤ (57 : Int) := by omega
            have hv := dgv_lt HD.out hk2
            have hs2 := dgv_succ Hb.out
            have hm : Hid (AllK isD s.data.toList (k + 1)) := HD.out.succ Hb.out (isD_iff.2 ⟨h1, h2⟩)
            have HS := Lib.hid hs2
            clear hs2
            go_wp2
            go_roundw
            case measure => simp [intOf]; omega
            case rel =>
              refine ⟨k + 1, by omega, by omega, by go_num, ?_, hm.out, rfl⟩
              rw [HS.out]
              congr 1
              omega

set_option maxHeartbeats 3200000 in
set_option maxRecDepth 100000 in
theorem Rline_x (s : B) (w : World) (hs : s.size ≤ 100000) :
    Calls Tryz.prog 24 #[.string s] w fun r w' => r = .returned (.string (mkB (lineP s.data.toList))) ∧ Below w.heap.size w w' := by
  go_enter Tryz.func24, Tryz.ntmps24
  go_wp2_with fail
  go_loopw [3] (fun i wr => WRel (fun c => c != 10) s w i wr) (fun i _ => s.size - (intOf i).toNat)
  case atStart => exact ⟨0, by omega, rfl, fun j c hj => by omega, rfl⟩
  case round =>
    obtain ⟨k, hk, rfl, hd, rfl⟩ := hrel
    have HD := Lib.hid hd
    clear hd
    by_cases hz : k < s.size
    case neg =>
      have hzi : decide ((k : Int) < (s.size : Int)) = false := decide_eq_false (by omega)
      have hend := (tw_at HD.out (by rw [← size_list]; omega) (fun c e => by rw [List.getElem?_eq_none (by rw [← size_list]; omega)] at e; cases e)).2
      have he : lineP s.data.toList = [] := by unfold lineP; rw [hend, List.drop_drop, List.drop_eq_nil_of_le (by rw [← size_list]; omega)]
      have HE := Lib.hid he
      clear hend he
      go_wp2_with fail
      go_ret
      exact ⟨by rw [HE.out]; rfl, Below.refl _ _⟩
    case pos =>
      have hzi : decide ((k : Int) < (s.size : Int)) = true := decide_eq_true (by omega)
      have hzj : (k : Int) < (s.size : Int) := by omega
      obtain ⟨b, hb0⟩ : ∃ b : UInt8, s[k]'hz = b := ⟨_, rfl⟩
      have hbl : s.data.toList[k]? = some b := by rw [← hb0]; exact Lib.data_getElem? s k hz
      have Hb := Lib.hid hbl
      clear hbl
      by_cases h1 : b.toNat = 10
      case pos =>
        have u1 : (b.toNat : Int) = (10 : Int) := by omega
        have hend := (tw_at HD.out (by rw [← size_list]; omega) (fun c e => by rw [Hb.out] at e; cases e; have : b = 10 := UInt8.toNat_inj.1 h1; rw [this]; rfl)).2
        have he : mkB (lineP s.data.toList) = s.extract (k + 1) s.size := by unfold lineP; rw [hend, List.drop_drop, ext_drop_eq]
        have HE := Lib.hid he
        clear hend he
        go_wp2_with fail
        go_ret
        exact ⟨by rw [HE.out]; rfl, Below.refl _ _⟩
      case neg =>
        have u1 : ((b.toNat : Int) == (10 : Int)) = false := by exact beq_eq_false_iff_ne.2 (by omega)
        have hm : Hid (AllK (fun c => c != 10) s.data.toList (k + 1)) := HD.out.succ Hb.out (by simp only [bne_iff_ne, ne_eq]; intro e; subst e; exact h1 rfl)
        go_wp2
        go_roundw
        case measure => simp [intOf]; omega
        case rel => exact ⟨k + 1, by omega, by go_num, hm.out, rfl⟩
end Go.Proofs.YtcjakgpmompaiaaGreatDoor
