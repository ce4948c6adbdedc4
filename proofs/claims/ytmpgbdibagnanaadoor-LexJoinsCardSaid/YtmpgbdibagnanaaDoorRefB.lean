/-
  The reference's Value, Name, Number.
-/
import Derived.Test.YtmpgbdibagnanaaDoorRefA
namespace Go.Proofs.YtmpgbdibagnanaaDoor
open Go.RowKit

theorem all_snoc (p : UInt8 → Bool) (s : ByteArray) (k : Nat) (h : k < s.size) : (s.data.toList.take (k + 1)).all p = ((s.data.toList.take k).all p && p s[k]) := by
  rw [take_snoc s k h, List.all_append]; simp
theorem all_no (p : UInt8 → Bool) (s : ByteArray) (k : Nat) (h : k < s.size) (hp : p s[k] = false) : s.data.toList.all p = false := by
  rw [List.all_eq_false]
  exact ⟨s[k], List.mem_of_getElem? (get_of s k h), by rw [hp]; simp⟩

theorem plain_iff (c : UInt8) : Lx.isPlain c = true ↔ 32 ≤ (c.toNat : Int) ∧ (c.toNat : Int) ≤ 126 := by simp [Lx.isPlain]; omega
theorem plain_no {c : UInt8} (h : ¬ (32 ≤ (c.toNat : Int) ∧ (c.toNat : Int) ≤ 126)) : Lx.isPlain c = false := by
  cases hb : Lx.isPlain c with
  | false => rfl
  | true => exact absurd ((plain_iff c).1 hb) h

set_option maxHeartbeats 400000 in
theorem Value_x (s : ByteArray) (w : World) (hs : s.size ≤ 1099511627776) : Calls Tryd.prog 34 #[.string s] w fun e w' => e = .returned (.bool (Lx.okValue s.data.toList)) ∧ w = w' := by
  go_enter Tryd.func34, Tryd.ntmps34
  go_wp2_with fail
  go_loop [3] (fun i => ∃ k : Nat, k ≤ s.size ∧ i = .int .i64 k ∧ (s.data.toList.take k).all Lx.isPlain = true) (fun i => s.size - (intOf i).toNat)
  case atStart => exact ⟨0, Nat.zero_le _, rfl, by simp⟩
  case round =>
    obtain ⟨k, hk, rfl, hn⟩ := hrel
    have Hn := Lib.hid hn
    clear hn
    by_cases hlt : k < s.size
    · by_cases hp : 32 ≤ (s[k].toNat : Int) ∧ (s[k].toNat : Int) ≤ 126
      · obtain ⟨hp1, hp2⟩ := hp
        have hn : Hid ((s.data.toList.take (k + 1)).all Lx.isPlain = true) := by
          show _ = _
          rw [all_snoc _ s k hlt, Hn.out, (plain_iff _).2 ⟨hp1, hp2⟩]
          rfl
        go_wp2
        go_round
        case rel => exact ⟨k + 1, by omega, rfl, hn.out⟩
        case measure => simp [intOf]; omega
      · have hv : Hid (Lx.okValue s.data.toList = false) := by
          show _ = _
          rw [Lx.okValue, all_no _ s k hlt (plain_no hp)]
          rfl
        rcases (show (s[k].toNat : Int) < 32 ∨ 126 < (s[k].toNat : Int) from by omega) with hc | hc
        all_goals
          clear hp
          go_wp2
          go_ret
          exact ⟨ret_b hv.out.symm, rfl⟩
    · have hall := Hn.out
      rw [take_end s k (by omega)] at hall
      have hv : Hid (Lx.okValue s.data.toList = decide ((s.size : Int) ≤ 400)) := by
        show _ = _
        rw [Lx.okValue, hall, ← size_of]
        simp
        omega
      clear hall
      go_wp2
      go_ret
      exact ⟨ret_b hv.out.symm, rfl⟩

theorem letter_word {c : UInt8} (h : Lx.isLetter c = true) : Lx.isWord c = true := by simp [Lx.isWord, h]
theorem okName_eq (s : ByteArray) (h : 0 < s.size) : Lx.okName s.data.toList = (Lx.isLetter s[0] && s.data.toList.all Lx.isWord && decide (s.size ≤ 20)) := by
  have e := drop_cons s 0 h
  rw [List.drop_zero] at e
  have hz := size_of s
  rw [e] at hz ⊢
  simp only [Lx.okName, List.all_cons]
  cases hl : Lx.isLetter s[0] with
  | false => simp
  | true => rw [letter_word hl, hz]; simp
theorem okName_nil (s : ByteArray) (h : s.size = 0) : Lx.okName s.data.toList = false := by
  have e : s.data.toList = [] := List.eq_nil_of_length_eq_zero (by rw [← size_of]; exact h)
  rw [e]; rfl
theorem us_iff (c : UInt8) : (c == 95) = true ↔ (c.toNat : Int) = 95 := by rw [beq_iff_eq, ← UInt8.toNat_inj]; simp; omega

set_option maxHeartbeats 1600000 in
theorem Name_x (s : ByteArray) (w : World) (hs : s.size ≤ 1099511627776) : Calls Tryd.prog 19 #[.string s] w fun e w' => e = .returned (.bool (Lx.okName s.data.toList)) ∧ w = w' := by
  by_cases h0 : 0 < s.size
  · have He := Lib.hid (okName_eq s h0)
    by_cases h20 : s.size ≤ 20
    · cases hl : Lx.isLetter s[0] with
      | false =>
        have hv : Hid (Lx.okName s.data.toList = false) := by show _ = _; rw [He.out, hl]; rfl
        have Hl := Lib.hid hl
        clear hl
        go_enter Tryd.func19, Tryd.ntmps19
        go_wp2_with fail
        refine (letter_x s[0] _).mono ?_
        rintro e w1 ⟨rfl, rfl⟩
        rw [Hl.out]
        go_wp2
        go_ret
        exact ⟨ret_b hv.out.symm, rfl⟩
      | true =>
        have Hl := Lib.hid hl
        clear hl
        go_enter Tryd.func19, Tryd.ntmps19
        go_wp2_with fail
        refine (letter_x s[0] _).mono ?_
        rintro e w1 ⟨rfl, rfl⟩
        rw [Hl.out]
        go_wp2_with fail
        go_loop [3] (fun i => ∃ k : Nat, 1 ≤ k ∧ k ≤ s.size ∧ i = .int .i64 k ∧ (s.data.toList.take k).all Lx.isWord = true) (fun i => s.size - (intOf i).toNat)
        case atStart => exact ⟨1, Nat.le_refl _, h0, rfl, by rw [all_snoc _ s 0 h0]; simp [letter_word Hl.out]⟩
        case round =>
          obtain ⟨k, hk1, hk, rfl, hn⟩ := hrel
          have Hn := Lib.hid hn
          clear hn
          by_cases hlt : k < s.size
          · have hyes := Lib.hid (fun h : Lx.isWord s[k] = true => (show (s.data.toList.take (k + 1)).all Lx.isWord = true by rw [all_snoc _ s k hlt, Hn.out, h]; rfl))
            have hno := Lib.hid (fun h : Lx.isWord s[k] = false => (show Lx.okName s.data.toList = false by rw [He.out, all_no _ s k hlt h]; simp))
            go_wp2_with fail
            refine (letter_x s[k] _).mono ?_
            rintro e w1 ⟨rfl, rfl⟩
            cases hl : Lx.isLetter s[k] with
            | true =>
              have hy := Lib.hid (hyes.out (by simp [Lx.isWord, hl]))
              clear hl
              go_wp2
              go_round
              case rel => exact ⟨k + 1, by omega, by omega, rfl, hy.out⟩
              case measure => simp [intOf]; omega
            | false =>
              have Hl2 := Lib.hid hl
              clear hl
              go_wp2_with fail
              refine (digit_x s[k] _).mono ?_
              rintro e w1 ⟨rfl, rfl⟩
              cases hd : Lx.isDigit s[k] with
              | true =>
                have hy := Lib.hid (hyes.out (by simp [Lx.isWord, hd]))
                clear hd
                go_wp2
                go_round
                case rel => exact ⟨k + 1, by omega, by omega, rfl, hy.out⟩
                case measure => simp [intOf]; omega
              | false =>
                by_cases h95 : (s[k].toNat : Int) = 95
                · have hy := Lib.hid (hyes.out (by simp only [Lx.isWord, (us_iff s[k]).2 h95]; simp))
                  have hb : ((s[k].toNat : Int) != 95) = false := by simp [h95]
                  clear hd h95
                  go_wp2
                  go_round
                  case rel => exact ⟨k + 1, by omega, by omega, rfl, hy.out⟩
                  case measure => simp [intOf]; omega
                · have hy := Lib.hid (hno.out (by
                    have : (s[k] == 95) = false := by
                      cases hb : (s[k] == 95) with
                      | false => rfl
                      | true => exact absurd ((us_iff s[k]).1 hb) h95
                    simp only [Lx.isWord, Hl2.out, hd, this]; rfl))
                  have hb : ((s[k].toNat : Int) != 95) = true := by simp [h95]
                  clear hd h95
                  go_wp2
                  go_ret
                  exact ⟨ret_b hy.out.symm, rfl⟩
          · have hv : Hid (Lx.okName s.data.toList = true) := by
              have h := Hn.out
              rw [take_end s k (by omega)] at h
              show _ = _
              rw [He.out, h, Hl.out]
              simp [h20]
            go_wp2
            go_ret
            exact ⟨ret_b hv.out.symm, rfl⟩
    · have hv : Hid (Lx.okName s.data.toList = false) := by show _ = _; rw [He.out]; simp [h20]
      go_enter Tryd.func19, Tryd.ntmps19
      go_wp2
      go_ret
      exact ⟨ret_b hv.out.symm, rfl⟩
  · have hv := Lib.hid (okName_nil s (by omega))
    go_enter Tryd.func19, Tryd.ntmps19
    go_wp2
    go_ret
    exact ⟨ret_b hv.out.symm, rfl⟩

end Go.Proofs.YtmpgbdibagnanaaDoor
