/-
  The reference's Blank, letter, digit, sign.
-/
import Derived.Test.YtmpgbdibagnanaaDoorKit
namespace Go.Proofs.YtmpgbdibagnanaaDoor
open Go.RowKit

/-- a function of one byte that answers one bool, and does nothing else -/
def Byte1 (f : FuncId) (p : UInt8 → Bool) : Prop := ∀ (c : UInt8) (w : World), Calls Tryd.prog f #[.int .u8 (c.toNat : Int)] w fun e w' => e = .returned (.bool (p c)) ∧ w = w'

theorem ret_b {a b : Bool} (h : a = b) : Ending.returned (.bool a) = .returned (.bool b) := by rw [h]
theorem byte_le (c : UInt8) : (0 : Int) ≤ (c.toNat : Int) ∧ (c.toNat : Int) ≤ 255 := ⟨by omega, by have := c.toNat_lt; omega⟩

theorem letter_x : Byte1 37 Lx.isLetter := by
  intro c w
  obtain ⟨hc1, hc2⟩ := byte_le c
  go_enter Tryd.func37, Tryd.ntmps37
  go_wp2
  all_goals go_ret
  all_goals exact ⟨ret_b (by rw [Bool.eq_iff_iff]; simp [Lx.isLetter]; omega), rfl⟩

theorem digit_x : Byte1 31 Lx.isDigit := by
  intro c w
  obtain ⟨hc1, hc2⟩ := byte_le c
  go_enter Tryd.func31, Tryd.ntmps31
  go_wp2
  all_goals go_ret
  all_goals exact ⟨ret_b (by rw [Bool.eq_iff_iff]; simp [Lx.isDigit]; omega), rfl⟩

theorem blank_iff (c : UInt8) : Lx.isBlank c = true ↔ (c.toNat = 9 ∨ c.toNat = 10 ∨ c.toNat = 32) := by
  simp only [Lx.isBlank, Bool.or_eq_true, beq_iff_eq, ← UInt8.toNat_inj]
  simp [or_assoc]

theorem Blank_x : Byte1 27 Lx.isBlank := by
  intro c w
  obtain ⟨hc1, hc2⟩ := byte_le c
  go_enter Tryd.func27, Tryd.ntmps27
  go_wp2
  all_goals go_ret
  all_goals exact ⟨ret_b (by rw [Bool.eq_iff_iff, blank_iff]; simp; omega), rfl⟩

theorem not_take {l : List UInt8} {c : UInt8} (h : c ∉ l) : l.contains c = false := by simpa using h

theorem sign_x : Byte1 43 Lx.isSign := by
  intro c w
  obtain ⟨hc1, hc2⟩ := byte_le c
  go_enter Tryd.func43, Tryd.ntmps43
  go_wp2_with fail
  generalize hS : (⟨#[40, 41, 44, 59, 58, 61, 60, 43, 45, 42, 46, 123, 125]⟩ : ByteArray) = S
  have hz : Hid (S.size = 13) := by rw [← hS]; rfl
  have hs : Hid (S.data.toList = Lx.signs) := by rw [← hS]; rfl
  have hz1 : S.size ≤ 13 := Nat.le_of_eq hz.out
  clear hS
  go_loop [4] (fun i => ∃ k : Nat, k ≤ S.size ∧ i = .int .i64 k ∧ c ∉ S.data.toList.take k) (fun i => S.size - (intOf i).toNat)
  case atStart => exact ⟨0, Nat.zero_le _, rfl, by simp⟩
  case round =>
    obtain ⟨k, hk, rfl, hn⟩ := hrel
    have Hn := Lib.hid hn
    clear hn
    by_cases hlt : k < S.size
    · by_cases he : S[k] = c
      · have hb : ((S[k].toNat : Int) == (c.toNat : Int)) = true := by simp [he]
        have hin : Hid (Lx.isSign c = true) := by
          show Lx.signs.contains c = true
          rw [← hs.out, ← he]
          simp only [List.contains_eq_mem, decide_eq_true_eq]
          exact List.mem_of_getElem? (get_of S k hlt)
        clear he
        go_wp2
        go_ret
        exact ⟨ret_b hin.out.symm, rfl⟩
      · have hb : ((S[k].toNat : Int) == (c.toNat : Int)) = false := by
          rw [beq_eq_false_iff_ne]
          intro e
          exact he (UInt8.toNat_inj.1 (by omega))
        have hn : Hid (c ∉ S.data.toList.take (k + 1)) := by
          show ¬ _
          rw [take_snoc S k hlt, List.mem_append]
          rintro (h | h)
          · exact Hn.out h
          · simp at h; exact he h.symm
        clear he
        go_wp2
        go_round
        case rel => exact ⟨k + 1, by omega, rfl, hn.out⟩
        case measure => simp [intOf]; omega
    · have hin : Hid (Lx.isSign c = false) := by
        show Lx.signs.contains c = false
        have h := Hn.out
        rw [take_end S k (by omega), hs.out] at h
        exact not_take h
      go_wp2
      go_ret
      exact ⟨ret_b hin.out.symm, rfl⟩

end Go.Proofs.YtmpgbdibagnanaaDoor
