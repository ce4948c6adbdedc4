/-
  The program's functions of one byte; span; what the variable holds.
-/
import Derived.Test.YtmpgbdibagnanaaDoorRefD
namespace Go.Proofs.YtmpgbdibagnanaaDoor
open Go.RowKit

/-- what the program's table holds -/
def sgC : Array Value := (Lx.signs.map fun c => Value.int .u8 (c.toNat : Int)).toArray
def Sg (w : World) : Prop := ∃ t fr, w.heap[0]? = some (.cells sgC t fr)
theorem Sg.pos {w : World} (h : Sg w) : 0 < w.heap.size := by
  obtain ⟨t, fr, h⟩ := h
  exact (Array.getElem?_eq_some_iff.1 h).1
theorem sg_of {W w' : World} (h : Sg W) (hb : Below W.heap.size W w') : Sg w' := by
  have hp := h.pos
  obtain ⟨t, fr, h⟩ := h
  exact ⟨t, fr, by rw [hb.block _ hp]; exact h⟩

theorem lLetter_x : Byte1 35 Lx.isLetter := by
  intro c w
  obtain ⟨hc1, hc2⟩ := byte_le c
  go_enter Tryd.func35, Tryd.ntmps35
  go_wp2
  all_goals go_ret
  all_goals exact ⟨ret_b (by rw [Bool.eq_iff_iff]; simp [Lx.isLetter]; omega), rfl⟩

theorem lDigit_x : Byte1 30 Lx.isDigit := by
  intro c w
  obtain ⟨hc1, hc2⟩ := byte_le c
  go_enter Tryd.func30, Tryd.ntmps30
  go_wp2
  all_goals go_ret
  all_goals exact ⟨ret_b (by rw [Bool.eq_iff_iff]; simp [Lx.isDigit]; omega), rfl⟩

theorem lPlain_x : Byte1 44 Lx.isPlain := by
  intro c w
  obtain ⟨hc1, hc2⟩ := byte_le c
  go_enter Tryd.func44, Tryd.ntmps44
  go_wp2
  all_goals go_ret
  all_goals exact ⟨ret_b (by rw [Bool.eq_iff_iff]; simp [Lx.isPlain]; omega), rfl⟩

def isEsc (c : UInt8) : Bool := c == 34 || c == 92
theorem isEsc_iff (c : UInt8) : isEsc c = true ↔ ((c.toNat : Int) = 34 ∨ (c.toNat : Int) = 92) := by
  simp only [isEsc, Bool.or_eq_true, beq_iff_eq, ← UInt8.toNat_inj]
  simp
  omega

theorem lEsc_x : Byte1 45 isEsc := by
  intro c w
  obtain ⟨hc1, hc2⟩ := byte_le c
  go_enter Tryd.func45, Tryd.ntmps45
  go_wp2
  all_goals go_ret
  all_goals exact ⟨ret_b (by rw [Bool.eq_iff_iff, isEsc_iff]; first | (simp; done) | (simp; omega)), rfl⟩

theorem lWord_x : Byte1 36 Lx.isWord := by
  intro c w
  obtain ⟨hc1, hc2⟩ := byte_le c
  cases hl : Lx.isLetter c with
  | true =>
    have hv : Hid (Lx.isWord c = true) := by show _ = _; simp [Lx.isWord, hl]
    have Hl := Lib.hid hl
    clear hl
    go_enter Tryd.func36, Tryd.ntmps36
    go_wp2_with fail
    refine (lLetter_x c _).mono ?_
    rintro e w1 ⟨rfl, rfl⟩
    rw [Hl.out]
    go_wp2_with fail
    go_ret
    exact ⟨ret_b hv.out.symm, rfl⟩
  | false =>
    have Hl := Lib.hid hl
    cases hd : Lx.isDigit c with
    | true =>
      have hv : Hid (Lx.isWord c = true) := by show _ = _; simp [Lx.isWord, hd]
      have Hd := Lib.hid hd
      clear hl hd
      go_enter Tryd.func36, Tryd.ntmps36
      go_wp2_with fail
      refine (lLetter_x c _).mono ?_
      rintro e w1 ⟨rfl, rfl⟩
      rw [Hl.out]
      go_wp2_with fail
      refine (lDigit_x c _).mono ?_
      rintro e w1 ⟨rfl, rfl⟩
      rw [Hd.out]
      go_wp2_with fail
      go_ret
      exact ⟨ret_b hv.out.symm, rfl⟩
    | false =>
      have hv : Hid (Lx.isWord c = ((c.toNat : Int) == 95)) := by
        show _ = _
        rw [Bool.eq_iff_iff]
        simp only [Lx.isWord, hl, hd, Bool.false_or, us_iff c]
        exact beq_iff_eq.symm
      have Hd := Lib.hid hd
      clear hl hd
      go_enter Tryd.func36, Tryd.ntmps36
      go_wp2_with fail
      refine (lLetter_x c _).mono ?_
      rintro e w1 ⟨rfl, rfl⟩
      rw [Hl.out]
      go_wp2_with fail
      refine (lDigit_x c _).mono ?_
      rintro e w1 ⟨rfl, rfl⟩
      rw [Hd.out]
      go_wp2_with fail
      go_ret
      exact ⟨ret_b hv.out.symm, rfl⟩

/-- how many bytes of one sort a text begins with -/
def runL (p : UInt8 → Bool) (s : ByteArray) : Nat := (s.data.toList.takeWhile p).length

theorem takeWhile_len (p : UInt8 → Bool) (l : List UInt8) : ∀ k, k ≤ l.length → (l.take k).all p = true → (∀ c r, l.drop k = c :: r → p c = false) → (l.takeWhile p).length = k := by
  intro k hk ha hs
  have h1 : l = l.take k ++ l.drop k := (List.take_append_drop k l).symm
  have h2 : (l.take k ++ l.drop k).takeWhile p = l.take k := by
    rw [List.takeWhile_append_of_pos (List.all_eq_true.1 ha)]
    cases hd : l.drop k with
    | nil => simp
    | cons c r => rw [List.takeWhile_cons, hs c r hd]; simp
  rw [h1, h2, List.length_take]
  omega
theorem runL_at {p : UInt8 → Bool} {s : ByteArray} {k : Nat} (hk : k ≤ s.size) (ha : (s.data.toList.take k).all p = true) (hs : ∀ h : k < s.size, p s[k] = false) : runL p s = k := by
  refine takeWhile_len p _ k (by rw [← size_of]; exact hk) ha (fun c r h => ?_)
  by_cases hlt : k < s.size
  · rw [drop_cons s k hlt] at h
    injection h with h1 h2
    rw [← h1]; exact hs hlt
  · rw [show k = s.size from by omega, drop_end] at h
    cases h
theorem runL_le (p : UInt8 → Bool) (s : ByteArray) : runL p s ≤ s.size := by
  unfold runL
  rw [size_of]
  exact (List.takeWhile_prefix p).length_le

theorem runL_all {p : UInt8 → Bool} {s : ByteArray} : s.data.toList.all p = decide (runL p s = s.size) := by
  rw [Bool.eq_iff_iff, decide_eq_true_eq]
  constructor
  · intro h
    exact runL_at (Nat.le_refl _) (by rw [take_end s _ (Nat.le_refl _)]; exact h) (fun h => absurd h (Nat.lt_irrefl _))
  · intro h
    unfold runL at h
    have h2 : s.data.toList.takeWhile p = s.data.toList := (List.takeWhile_prefix p).eq_of_length (by rw [h, ← size_of])
    rw [← h2, List.all_eq_true]
    exact fun c hc => (List.all_eq_true.1 (List.all_takeWhile (p := p))) c hc

set_option maxHeartbeats 400000 in
theorem spanW_x (s : ByteArray) (w : World) (hs : s.size ≤ 1099511627776) :
    Calls Tryd.prog 29 #[.string s, .func (.func 36) #[] #[]] w fun e w' => e = .returned (.int .i64 (runL Lx.isWord s : Int)) ∧ w = w' := by
  go_enter Tryd.func29, Tryd.ntmps29
  go_wp2_with fail
  go_loop [5] (fun i => ∃ k : Nat, k ≤ s.size ∧ i = .int .i64 k ∧ (s.data.toList.take k).all Lx.isWord = true) (fun i => s.size - (intOf i).toNat)
  case atStart => exact ⟨0, Nat.zero_le _, rfl, by simp⟩
  case round =>
    obtain ⟨k, hk, rfl, hn⟩ := hrel
    have Hn := Lib.hid hn
    clear hn
    by_cases hlt : k < s.size
    · go_wp2_with fail
      refine (lWord_x s[k] _).mono ?_
      rintro e w1 ⟨rfl, rfl⟩
      cases hp : Lx.isWord s[k] with
      | true =>
        have hy : Hid ((s.data.toList.take (k + 1)).all Lx.isWord = true) := by show _ = _; rw [all_snoc _ s k hlt, Hn.out, hp]; rfl
        clear hp
        go_wp2_with fail
        go_round
        case rel => exact ⟨k + 1, by omega, rfl, hy.out⟩
        case measure => simp [intOf]; omega
      | false =>
        have hy := Lib.hid (runL_at hk Hn.out (fun _ => hp))
        clear hp
        go_wp2_with fail
        go_ret
        exact ⟨by rw [hy.out]; rfl, rfl⟩
    · have hy := Lib.hid (runL_at hk Hn.out (fun h => absurd h hlt))
      go_wp2_with fail
      go_ret
      exact ⟨by rw [hy.out]; rfl, rfl⟩

set_option maxHeartbeats 400000 in
theorem spanD_x (s : ByteArray) (w : World) (hs : s.size ≤ 1099511627776) :
    Calls Tryd.prog 29 #[.string s, .func (.func 30) #[] #[]] w fun e w' => e = .returned (.int .i64 (runL Lx.isDigit s : Int)) ∧ w = w' := by
  go_enter Tryd.func29, Tryd.ntmps29
  go_wp2_with fail
  go_loop [5] (fun i => ∃ k : Nat, k ≤ s.size ∧ i = .int .i64 k ∧ (s.data.toList.take k).all Lx.isDigit = true) (fun i => s.size - (intOf i).toNat)
  case atStart => exact ⟨0, Nat.zero_le _, rfl, by simp⟩
  case round =>
    obtain ⟨k, hk, rfl, hn⟩ := hrel
    have Hn := Lib.hid hn
    clear hn
    by_cases hlt : k < s.size
    · go_wp2_with fail
      refine (lDigit_x s[k] _).mono ?_
      rintro e w1 ⟨rfl, rfl⟩
      cases hp : Lx.isDigit s[k] with
      | true =>
        have hy : Hid ((s.data.toList.take (k + 1)).all Lx.isDigit = true) := by show _ = _; rw [all_snoc _ s k hlt, Hn.out, hp]; rfl
        clear hp
        go_wp2_with fail
        go_round
        case rel => exact ⟨k + 1, by omega, rfl, hy.out⟩
        case measure => simp [intOf]; omega
      | false =>
        have hy := Lib.hid (runL_at hk Hn.out (fun _ => hp))
        clear hp
        go_wp2_with fail
        go_ret
        exact ⟨by rw [hy.out]; rfl, rfl⟩
    · have hy := Lib.hid (runL_at hk Hn.out (fun h => absurd h hlt))
      go_wp2_with fail
      go_ret
      exact ⟨by rw [hy.out]; rfl, rfl⟩

set_option maxHeartbeats 400000 in
theorem spanP_x (s : ByteArray) (w : World) (hs : s.size ≤ 1099511627776) :
    Calls Tryd.prog 29 #[.string s, .func (.func 44) #[] #[]] w fun e w' => e = .returned (.int .i64 (runL Lx.isPlain s : Int)) ∧ w = w' := by
  go_enter Tryd.func29, Tryd.ntmps29
  go_wp2_with fail
  go_loop [5] (fun i => ∃ k : Nat, k ≤ s.size ∧ i = .int .i64 k ∧ (s.data.toList.take k).all Lx.isPlain = true) (fun i => s.size - (intOf i).toNat)
  case atStart => exact ⟨0, Nat.zero_le _, rfl, by simp⟩
  case round =>
    obtain ⟨k, hk, rfl, hn⟩ := hrel
    have Hn := Lib.hid hn
    clear hn
    by_cases hlt : k < s.size
    · go_wp2_with fail
      refine (lPlain_x s[k] _).mono ?_
      rintro e w1 ⟨rfl, rfl⟩
      cases hp : Lx.isPlain s[k] with
      | true =>
        have hy : Hid ((s.data.toList.take (k + 1)).all Lx.isPlain = true) := by show _ = _; rw [all_snoc _ s k hlt, Hn.out, hp]; rfl
        clear hp
        go_wp2_with fail
        go_round
        case rel => exact ⟨k + 1, by omega, rfl, hy.out⟩
        case measure => simp [intOf]; omega
      | false =>
        have hy := Lib.hid (runL_at hk Hn.out (fun _ => hp))
        clear hp
        go_wp2_with fail
        go_ret
        exact ⟨by rw [hy.out]; rfl, rfl⟩
    · have hy := Lib.hid (runL_at hk Hn.out (fun h => absurd h hlt))
      go_wp2_with fail
      go_ret
      exact ⟨by rw [hy.out]; rfl, rfl⟩

end Go.Proofs.YtmpgbdibagnanaaDoor
