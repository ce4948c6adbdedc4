/-
  wire.readSize: it reads the digits and the semicolon that a text begins with.
-/
import Derived.Test.YtcoebgkkniggeaaKit
import Derived.Deep.DeepCutAuto
import Derived.Deep.QuietTactic
import Derived.BigQuiet
namespace Go.Proofs.Ytcoebgkkniggeaa
open Go.RowKit

def tZ : Option (Nat × List UInt8) → Value
  | none => .tuple #[.int .u64 0, .string ⟨#[]⟩, .bool false]
  | some p => .tuple #[.int .u64 p.1, .string (mk p.2), .bool true]

def ZPost (s : ByteArray) (w : World) (e : Ending) (w' : World) : Prop := e = .returned (tZ (Wm.rdZ s.data.toList)) ∧ Below w.heap.size w w'

theorem drop_cons (s : ByteArray) (k : Nat) (h : k < s.size) : s.data.toList.drop k = s[k] :: s.data.toList.drop (k + 1) := by
  have hl : k < s.data.toList.length := by rw [← size_of]; exact h
  rw [List.drop_eq_getElem_cons hl]
  rfl
theorem head_of (s : ByteArray) (h : 0 < s.size) : s.data.toList.head? = some s[0] := by
  have := drop_cons s 0 h
  rw [List.drop_zero] at this
  rw [this]; rfl
theorem drop_end (s : ByteArray) : s.data.toList.drop s.size = [] := by
  rw [size_of, List.drop_length]
theorem extract_mk (s : ByteArray) (k : Nat) : s.extract k s.size = mk (s.data.toList.drop k) := by
  apply ByteArray.ext
  rw [ByteArray.data_extract]
  unfold mk
  apply Array.ext'
  rw [Array.toList_extract]
  simp only [List.extract_eq_take_drop]
  rw [List.take_of_length_le]
  rw [List.length_drop, ← size_of]
  omega

def At (s : ByteArray) (k v : Nat) : Prop := Wm.scan 0 s.data.toList = Wm.scan v (s.data.toList.drop k)

def ZRel (s : ByteArray) (z i : Value) : Prop := ∃ k v : Nat, k ≤ s.size ∧ i = .int .i64 k ∧ z = .int .u64 v ∧ v ≤ 9223372036854775808 ∧ At s k v

theorem at_start (s : ByteArray) : ZRel s (.int .u64 0) (.int .i64 0) := ⟨0, 0, Nat.zero_le _, rfl, rfl, by omega, by unfold At; rw [List.drop_zero]⟩
theorem at_step {s : ByteArray} {k v : Nat} (h : At s k v) (hk : k < s.size) (h1 : 48 ≤ (s[k].toNat : Int)) (h2 : (s[k].toNat : Int) ≤ 57) (h3 : (v : Int) ≤ (9223372036854775808 - ((s[k].toNat : Int) - 48)) / 10) :
    ZRel s (.int .u64 (10 * (v : Int) + ((s[k].toNat : Int) - 48))) (.int .i64 ((k : Int) + 1)) := by
  refine ⟨k + 1, 10 * v + (s[k].toNat - 48), by omega, rfl, ?_, by omega, ?_⟩
  · congr 1; omega
  · unfold At at *
    rw [h, drop_cons s k hk, Wm.scan, if_pos ((Wm.isDig_iff _).2 ⟨by omega, by omega⟩), if_neg (by unfold Wm.top; omega)]
theorem z_over {s : ByteArray} {k v : Nat} (h : At s k v) (hk : k < s.size) (h1 : 48 ≤ (s[k].toNat : Int)) (h2 : (s[k].toNat : Int) ≤ 57) (h3 : (9223372036854775808 - ((s[k].toNat : Int) - 48)) / 10 < (v : Int)) : Wm.rdZ s.data.toList = none := by
  unfold At at h
  unfold Wm.rdZ
  rw [h, drop_cons s k hk, Wm.scan, if_pos ((Wm.isDig_iff _).2 ⟨by omega, by omega⟩), if_pos (by unfold Wm.top; omega)]
  rfl
theorem z_at {s : ByteArray} {k v : Nat} (h : At s k v) (hk : k < s.size) (hd : ¬ (48 ≤ (s[k].toNat : Int) ∧ (s[k].toNat : Int) ≤ 57)) : Wm.rdZ s.data.toList = Wm.fin s.data.toList v (s[k] :: s.data.toList.drop (k + 1)) := by
  unfold At at h
  unfold Wm.rdZ
  rw [h, drop_cons s k hk, Wm.scan, if_neg (fun hh => hd (by have := (Wm.isDig_iff _).1 hh; omega))]
  rfl
theorem len_at {s : ByteArray} {k : Nat} (hk : k < s.size) : (s[k] :: s.data.toList.drop (k + 1)).length = s.data.toList.length - k := by
  rw [← drop_cons s k hk, List.length_drop]
theorem z_no {s : ByteArray} {k v : Nat} (h : At s k v) (hk : k < s.size) (hd : ¬ (48 ≤ (s[k].toNat : Int) ∧ (s[k].toNat : Int) ≤ 57)) (hc : k = 0 ∨ (s[k].toNat : Int) ≠ 59 ∨ (∃ h0 : 0 < s.size, (s[0].toNat : Int) = 48 ∧ 1 < (k : Int))) : Wm.rdZ s.data.toList = none := by
  rw [z_at h hk hd]
  simp only [Wm.fin]
  rw [if_pos]
  rw [len_at hk]
  have hs := size_of s
  rcases hc with hc | hc | ⟨h0, h1, h2⟩
  · left; omega
  · right; left; intro e; rw [e] at hc; exact hc rfl
  · right; right
    refine ⟨?_, by omega⟩
    rw [head_of s h0]
    congr 1
    apply UInt8.toNat_inj.1
    show _ = 48
    omega
theorem z_yes {s : ByteArray} {k v : Nat} (h : At s k v) (hk : k < s.size) (h0 : 0 < s.size) (h59 : (s[k].toNat : Int) = 59) (hk0 : k ≠ 0) (hc : ¬ ((s[0].toNat : Int) = 48 ∧ 1 < (k : Int))) : Wm.rdZ s.data.toList = some (v, s.data.toList.drop (k + 1)) := by
  rw [z_at h hk (by omega)]
  simp only [Wm.fin]
  rw [if_neg]
  rw [len_at hk]
  have hs := size_of s
  rintro (h1 | h1 | ⟨h1, h2⟩)
  · omega
  · exact h1 (UInt8.toNat_inj.1 (by show _ = 59; omega))
  · rw [head_of s h0] at h1
    apply hc
    have e : s[0] = 48 := by simpa using h1
    refine ⟨by rw [e]; rfl, by omega⟩
theorem z_end {s : ByteArray} {k v : Nat} (h : At s k v) (hk : k = s.size) : Wm.rdZ s.data.toList = none := by
  subst hk
  unfold At at h
  unfold Wm.rdZ
  rw [h, drop_end]
  rfl

theorem zpost_none {s : ByteArray} {w w' : World} (h : Wm.rdZ s.data.toList = none) (hb : Below w.heap.size w w') : ZPost s w (.returned (.tuple #[.int .u64 0, .string ⟨#[]⟩, .bool false])) w' := by
  unfold ZPost; rw [h]; exact ⟨rfl, hb⟩
theorem zpost_some {s : ByteArray} {w w' : World} {v k : Nat} (h : Wm.rdZ s.data.toList = some (v, s.data.toList.drop (k + 1))) (hb : Below w.heap.size w w') : ZPost s w (.returned (.tuple #[.int .u64 v, .string (s.extract (k + 1) s.size), .bool true])) w' := by
  unfold ZPost; rw [h, extract_mk]; exact ⟨rfl, hb⟩

set_option maxHeartbeats 1600000 in
theorem readSize_x (s : ByteArray) (w : World) (hs : s.size ≤ 1099511627776) :
    Calls Try.prog 31 #[.string s] w fun e w' => ZPost s w e w' := by
  go_enter Try.func31, Try.ntmps31
  go_wp2_with fail
  go_loop [2, 5] (fun z i => ZRel s z i) (fun _ i => s.size - (intOf i).toNat)
  case atStart => exact at_start s
  case round =>
    obtain ⟨k, v, hk, rfl, rfl, hv, hat⟩ := hrel
    by_cases hlt : k < s.size
    · have h0 : 0 < s.size := by omega
      by_cases hd : 48 ≤ (s[k].toNat : Int) ∧ (s[k].toNat : Int) ≤ 57
      · obtain ⟨hd1, hd2⟩ := hd
        by_cases ho : (9223372036854775808 - ((s[k].toNat : Int) - 48)) / 10 < (v : Int)
        · have hz := Lib.hid (z_over hat hlt hd1 hd2 ho)
          go_wp2
          go_ret3
          exact zpost_none hz.out (Below.refl _ _)
        · have hz := Lib.hid (at_step hat hlt hd1 hd2 (by omega))
          go_wp2
          go_round
          case rel => exact hz.out
          case measure => simp [intOf]; omega
      · have hno := fun hc => z_no hat hlt hd hc
        have hyes := fun h59 hk0 hc => z_yes hat hlt h0 h59 hk0 hc
        have Hno := Lib.hid hno
        have Hyes := Lib.hid hyes
        clear hno hyes hat
        rcases (show (s[k].toNat : Int) < 48 ∨ 57 < (s[k].toNat : Int) from by omega) with hc | hc
        all_goals
          have Hd := Lib.hid hd
          clear hd
          by_cases hk0 : k = 0
          · have hz := Lib.hid (Hno.out (.inl hk0))
            have Hk0 := Lib.hid hk0
            have hb0 : ((k : Int) == 0) = true := by simp [hk0]
            clear hk0
            go_wp2
            go_ret3
            exact zpost_none hz.out (Below.refl _ _)
          · have hb0 : ((k : Int) == 0) = false := by rw [beq_eq_false_iff_ne]; omega
            have hb1 : ((k : Int) == (s.size : Int)) = false := by rw [beq_eq_false_iff_ne]; omega
            by_cases h59 : (s[k].toNat : Int) = 59
            · have hb2 : ((s[k].toNat : Int) != 59) = false := by simp [h59]
              by_cases h48 : (s[0].toNat : Int) = 48
              · have hb3 : ((s[0].toNat : Int) == 48) = true := by simp [h48]
                by_cases h1 : 1 < (k : Int)
                · have hz := Lib.hid (Hno.out (.inr (.inr ⟨h0, h48, h1⟩)))
                  clear h48 h59
                  go_wp2
                  go_ret3
                  exact zpost_none hz.out (Below.refl _ _)
                · have hz := Lib.hid (Hyes.out h59 hk0 (fun hh => h1 hh.2))
                  clear h48 h59
                  go_wp2
                  go_region
                  all_goals go_wp2
                  all_goals go_ret3
                  all_goals exact zpost_some hz.out (by repeat (first | exact Below.refl _ _ | apply Below.drew))
              · have hb3 : ((s[0].toNat : Int) == 48) = false := by rw [beq_eq_false_iff_ne]; exact h48
                have hz := Lib.hid (Hyes.out h59 hk0 (fun hh => h48 hh.1))
                clear h48 h59
                go_wp2
                go_region
                all_goals go_wp2
                all_goals go_ret3
                all_goals exact zpost_some hz.out (by repeat (first | exact Below.refl _ _ | apply Below.drew))
            · have hb2 : ((s[k].toNat : Int) != 59) = true := by simp [h59]
              have hz := Lib.hid (Hno.out (.inr (.inl h59)))
              clear h59
              go_wp2
              go_ret3
              exact zpost_none hz.out (Below.refl _ _)
    · have hz := Lib.hid (z_end hat (by omega))
      by_cases hk0 : k = 0
      · have hb0 : ((k : Int) == 0) = true := by simp [hk0]
        clear hk0
        go_wp2
        go_ret3
        exact zpost_none hz.out (Below.refl _ _)
      · have hb0 : ((k : Int) == 0) = false := by rw [beq_eq_false_iff_ne]; omega
        have hb1 : ((k : Int) == (s.size : Int)) = true := by rw [beq_iff_eq]; omega
        go_wp2
        go_ret3
        exact zpost_none hz.out (Below.refl _ _)

end Go.Proofs.Ytcoebgkkniggeaa
