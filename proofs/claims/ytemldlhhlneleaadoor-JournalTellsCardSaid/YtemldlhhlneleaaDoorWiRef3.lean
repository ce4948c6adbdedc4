/-
  The reference's ReadInt.
-/
import Derived.Test.YtemldlhhlneleaaDoorWiRef1
namespace Go.Proofs.YtemldlhhlneleaaDoor.Wi
open Go.RowKit


def AtB (s : ByteArray) (b k v : Nat) : Prop := Wm.scan 0 (s.data.toList.drop b) = Wm.scan v (s.data.toList.drop k)

def BRel (s : ByteArray) (b : Nat) (i n : Value) : Prop := ∃ k v : Nat, b ≤ k ∧ k ≤ s.size ∧ i = .int .i64 k ∧ n = .int .i64 (-(v : Int)) ∧ v ≤ 9223372036854775808 ∧ AtB s b k v

theorem b_start (s : ByteArray) (b : Nat) (hb : b ≤ s.size) : BRel s b (.int .i64 b) (.int .i64 0) := ⟨b, 0, Nat.le_refl _, hb, rfl, rfl, by omega, rfl⟩
theorem b_step {s : ByteArray} {b k v : Nat} (h : AtB s b k v) (hbk : b ≤ k) (hk : k < s.size) (h1 : 48 ≤ (s[k].toNat : Int)) (h2 : (s[k].toNat : Int) ≤ 57) (h3 : ¬ (9223372036854775808 : Int) < 10 * (v : Int) + ((s[k].toNat : Int) - 48)) (x : Int) (hx : x = 10 * (-(v : Int)) - ((s[k].toNat : Int) - 48)) :
    BRel s b (.int .i64 ((k : Int) + 1)) (.int .i64 x) := by
  refine ⟨k + 1, 10 * v + (s[k].toNat - 48), by omega, by omega, rfl, ?_, by omega, ?_⟩
  · congr 1; omega
  · unfold AtB at *
    rw [h, drop_cons s k hk, Wm.scan, if_pos ((Wm.isDig_iff _).2 ⟨by omega, by omega⟩), if_neg (by unfold Wm.top; omega)]
theorem b_over {s : ByteArray} {b k v : Nat} (h : AtB s b k v) (hk : k < s.size) (h1 : 48 ≤ (s[k].toNat : Int)) (h2 : (s[k].toNat : Int) ≤ 57) (h3 : (9223372036854775808 : Int) < 10 * (v : Int) + ((s[k].toNat : Int) - 48)) : Wm.rdZ (s.data.toList.drop b) = none := by
  unfold AtB at h
  unfold Wm.rdZ
  rw [h, drop_cons s k hk, Wm.scan, if_pos ((Wm.isDig_iff _).2 ⟨by omega, by omega⟩), if_pos (by unfold Wm.top; omega)]
  rfl
theorem b_at {s : ByteArray} {b k v : Nat} (h : AtB s b k v) (hk : k < s.size) (hd : ¬ (48 ≤ (s[k].toNat : Int) ∧ (s[k].toNat : Int) ≤ 57)) : Wm.rdZ (s.data.toList.drop b) = Wm.fin (s.data.toList.drop b) v (s[k] :: s.data.toList.drop (k + 1)) := by
  unfold AtB at h
  unfold Wm.rdZ
  rw [h, drop_cons s k hk, Wm.scan, if_neg (fun hh => hd (by have := (Wm.isDig_iff _).1 hh; omega))]
  rfl
theorem head_at (s : ByteArray) (b : Nat) (h : b < s.size) : (s.data.toList.drop b).head? = some s[b] := by rw [drop_cons s b h]; rfl
theorem b_no {s : ByteArray} {b k v : Nat} (h : AtB s b k v) (_hbk : b ≤ k) (hk : k < s.size) (hd : ¬ (48 ≤ (s[k].toNat : Int) ∧ (s[k].toNat : Int) ≤ 57)) (hc : k = b ∨ (s[k].toNat : Int) ≠ 59 ∨ (∃ h0 : b < s.size, (s[b].toNat : Int) = 48 ∧ b + 1 < k)) : Wm.rdZ (s.data.toList.drop b) = none := by
  rw [b_at h hk hd]
  simp only [Wm.fin]
  rw [if_pos]
  rw [len_at hk, List.length_drop]
  have hs := size_of s
  rcases hc with hc | hc | ⟨h0, h1, h2⟩
  · left; omega
  · right; left; intro e; rw [e] at hc; exact hc rfl
  · right; right
    refine ⟨?_, by omega⟩
    rw [head_at s b h0]
    congr 1
    apply UInt8.toNat_inj.1
    show _ = 48
    omega
theorem b_yes {s : ByteArray} {b k v : Nat} (h : AtB s b k v) (hbk : b < k) (hk : k < s.size) (h59 : (s[k].toNat : Int) = 59) (hc : ¬ ((s[b].toNat : Int) = 48 ∧ b + 1 < k)) : Wm.rdZ (s.data.toList.drop b) = some (v, s.data.toList.drop (k + 1)) := by
  rw [b_at h hk (by omega)]
  simp only [Wm.fin]
  rw [if_neg]
  rw [len_at hk, List.length_drop]
  have hs := size_of s
  rintro (h1 | h1 | ⟨h1, h2⟩)
  · omega
  · exact h1 (UInt8.toNat_inj.1 (by show _ = 59; omega))
  · rw [head_at s b (by omega)] at h1
    apply hc
    have e : s[b] = 48 := by simpa using h1
    refine ⟨by rw [e]; rfl, by omega⟩
theorem b_end {s : ByteArray} {b k v : Nat} (h : AtB s b k v) (hk : k = s.size) : Wm.rdZ (s.data.toList.drop b) = none := by
  subst hk
  unfold AtB at h
  unfold Wm.rdZ
  rw [h, drop_end]
  rfl

/-- whether a minus stands first -/
def IsB (s : ByteArray) (b : Nat) : Prop := (b = 0 ∧ s.data.toList.head? ≠ some 45) ∨ (b = 1 ∧ s.data.toList.head? = some 45 ∧ 0 < s.size)

theorem isB_none {s : ByteArray} {b : Nat} (hb : IsB s b) (h : Wm.rdZ (s.data.toList.drop b) = none) : Wm.rdI s.data.toList = none := by
  rcases hb with ⟨rfl, hh⟩ | ⟨rfl, hh, _⟩
  · rw [List.drop_zero] at h; exact i_plus_none hh h
  · rw [List.drop_one] at h; exact i_minus_none hh h
theorem isB_plus {s : ByteArray} {b v : Nat} {r : List UInt8} (hb : IsB s b) (hb0 : b = 0) (h : Wm.rdZ (s.data.toList.drop b) = some (v, r)) : Wm.rdI s.data.toList = if v = Wm.top then none else some ((v : Int), r) := by
  subst hb0
  rcases hb with ⟨_, hh⟩ | ⟨h1, _⟩
  · rw [List.drop_zero] at h; exact i_plus hh h
  · cases h1
theorem isB_minus {s : ByteArray} {b v : Nat} {r : List UInt8} (hb : IsB s b) (hb1 : b = 1) (h : Wm.rdZ (s.data.toList.drop b) = some (v, r)) : Wm.rdI s.data.toList = if v = 0 then none else some (-(v : Int), r) := by
  subst hb1
  rcases hb with ⟨h1, _⟩ | ⟨_, hh, _⟩
  · cases h1
  · rw [List.drop_one] at h; exact i_minus hh h

def CutB (s : ByteArray) (w : World) (f : Value) (wx : World) : Prop := ∃ b : Nat, IsB s b ∧ b ≤ s.size ∧ f = .int .i64 b ∧ w = wx

theorem ipost_ext {s : ByteArray} {w w' : World} {v : Int} {k : Nat} {x : Value} (h : Wm.rdI s.data.toList = some (v, s.data.toList.drop (k + 1))) (hx : x = .int .i64 v) (hb : Below w.heap.size w w') : IPost s w (.returned (.tuple #[x, .string (s.extract (k + 1) s.size), .bool true])) w' := by
  rw [extract_mk]; exact ipost_some h hx hb

set_option maxHeartbeats 6400000 in
set_option maxRecDepth 100000 in
theorem RReadInt_x (s : ByteArray) (w : World) (hs : s.size ≤ 1099511627776) :
    Calls Tryd.prog 85 #[.string s] w fun e w' => IPost s w e w' := by
  go_enter Tryd.func85, Tryd.ntmps85
  by_cases h0 : 0 < s.size
  · go_upto_if 17 with (fail)
    go_cut [5] (fun f wx => CutB s w f wx)
    case first =>
      by_cases h45 : (s[0].toNat : Int) = 45
      · have hB : Hid (IsB s 1) := .inr ⟨rfl, head_eq h0 h45, h0⟩
        go_wp2
        go_meet
        exact ⟨1, hB.out, by omega, rfl, rfl⟩
      · have hB : Hid (IsB s 0) := .inl ⟨rfl, head_ne (.inr ⟨h0, h45⟩)⟩
        go_wp2
        go_meet
        exact ⟨0, hB.out, by omega, rfl, rfl⟩
    case rest =>
      obtain ⟨b, hB, hbs, rfl, rfl⟩ := hcut
      have hB01 : Hid (b = 0 ∨ b = 1) := hB.elim (fun h => .inl h.1) (fun h => .inr h.1)
      have HB := Lib.hid hB
      clear hB
      go_wp2_with fail
      go_loop [6, 7] (fun i n => BRel s b i n) (fun i _ => s.size - (intOf i).toNat)
      case atStart => exact b_start s b hbs
      case round =>
        obtain ⟨k, v, hbk, hk, rfl, rfl, hv, hat⟩ := hrel
        by_cases hlt : k < s.size
        · by_cases hd : 48 ≤ (s[k].toNat : Int) ∧ (s[k].toNat : Int) ≤ 57
          · obtain ⟨hd1, hd2⟩ := hd
            by_cases ho : (9223372036854775808 : Int) < 10 * (v : Int) + ((s[k].toNat : Int) - 48)
            · have hz := Lib.hid (isB_none HB.out (b_over hat hlt hd1 hd2 ho))
              rcases (show 922337203685477580 < (v : Int) ∨ ((v : Int) = 922337203685477580 ∧ 56 < (s[k].toNat : Int)) from by omega) with hc | ⟨hc, hc'⟩
              · go_wp2
                go_ret3
                exact ipost_none hz.out (Below.refl _ _)
              · have hb1 : ((-(v : Int)) == -922337203685477580) = true := by rw [beq_iff_eq]; omega
                have hc1 : (v : Int) ≤ 922337203685477580 := by omega
                clear hc
                go_wp2
                go_ret3
                exact ipost_none hz.out (Below.refl _ _)
            · have hz := Lib.hid (fun x hx => b_step hat hbk hlt hd1 hd2 ho x hx)
              have Ho := Lib.hid ho
              rcases (show (v : Int) ≤ 922337203685477579 ∨ ((v : Int) = 922337203685477580 ∧ (s[k].toNat : Int) ≤ 56) from by omega) with hc | ⟨hc, hc'⟩
              · have hb1 : ((-(v : Int)) == -922337203685477580) = false := by rw [beq_eq_false_iff_ne]; omega
                go_wp2
                go_round
                case rel => exact hz.out _ (by omega)
                case measure => simp [intOf]; omega
              · have hb1 : ((-(v : Int)) == -922337203685477580) = true := by rw [beq_iff_eq]; omega
                have hc1 : (v : Int) ≤ 922337203685477580 := by omega
                clear hc
                go_wp2
                go_round
                case rel => exact hz.out _ (by omega)
                case measure => simp [intOf]; omega
          · have Hat := Lib.hid hat
            have hno := Lib.hid (fun hc => isB_none HB.out (b_no Hat.out hbk hlt hd hc))
            have hyes := Lib.hid (fun h59 hbk' hc => b_yes Hat.out hbk' hlt h59 hc)
            clear hat
            rcases (show (s[k].toNat : Int) < 48 ∨ 57 < (s[k].toNat : Int) from by omega) with hc | hc
            all_goals
              have Hd := Lib.hid hd
              clear hd
              by_cases hk0 : k = b
              · have hz := Lib.hid (hno.out (.inl hk0))
                have hb0 : ((k : Int) == (b : Int)) = true := by simp [hk0]
                clear hk0
                go_wp2
                go_ret3
                exact ipost_none hz.out (Below.refl _ _)
              · have hb0 : ((k : Int) == (b : Int)) = false := by rw [beq_eq_false_iff_ne]; omega
                by_cases h59 : (s[k].toNat : Int) = 59
                · have hb2 : ((s[k].toNat : Int) != 59) = false := by simp [h59]
                  have hbl : b < s.size := by omega
                  by_cases h48 : (s[b].toNat : Int) = 48 ∧ b + 1 < k
                  · have hz := Lib.hid (hno.out (.inr (.inr ⟨hbl, h48.1, h48.2⟩)))
                    have hb3 : ((s[b].toNat : Int) == 48) = true := by simp [h48.1]
                    have h1 := h48.2
                    clear h48 h59
                    go_wp2
                    go_ret3
                    exact ipost_none hz.out (Below.refl _ _)
                  · have hz := hyes.out h59 (by omega) h48
                    have Hz := Lib.hid hz
                    clear h59 hz
                    have h48' : ¬ (b : Int) + 1 < (k : Int) ∨ ((b : Int) + 1 < (k : Int) ∧ ((s[b].toNat : Int) == 48) = false) := by
                      by_cases hx : b + 1 < k
                      · right; exact ⟨by omega, by rw [beq_eq_false_iff_ne]; exact fun e => h48 ⟨e, hx⟩⟩
                      · left; omega
                    clear h48
                    rcases h48' with h48 | ⟨h48, h48'⟩
                    all_goals
                      rcases hB01.out with hbb | hbb
                      · have hI := Lib.hid (isB_plus HB.out hbb Hz.out)
                        have hb1 : ((b : Int) == 1) = false := by rw [beq_eq_false_iff_ne]; omega
                        clear hbb
                        by_cases hv0 : (v : Int) = 9223372036854775808
                        · have hbv : ((-(v : Int)) == -9223372036854775808) = true := by rw [beq_iff_eq]; omega
                          have hz := Lib.hid (show Wm.rdI s.data.toList = none by rw [hI.out, if_pos (by unfold Wm.top; omega)])
                          clear hv0
                          go_wp2
                          go_ret3
                          exact ipost_none hz.out (Below.refl _ _)
                        · have hbv : ((-(v : Int)) == -9223372036854775808) = false := by rw [beq_eq_false_iff_ne]; omega
                          have hz := Lib.hid (show Wm.rdI s.data.toList = some ((v : Int), s.data.toList.drop (k + 1)) by rw [hI.out, if_neg (by unfold Wm.top; omega)])
                          have hv1 : (v : Int) ≤ 9223372036854775807 := by omega
                          clear hv0
                          go_wp2
                          go_ret3
                          exact ipost_ext hz.out rfl (Below.refl _ _)
                      · have hI := Lib.hid (isB_minus HB.out hbb Hz.out)
                        have hb1 : ((b : Int) == 1) = true := by rw [beq_iff_eq]; omega
                        clear hbb
                        by_cases hv0 : v = 0
                        · have hbv : ((-(v : Int)) == 0) = true := by rw [beq_iff_eq]; omega
                          have hz := Lib.hid (show Wm.rdI s.data.toList = none by rw [hI.out, if_pos hv0])
                          clear hv0
                          go_wp2
                          go_ret3
                          exact ipost_none hz.out (Below.refl _ _)
                        · have hbv : ((-(v : Int)) == 0) = false := by rw [beq_eq_false_iff_ne]; omega
                          have hz := Lib.hid (show Wm.rdI s.data.toList = some (-(v : Int), s.data.toList.drop (k + 1)) by rw [hI.out, if_neg hv0])
                          clear hv0
                          go_wp2
                          go_ret3
                          exact ipost_ext hz.out rfl (Below.refl _ _)
                · have hz := Lib.hid (hno.out (.inr (.inl h59)))
                  have hb2 : ((s[k].toNat : Int) != 59) = true := by simp [h59]
                  clear h59
                  go_wp2
                  go_ret3
                  exact ipost_none hz.out (Below.refl _ _)
        · have hz := Lib.hid (isB_none HB.out (b_end hat (by omega)))
          by_cases hk0 : k = b
          · have hb0 : ((k : Int) == (b : Int)) = true := by simp [hk0]
            clear hk0
            go_wp2
            go_ret3
            exact ipost_none hz.out (Below.refl _ _)
          · have hb0 : ((k : Int) == (b : Int)) = false := by rw [beq_eq_false_iff_ne]; omega
            go_wp2
            go_ret3
            exact ipost_none hz.out (Below.refl _ _)

  · have hz : Hid (Wm.rdI s.data.toList = none) := by
      have e : s.data.toList = [] := List.eq_nil_of_length_eq_zero (by rw [← size_of]; omega)
      show _ = _
      rw [e]
      rfl
    have hs0 : s.size = 0 := by omega
    go_wp2
    refine wp_loop_rounds 1 ?_
    rw [rounds_succ]
    go_wp2
    go_ret3
    exact ipost_none hz.out (Below.refl _ _)

end Go.Proofs.YtemldlhhlneleaaDoor.Wi
