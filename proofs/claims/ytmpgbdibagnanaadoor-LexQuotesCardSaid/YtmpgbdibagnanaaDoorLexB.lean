/-
  The program's isSign, validValue, skip, Name, Number.
-/
import Derived.Test.YtmpgbdibagnanaaDoorLexA
import Derived.Test.YtmpgbdibagnanaaDoorRefF
import Derived.Laws.Rows
namespace Go.Proofs.YtmpgbdibagnanaaDoor
open Go.RowKit

theorem idxSign (k : Nat) (hk : k < 13) (w : World) : (Instr.index 50 (.agg sgC) (.int .i64 (k : Int))).run Tryd.prog w = .ok (.int .u8 ((Lx.signs.getD k 0).toNat : Int)) w := by
  have h : k = 0 ∨ k = 1 ∨ k = 2 ∨ k = 3 ∨ k = 4 ∨ k = 5 ∨ k = 6 ∨ k = 7 ∨ k = 8 ∨ k = 9 ∨ k = 10 ∨ k = 11 ∨ k = 12 := by omega
  rcases h with rfl | rfl | rfl | rfl | rfl | rfl | rfl | rfl | rfl | rfl | rfl | rfl | rfl <;> (clear hk; show _ = _; kernel_rfl)
theorem sizeSign : (Tryd.prog.info? 50).map (·.size) = some sgC.size := by kernel_rfl

theorem sign_take {k : Nat} (hk : k < 13) : Lx.signs.take (k + 1) = Lx.signs.take k ++ [Lx.signs.getD k 0] := by
  have h : k = 0 ∨ k = 1 ∨ k = 2 ∨ k = 3 ∨ k = 4 ∨ k = 5 ∨ k = 6 ∨ k = 7 ∨ k = 8 ∨ k = 9 ∨ k = 10 ∨ k = 11 ∨ k = 12 := by omega
  rcases h with rfl | rfl | rfl | rfl | rfl | rfl | rfl | rfl | rfl | rfl | rfl | rfl | rfl <;> rfl
theorem sign_mem {k : Nat} (hk : k < 13) : Lx.signs.getD k 0 ∈ Lx.signs := by
  have h : k = 0 ∨ k = 1 ∨ k = 2 ∨ k = 3 ∨ k = 4 ∨ k = 5 ∨ k = 6 ∨ k = 7 ∨ k = 8 ∨ k = 9 ∨ k = 10 ∨ k = 11 ∨ k = 12 := by omega
  rcases h with rfl | rfl | rfl | rfl | rfl | rfl | rfl | rfl | rfl | rfl | rfl | rfl | rfl <;> decide

set_option maxHeartbeats 400000 in
theorem isSign_x (c : UInt8) (w : World) (hsg : Sg w) : Calls Tryd.prog 41 #[.int .u8 (c.toNat : Int)] w fun e w' => e = .returned (.bool (Lx.isSign c)) ∧ w = w' := by
  obtain ⟨hc1, hc2⟩ := byte_le c
  obtain ⟨t, fr, hg⟩ := hsg
  have Hg := Lib.hid hg
  clear hg
  go_enter Tryd.func41, Tryd.ntmps41
  go_wp2_with (refine wpList_load_row rfl 50 (.global 0) rfl 0 rfl t sgC fr _ Hg.out Tryd.underlying50 rfl sizeSign ?_)
  generalize hS : sgC = S
  have HS := Lib.hid hS
  clear hS
  go_loop [6] (fun i => ∃ k : Nat, k ≤ 13 ∧ i = .int .i64 k ∧ c ∉ Lx.signs.take k) (fun i => 13 - (intOf i).toNat)
  case atStart => exact ⟨0, Nat.zero_le _, rfl, by simp⟩
  case round =>
    obtain ⟨k, hk, rfl, hn⟩ := hrel
    have Hn := Lib.hid hn
    clear hn
    by_cases hlt : k < 13
    · have hidx : ∀ w : World, (Instr.index 50 (.agg S) (.int .i64 (k : Int))).run Tryd.prog w = .ok (.int .u8 ((Lx.signs.getD k 0).toNat : Int)) w := by
        rw [← HS.out]; exact idxSign k hlt
      have hst := Lib.hid (sign_take hlt)
      have hmem := Lib.hid (sign_mem hlt)
      generalize Lx.signs.getD k 0 = d at hidx hst hmem
      by_cases he : d = c
      · have hb : ((c.toNat : Int) == (d.toNat : Int)) = true := by simp [he]
        have hin : Hid (Lx.isSign c = true) := by
          show Lx.signs.contains c = true
          rw [← he]
          simp only [List.contains_eq_mem, decide_eq_true_eq]
          exact hmem.out
        clear he
        go_wp2
        go_ret
        exact ⟨ret_b hin.out.symm, rfl⟩
      · have hb : ((c.toNat : Int) == (d.toNat : Int)) = false := by
          rw [beq_eq_false_iff_ne]
          intro e
          exact he (UInt8.toNat_inj.1 (by omega))
        have hn : Hid (c ∉ Lx.signs.take (k + 1)) := by
          show ¬ _
          rw [hst.out, List.mem_append]
          rintro (h | h)
          · exact Hn.out h
          · simp at h; exact he h.symm
        clear he
        go_wp2
        go_round
        case rel => exact ⟨k + 1, by omega, rfl, hn.out⟩
        case measure => simp [intOf]; omega
    · have hin : Hid (Lx.isSign c = false) := by
        show Lx.signs.contains c = false
        have h := Hn.out
        rw [List.take_of_length_le (by show 13 ≤ k; omega)] at h
        exact not_take h
      go_wp2
      go_ret
      exact ⟨ret_b hin.out.symm, rfl⟩

set_option maxHeartbeats 400000 in
theorem validValue_x (s : ByteArray) (w : World) (hs : s.size ≤ 1099511627776) : Calls Tryd.prog 32 #[.string s] w fun e w' => e = .returned (.bool (Lx.okValue s.data.toList)) ∧ w = w' := by
  have hv : Hid (Lx.okValue s.data.toList = (decide ((runL Lx.isPlain s : Int) = (s.size : Int)) && decide ((s.size : Int) ≤ 400))) := by
    show _ = _
    rw [Lx.okValue, runL_all, ← size_of, Bool.eq_iff_iff]
    simp only [Bool.and_eq_true, decide_eq_true_eq]
    omega
  by_cases h4 : (s.size : Int) ≤ 400
  · have hv2 : Hid (Lx.okValue s.data.toList = ((runL Lx.isPlain s : Int) == (s.size : Int))) := by
      show _ = _
      rw [hv.out, decide_eq_true h4, Bool.and_true, Bool.eq_iff_iff]; simp
    go_enter Tryd.func32, Tryd.ntmps32
    go_wp2_with fail
    refine (spanP_x s _ hs).mono ?_
    rintro e w1 ⟨rfl, rfl⟩
    go_wp2_with fail
    go_ret
    exact ⟨ret_b hv2.out.symm, rfl⟩
  · have hv2 : Hid (Lx.okValue s.data.toList = false) := by
      show _ = _
      rw [hv.out, decide_eq_false h4, Bool.and_false]
    go_enter Tryd.func32, Tryd.ntmps32
    go_wp2_with fail
    go_ret
    exact ⟨ret_b hv2.out.symm, rfl⟩

theorem not_empty {s : ByteArray} (h : 0 < s.size) : s.toList.isEmpty = false ∧ ¬ s.toList = [] := by
  have e : s.toList.length = s.size := by rw [show s.toList = s.data.toList from toList_mk s.data.toList, ← size_of]
  have h1 : s.toList ≠ [] := fun h2 => by rw [h2] at e; simp at e; omega
  exact ⟨by rw [List.isEmpty_eq_false_iff]; exact h1, h1⟩

set_option maxHeartbeats 800000 in
theorem lName_x (s : ByteArray) (w : World) (hs : s.size ≤ 1099511627776) : Calls Tryd.prog 18 #[.string s] w fun e w' => e = .returned (.bool (Lx.okName s.data.toList)) ∧ w = w' := by
  by_cases h0 : 0 < s.size
  · have He := Lib.hid (okName_eq s h0)
    obtain ⟨hne, hne'⟩ := not_empty h0
    cases hl : Lx.isLetter s[0] with
    | false =>
      have hv : Hid (Lx.okName s.data.toList = false) := by show _ = _; rw [He.out, hl]; rfl
      have Hl := Lib.hid hl
      clear hl
      go_enter Tryd.func18, Tryd.ntmps18
      go_wp2_with fail
      refine (lLetter_x s[0] _).mono ?_
      rintro e w1 ⟨rfl, rfl⟩
      rw [Hl.out]
      go_wp2_with fail
      go_ret
      exact ⟨ret_b hv.out.symm, rfl⟩
    | true =>
      have hE : Lx.okName s.data.toList = (((runL Lx.isWord s : Int) == (s.size : Int)) && decide ((s.size : Int) ≤ 20)) := by
        rw [He.out, hl, runL_all, Bool.true_and, Bool.eq_iff_iff]
        simp only [Bool.and_eq_true, decide_eq_true_eq, beq_iff_eq]
        omega
      have HE := Lib.hid hE
      have Hl := Lib.hid hl
      clear hl hE
      by_cases hr : (runL Lx.isWord s : Int) = (s.size : Int)
      · have hb : ((runL Lx.isWord s : Int) == (s.size : Int)) = true := by simp [hr]
        have hv : Hid (Lx.okName s.data.toList = decide ((s.size : Int) ≤ 20)) := by show _ = _; rw [HE.out, hb, Bool.true_and]
        clear hr
        go_enter Tryd.func18, Tryd.ntmps18
        go_wp2_with fail
        refine (lLetter_x s[0] _).mono ?_
        rintro e w1 ⟨rfl, rfl⟩
        rw [Hl.out]
        go_wp2_with fail
        refine (spanW_x s _ hs).mono ?_
        rintro e w1 ⟨rfl, rfl⟩
        go_wp2_with fail
        go_ret
        exact ⟨ret_b hv.out.symm, rfl⟩
      · have hb : ((runL Lx.isWord s : Int) == (s.size : Int)) = false := by rw [beq_eq_false_iff_ne]; exact hr
        have hv : Hid (Lx.okName s.data.toList = false) := by show _ = _; rw [HE.out, hb, Bool.false_and]
        clear hr
        go_enter Tryd.func18, Tryd.ntmps18
        go_wp2_with fail
        refine (lLetter_x s[0] _).mono ?_
        rintro e w1 ⟨rfl, rfl⟩
        rw [Hl.out]
        go_wp2_with fail
        refine (spanW_x s _ hs).mono ?_
        rintro e w1 ⟨rfl, rfl⟩
        go_wp2_with fail
        go_ret
        exact ⟨ret_b hv.out.symm, rfl⟩
  · have hv := Lib.hid (okName_nil s (by omega))
    have he : s = ⟨#[]⟩ := by
      apply ByteArray.ext; apply Array.eq_empty_of_size_eq_zero; show s.size = 0; omega
    subst he
    go_enter Tryd.func18, Tryd.ntmps18
    go_wp2_with fail
    go_ret
    exact ⟨ret_b hv.out.symm, rfl⟩

/-- how many bytes are skipped -/
def skipL : Bool → List UInt8 → Nat
  | _, [] => 0
  | cm, c :: r => if (cm && c != 10) || Lx.isBlank c then skipL (cm && c != 10) r + 1 else if c = 35 then skipL true r + 1 else 0

theorem skip_idle {cm : Bool} {c : UInt8} {r : List UInt8} (h : ((cm && c != 10) || Lx.isBlank c) = true) : skipL cm (c :: r) = skipL (cm && c != 10) r + 1 := by rw [skipL, if_pos h]
theorem skip_comment {cm : Bool} {c : UInt8} {r : List UInt8} (h : ((cm && c != 10) || Lx.isBlank c) = false) (hc : c = 35) : skipL cm (c :: r) = skipL true r + 1 := by rw [skipL, if_neg (by rw [h]; simp), if_pos hc]
theorem skip_end {cm : Bool} {c : UInt8} {r : List UInt8} (h : ((cm && c != 10) || Lx.isBlank c) = false) (hc : c ≠ 35) : skipL cm (c :: r) = 0 := by rw [skipL, if_neg (by rw [h]; simp), if_neg hc]

/-- a text at whose beginning nothing is skipped -/
def Stop (l : List UInt8) : Prop := ∀ c r, l = c :: r → Lx.isBlank c = false ∧ c ≠ 35

theorem blank_not10 {c : UInt8} (h : Lx.isBlank c = false) : (c != 10) = true := by
  rw [bne_iff_ne]
  rintro rfl
  exact absurd h (by decide)

theorem scan_skip : ∀ (l : List UInt8) (cm : Bool) (pos : Nat), Lx.scan pos cm l = Lx.scan (pos + skipL cm l) false (l.drop (skipL cm l)) ∧ Stop (l.drop (skipL cm l)) ∧ skipL cm l ≤ l.length
  | [], cm, pos => ⟨by simp [Lx.scan_nil], fun c r h => by simp at h, by simp [skipL]⟩
  | c :: r, cm, pos => by
    cases h : ((cm && c != 10) || Lx.isBlank c) with
    | true =>
      obtain ⟨h1, h2, h3⟩ := scan_skip r (cm && c != 10) (pos + 1)
      rw [skip_idle h, List.drop_succ_cons, Lx.scan_idle h]
      refine ⟨?_, h2, by simp; omega⟩
      rw [h1, show pos + 1 + skipL (cm && c != 10) r = pos + (skipL (cm && c != 10) r + 1) from by omega]
    | false =>
      by_cases hc : c = 35
      · obtain ⟨h1, h2, h3⟩ := scan_skip r true (pos + 1)
        rw [skip_comment h hc, List.drop_succ_cons, Lx.scan_comment h hc]
        refine ⟨?_, h2, by simp; omega⟩
        rw [h1, show pos + 1 + skipL true r = pos + (skipL true r + 1) from by omega]
      · rw [skip_end h hc, List.drop_zero, Nat.add_zero]
        have hb : Lx.isBlank c = false := by cases hb : Lx.isBlank c with
          | false => rfl
          | true => rw [hb, Bool.or_true] at h; cases h
        have hcm : cm = false := by
          cases cm with
          | false => rfl
          | true => rw [blank_not10 hb] at h; cases h
        subst hcm
        refine ⟨rfl, fun d r' e => ?_, Nat.zero_le _⟩
        injection e with e1 e2
        subst e1
        exact ⟨hb, hc⟩

def skipTo (s : ByteArray) (b : Nat) : Nat := b + skipL false (s.data.toList.drop b)

def SkRel (s : ByteArray) (b : Nat) (i c : Value) : Prop := ∃ (k : Nat) (cm : Bool), k ≤ s.size ∧ i = .int .i64 k ∧ c = .bool cm ∧ skipTo s b = k + skipL cm (s.data.toList.drop k)

theorem eq_byte {c : UInt8} {n : Nat} (hn : n < 256) (h : (c.toNat : Int) = (n : Int)) : c = UInt8.ofNat n := by
  apply UInt8.toNat_inj.1
  rw [UInt8.toNat_ofNat_of_lt' hn]
  omega

set_option maxHeartbeats 1600000 in
theorem skip_x (s : ByteArray) (b : Nat) (w : World) (hs : s.size ≤ 1099511627776) (hb : b ≤ s.size) :
    Calls Tryd.prog 25 #[.string s, .int .i64 (b : Int)] w fun e w' => e = .returned (.int .i64 (skipTo s b : Int)) ∧ w = w' := by
  go_enter Tryd.func25, Tryd.ntmps25
  go_wp2_with fail
  go_loop [1, 5] (fun i c => SkRel s b i c) (fun i _ => s.size - (intOf i).toNat)
  case atStart => exact ⟨b, false, hb, rfl, rfl, rfl⟩
  case round =>
    obtain ⟨k, cm, hk, rfl, rfl, hq⟩ := hrel
    have Hq := Lib.hid hq
    clear hq
    by_cases hlt : k < s.size
    · have hdc := Lib.hid (drop_cons s k hlt)
      by_cases h10 : (s[k].toNat : Int) = 10
      · have hb10 : ((s[k].toNat : Int) == 10) = true := by simp [h10]
        have hn : Hid (skipTo s b = (k + 1) + skipL false (s.data.toList.drop (k + 1))) := by
          show _ = _
          have hbl : Lx.isBlank s[k] = true := (blank_iff _).2 (.inr (.inl (by omega)))
          rw [Hq.out, hdc.out, skip_idle (by rw [hbl, Bool.or_true]), c10_is h10, Bool.and_false]
          omega
        clear h10
        go_wp2_with fail
        go_round
        case rel => exact ⟨k + 1, false, by omega, by go_num, rfl, hn.out⟩
        case measure => simp [intOf]; omega
      · have hb10 : ((s[k].toNat : Int) == 10) = false := by rw [beq_eq_false_iff_ne]; exact h10
        cases cm with
        | true =>
          have hn : Hid (skipTo s b = (k + 1) + skipL true (s.data.toList.drop (k + 1))) := by
            show _ = _
            rw [Hq.out, hdc.out, skip_idle (by rw [c10_ne h10]; rfl), c10_ne h10]
            show k + (skipL true _ + 1) = _
            omega
          clear h10
          go_wp2_with fail
          go_round
          case rel => exact ⟨k + 1, true, by omega, by go_num, rfl, hn.out⟩
          case measure => simp [intOf]; omega
        | false =>
          by_cases hbl : (s[k].toNat : Int) = 32 ∨ (s[k].toNat : Int) = 9
          · have hn : Hid (skipTo s b = (k + 1) + skipL false (s.data.toList.drop (k + 1))) := by
              show _ = _
              have hb' : Lx.isBlank s[k] = true := (blank_iff _).2 (by omega)
              rw [Hq.out, hdc.out, skip_idle (by rw [hb']; rfl)]
              show k + (skipL false _ + 1) = _
              omega
            rcases hbl with hbl | hbl
            · have hb2 : ((s[k].toNat : Int) == 32) = true := by simp [hbl]
              clear hbl h10
              go_wp2_with fail
              go_round
              case rel => exact ⟨k + 1, false, by omega, by go_num, rfl, hn.out⟩
              case measure => simp [intOf]; omega
            · have hb2 : ((s[k].toNat : Int) == 32) = false := by rw [beq_eq_false_iff_ne]; omega
              have hb3 : ((s[k].toNat : Int) == 9) = true := by simp [hbl]
              clear hbl h10
              go_wp2_with fail
              go_round
              case rel => exact ⟨k + 1, false, by omega, by go_num, rfl, hn.out⟩
              case measure => simp [intOf]; omega
          · have hb2 : ((s[k].toNat : Int) == 32) = false := by rw [beq_eq_false_iff_ne]; omega
            have hb3 : ((s[k].toNat : Int) == 9) = false := by rw [beq_eq_false_iff_ne]; omega
            have hbf : Hid (((false && s[k] != 10) || Lx.isBlank s[k]) = false) := by
              show _ = _
              cases hx : Lx.isBlank s[k] with
              | false => rfl
              | true => have := (blank_iff _).1 hx; omega
            clear hbl h10
            by_cases h35 : (s[k].toNat : Int) = 35
            · have hb4 : ((s[k].toNat : Int) == 35) = true := by simp [h35]
              have hn : Hid (skipTo s b = (k + 1) + skipL true (s.data.toList.drop (k + 1))) := by
                show _ = _
                rw [Hq.out, hdc.out, skip_comment hbf.out (c35 h35)]
                omega
              clear h35
              go_wp2_with fail
              go_round
              case rel => exact ⟨k + 1, true, by omega, by go_num, rfl, hn.out⟩
              case measure => simp [intOf]; omega
            · have hb4 : ((s[k].toNat : Int) == 35) = false := by rw [beq_eq_false_iff_ne]; exact h35
              have hn : Hid (skipTo s b = k) := by
                show _ = _
                rw [Hq.out, hdc.out, skip_end hbf.out (n35 h35)]
                omega
              clear h35
              go_wp2_with fail
              go_ret
              exact ⟨by rw [hn.out]; rfl, rfl⟩
    · have hn : Hid (skipTo s b = k) := by
        show _ = _
        rw [Hq.out, show k = s.size from by omega, drop_end]
        rfl
      go_wp2_with fail
      go_ret
      exact ⟨by rw [hn.out]; rfl, rfl⟩

theorem digit_run {s : ByteArray} : s.data.toList.all Lx.isDigit = decide (runL Lx.isDigit s = s.size) := runL_all

def NRel (s : ByteArray) (n i : Value) : Prop := ∃ k v : Nat, k ≤ s.size ∧ i = .int .i64 k ∧ n = .int .i64 v ∧ v ≤ 1099511627776 ∧ v = Lx.val (s.data.toList.take k)

set_option maxHeartbeats 1600000 in
theorem lNumber_x (s : ByteArray) (w : World) (hs : s.size ≤ 1099511627776) : Calls Tryd.prog 13 #[.string s] w fun e w' => e = .returned (numOk s.data.toList) ∧ w = w' := by
  by_cases h0 : 0 < s.size
  · have He := Lib.hid (okNumber_eq s h0)
    obtain ⟨hne, hne'⟩ := not_empty h0
    have hrl := runL_le Lx.isDigit s
    by_cases hr : runL Lx.isDigit s < s.size
    · have hno : Hid (numOk s.data.toList = .tuple #[.int .i64 0, .bool false]) := by
        apply numOk_no
        rw [He.out, digit_run, decide_eq_false (by omega : ¬ runL Lx.isDigit s = s.size)]; rfl
      go_enter Tryd.func13, Tryd.ntmps13
      go_wp2_with fail
      refine (spanD_x s _ hs).mono ?_
      rintro e w1 ⟨rfl, rfl⟩
      go_wp2_with fail
      go_ret2
      exact ⟨by rw [hno.out]; rfl, rfl⟩
    · have hall : s.data.toList.all Lx.isDigit = true := by rw [digit_run, decide_eq_true_eq]; omega
      have Hall := Lib.hid hall
      clear hall
      by_cases h48 : (s[0].toNat : Int) = 48 ∧ 1 < (s.size : Int)
      · have hno : Hid (numOk s.data.toList = .tuple #[.int .i64 0, .bool false]) := by
          apply numOk_no
          rw [He.out, decide_eq_true h48.1, decide_eq_false (by omega : ¬ s.size ≤ 1)]
          simp
        have hb : ((s[0].toNat : Int) == 48) = true := by simp [h48.1]
        have hb1 := h48.2
        clear h48
        go_enter Tryd.func13, Tryd.ntmps13
        go_wp2_with fail
        refine (spanD_x s _ hs).mono ?_
        rintro e w1 ⟨rfl, rfl⟩
        go_wp2_with fail
        go_ret2
        exact ⟨by rw [hno.out]; rfl, rfl⟩
      · have hE : Lx.okNumber s.data.toList = decide (Lx.val s.data.toList ≤ 1099511627776) := by
          have hz : (decide (s.size ≤ 1) || !decide ((s[0].toNat : Int) = 48)) = true := by
            by_cases h1 : s.size ≤ 1
            · rw [decide_eq_true h1]; rfl
            · rw [decide_eq_false (by omega : ¬ (s[0].toNat : Int) = 48)]; simp
          rw [He.out, Hall.out, hz, Bool.true_and, Bool.true_and]
        have HE := Lib.hid hE
        have hcase : ((s[0].toNat : Int) == 48) = false ∨ (((s[0].toNat : Int) == 48) = true ∧ ¬ 1 < (s.size : Int)) := by
          by_cases h1 : (s[0].toNat : Int) = 48
          · right; exact ⟨by simp [h1], by omega⟩
          · left; rw [beq_eq_false_iff_ne]; exact h1
        have Hcase := Lib.hid hcase
        clear h48 hE hcase
        suffices hloop : Calls Tryd.prog 13 #[.string s] w fun e w' => e = .returned (numOk s.data.toList) ∧ w = w' from hloop
        rcases Hcase.out with hc | ⟨hc, hc'⟩
        all_goals
          clear Hcase
          go_enter Tryd.func13, Tryd.ntmps13
          go_wp2_with fail
          refine (spanD_x s _ hs).mono ?_
          rintro e w1 ⟨rfl, rfl⟩
          go_wp2_with fail
          go_loop [4, 27] (fun n i => NRel s n i) (fun _ i => s.size - (intOf i).toNat)
          case atStart => exact ⟨0, 0, Nat.zero_le _, rfl, rfl, by omega, by simp [Lx.val]⟩
          case round =>
            obtain ⟨k, v, hk, rfl, rfl, hv, hvv⟩ := hrel
            have Hv := Lib.hid hvv
            clear hvv
            by_cases hlt : k < s.size
            · have hdb := digit_bounds (c := s[k]) (List.all_eq_true.1 Hall.out _ (List.mem_of_getElem? (get_of s k hlt)))
              obtain ⟨hd1, hd2⟩ := hdb
              have hval : Hid (10 * v + (s[k].toNat - 48) = Lx.val (s.data.toList.take (k + 1))) := by
                show _ = _
                rw [take_snoc s k hlt, val_snoc, ← Hv.out]
              have hvt := Lib.hid (val_take s.data.toList (k + 1))
              by_cases hbig : 10 * (v : Int) + ((s[k].toNat : Int) - 48) ≤ 1099511627776
              · go_wp2_with fail
                go_round
                case rel => exact ⟨k + 1, 10 * v + (s[k].toNat - 48), by omega, by go_num, by congr 1; omega, by omega, hval.out⟩
                case measure => simp [intOf]; omega
              · have hno : Hid (numOk s.data.toList = .tuple #[.int .i64 0, .bool false]) := by
                  apply numOk_no
                  have h1 := hvt.out
                  rw [← hval.out] at h1
                  rw [HE.out, decide_eq_false]
                  omega
                go_wp2_with fail
                go_ret2
                exact ⟨by rw [hno.out]; rfl, rfl⟩
            · have hyes : Hid (numOk s.data.toList = .tuple #[.int .i64 (v : Int), .bool true]) := by
                have h1 := Hv.out
                rw [take_end s k (by omega)] at h1
                have := numOk_yes (l := s.data.toList) (by rw [HE.out, ← h1, decide_eq_true hv])
                rw [← h1] at this
                exact this
              go_wp2_with fail
              go_ret2
              exact ⟨by rw [hyes.out]; rfl, rfl⟩
  · have hno := Lib.hid (numOk_no (okNumber_nil s (by omega)))
    have he : s = ⟨#[]⟩ := by
      apply ByteArray.ext; apply Array.eq_empty_of_size_eq_zero; show s.size = 0; omega
    subst he
    go_enter Tryd.func13, Tryd.ntmps13
    go_wp2_with fail
    go_ret2
    exact ⟨by rw [hno.out]; rfl, rfl⟩

end Go.Proofs.YtmpgbdibagnanaaDoor
