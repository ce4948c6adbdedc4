/-
  The program's reader: number and name.
-/
import Derived.Test.YtcjakgpmompaiaaGreatDoorRdA
namespace Go.Proofs.YtcjakgpmompaiaaGreatDoor
open Go.RowKit Rl Wd

theorem atoi_digits {l : L8} (h : ∀ c ∈ l, isD c = true) {v : Int} (e : Lib.atoiAll l = .ok v) : 0 ≤ v ∧ v ≤ 9223372036854775807 := by
  cases l with
  | nil => cases e
  | cons c r =>
    have hc := isD_iff.1 (h c (by simp))
    have e1 : (if c.toNat = 43 ∨ c.toNat = 45 then r else c :: r) = c :: r := if_neg (by omega)
    simp only [Lib.atoiAll, e1] at e
    split at e
    · cases e
    · cases e
    · split at e
      · cases e
      · split at e
        · cases e
        · rw [if_neg (by omega)] at e
          injection e with e
          omega
theorem atoi_sat {l : L8} (h : ∀ c ∈ l, isD c = true) : Lib.atoiSat l = 9223372036854775807 := by
  unfold Lib.atoiSat
  refine if_neg fun e => ?_
  cases l with
  | nil => cases e
  | cons c r =>
    have hc := isD_iff.1 (h c (by simp))
    simp at e
    omega
/-- strconv.Atoi at digits -/
theorem atoi_x (s : B) (w : World) (hE : Ev w) (hs : s.size ≤ 100000) (hd : ∀ c ∈ s.data.toList, isD c = true) :
    Calls Tryz.prog 145 #[.string s] w fun e w' => ∃ (v : Int) (x : Value), e = .returned (.tuple #[.int .i64 v, x]) ∧ 0 ≤ v ∧ v ≤ 9223372036854775807 ∧ (∀ n : Nat, n ≤ 1099511627776 → s.data.toList = Lib.decDigits n → v = n) ∧ Below w.heap.size w w' := by
  cases h : Lib.atoiAll s.data.toList with
  | ok v =>
    refine (Tryz.strconv_Atoi_ok s (by omega) v h w).mono ?_
    rintro e w' ⟨rfl, hw⟩
    obtain ⟨h1, h2⟩ := atoi_digits hd h
    refine ⟨v, _, rfl, h1, h2, fun n hn e => ?_, ?_⟩
    · rw [e, atoi_decD n hn] at h
      injection h with h
      exact h.symm
    · rcases hw with rfl | ⟨t, rfl⟩
      · exact Below.refl _ _
      · exact Lib.bytesWorld_below _ _ _
  | «syntax» =>
    obtain ⟨ev, he, he2⟩ := hE.es
    refine (Tryz.strconv_Atoi_syntax s (by omega) h ev w he he2).mono ?_
    rintro e w' ⟨N, rfl, -, -, hb⟩
    exact ⟨0, _, rfl, by omega, by omega, fun n hn e => (by rw [e, atoi_decD n hn] at h; cases h), hb⟩
  | range =>
    obtain ⟨ev, he, he2⟩ := hE.er
    refine (Tryz.strconv_Atoi_range s (by omega) h ev w he he2).mono ?_
    rintro e w' ⟨N, rfl, -, -, hb⟩
    rw [atoi_sat hd]
    exact ⟨_, _, rfl, by omega, by omega, fun n hn e => (by rw [e, atoi_decD n hn] at h; cases h), hb⟩
/-- the first k bytes are digits -/
def DgK (s : L8) (k : Nat) : Prop := ∀ (j : Nat) c, j < k → s[j]? = some c → isD c = true
theorem tw_len : ∀ {s : L8} {k : Nat}, DgK s k → (∀ c, s[k]? = some c → isD c = false) → k ≤ s.length → (s.takeWhile isD).length = k
  | [], k, _, _, hk => by simp at hk; simp [hk]
  | c :: r, 0, _, h, _ => by rw [List.takeWhile_cons_of_neg (by rw [h c rfl]; decide)]; rfl
  | c :: r, k + 1, hd, h, hk => by
    rw [List.takeWhile_cons_of_pos (hd 0 c (by omega) rfl), List.length_cons, tw_len (s := r) (k := k) (fun j x hj hx => hd (j + 1) x (by omega) hx) (fun x hx => h x hx) (by simpa using hk)]
def NumRel (s : B) (w : World) (i : Value) (wr : World) : Prop := ∃ k : Nat, k ≤ s.size ∧ i = .int .i64 (k : Int) ∧ DgK s.data.toList k ∧ w = wr
theorem ext_list (s : B) (a b : Nat) : (s.extract a b).data.toList = (s.data.toList.take b).drop a := by
  rw [ByteArray.data_extract, Array.toList_extract, List.extract_eq_take_drop, List.drop_take]

theorem num_end {s : B} {k : Nat} (hs : s.size ≤ 100000) (hk : k ≤ s.size) (hd : DgK s.data.toList k) (hn : ∀ c, s.data.toList[k]? = some c → isD c = false) :
    Hid ((s.extract 0 k).size ≤ 100000) ∧ Hid (∀ c ∈ (s.extract 0 k).data.toList, isD c = true) ∧
    Hid (∀ v : Int, (∀ n : Nat, n ≤ 1099511627776 → (s.extract 0 k).data.toList = Lib.decDigits n → v = n) → NumR s.data.toList v (s.extract k s.size).data.toList) ∧ Hid ((s.extract k s.size).size ≤ 100000) := by
  have e1 : (s.extract 0 k).data.toList = s.data.toList.take k := by rw [ext_list, List.drop_zero]
  have e2 : (s.extract k s.size).data.toList = s.data.toList.drop k := by rw [ext_list, List.take_of_length_le (by rw [← size_list]; exact Nat.le_refl _)]
  refine ⟨?_, ?_, ?_, ?_⟩
  · show _ ≤ _
    rw [size_list, e1, List.length_take, ← size_list]
    omega
  · show ∀ c ∈ _, _
    rw [e1]
    intro c hc
    obtain ⟨j, hj⟩ := List.mem_iff_getElem?.1 hc
    rw [List.getElem?_take] at hj
    split at hj
    · rename_i h; exact hd j c h hj
    · cases hj
  · intro v hv
    rw [e2]
    rw [e1] at hv
    exact numR_of (tw_len hd hn (by rw [← size_list]; exact hk)).symm hv
  · show _ ≤ _
    rw [size_list, e2, List.length_drop, ← size_list]
    omega
set_option maxHeartbeats 3200000 in
set_option maxRecDepth 100000 in
theorem number_x {V : List Value} {g : Nat} {s : B} (w : World) (h : PB w g V s) (hE : Ev w) :
    Calls Tryz.prog 85 #[.pointer (some ⟨g, 0, none⟩)] w fun r w' => ∃ (v : Int) (t : B), r = .returned (.int .i64 v) ∧ 0 ≤ v ∧ v ≤ 9223372036854775807 ∧ NumR s.data.toList v t.data.toList ∧ PB w' g V t ∧ Onl g w w' := by
  have H := Lib.hid h
  have HE := Lib.hid hE
  have hc := h.cell
  have hf := h.free 8
  have hs := h.2.1
  clear h hE
  go_enter Tryz.func85, Tryz.ntmps85
  go_wp2_with fail
  go_loopw [3] (fun i wr => NumRel s w i wr) (fun i _ => s.size - (intOf i).toNat)
  case atStart => exact ⟨0, by omega, rfl, fun j c hj => by omega, rfl⟩
  case round =>
    obtain ⟨k, hk, rfl, hd, rfl⟩ := hrel
    have HD := Lib.hid hd
    clear hd
    by_cases hz : k < s.size
    case neg =>
      obtain ⟨HS, HA, HN, HT⟩ := num_end hs hk HD.out (fun c e => by rw [List.getElem?_eq_none (by rw [← size_list]; omega)] at e; cases e)
      have hq : decide ((k : Int) < (s.size : Int)) = false := decide_eq_false (by omega)
      go_wp2_with fail
      refine (atoi_x (s.extract 0 k) _ HE.out HS.out HA.out).mono ?_
      rintro e w1 ⟨v, x, rfl, hv0, hv1, hv, hb⟩
      have H1 := Lib.hid (H.out.next hb)
      have hc1 := H1.out.cell
      have hf1 := H1.out.free 8
      have HV := Lib.hid hv
      have HB := Lib.hid hb
      clear hv hb
      go_wp2
      go_ret
      exact ⟨v, s.extract k s.size, rfl, hv0, hv1, HN.out v HV.out, H1.out.set _ HT.out, (Onl.of HB.out).set 8 _⟩
    case pos =>
      have hzi : decide ((k : Int) < (s.size : Int)) = true := decide_eq_true (by omega)
      have hzj : (k : Int) < (s.size : Int) := by omega
      obtain ⟨b, hb0⟩ : ∃ b : UInt8, s[k]'hz = b := ⟨_, rfl⟩
      have hbl : s.data.toList[k]? = some b := by rw [← hb0]; exact Lib.data_getElem? s k hz
      have Hb := Lib.hid hbl
      clear hbl
      by_cases h1 : 48 ≤ b.toNat
      case neg =>
        obtain ⟨HS, HA, HN, HT⟩ := num_end hs (Nat.le_of_lt hz) HD.out (fun c e => by rw [Hb.out] at e; cases e; rw [← Bool.not_eq_true, isD_iff]; omega)
        have hq : decide ((48 : Int) ≤ ((s[k]'hz).toNat : Int)) = false := by rw [hb0]; exact decide_eq_false (by omega)
        go_wp2_with fail
        refine (atoi_x (s.extract 0 k) _ HE.out HS.out HA.out).mono ?_
        rintro e w1 ⟨v, x, rfl, hv0, hv1, hv, hb⟩
        have H1 := Lib.hid (H.out.next hb)
        have hc1 := H1.out.cell
        have hf1 := H1.out.free 8
        have HV := Lib.hid hv
        have HB := Lib.hid hb
        clear hv hb
        go_wp2
        go_ret
        exact ⟨v, s.extract k s.size, rfl, hv0, hv1, HN.out v HV.out, H1.out.set _ HT.out, (Onl.of HB.out).set 8 _⟩
      case pos =>
        by_cases h2 : b.toNat ≤ 57
        case neg =>
          obtain ⟨HS, HA, HN, HT⟩ := num_end hs (Nat.le_of_lt hz) HD.out (fun c e => by rw [Hb.out] at e; cases e; rw [← Bool.not_eq_true, isD_iff]; omega)
          have hp : decide ((48 : Int) ≤ ((s[k]'hz).toNat : Int)) = true := by rw [hb0]; exact decide_eq_true (by omega)
          have hq : decide (((s[k]'hz).toNat : Int) ≤ (57 : Int)) = false := by rw [hb0]; exact decide_eq_false (by omega)
          go_wp2_with fail
          refine (atoi_x (s.extract 0 k) _ HE.out HS.out HA.out).mono ?_
          rintro e w1 ⟨v, x, rfl, hv0, hv1, hv, hb⟩
          have H1 := Lib.hid (H.out.next hb)
          have hc1 := H1.out.cell
          have hf1 := H1.out.free 8
          have HV := Lib.hid hv
          have HB := Lib.hid hb
          clear hv hb
          go_wp2
          go_ret
          exact ⟨v, s.extract k s.size, rfl, hv0, hv1, HN.out v HV.out, H1.out.set _ HT.out, (Onl.of HB.out).set 8 _⟩
        case pos =>
          have hp : decide ((48 : Int) ≤ ((s[k]'hz).toNat : Int)) = true := by rw [hb0]; exact decide_eq_true (by omega)
          have hq : decide (((s[k]'hz).toNat : Int) ≤ (57 : Int)) = true := by rw [hb0]; exact decide_eq_true (by omega)
          go_wp2
          go_roundw
          case measure => simp [intOf]; omega
          case rel =>
            refine ⟨k + 1, by omega, by go_num, fun j c hj hc => ?_, rfl⟩
            by_cases e : j = k
            · subst e
              rw [Hb.out] at hc
              cases hc
              exact isD_iff.2 ⟨h1, h2⟩
            · exact HD.out j c (by omega) hc
end Go.Proofs.YtcjakgpmompaiaaGreatDoor
