/-
  The reference's Number, Escaped, Quote, quoted.
-/
import Derived.Test.YtmpgbdibagnanaaDoorRefB
namespace Go.Proofs.YtmpgbdibagnanaaDoor
open Go.RowKit

theorem val_snoc (ds : List UInt8) (c : UInt8) : Lx.val (ds ++ [c]) = 10 * Lx.val ds + (c.toNat - 48) := by simp [Lx.val]
theorem foldl_mono (ds : List UInt8) : ∀ a : Nat, a ≤ ds.foldl (fun a c => 10 * a + (c.toNat - 48)) a := by
  induction ds with
  | nil => intro a; exact Nat.le_refl _
  | cons c ds ih => intro a; exact Nat.le_trans (show a ≤ 10 * a + (c.toNat - 48) by omega) (ih _)
theorem val_take (l : List UInt8) (k : Nat) : Lx.val (l.take k) ≤ Lx.val l := by
  have h : Lx.val l = (l.drop k).foldl (fun a c => 10 * a + (c.toNat - 48)) (Lx.val (l.take k)) := by
    unfold Lx.val
    rw [← List.foldl_append, List.take_append_drop]
  rw [h]
  exact foldl_mono _ _

/-- the number, and whether there is one -/
def numOk (l : List UInt8) : Value := .tuple #[.int .i64 (if Lx.okNumber l then (Lx.val l : Int) else 0), .bool (Lx.okNumber l)]
theorem numOk_no {l : List UInt8} (h : Lx.okNumber l = false) : numOk l = .tuple #[.int .i64 0, .bool false] := by unfold numOk; rw [h]; rfl
theorem numOk_yes {l : List UInt8} (h : Lx.okNumber l = true) : numOk l = .tuple #[.int .i64 (Lx.val l : Int), .bool true] := by unfold numOk; rw [h]; rfl
theorem okNumber_eq (s : ByteArray) (h : 0 < s.size) : Lx.okNumber s.data.toList = (s.data.toList.all Lx.isDigit && (decide (s.size ≤ 1) || !decide ((s[0].toNat : Int) = 48)) && decide (Lx.val s.data.toList ≤ 1099511627776)) := by
  have e := drop_cons s 0 h
  rw [List.drop_zero] at e
  have hz := size_of s
  unfold Lx.okNumber
  have h1 : decide (s.data.toList ≠ []) = true := by rw [e]; simp
  have h2 : (s.data.toList.head? != some 48) = !decide ((s[0].toNat : Int) = 48) := by
    rw [e]
    simp only [List.head?_cons]
    by_cases hc : s[0] = 48
    · rw [hc]; decide
    · have : ¬ (s[0].toNat : Int) = 48 := fun h => hc (UInt8.toNat_inj.1 (by show _ = 48; omega))
      simp [hc, this]
  rw [h1, h2, ← hz]
  simp
theorem okNumber_nil (s : ByteArray) (h : s.size = 0) : Lx.okNumber s.data.toList = false := by
  have e : s.data.toList = [] := List.eq_nil_of_length_eq_zero (by rw [← size_of]; exact h)
  rw [e]; rfl

theorem digit_bounds {c : UInt8} (h : Lx.isDigit c = true) : 48 ≤ (c.toNat : Int) ∧ (c.toNat : Int) ≤ 57 := by
  simp [Lx.isDigit] at h; omega

set_option maxHeartbeats 1600000 in
theorem Number_x (s : ByteArray) (w : World) (hs : s.size ≤ 1099511627776) : Calls Tryd.prog 14 #[.string s] w fun e w' => e = .returned (numOk s.data.toList) ∧ w = w' := by
  go_enter Tryd.func14, Tryd.ntmps14
  go_wp2_with fail
  go_loop [4, 5] (fun n i => ∃ k v : Nat, k ≤ s.size ∧ i = .int .i64 k ∧ n = .int .i64 v ∧ v ≤ 10995116277769 ∧ (s.data.toList.take k).all Lx.isDigit = true ∧ v = Lx.val (s.data.toList.take k)) (fun _ i => s.size - (intOf i).toNat)
  case atStart => exact ⟨0, 0, Nat.zero_le _, rfl, rfl, by omega, by simp, by simp [Lx.val]⟩
  case round =>
    obtain ⟨k, v, hk, rfl, rfl, hv, hn, hvv⟩ := hrel
    have Hn := Lib.hid hn
    have Hv := Lib.hid hvv
    clear hn hvv
    by_cases hlt : k < s.size
    · have hsz0 : 0 < s.size := by omega
      cases hd : Lx.isDigit s[k] with
      | false =>
        have hno : Hid (numOk s.data.toList = .tuple #[.int .i64 0, .bool false]) := by
          apply numOk_no
          rw [okNumber_eq s hsz0, all_no _ s k hlt hd]; rfl
        have Hd := Lib.hid hd
        clear hd
        go_wp2_with fail
        refine (digit_x s[k] _).mono ?_
        rintro e w1 ⟨rfl, rfl⟩
        rw [Hd.out]
        go_wp2
        go_ret2
        exact ⟨by rw [hno.out]; rfl, rfl⟩
      | true =>
        have hdb := digit_bounds hd
        obtain ⟨hd1, hd2⟩ := hdb
        have Hd := Lib.hid hd
        clear hd
        by_cases hbig : 1099511627776 < (v : Int)
        · have hno : Hid (numOk s.data.toList = .tuple #[.int .i64 0, .bool false]) := by
            apply numOk_no
            have h1 := val_take s.data.toList k
            rw [← Hv.out] at h1
            rw [okNumber_eq s hsz0, decide_eq_false (by omega : ¬ Lx.val s.data.toList ≤ 1099511627776), Bool.and_false]
          go_wp2_with fail
          refine (digit_x s[k] _).mono ?_
          rintro e w1 ⟨rfl, rfl⟩
          rw [Hd.out]
          go_wp2
          go_ret2
          exact ⟨by rw [hno.out]; rfl, rfl⟩
        · have hall : Hid ((s.data.toList.take (k + 1)).all Lx.isDigit = true) := by
            show _ = _
            rw [all_snoc _ s k hlt, Hn.out, Hd.out]; rfl
          have hval : Hid (10 * v + (s[k].toNat - 48) = Lx.val (s.data.toList.take (k + 1))) := by
            show _ = _
            rw [take_snoc s k hlt, val_snoc, ← Hv.out]
          go_wp2_with fail
          refine (digit_x s[k] _).mono ?_
          rintro e w1 ⟨rfl, rfl⟩
          rw [Hd.out]
          go_wp2
          go_round
          case rel => exact ⟨k + 1, 10 * v + (s[k].toNat - 48), by omega, rfl, by congr 1; omega, by omega, hall.out, hval.out⟩
          case measure => simp [intOf]; omega
    · have hall := Hn.out
      have hval := Hv.out
      rw [take_end s k (by omega)] at hall hval
      by_cases h0 : s.size = 0
      · have hno := Lib.hid (numOk_no (okNumber_nil s h0))
        have hsz : s.size < 1 := by omega
        clear hall hval h0
        go_wp2
        go_ret2
        exact ⟨by rw [hno.out]; rfl, rfl⟩
      · have hsz0 : 0 < s.size := by omega
        have hE := okNumber_eq s hsz0
        rw [hall, ← hval, Bool.true_and] at hE
        have HE := Lib.hid hE
        have Hval := Lib.hid hval
        clear hall hval hE h0
        by_cases h48 : 1 < (s.size : Int) ∧ (s[0].toNat : Int) = 48
        · have hno : Hid (numOk s.data.toList = .tuple #[.int .i64 0, .bool false]) := by
            apply numOk_no
            rw [HE.out, decide_eq_true h48.2, decide_eq_false (by omega : ¬ s.size ≤ 1)]
            rfl
          have h1 := h48.1
          have hb : ((s[0].toNat : Int) == 48) = true := by simp [h48.2]
          clear h48
          go_wp2
          go_ret2
          exact ⟨by rw [hno.out]; rfl, rfl⟩
        · have hz : Hid ((decide (s.size ≤ 1) || !decide ((s[0].toNat : Int) = 48)) = true) := by
            show _ = _
            by_cases h1 : s.size ≤ 1
            · rw [decide_eq_true h1]; rfl
            · rw [decide_eq_false (by omega : ¬ (s[0].toNat : Int) = 48)]; simp
          have hcase : ¬ 1 < (s.size : Int) ∨ (1 < (s.size : Int) ∧ ((s[0].toNat : Int) == 48) = false) := by
            by_cases h1 : 1 < (s.size : Int)
            · right; exact ⟨h1, by rw [beq_eq_false_iff_ne]; exact fun h => h48 ⟨h1, h⟩⟩
            · left; exact h1
          clear h48
          by_cases hbig : 1099511627776 < (v : Int)
          · have hno : Hid (numOk s.data.toList = .tuple #[.int .i64 0, .bool false]) := by
              apply numOk_no
              rw [HE.out, decide_eq_false (by omega : ¬ v ≤ 1099511627776), Bool.and_false]
            rcases hcase with hc | ⟨hc, hc'⟩
            all_goals
              go_wp2
              go_ret2
              exact ⟨by rw [hno.out]; rfl, rfl⟩
          · have hyes : Hid (numOk s.data.toList = .tuple #[.int .i64 (v : Int), .bool true]) := by
              have := numOk_yes (l := s.data.toList) (by rw [HE.out, hz.out, decide_eq_true (by omega : v ≤ 1099511627776)]; rfl)
              rw [← Hval.out] at this
              exact this
            rcases hcase with hc | ⟨hc, hc'⟩
            all_goals
              go_wp2
              go_ret2
              exact ⟨by rw [hyes.out]; rfl, rfl⟩

theorem esc_snoc (a : List UInt8) (c : UInt8) : Lx.esc (a ++ [c]) = Lx.esc a ++ (if c == 34 || c == 92 then [92, c] else [c]) := by simp [Lx.esc]
theorem esc_len (a : List UInt8) : (Lx.esc a).length ≤ 2 * a.length := by
  induction a with
  | nil => simp [Lx.esc]
  | cons c r ih => rw [Lx.esc_cons, List.length_append, List.length_cons]; split <;> simp <;> omega

def ERel (s : ByteArray) (t i : Value) : Prop := ∃ k : Nat, k ≤ s.size ∧ i = .int .i64 k ∧ t = .string (mk (34 :: Lx.esc (s.data.toList.take k)))

set_option maxHeartbeats 800000 in
theorem Escaped_x (s : ByteArray) (w : World) (hs : s.size ≤ 1099511627776) : Calls Tryd.prog 23 #[.string s] w fun e w' => e = .returned (.string (mk (Lx.quoted s.data.toList))) ∧ w = w' := by
  go_enter Tryd.func23, Tryd.ntmps23
  go_wp2_with fail
  go_loop [3, 4] (fun t i => ERel s t i) (fun _ i => s.size - (intOf i).toNat)
  case atStart => exact ⟨0, Nat.zero_le _, rfl, rfl⟩
  case round =>
    obtain ⟨k, hk, rfl, rfl⟩ := hrel
    have hel := esc_len (s.data.toList.take k)
    rw [List.length_take, ← size_of] at hel
    have hms : (mk (34 :: Lx.esc (s.data.toList.take k))).size ≤ 2199023255553 := by rw [mk_size, List.length_cons]; omega
    clear hel
    by_cases hlt : k < s.size
    · have h1 : Hid (∀ x, (if s[k] == 34 || s[k] == 92 then [92, s[k]] else [s[k]]) = x → mk (34 :: Lx.esc (s.data.toList.take k)) ++ mk x = mk (34 :: Lx.esc (s.data.toList.take (k + 1)))) := by
        intro x hx
        rw [mk_append, take_snoc s k hlt, esc_snoc, hx]
        rfl
      have hone := Lib.hid (one_byte s k hlt)
      by_cases h34 : (s[k].toNat : Int) = 34 ∨ (s[k].toNat : Int) = 92
      · have hx : Hid (mk (34 :: Lx.esc (s.data.toList.take k)) ++ mk [92] ++ s.extract k (k + 1) = mk (34 :: Lx.esc (s.data.toList.take (k + 1)))) := by
          show _ = _
          rw [hone.out, mk_append, mk_append, ← h1.out [92, s[k]] _, mk_append]
          · simp
          · have : (s[k] == 34 || s[k] == 92) = true := by
              rcases h34 with h | h
              · have : s[k] = 34 := UInt8.toNat_inj.1 (by show _ = 34; omega)
                simp [this]
              · have : s[k] = 92 := UInt8.toNat_inj.1 (by show _ = 92; omega)
                simp [this]
            rw [this]; rfl
        have e92 : Hid ((⟨#[92]⟩ : ByteArray) = mk [92]) := rfl
        rcases h34 with h34 | h34
        · have hb : ((s[k].toNat : Int) == 34) = true := by simp [h34]
          clear h34
          go_wp2
          go_round
          case rel => exact ⟨k + 1, by omega, rfl, by rw [← hx.out]; rfl⟩
          case measure => simp [intOf]; omega
        · have hb : ((s[k].toNat : Int) == 34) = false := by rw [beq_eq_false_iff_ne]; omega
          have hb2 : ((s[k].toNat : Int) == 92) = true := by simp [h34]
          clear h34
          go_wp2
          go_round
          case rel => exact ⟨k + 1, by omega, rfl, by rw [← hx.out]; rfl⟩
          case measure => simp [intOf]; omega
      · have hx : Hid (mk (34 :: Lx.esc (s.data.toList.take k)) ++ s.extract k (k + 1) = mk (34 :: Lx.esc (s.data.toList.take (k + 1)))) := by
          show _ = _
          rw [hone.out, h1.out [s[k]] _]
          have ha : (s[k] == 34) = false := by
            rw [beq_eq_false_iff_ne]; intro h; apply h34; left; rw [h]; rfl
          have hb : (s[k] == 92) = false := by
            rw [beq_eq_false_iff_ne]; intro h; apply h34; right; rw [h]; rfl
          rw [ha, hb]; rfl
        have hb : ((s[k].toNat : Int) == 34) = false := by rw [beq_eq_false_iff_ne]; omega
        have hb2 : ((s[k].toNat : Int) == 92) = false := by rw [beq_eq_false_iff_ne]; omega
        clear h34
        go_wp2
        go_round
        case rel => exact ⟨k + 1, by omega, rfl, by rw [← hx.out]⟩
        case measure => simp [intOf]; omega
    · have hx : Hid (mk (34 :: Lx.esc (s.data.toList.take k)) ++ mk [34] = mk (Lx.quoted s.data.toList)) := by
        show _ = _
        rw [mk_append, take_end s k (by omega)]
        rfl
      go_wp2
      go_ret
      exact ⟨by rw [← hx.out]; rfl, rfl⟩

theorem Quote_x (s : ByteArray) (w : World) (hs : s.size ≤ 1099511627776) : Calls Tryd.prog 16 #[.string s] w fun e w' => e = .returned (if Lx.okValue s.data.toList then .tuple #[.string (mk (Lx.quoted s.data.toList)), .bool true] else .tuple #[.string ⟨#[]⟩, .bool false]) ∧ w = w' := by
  cases hv : Lx.okValue s.data.toList with
  | true =>
    have Hv := Lib.hid hv
    clear hv
    go_enter Tryd.func16, Tryd.ntmps16
    go_wp2_with fail
    refine (Value_x s _ hs).mono ?_
    rintro e w1 ⟨rfl, rfl⟩
    rw [Hv.out]
    go_wp2_with fail
    refine (Escaped_x s _ hs).mono ?_
    rintro e w1 ⟨rfl, rfl⟩
    go_wp2
    go_ret2
    exact ⟨rfl, rfl⟩
  | false =>
    have Hv := Lib.hid hv
    clear hv
    go_enter Tryd.func16, Tryd.ntmps16
    go_wp2_with fail
    refine (Value_x s _ hs).mono ?_
    rintro e w1 ⟨rfl, rfl⟩
    rw [Hv.out]
    go_wp2
    go_ret2
    exact ⟨rfl, rfl⟩

end Go.Proofs.YtmpgbdibagnanaaDoor
