/-
  The program's readName, readNumber.
-/
import Derived.Test.YtmpgbdibagnanaaDoorLexB
namespace Go.Proofs.YtmpgbdibagnanaaDoor
open Go.RowKit

theorem span_parts {p : UInt8 → Bool} {s : ByteArray} (h0 : 0 < s.size) (hp : p s[0] = true) :
    (s.extract 0 (runL p s)).data.toList = s[0] :: (s.data.toList.drop 1).takeWhile p ∧ s.data.toList.drop (runL p s) = (s.data.toList.drop 1).dropWhile p ∧ 1 ≤ runL p s := by
  have e := drop_cons s 0 h0
  rw [List.drop_zero] at e
  have h1 : s.data.toList.takeWhile p = s[0] :: (s.data.toList.drop 1).takeWhile p := by
    rw [e, List.takeWhile_cons, if_pos hp]; simp
  have h2 : s.data.toList.takeWhile p ++ s.data.toList.dropWhile p = s.data.toList := List.takeWhile_append_dropWhile
  have h3 : s.data.toList.dropWhile p = (s.data.toList.drop 1).dropWhile p := by
    rw [e, List.dropWhile_cons, if_pos hp]; simp
  refine ⟨?_, ?_, ?_⟩
  · rw [extract_mk, mk_toList, List.drop_zero, Nat.sub_zero, ← h1]
    unfold runL
    conv => lhs; rw [← h2]
    rw [List.take_left' (by rw [h2])]
  · rw [← h3]
    unfold runL
    conv => lhs; rw [← h2]
    rw [List.drop_left' (by rw [h2])]
  · unfold runL; rw [h1]; simp

set_option maxHeartbeats 1600000 in
theorem readName_x (s : ByteArray) (w : World) (hs : s.size ≤ 1099511627776) (h0 : 0 < s.size) (hl : Lx.isLetter s[0] = true) :
    Calls Tryd.prog 38 #[.string s] w fun e w' => TPost s 0 h0 w e w' := by
  have hT := tok_name (r := s.data.toList.drop 1) hl
  obtain ⟨q1, q2, q3⟩ := span_parts h0 (letter_word hl)
  have q4 := runL_le Lx.isWord s
  rw [← q1, ← q2] at hT
  have HT := Lib.hid hT
  clear hT q1 q2 hl
  go_enter Tryd.func38, Tryd.ntmps38
  go_wp2_with fail
  refine (spanW_x s _ hs).mono ?_
  rintro e w1 ⟨rfl, rfl⟩
  generalize runL Lx.isWord s = n at q3 q4 HT ⊢
  have Hxs : Hid ((s.extract 0 n).size ≤ 1099511627776) := by show _ ≤ _; rw [extract_mk, mk_size, List.length_take, List.length_drop, ← size_of]; omega
  go_wp2_with fail
  refine (lName_x (s.extract 0 n) _ Hxs.out).mono ?_
  rintro e w1 ⟨rfl, rfl⟩
  cases hv : Lx.okName (s.extract 0 n).data.toList with
  | true =>
    have hfin : Hid (Lx.tok s[0] (s.data.toList.drop (0 + 1)) = .ok ((0, (s.extract 0 n).data.toList, 0), s.data.toList.drop n)) := by
      show _ = _
      rw [Nat.zero_add, HT.out, hv]; rfl
    clear hv
    go_wp2
    exact bodyPost_ret (v := .tuple #[.agg #[.int .i64 0, .string (s.extract 0 n), .int .i64 0, .int .i64 0], .int .i64 n, .int .i64 0]) (by simp [results, Tryd.results38, go_sem]) rfl (tpost_ok hfin.out q4 ((Below.refl _ _).alloc (Nat.le_refl _) _) _ _ _ _ rfl rfl rfl rfl)
  | false =>
    have hfin : Hid (Lx.tok s[0] (s.data.toList.drop (0 + 1)) = .error Lx.eRange) := by
      show _ = _
      rw [Nat.zero_add, HT.out, hv]; rfl
    clear hv
    go_wp2
    exact bodyPost_ret (v := .tuple #[.agg #[.int .i64 0, .string ⟨#[]⟩, .int .i64 0, .int .i64 0], .int .i64 0, .int .i64 3]) (by simp [results, Tryd.results38, go_sem]) rfl (tpost_err hfin.out ((Below.refl _ _).alloc (Nat.le_refl _) _) _ rfl)

set_option maxHeartbeats 1600000 in
theorem readNumber_x (s : ByteArray) (w : World) (hs : s.size ≤ 1099511627776) (h0 : 0 < s.size) (hl : Lx.isLetter s[0] = false) (hd : Lx.isDigit s[0] = true) :
    Calls Tryd.prog 39 #[.string s] w fun e w' => TPost s 0 h0 w e w' := by
  have hT := tok_num (r := s.data.toList.drop 1) hl hd
  obtain ⟨q1, q2, q3⟩ := span_parts h0 hd
  have q4 := runL_le Lx.isDigit s
  rw [← q1, ← q2] at hT
  have HT := Lib.hid hT
  clear hT q1 q2 hl hd
  go_enter Tryd.func39, Tryd.ntmps39
  go_wp2_with fail
  refine (spanD_x s _ hs).mono ?_
  rintro e w1 ⟨rfl, rfl⟩
  generalize runL Lx.isDigit s = n at q3 q4 HT ⊢
  have Hxs : Hid ((s.extract 0 n).size ≤ 1099511627776) := by show _ ≤ _; rw [extract_mk, mk_size, List.length_take, List.length_drop, ← size_of]; omega
  go_wp2_with fail
  refine (lNumber_x (s.extract 0 n) _ Hxs.out).mono ?_
  rintro e w1 ⟨rfl, rfl⟩
  cases hv : Lx.okNumber (s.extract 0 n).data.toList with
  | true =>
    have hfin : Hid (Lx.tok s[0] (s.data.toList.drop (0 + 1)) = .ok ((1, (s.extract 0 n).data.toList, Lx.val (s.extract 0 n).data.toList), s.data.toList.drop n)) := by
      show _ = _
      rw [Nat.zero_add, HT.out, hv]; rfl
    rw [numOk_yes hv]
    clear hv
    generalize Lx.val (s.extract 0 n).data.toList = nv at hfin ⊢
    go_wp2
    exact bodyPost_ret (v := .tuple #[.agg #[.int .i64 1, .string (s.extract 0 n), .int .i64 nv, .int .i64 0], .int .i64 n, .int .i64 0]) (by simp [results, Tryd.results39, go_sem]) rfl (tpost_ok hfin.out q4 ((Below.refl _ _).alloc (Nat.le_refl _) _) _ _ _ _ rfl rfl rfl rfl)
  | false =>
    have hfin : Hid (Lx.tok s[0] (s.data.toList.drop (0 + 1)) = .error Lx.eRange) := by
      show _ = _
      rw [Nat.zero_add, HT.out, hv]; rfl
    rw [numOk_no hv]
    clear hv
    go_wp2
    exact bodyPost_ret (v := .tuple #[.agg #[.int .i64 0, .string ⟨#[]⟩, .int .i64 0, .int .i64 0], .int .i64 0, .int .i64 3]) (by simp [results, Tryd.results39, go_sem]) rfl (tpost_err hfin.out ((Below.refl _ _).alloc (Nat.le_refl _) _) _ rfl)

end Go.Proofs.YtmpgbdibagnanaaDoor
