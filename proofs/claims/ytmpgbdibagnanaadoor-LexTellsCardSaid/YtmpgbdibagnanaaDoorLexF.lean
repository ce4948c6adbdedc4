/-
  The program's readToken, Scan.
-/
import Derived.Test.YtmpgbdibagnanaaDoorLexE
namespace Go.Proofs.YtmpgbdibagnanaaDoor
open Go.RowKit

theorem tok0_of {w wr : World} (h : Below (tok0 w).heap.size (tok0 w) wr) : Below (w.heap.size + 1) (tok0 w) wr := tok0_size w ▸ h

theorem tokV_form (s : ByteArray) (o : Except Nat ((Nat × List UInt8 × Nat) × List UInt8)) : ∃ (kd n q er : Int) (tx : ByteArray), tokV s 0 o = .tuple #[.agg #[.int .i64 kd, .string tx, .int .i64 n, .int .i64 0], .int .i64 q, .int .i64 er] := by
  cases o with
  | error e => exact ⟨0, 0, 0, e, ⟨#[]⟩, rfl⟩
  | ok p => exact ⟨_, _, _, _, _, rfl⟩

set_option maxHeartbeats 3200000 in
set_option maxRecDepth 100000 in
theorem readToken_x (s : ByteArray) (w : World) (hsg : Sg w) (hs : s.size ≤ 1099511627776) (h0 : 0 < s.size) :
    Calls Tryd.prog 26 #[.string s] w fun e w' => TPost s 0 h0 w e w' := by
  obtain ⟨kd, n, q, er, tx, hV⟩ := tokV_form s (Lx.tok s[0] (s.data.toList.drop (0 + 1)))
  have HV := Lib.hid hV
  have fin : Hid (∀ (e : Ending) (w' : World), e = .returned (.tuple #[.agg #[.int .i64 kd, .string tx, .int .i64 n, .int .i64 0], .int .i64 q, .int .i64 er]) → Below w.heap.size w w' → TPost s 0 h0 w e w') := by
    intro e w' he hb
    exact ⟨by rw [HV.out]; exact he, hb⟩
  cases hl : Lx.isLetter s[0] with
  | true =>
    have Hl := Lib.hid hl
    clear hl hV
    go_enter Tryd.func26, Tryd.ntmps26
    go_wp2_with fail
    refine (lLetter_x s[0] _).mono ?_
    rintro e w1 ⟨rfl, rfl⟩
    rw [Hl.out]
    go_wp2_with fail
    refine (readName_x s _ hs h0 Hl.out).mono ?_
    rintro e w2 ⟨rfl, hb2⟩
    rw [HV.out]
    have hb := tok0_of hb2
    obtain ⟨hc, hf⟩ := tok0_cells hb
    have hbw := tok0_below hb
    go_wp2_with fail
    exact bodyPost_ret (v := .tuple #[.agg #[.int .i64 kd, .string tx, .int .i64 n, .int .i64 0], .int .i64 q, .int .i64 er]) (by simp [results, Tryd.results26, go_sem, hc]) rfl (fin.out _ _ rfl (by repeat (first | exact hbw | refine Below.setCell ?_ (by simp) _)))
  | false =>
    have Hl := Lib.hid hl
    clear hl hV
    cases hd : Lx.isDigit s[0] with
    | true =>
      have Hd := Lib.hid hd
      clear hd
      go_enter Tryd.func26, Tryd.ntmps26
      go_wp2_with fail
      refine (lLetter_x s[0] _).mono ?_
      rintro e w1 ⟨rfl, rfl⟩
      rw [Hl.out]
      go_wp2_with fail
      refine (lDigit_x s[0] _).mono ?_
      rintro e w1 ⟨rfl, rfl⟩
      rw [Hd.out]
      go_wp2_with fail
      refine (readNumber_x s _ hs h0 Hl.out Hd.out).mono ?_
      rintro e w2 ⟨rfl, hb2⟩
      rw [HV.out]
      have hb := tok0_of hb2
      obtain ⟨hc, hf⟩ := tok0_cells hb
      have hbw := tok0_below hb
      go_wp2_with fail
      exact bodyPost_ret (v := .tuple #[.agg #[.int .i64 kd, .string tx, .int .i64 n, .int .i64 0], .int .i64 q, .int .i64 er]) (by simp [results, Tryd.results26, go_sem, hc]) rfl (fin.out _ _ rfl (by repeat (first | exact hbw | refine Below.setCell ?_ (by simp) _)))
    | false =>
      have Hd := Lib.hid hd
      clear hd
      by_cases h34 : (s[0].toNat : Int) = 34
      · have hb3 : ((s[0].toNat : Int) == 34) = true := by simp [h34]
        have H34 := Lib.hid (c34 h34)
        clear h34
        go_enter Tryd.func26, Tryd.ntmps26
        go_wp2_with fail
        refine (lLetter_x s[0] _).mono ?_
        rintro e w1 ⟨rfl, rfl⟩
        rw [Hl.out]
        go_wp2_with fail
        refine (lDigit_x s[0] _).mono ?_
        rintro e w1 ⟨rfl, rfl⟩
        rw [Hd.out]
        go_wp2_with fail
        refine (readQuoted_x s _ hs h0 H34.out).mono ?_
        rintro e w2 ⟨rfl, hb2⟩
        rw [HV.out]
        have hb := tok0_of hb2
        obtain ⟨hc, hf⟩ := tok0_cells hb
        have hbw := tok0_below hb
        go_wp2_with fail
        exact bodyPost_ret (v := .tuple #[.agg #[.int .i64 kd, .string tx, .int .i64 n, .int .i64 0], .int .i64 q, .int .i64 er]) (by simp [results, Tryd.results26, go_sem, hc]) rfl (fin.out _ _ rfl (by repeat (first | exact hbw | refine Below.setCell ?_ (by simp) _)))
      · have hT := Lib.hid (tok_sign (r := s.data.toList.drop (0 + 1)) Hl.out Hd.out (n34 h34))
        have hb3 : ((s[0].toNat : Int) == 34) = false := by rw [beq_eq_false_iff_ne]; exact h34
        have hone := Lib.hid (one_byte s 0 h0)
        have hsg1 : Hid (Sg (tok0 w)) := sg_of hsg ((Below.refl _ _).alloc (Nat.le_refl _) _)
        clear h34 fin HV
        go_enter Tryd.func26, Tryd.ntmps26
        go_wp2_with fail
        refine (lLetter_x s[0] _).mono ?_
        rintro e w1 ⟨rfl, rfl⟩
        rw [Hl.out]
        go_wp2_with fail
        refine (lDigit_x s[0] _).mono ?_
        rintro e w1 ⟨rfl, rfl⟩
        rw [Hd.out]
        go_wp2_with fail
        refine (isSign_x s[0] _ hsg1.out).mono ?_
        rintro e w1 ⟨rfl, rfl⟩
        unfold tok0
        cases hsgn : Lx.isSign s[0] with
        | true =>
          have hfin : Hid (Lx.tok s[0] (s.data.toList.drop (0 + 1)) = .ok ((3, [s[0]], 0), s.data.toList.drop (0 + 1))) := by show _ = _; rw [hT.out, hsgn]; rfl
          clear hsgn
          go_wp2
          exact bodyPost_ret (v := .tuple #[.agg #[.int .i64 3, .string (s.extract 0 1), .int .i64 0, .int .i64 0], .int .i64 1, .int .i64 0]) (by simp [results, Tryd.results26, go_sem]) rfl (tpost_ok hfin.out h0 ((Below.refl _ _).alloc (Nat.le_refl _) _) _ _ _ _ rfl (by rw [hone.out]) rfl rfl)
        | false =>
          have hfin : Hid (Lx.tok s[0] (s.data.toList.drop (0 + 1)) = .error Lx.eToken) := by show _ = _; rw [hT.out, hsgn]; rfl
          clear hsgn
          go_wp2
          exact bodyPost_ret (v := .tuple #[.agg #[.int .i64 0, .string ⟨#[]⟩, .int .i64 0, .int .i64 0], .int .i64 0, .int .i64 20]) (by simp [results, Tryd.results26, go_sem]) rfl (tpost_err hfin.out ((Below.refl _ _).alloc (Nat.le_refl _) _) _ rfl)

end Go.Proofs.YtmpgbdibagnanaaDoor
