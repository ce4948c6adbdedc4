/-
  The program's reader: the payee, the sum, the last lines.
-/
import Derived.Test.YtcjakgpmompaiaaGreatDoorRdE
import Derived.Test.YtcjakgpmompaiaaGreatDoorWd
namespace Go.Proofs.YtcjakgpmompaiaaGreatDoor
open Go.RowKit Rl Wd


set_option maxHeartbeats 3200000 in
set_option maxRecDepth 100000 in
theorem payee_x {a0 a1 a2 a3 a4 a5 a6 a7 : Option Addr} {c0 c1 c2 c3 c4 c5 c6 c7 : Nat} {R : Rlm} {W : World} {g h : Nat} {s : B} {b : Bl} (w : World) (hp0 : PB w g [Value.slice a0 R.cur.length c0, Value.slice a1 R.cities.length c1, Value.slice a2 R.groups.length c2, Value.slice a3 R.firms.length c3, Value.slice a4 R.orders.length c4, Value.slice a5 R.usances.length c5, Value.slice a6 R.rates.length c6, Value.slice a7 R.halts.length c7] s) (hb0 : BB w h b) (hlt : h < g) (hr : RS W a0 a1 a2 a3 a4 a5 a6 a7 c0 c1 c2 c3 c4 c5 c6 c7 R) (hFt : Fit R) (hW : Below W.heap.size W w) (hg : W.heap.size ≤ h) (hL : ∀ w', Below h w w' → Ev w') (hor : bits BinOp.or IntKind.i64 b.flags 4 = b.flags + 4) :
    Calls Tryz.prog 56 #[.pointer (some ⟨g, 0, none⟩), .pointer (some ⟨h, 0, none⟩)] w fun r w' => ∃ (p : Int) (o : Bool) (t : B), r = .returned (.tuple #[]) ∧ PayR R s.data.toList p o t.data.toList ∧ PB w' g [Value.slice a0 R.cur.length c0, Value.slice a1 R.cities.length c1, Value.slice a2 R.groups.length c2, Value.slice a3 R.firms.length c3, Value.slice a4 R.orders.length c4, Value.slice a5 R.usances.length c5, Value.slice a6 R.rates.length c6, Value.slice a7 R.halts.length c7] t ∧ BB w' h { b with payee := p, flags := if o = true then b.flags + 4 else b.flags } ∧ Below h w w' := by
  have H0 := Lib.hid hp0
  have X0 := Lib.hid hb0
  have HLT := Lib.hid hlt
  have HR := Lib.hid hr
  have HF := Lib.hid hFt
  have HW := Lib.hid hW
  have HG := Lib.hid hg
  have HL := Lib.hid hL
  have B0 := Lib.hid (Below.refl h w)
  clear hp0 hb0 hlt hr hFt hW hg hL
  go_enter Tryz.func56, Tryz.ntmps56
  go_wp2_with fail
  refine (take_c ⟨#[98, 101, 97, 114, 101, 114, 10]⟩ _ H0.out).mono ?_
  rintro r w1 ⟨q1, rfl, e1, h1, b1⟩
  have H1 := Lib.hid h1
  replace b1 := b1.low H0.out.lt
  have X1 := Lib.hid (X0.out.below b1 HLT.out)
  have B1 := Lib.hid (B0.out.trans (b1.mono (Nat.le_of_lt HLT.out)))
  clear h1 b1
  have E1 := Lib.hid e1
  clear e1
  cases q1 with
  | true =>
    have y := X1.out.at (i := 2) rfl
    have f := X1.out.free 2
    have X2 := Lib.hid (X1.out.set 2 (.int .i64 (-1)) (b' := { b with payee := -1 }) rfl)
    have H2 := Lib.hid (H1.out.other (h := h) (i := 2) (.int .i64 (-1)) (Nat.ne_of_lt HLT.out))
    have B2 := Lib.hid (below_set B1.out 2 (.int .i64 (-1)))
    go_wp2
    first
      | exact bodyPost_end (results_none Tryz.results56 _ _ _) rfl ⟨-1, false, _, rfl, payR_bearer E1.out.symm, H2.out, X2.out, B2.out⟩
      | exact bodyPost_ret (v := .tuple #[]) (results_none Tryz.results56 _ _ _) rfl ⟨-1, false, _, rfl, payR_bearer E1.out.symm, H2.out, X2.out, B2.out⟩
  | false =>
    rw [mk_miss E1.out] at H1
    go_wp2_with fail
    refine (rdFirm_x _ H1.out HR.out HF.out (HW.out.trans (B1.out.mono HG.out)) (Nat.le_trans HG.out (Nat.le_of_lt HLT.out))).mono ?_
    rintro r w2 ⟨v2, t2, rfl, n2, h2, b2⟩
    have N2 := Lib.hid n2
    clear n2
    have H2 := Lib.hid h2
    have X2 := Lib.hid (X1.out.below b2 HLT.out)
    have B2 := Lib.hid (B1.out.trans (b2.mono (Nat.le_of_lt HLT.out)))
    clear h2 b2
    have y := X2.out.at (i := 2) rfl
    have f := X2.out.free 2
    have X3 := Lib.hid (X2.out.set 2 (.int .i64 v2) (b' := { b with payee := v2 }) rfl)
    have H3 := Lib.hid (H2.out.other (h := h) (i := 2) (.int .i64 v2) (Nat.ne_of_lt HLT.out))
    have B3 := Lib.hid (below_set B2.out 2 (.int .i64 v2))
    go_wp2_with fail
    clear y f
    refine (take_c ⟨#[32, 110, 111, 116, 32, 116, 111, 32, 111, 114, 100, 101, 114, 10]⟩ _ H3.out).mono ?_
    rintro r w4 ⟨q4, rfl, e4, h4, b4⟩
    have H4 := Lib.hid h4
    replace b4 := b4.low H3.out.lt
    have X4 := Lib.hid (X3.out.below b4 HLT.out)
    have B4 := Lib.hid (B3.out.trans (b4.mono (Nat.le_of_lt HLT.out)))
    clear h4 b4
    have E4 := Lib.hid e4
    clear e4
    cases q4 with
    | true =>
      have z := X4.out.at (i := 13) rfl
      have y := X4.out.at (i := 13) rfl
      have f := X4.out.free 13
      have X5 := Lib.hid (X4.out.set 13 (.int .i64 (b.flags + 4)) (b' := { b with payee := v2, flags := b.flags + 4 }) rfl)
      have H5 := Lib.hid (H4.out.other (h := h) (i := 13) (.int .i64 (b.flags + 4)) (Nat.ne_of_lt HLT.out))
      have B5 := Lib.hid (below_set B4.out 13 (.int .i64 (b.flags + 4)))
      go_wp2
      first
        | exact bodyPost_end (results_none Tryz.results56 _ _ _) rfl ⟨v2, true, _, rfl, payR_firm E1.out.symm N2.out E4.out rfl, H5.out, X5.out, B5.out⟩
        | exact bodyPost_ret (v := .tuple #[]) (results_none Tryz.results56 _ _ _) rfl ⟨v2, true, _, rfl, payR_firm E1.out.symm N2.out E4.out rfl, H5.out, X5.out, B5.out⟩
    | false =>
      rw [mk_miss E4.out] at H4
      go_wp2_with fail
      refine (take_c ⟨#[32, 111, 114, 32, 111, 114, 100, 101, 114, 10]⟩ _ H4.out).mono ?_
      rintro r w5 ⟨q5, rfl, e5, h5, b5⟩
      have H5 := Lib.hid h5
      replace b5 := b5.low H4.out.lt
      have X5 := Lib.hid (X4.out.below b5 HLT.out)
      have B5 := Lib.hid (B4.out.trans (b5.mono (Nat.le_of_lt HLT.out)))
      clear h5 b5
      have E5 := Lib.hid e5
      clear e5
      go_wp2
      first
        | exact bodyPost_end (results_none Tryz.results56 _ _ _) rfl ⟨v2, false, _, rfl, payR_firm E1.out.symm N2.out E4.out rfl, H5.out, X5.out, B5.out⟩
        | exact bodyPost_ret (v := .tuple #[]) (results_none Tryz.results56 _ _ _) rfl ⟨v2, false, _, rfl, payR_firm E1.out.symm N2.out E4.out rfl, H5.out, X5.out, B5.out⟩


theorem ift {c : Bool} (h : true = c) {P Q : Prop} (p : P) : if c = true then P else Q := by subst h; exact p
theorem iff_ {c : Bool} (h : false = c) {P Q : Prop} (q : Q) : if c = true then P else Q := by subst h; exact q
theorem BB.other8 {w : World} {h g : Nat} {b : Bl} (e : BB w h b) (t : B) (hg : h < g) : BB (w.setCell ⟨g, 8, none⟩ (.string t)) h b := by
  unfold BB at e ⊢
  rw [Below.heap_setCell _ _ _ _ (by show h ≠ g; omega)]
  exact e
theorem cut_len (s x : L8) : (Lib.cut s x).2.1.length ≤ s.length := by
  unfold Lib.cut
  split
  · show (List.drop _ _).length ≤ _
    rw [List.length_drop]
    omega
  · exact Nat.zero_le _
theorem cut_x (s : B) (m : Int) (w : World) (hs : s.size ≤ 100000) (hm : w.cell? ⟨1, 0, none⟩ = some (.int .i64 m)) :
    Calls Tryz.prog 92 #[.string s, .string ⟨#[10]⟩] w fun r w' => ∃ (a u : B) (c : Bool), r = .returned (.tuple #[.string a, .string u, .bool c]) ∧ u.data.toList = (Lib.cut s.data.toList [10]).2.1 ∧ u.size ≤ 100000 ∧ ∃ n, w' = w.drewN n := by
  refine (Tryz.strings_Cut s ⟨#[10]⟩ m w (by omega) hm).mono ?_
  rintro r w' ⟨rfl, n, rfl⟩
  refine ⟨_, mkB (Lib.cut s.data.toList [10]).2.1, _, rfl, rfl, ?_, n, rfl⟩
  rw [mkB_size]
  have := cut_len s.data.toList [10]
  have h2 := size_list s
  omega


set_option maxHeartbeats 3200000 in
set_option maxRecDepth 100000 in
theorem clauses_x {a0 a1 a2 a3 a4 a5 a6 a7 : Option Addr} {c0 c1 c2 c3 c4 c5 c6 c7 : Nat} {R : Rlm} {W : World} {g h : Nat} {s : B} {b : Bl} (w : World) (hp0 : PB w g [Value.slice a0 R.cur.length c0, Value.slice a1 R.cities.length c1, Value.slice a2 R.groups.length c2, Value.slice a3 R.firms.length c3, Value.slice a4 R.orders.length c4, Value.slice a5 R.usances.length c5, Value.slice a6 R.rates.length c6, Value.slice a7 R.halts.length c7] s) (hb0 : BB w h b) (hlt : h < g) (hr : RS W a0 a1 a2 a3 a4 a5 a6 a7 c0 c1 c2 c3 c4 c5 c6 c7 R) (hFt : Fit R) (hW : Below W.heap.size W w) (hg : W.heap.size ≤ h) (hL : ∀ w', Below h w w' → Ev w') (hor : bits BinOp.or IntKind.i64 b.flags 2 = b.flags + 2) :
    Calls Tryz.prog 59 #[.pointer (some ⟨g, 0, none⟩), .pointer (some ⟨h, 0, none⟩)] w fun r w' => ∃ (n : Int) (d : Bool) (t : B), r = .returned (.tuple #[]) ∧ ClR R s.data.toList n d t.data.toList ∧ PB w' g [Value.slice a0 R.cur.length c0, Value.slice a1 R.cities.length c1, Value.slice a2 R.groups.length c2, Value.slice a3 R.firms.length c3, Value.slice a4 R.orders.length c4, Value.slice a5 R.usances.length c5, Value.slice a6 R.rates.length c6, Value.slice a7 R.halts.length c7] t ∧ BB w' h { b with need := n, flags := if d = true then b.flags + 2 else b.flags } ∧ Below h w w' := by
  have H0 := Lib.hid hp0
  have X0 := Lib.hid hb0
  have HLT := Lib.hid hlt
  have HR := Lib.hid hr
  have HF := Lib.hid hFt
  have HW := Lib.hid hW
  have HG := Lib.hid hg
  have HL := Lib.hid hL
  have B0 := Lib.hid (Below.refl h w)
  clear hp0 hb0 hlt hr hFt hW hg hL
  go_enter Tryz.func59, Tryz.ntmps59
  go_wp2_with fail
  refine (take_c ⟨#[117, 110, 108, 101, 115, 115, 32, 112, 97, 114, 116, 32]⟩ _ H0.out).mono ?_
  rintro r w1 ⟨q1, rfl, e1, h1, b1⟩
  have H1 := Lib.hid h1
  replace b1 := b1.low H0.out.lt
  have X1 := Lib.hid (X0.out.below b1 HLT.out)
  have B1 := Lib.hid (B0.out.trans (b1.mono (Nat.le_of_lt HLT.out)))
  clear h1 b1
  have E1 := Lib.hid e1
  clear e1
  cases q1 with
  | true =>
    have c1 := H1.out.cell
    have f1 := H1.out.free 8
    obtain ⟨m, hm⟩ := (HL.out _ B1.out).mx
    go_wp2_with fail
    clear c1
    refine (cut_x _ m _ H1.out.2.1 hm).mono ?_
    rintro r w2 ⟨u0, u, cc, rfl, hu, hz, n2, rfl⟩
    clear hm f1
    have HU := Lib.hid hu
    have H2 := Lib.hid (H1.out.next (below_drewN (Below.refl _ _) n2))
    have X2 := Lib.hid (X1.out.below (below_drewN (Below.refl w1.heap.size _) n2) X1.out.lt)
    have B2 := Lib.hid (below_drewN B1.out n2)
    have c2 := H2.out.cell
    have f2 := H2.out.free 8
    have H3 := Lib.hid (H2.out.set u hz)
    have X3 := Lib.hid (X2.out.other8 (g := g) u HLT.out)
    have B3 := Lib.hid (below_at B2.out HLT.out 8 (.string u))
    clear hu hz
    have y := X3.out.at (i := 11) rfl
    have f := X3.out.free 11
    have X4 := Lib.hid (X3.out.set 11 (.int .i64 (-1)) (b' := { b with need := -1 }) rfl)
    have H4 := Lib.hid (H3.out.other (h := h) (i := 11) (.int .i64 (-1)) (Nat.ne_of_lt HLT.out))
    have B4 := Lib.hid (below_set B3.out 11 (.int .i64 (-1)))
    go_wp2_with fail
    clear y f
    refine (take_c ⟨#[105, 110, 32, 110, 101, 101, 100, 32, 97, 115, 107, 32]⟩ _ H4.out).mono ?_
    rintro r w5 ⟨q5, rfl, e5, h5, b5⟩
    have H5 := Lib.hid h5
    replace b5 := b5.low H4.out.lt
    have X5 := Lib.hid (X4.out.below b5 HLT.out)
    have B5 := Lib.hid (B4.out.trans (b5.mono (Nat.le_of_lt HLT.out)))
    clear h5 b5
    have E5 := Lib.hid e5
    clear e5
    cases q5 with
    | true =>
      go_wp2_with fail
      refine (rdFirm_x _ H5.out HR.out HF.out (HW.out.trans (B5.out.mono HG.out)) (Nat.le_trans HG.out (Nat.le_of_lt HLT.out))).mono ?_
      rintro r w6 ⟨v6, t6, rfl, n6, h6, b6⟩
      have N6 := Lib.hid n6
      clear n6
      have H6 := Lib.hid h6
      have X6 := Lib.hid (X5.out.below b6 HLT.out)
      have B6 := Lib.hid (B5.out.trans (b6.mono (Nat.le_of_lt HLT.out)))
      clear h6 b6
      have y := X6.out.at (i := 11) rfl
      have f := X6.out.free 11
      have X7 := Lib.hid (X6.out.set 11 (.int .i64 v6) (b' := { b with need := v6 }) rfl)
      have H7 := Lib.hid (H6.out.other (h := h) (i := 11) (.int .i64 v6) (Nat.ne_of_lt HLT.out))
      have B7 := Lib.hid (below_set B6.out 11 (.int .i64 v6))
      go_wp2_with fail
      clear y f
      refine (take_c ⟨#[10]⟩ _ H7.out).mono ?_
      rintro r w8 ⟨q8, rfl, e8, h8, b8⟩
      have H8 := Lib.hid h8
      replace b8 := b8.low H7.out.lt
      have X8 := Lib.hid (X7.out.below b8 HLT.out)
      have B8 := Lib.hid (B7.out.trans (b8.mono (Nat.le_of_lt HLT.out)))
      clear h8 b8
      have E8 := Lib.hid e8
      clear e8
      go_wp2_with fail
      refine (take_c ⟨#[119, 105, 116, 104, 111, 117, 116, 32, 112, 114, 111, 116, 101, 115, 116, 10]⟩ _ H8.out).mono ?_
      rintro r w9 ⟨q9, rfl, e9, h9, b9⟩
      have H9 := Lib.hid h9
      replace b9 := b9.low H8.out.lt
      have X9 := Lib.hid (X8.out.below b9 HLT.out)
      have B9 := Lib.hid (B8.out.trans (b9.mono (Nat.le_of_lt HLT.out)))
      clear h9 b9
      have E9 := Lib.hid e9
      clear e9
      cases q9 with
      | true =>
        have z := X9.out.at (i := 13) rfl
        have y := X9.out.at (i := 13) rfl
        have f := X9.out.free 13
        have X10 := Lib.hid (X9.out.set 13 (.int .i64 (b.flags + 2)) (b' := { b with need := v6, flags := b.flags + 2 }) rfl)
        have H10 := Lib.hid (H9.out.other (h := h) (i := 13) (.int .i64 (b.flags + 2)) (Nat.ne_of_lt HLT.out))
        have B10 := Lib.hid (below_set B9.out 13 (.int .i64 (b.flags + 2)))
        go_wp2
        exact bodyPost_end (results_none Tryz.results59 _ _ _) rfl ⟨v6, true, _, rfl, clR_of (s1 := u.data.toList)  E1.out (HU.out.trans (ifp rfl)) E5.out (ift rfl ⟨N6.out, rfl⟩) E9.out rfl, H10.out, X10.out, B10.out⟩
      | false =>
        rw [mk_miss E9.out] at H9
        go_wp2
        exact bodyPost_end (results_none Tryz.results59 _ _ _) rfl ⟨v6, false, _, rfl, clR_of (s1 := u.data.toList)  E1.out (HU.out.trans (ifp rfl)) E5.out (ift rfl ⟨N6.out, rfl⟩) E9.out rfl, H9.out, X9.out, B9.out⟩
    | false =>
      rw [mk_miss E5.out] at H5
      go_wp2_with fail
      refine (take_c ⟨#[119, 105, 116, 104, 111, 117, 116, 32, 112, 114, 111, 116, 101, 115, 116, 10]⟩ _ H5.out).mono ?_
      rintro r w6 ⟨q6, rfl, e6, h6, b6⟩
      have H6 := Lib.hid h6
      replace b6 := b6.low H5.out.lt
      have X6 := Lib.hid (X5.out.below b6 HLT.out)
      have B6 := Lib.hid (B5.out.trans (b6.mono (Nat.le_of_lt HLT.out)))
      clear h6 b6
      have E6 := Lib.hid e6
      clear e6
      cases q6 with
      | true =>
        have z := X6.out.at (i := 13) rfl
        have y := X6.out.at (i := 13) rfl
        have f := X6.out.free 13
        have X7 := Lib.hid (X6.out.set 13 (.int .i64 (b.flags + 2)) (b' := { b with need := -1, flags := b.flags + 2 }) rfl)
        have H7 := Lib.hid (H6.out.other (h := h) (i := 13) (.int .i64 (b.flags + 2)) (Nat.ne_of_lt HLT.out))
        have B7 := Lib.hid (below_set B6.out 13 (.int .i64 (b.flags + 2)))
        go_wp2
        exact bodyPost_end (results_none Tryz.results59 _ _ _) rfl ⟨-1, true, _, rfl, clR_of (s1 := u.data.toList) (s2 := []) E1.out (HU.out.trans (ifp rfl)) E5.out (iff_ rfl ⟨rfl, rfl⟩) E6.out rfl, H7.out, X7.out, B7.out⟩
      | false =>
        rw [mk_miss E6.out] at H6
        go_wp2
        exact bodyPost_end (results_none Tryz.results59 _ _ _) rfl ⟨-1, false, _, rfl, clR_of (s1 := u.data.toList) (s2 := []) E1.out (HU.out.trans (ifp rfl)) E5.out (iff_ rfl ⟨rfl, rfl⟩) E6.out rfl, H6.out, X6.out, B6.out⟩
  | false =>
    rw [mk_miss E1.out] at H1
    have y := X1.out.at (i := 11) rfl
    have f := X1.out.free 11
    have X2 := Lib.hid (X1.out.set 11 (.int .i64 (-1)) (b' := { b with need := -1 }) rfl)
    have H2 := Lib.hid (H1.out.other (h := h) (i := 11) (.int .i64 (-1)) (Nat.ne_of_lt HLT.out))
    have B2 := Lib.hid (below_set B1.out 11 (.int .i64 (-1)))
    go_wp2_with fail
    clear y f
    refine (take_c ⟨#[105, 110, 32, 110, 101, 101, 100, 32, 97, 115, 107, 32]⟩ _ H2.out).mono ?_
    rintro r w3 ⟨q3, rfl, e3, h3, b3⟩
    have H3 := Lib.hid h3
    replace b3 := b3.low H2.out.lt
    have X3 := Lib.hid (X2.out.below b3 HLT.out)
    have B3 := Lib.hid (B2.out.trans (b3.mono (Nat.le_of_lt HLT.out)))
    clear h3 b3
    have E3 := Lib.hid e3
    clear e3
    cases q3 with
    | true =>
      go_wp2_with fail
      refine (rdFirm_x _ H3.out HR.out HF.out (HW.out.trans (B3.out.mono HG.out)) (Nat.le_trans HG.out (Nat.le_of_lt HLT.out))).mono ?_
      rintro r w4 ⟨v4, t4, rfl, n4, h4, b4⟩
      have N4 := Lib.hid n4
      clear n4
      have H4 := Lib.hid h4
      have X4 := Lib.hid (X3.out.below b4 HLT.out)
      have B4 := Lib.hid (B3.out.trans (b4.mono (Nat.le_of_lt HLT.out)))
      clear h4 b4
      have y := X4.out.at (i := 11) rfl
      have f := X4.out.free 11
      have X5 := Lib.hid (X4.out.set 11 (.int .i64 v4) (b' := { b with need := v4 }) rfl)
      have H5 := Lib.hid (H4.out.other (h := h) (i := 11) (.int .i64 v4) (Nat.ne_of_lt HLT.out))
      have B5 := Lib.hid (below_set B4.out 11 (.int .i64 v4))
      go_wp2_with fail
      clear y f
      refine (take_c ⟨#[10]⟩ _ H5.out).mono ?_
      rintro r w6 ⟨q6, rfl, e6, h6, b6⟩
      have H6 := Lib.hid h6
      replace b6 := b6.low H5.out.lt
      have X6 := Lib.hid (X5.out.below b6 HLT.out)
      have B6 := Lib.hid (B5.out.trans (b6.mono (Nat.le_of_lt HLT.out)))
      clear h6 b6
      have E6 := Lib.hid e6
      clear e6
      go_wp2_with fail
      refine (take_c ⟨#[119, 105, 116, 104, 111, 117, 116, 32, 112, 114, 111, 116, 101, 115, 116, 10]⟩ _ H6.out).mono ?_
      rintro r w7 ⟨q7, rfl, e7, h7, b7⟩
      have H7 := Lib.hid h7
      replace b7 := b7.low H6.out.lt
      have X7 := Lib.hid (X6.out.below b7 HLT.out)
      have B7 := Lib.hid (B6.out.trans (b7.mono (Nat.le_of_lt HLT.out)))
      clear h7 b7
      have E7 := Lib.hid e7
      clear e7
      cases q7 with
      | true =>
        have z := X7.out.at (i := 13) rfl
        have y := X7.out.at (i := 13) rfl
        have f := X7.out.free 13
        have X8 := Lib.hid (X7.out.set 13 (.int .i64 (b.flags + 2)) (b' := { b with need := v4, flags := b.flags + 2 }) rfl)
        have H8 := Lib.hid (H7.out.other (h := h) (i := 13) (.int .i64 (b.flags + 2)) (Nat.ne_of_lt HLT.out))
        have B8 := Lib.hid (below_set B7.out 13 (.int .i64 (b.flags + 2)))
        go_wp2
        exact bodyPost_end (results_none Tryz.results59 _ _ _) rfl ⟨v4, true, _, rfl, clR_of (s1 := s.data.toList)  E1.out (ifn rfl) E3.out (ift rfl ⟨N4.out, rfl⟩) E7.out rfl, H8.out, X8.out, B8.out⟩
      | false =>
        rw [mk_miss E7.out] at H7
        go_wp2
        exact bodyPost_end (results_none Tryz.results59 _ _ _) rfl ⟨v4, false, _, rfl, clR_of (s1 := s.data.toList)  E1.out (ifn rfl) E3.out (ift rfl ⟨N4.out, rfl⟩) E7.out rfl, H7.out, X7.out, B7.out⟩
    | false =>
      rw [mk_miss E3.out] at H3
      go_wp2_with fail
      refine (take_c ⟨#[119, 105, 116, 104, 111, 117, 116, 32, 112, 114, 111, 116, 101, 115, 116, 10]⟩ _ H3.out).mono ?_
      rintro r w4 ⟨q4, rfl, e4, h4, b4⟩
      have H4 := Lib.hid h4
      replace b4 := b4.low H3.out.lt
      have X4 := Lib.hid (X3.out.below b4 HLT.out)
      have B4 := Lib.hid (B3.out.trans (b4.mono (Nat.le_of_lt HLT.out)))
      clear h4 b4
      have E4 := Lib.hid e4
      clear e4
      cases q4 with
      | true =>
        have z := X4.out.at (i := 13) rfl
        have y := X4.out.at (i := 13) rfl
        have f := X4.out.free 13
        have X5 := Lib.hid (X4.out.set 13 (.int .i64 (b.flags + 2)) (b' := { b with need := -1, flags := b.flags + 2 }) rfl)
        have H5 := Lib.hid (H4.out.other (h := h) (i := 13) (.int .i64 (b.flags + 2)) (Nat.ne_of_lt HLT.out))
        have B5 := Lib.hid (below_set B4.out 13 (.int .i64 (b.flags + 2)))
        go_wp2
        exact bodyPost_end (results_none Tryz.results59 _ _ _) rfl ⟨-1, true, _, rfl, clR_of (s1 := s.data.toList) (s2 := []) E1.out (ifn rfl) E3.out (iff_ rfl ⟨rfl, rfl⟩) E4.out rfl, H5.out, X5.out, B5.out⟩
      | false =>
        rw [mk_miss E4.out] at H4
        go_wp2
        exact bodyPost_end (results_none Tryz.results59 _ _ _) rfl ⟨-1, false, _, rfl, clR_of (s1 := s.data.toList) (s2 := []) E1.out (ifn rfl) E3.out (iff_ rfl ⟨rfl, rfl⟩) E4.out rfl, H4.out, X4.out, B4.out⟩


theorem index_x {a : Option Addr} {c : Nat} {l : List B} (x : B) (w : World) (h : SAt w (.slice a l.length c) l) (hl : Sz l.length) :
    Calls Tryz.prog 90 #[.slice a l.length c, .string x] w fun r w' => r = .returned (.int .i64 (findV l x)) ∧ w' = w := by
  cases l with
  | nil =>
    refine (Tryz.slices_Index_string_empty a c x w).mono ?_
    rintro r w' ⟨rfl, rfl⟩
    rw [← idx_find]
    exact ⟨rfl, rfl⟩
  | cons y t =>
    obtain ⟨b, off, ea, hlt, hc⟩ := h.at (j := 0) (x := y) rfl
    subst ea
    refine (Tryz.slices_Index_string b off (y :: t).length c (y :: t) x w (Nat.le_refl _) hl (fun j hj => ?_)).mono ?_
    · obtain ⟨b2, off2, ea, hlt2, hc2⟩ := h.at (j := j) (List.getElem?_eq_getElem hj)
      simp only [Option.some.injEq, Addr.mk.injEq] at ea
      obtain ⟨rfl, rfl, -⟩ := ea
      have := hc2 0 _ rfl
      rw [Nat.mul_one, Nat.add_zero] at this
      rw [this, List.getD_eq_getElem?_getD, List.getElem?_eq_getElem hj]
      rfl
    · rintro r w' ⟨rfl, rfl⟩
      rw [idx_find]
      exact ⟨rfl, rfl⟩


set_option maxHeartbeats 3200000 in
set_option maxRecDepth 100000 in
theorem sum_x {a0 a1 a2 a3 a4 a5 a6 a7 : Option Addr} {c0 c1 c2 c3 c4 c5 c6 c7 : Nat} {R : Rlm} {W : World} {g h : Nat} {s : B} {b : Bl} (w : World) (hp0 : PB w g [Value.slice a0 R.cur.length c0, Value.slice a1 R.cities.length c1, Value.slice a2 R.groups.length c2, Value.slice a3 R.firms.length c3, Value.slice a4 R.orders.length c4, Value.slice a5 R.usances.length c5, Value.slice a6 R.rates.length c6, Value.slice a7 R.halts.length c7] s) (hb0 : BB w h b) (hlt : h < g) (hr : RS W a0 a1 a2 a3 a4 a5 a6 a7 c0 c1 c2 c3 c4 c5 c6 c7 R) (hFt : Fit R) (hW : Below W.heap.size W w) (hg : W.heap.size ≤ h) (hL : ∀ w', Below h w w' → Ev w') (hz : b.rate = 0) :
    Calls Tryz.prog 57 #[.pointer (some ⟨g, 0, none⟩), .pointer (some ⟨h, 0, none⟩)] w fun r w' => ∃ (v c i : Int) (t : B), r = .returned (.tuple #[]) ∧ SumR R s.data.toList v c i t.data.toList ∧ PB w' g [Value.slice a0 R.cur.length c0, Value.slice a1 R.cities.length c1, Value.slice a2 R.groups.length c2, Value.slice a3 R.firms.length c3, Value.slice a4 R.orders.length c4, Value.slice a5 R.usances.length c5, Value.slice a6 R.rates.length c6, Value.slice a7 R.halts.length c7] t ∧ BB w' h { b with sum := v, cur := c, rate := i } ∧ Below h w w' := by
  have H0 := Lib.hid hp0
  have X0 := Lib.hid hb0
  have HLT := Lib.hid hlt
  have HR := Lib.hid hr
  have HF := Lib.hid hFt
  have HW := Lib.hid hW
  have HG := Lib.hid hg
  have HL := Lib.hid hL
  have B0 := Lib.hid (Below.refl h w)
  clear hp0 hb0 hlt hr hFt hW hg hL
  go_enter Tryz.func57, Tryz.ntmps57
  go_wp2_with fail
  refine (number_x _ H0.out (HL.out _ B0.out)).mono ?_
  rintro r w1 ⟨v1, t1, rfl, p1, o1, n1, h1, b1⟩
  have N1 := Lib.hid n1
  clear n1
  have H1 := Lib.hid h1
  replace b1 := b1.low H0.out.lt
  have X1 := Lib.hid (X0.out.below b1 HLT.out)
  have B1 := Lib.hid (B0.out.trans (b1.mono (Nat.le_of_lt HLT.out)))
  clear h1 b1
  have y := X1.out.at (i := 3) rfl
  have f := X1.out.free 3
  have X2 := Lib.hid (X1.out.set 3 (.int .i64 v1) (b' := { b with sum := v1 }) rfl)
  have H2 := Lib.hid (H1.out.other (h := h) (i := 3) (.int .i64 v1) (Nat.ne_of_lt HLT.out))
  have B2 := Lib.hid (below_set B1.out 3 (.int .i64 v1))
  go_wp2_with fail
  clear y f
  refine (take_c ⟨#[32]⟩ _ H2.out).mono ?_
  rintro r w3 ⟨q3, rfl, e3, h3, b3⟩
  have H3 := Lib.hid h3
  replace b3 := b3.low H2.out.lt
  have X3 := Lib.hid (X2.out.below b3 HLT.out)
  have B3 := Lib.hid (B2.out.trans (b3.mono (Nat.le_of_lt HLT.out)))
  clear h3 b3
  have E3 := Lib.hid e3
  clear e3
  go_wp2_with fail
  refine wp_region_held_drew (S := fun wz => wz.cell? ⟨g, 0, none⟩ = some (.slice a0 R.cur.length c0)) (by kernel_rfl) ?_ (fun hHeld => ?_)
  · exact H3.out.at (i := 0) rfl
  refine takeN0 (v := ?_) (by kernel_rfl) (by kernel_rfl) (by kernel_rfl) (fun _ _ _ h => h) (by rfl) ?_ (by assumption) ?_
  rotate_left
  · intro wz hSw
    try dsimp only at hSw
    go_simp
    try with_reducible rfl
  try simp only [Act.put, List.setIfInBounds_toArray, List.set_cons_zero, List.set_cons_succ]
  refine takeN1 (v := ?_) (by kernel_rfl) (by kernel_rfl) (by kernel_rfl) (fun _ _ _ h => h) (by rfl) ?_ (by assumption) ?_
  rotate_left
  · intro wz hSw
    try dsimp only at hSw
    go_simp
    try with_reducible rfl
  try simp only [Act.put, List.setIfInBounds_toArray, List.set_cons_zero, List.set_cons_succ]
  refine takeN2 (v := ?_) (by kernel_rfl) (by kernel_rfl) (by kernel_rfl) (fun _ _ _ h => h) (by rfl) ?_ (by assumption) ?_
  rotate_left
  · intro wz hSw
    try dsimp only at hSw
    go_simp
    try with_reducible rfl
  try simp only [Act.put, List.setIfInBounds_toArray, List.set_cons_zero, List.set_cons_succ]
  refine takeN3 (v := ?_) (by kernel_rfl) (by kernel_rfl) (by kernel_rfl) (fun _ _ _ h => h) (by rfl) ?_ (by assumption) ?_
  rotate_left
  · intro wz hSw
    try dsimp only at hSw
    go_simp
    try with_reducible rfl
  try simp only [Act.put, List.setIfInBounds_toArray, List.set_cons_zero, List.set_cons_succ]
  refine takeN4 (v := ?_) (by kernel_rfl) (by kernel_rfl) (by kernel_rfl) (fun _ _ _ h => h) (by rfl) ?_ (by assumption) ?_
  rotate_left
  · intro wz hSw
    try dsimp only at hSw
    go_simp
    try with_reducible rfl
  try simp only [Act.put, List.setIfInBounds_toArray, List.set_cons_zero, List.set_cons_succ]
  refine takeN5 (v := ?_) (by kernel_rfl) (by kernel_rfl) (by kernel_rfl) (fun _ _ _ h => h) (by rfl) ?_ (by assumption) ?_
  rotate_left
  · intro wz hSw
    try dsimp only at hSw
    go_simp
    try with_reducible rfl
  try simp only [Act.put, List.setIfInBounds_toArray, List.set_cons_zero, List.set_cons_succ]
  refine takeN6 (v := ?_) (by kernel_rfl) (by kernel_rfl) (by kernel_rfl) (fun _ _ _ h => h) (by rfl) ?_ (by assumption) ?_
  rotate_left
  · intro wz hSw
    try dsimp only at hSw
    go_simp
    try with_reducible rfl
  try simp only [Act.put, List.setIfInBounds_toArray, List.set_cons_zero, List.set_cons_succ]
  refine comeN7 (by kernel_rfl) (by rfl) (fun K hK => ?_)
  go_simp
  (go_at_call 88; refine (name_x w3.drew ((H3.out : PB w3.drew g _ _))).mono ?_; rintro r w4 ⟨n, t4, rfl, hn, h4, b4⟩)
  try go_wp2_with fail
  have H4 := Lib.hid h4
  have HN := Lib.hid hn
  have X4 := Lib.hid (X3.out.below ((Below.drew (Below.refl g w3)).trans b4) HLT.out)
  have B4 := Lib.hid (B3.out.trans (((Below.drew (Below.refl g w3)).trans b4).mono (Nat.le_of_lt HLT.out)))
  clear h4 hn b4
  refine hK.out _ _ ?_ (fun hHeld => ?_)
  · exact H4.out.at (i := 0) rfl
  clear hK K
  try simp only [Act.put, List.setIfInBounds_toArray, List.set_cons_zero, List.set_cons_succ]
  refine comeN8 (by kernel_rfl) (by rfl) (fun K hK => ?_)
  go_simp
  (go_at_call 90; refine (index_x n w4 (HR.out.next (HW.out.trans (B4.out.mono HG.out))).cur HF.out.cur).mono ?_; rintro r w5 ⟨rfl, rfl⟩)
  try go_wp2_with fail
  refine hK.out _ _ ?_ (fun hHeld => ?_)
  · exact H4.out.at (i := 0) rfl
  clear hK K
  try simp only [Act.put, List.setIfInBounds_toArray, List.set_cons_zero, List.set_cons_succ]
  refine takeN9 (v := ?_) (by kernel_rfl) (by kernel_rfl) (by kernel_rfl) (fun _ _ _ h => h) (by rfl) ?_ (by assumption) ?_
  rotate_left
  · intro wz hSw
    try dsimp only at hSw
    go_simp
    try with_reducible rfl
  try simp only [Act.put, List.setIfInBounds_toArray, List.set_cons_zero, List.set_cons_succ]
  refine takeN10 (v := ?_) (by kernel_rfl) (by kernel_rfl) (by kernel_rfl) (fun _ _ _ h => h) (by rfl) ?_ (by assumption) ?_
  rotate_left
  · intro wz hSw
    try dsimp only at hSw
    go_simp
    try with_reducible rfl
  try simp only [Act.put, List.setIfInBounds_toArray, List.set_cons_zero, List.set_cons_succ]
  have y := X4.out.at (i := 4) rfl
  have f := X4.out.free 4
  have X5 := Lib.hid (X4.out.set 4 (.int .i64 (findV R.cur n)) (b' := { b with sum := v1, cur := findV R.cur n }) rfl)
  have H5 := Lib.hid (H4.out.other (h := h) (i := 4) (.int .i64 (findV R.cur n)) (Nat.ne_of_lt HLT.out))
  have B5 := Lib.hid (below_set B4.out 4 (.int .i64 (findV R.cur n)))
  refine comeN11 (by kernel_rfl) (by rfl) (fun K hK => ?_)
  go_simp
  refine hK.out _ _ ?_ (fun hHeld => ?_)
  · exact H5.out.at (i := 0) rfl
  clear hK K
  try simp only [Act.put, List.setIfInBounds_toArray, List.set_cons_zero, List.set_cons_succ]
  refine wpAnyH_done (by kernel_rfl) ?_ _
  clear hHeld y f
  go_wp2_with fail
  refine (take_c ⟨#[32, 119, 105, 116, 104, 32, 105, 110, 116, 101, 114, 101, 115, 116, 32, 97, 116, 32]⟩ _ H5.out).mono ?_
  rintro r w6 ⟨q6, rfl, e6, h6, b6⟩
  have H6 := Lib.hid h6
  replace b6 := b6.low H5.out.lt
  have X6 := Lib.hid (X5.out.below b6 HLT.out)
  have B6 := Lib.hid (B5.out.trans (b6.mono (Nat.le_of_lt HLT.out)))
  clear h6 b6
  have E6 := Lib.hid e6
  clear e6
  cases q6 with
  | true =>
    go_wp2_with fail
    refine (number_x _ H6.out (HL.out _ B6.out)).mono ?_
    rintro r w7 ⟨v7, t7, rfl, p7, o7, n7, h7, b7⟩
    have N7 := Lib.hid n7
    clear n7
    have H7 := Lib.hid h7
    replace b7 := b7.low H6.out.lt
    have X7 := Lib.hid (X6.out.below b7 HLT.out)
    have B7 := Lib.hid (B6.out.trans (b7.mono (Nat.le_of_lt HLT.out)))
    clear h7 b7
    have y := X7.out.at (i := 12) rfl
    have f := X7.out.free 12
    have X8 := Lib.hid (X7.out.set 12 (.int .i64 v7) (b' := { b with sum := v1, cur := findV R.cur n, rate := v7 }) rfl)
    have H8 := Lib.hid (H7.out.other (h := h) (i := 12) (.int .i64 v7) (Nat.ne_of_lt HLT.out))
    have B8 := Lib.hid (below_set B7.out 12 (.int .i64 v7))
    go_wp2_with fail
    clear y f
    refine (take_c ⟨#[32, 112, 101, 114, 32, 109, 105, 108, 108, 101]⟩ _ H8.out).mono ?_
    rintro r w9 ⟨q9, rfl, e9, h9, b9⟩
    have H9 := Lib.hid h9
    replace b9 := b9.low H8.out.lt
    have X9 := Lib.hid (X8.out.below b9 HLT.out)
    have B9 := Lib.hid (B8.out.trans (b9.mono (Nat.le_of_lt HLT.out)))
    clear h9 b9
    have E9 := Lib.hid e9
    clear e9
    go_wp2_with fail
    refine (take_c ⟨#[10]⟩ _ H9.out).mono ?_
    rintro r w10 ⟨q10, rfl, e10, h10, b10⟩
    have H10 := Lib.hid h10
    replace b10 := b10.low H9.out.lt
    have X10 := Lib.hid (X9.out.below b10 HLT.out)
    have B10 := Lib.hid (B9.out.trans (b10.mono (Nat.le_of_lt HLT.out)))
    clear h10 b10
    have E10 := Lib.hid e10
    clear e10
    go_wp2
    first
      | exact bodyPost_end (results_none Tryz.results57 _ _ _) rfl ⟨_, _, v7, _, rfl, sumR_of N1.out (NameR.cur HN.out) (by rw [← E6.out]; exact ⟨N7.out, rfl⟩), H10.out, X10.out, B10.out⟩
      | exact bodyPost_ret (v := .tuple #[]) (results_none Tryz.results57 _ _ _) rfl ⟨_, _, v7, _, rfl, sumR_of N1.out (NameR.cur HN.out) (by rw [← E6.out]; exact ⟨N7.out, rfl⟩), H10.out, X10.out, B10.out⟩
  | false =>
    rw [mk_miss E6.out] at H6
    have X6' : Hid (BB w6 h { b with sum := v1, cur := findV R.cur n, rate := 0 }) := by have := X6.out; rw [hz] at this; exact this
    go_wp2_with fail
    refine (take_c ⟨#[10]⟩ _ H6.out).mono ?_
    rintro r w7 ⟨q7, rfl, e7, h7, b7⟩
    have H7 := Lib.hid h7
    replace b7 := b7.low H6.out.lt
    have X7 := Lib.hid (X6'.out.below b7 HLT.out)
    have B7 := Lib.hid (B6.out.trans (b7.mono (Nat.le_of_lt HLT.out)))
    clear h7 b7
    have E7 := Lib.hid e7
    clear e7
    go_wp2
    first
      | exact bodyPost_end (results_none Tryz.results57 _ _ _) rfl ⟨_, _, 0, _, rfl, sumR_of (t3 := []) N1.out (NameR.cur HN.out) (by rw [← E6.out]; exact ⟨rfl, rfl⟩), H7.out, X7.out, B7.out⟩
      | exact bodyPost_ret (v := .tuple #[]) (results_none Tryz.results57 _ _ _) rfl ⟨_, _, 0, _, rfl, sumR_of (t3 := []) N1.out (NameR.cur HN.out) (by rw [← E6.out]; exact ⟨rfl, rfl⟩), H7.out, X7.out, B7.out⟩

end Go.Proofs.YtcjakgpmompaiaaGreatDoor
