/-
  The program's reader: the tenor.
-/
import Derived.Test.YtcjakgpmompaiaaGreatDoorRdD
namespace Go.Proofs.YtcjakgpmompaiaaGreatDoor
open Go.RowKit Rl Wd

theorem CBx.onl {w w' : World} {h g : Nat} {b : List Value} (e : CBx w h b) (hb : Onl g w w') (hn : h ≠ g) : CBx w' h b := by
  have hl := e.lt
  unfold CBx at e ⊢
  rw [hb.block _ hl hn]
  exact e
theorem CBx.other {w : World} {h g i : Nat} {b : List Value} (e : CBx w h b) (v : Value) (hg : g ≠ h) : CBx (w.setCell ⟨g, i, none⟩ v) h b := by
  unfold CBx at e ⊢
  rw [Below.heap_setCell _ _ _ _ (by simpa using Ne.symm hg)]
  exact e
theorem Onl.at {g z : Nat} {w w' : World} (e : Onl g w w') (h : w.heap.size ≤ z) (i : Nat) (v : Value) : Onl g w (w'.setCell ⟨z, i, none⟩ v) :=
  ⟨e.os, e.tape, e.output, by simpa [World.setCell] using e.size, fun j hj hg => by rw [Below.heap_setCell _ _ _ _ (by show j ≠ z; omega)]; exact e.block j hj hg⟩
theorem ifp {T : Type} {c : Bool} (h : true = c) {a b : T} : a = if c = true then a else b := by subst h; rfl
theorem ifn {T : Type} {c : Bool} (h : false = c) {a b : T} : b = if c = true then a else b := by subst h; rfl
theorem below_at {g z : Nat} {w w' : World} (e : Below g w w') (h : g < z) (i : Nat) (v : Value) : Below g w (w'.setCell ⟨z, i, none⟩ v) := e.setCell (p := ⟨z, i, none⟩) (Nat.le_of_lt h) _

set_option maxHeartbeats 3200000 in
set_option maxRecDepth 100000 in
theorem term_x {V : List Value} {g : Nat} {s : B} (w : World) (hp0 : PB w g V s) (hL : ∀ w', Below g w w' → Ev w') :
    Calls Tryz.prog 55 #[.pointer (some ⟨g, 0, none⟩)] w fun r w' => ∃ (k n u : Int) (t : B), r = .returned (.agg #[.int .i64 k, .int .i64 n, .int .i64 u]) ∧ TermR s.data.toList k n u t.data.toList ∧ PB w' g V t ∧ Below g w w' := by
  have H := Lib.hid hp0
  have HL := Lib.hid hL
  have HG := Lib.hid hp0.lt
  have NZ : Hid (w.heap.size ≠ g) := Nat.ne_of_gt hp0.lt
  clear hp0 hL
  go_enter Tryz.func55, Tryz.ntmps55
  go_wp2_with fail
  have H0 := Lib.hid (H.out.next (Below.new1 (.cells #[.int .i64 0, .int .i64 0, .int .i64 0] 33)))
  have C0 := Lib.hid (CBx.new w [.int .i64 0, .int .i64 0, .int .i64 0])
  have O0 := Lib.hid (Onl.of (g := g) (Below.new1 (w := w) (.cells #[.int .i64 0, .int .i64 0, .int .i64 0] 33)))
  go_wp2_with fail
  refine (take_c ⟨#[97, 116, 32, 115, 105, 103, 104, 116]⟩ _ H0.out).mono ?_
  rintro r w1 ⟨q1, rfl, e1, h1, b1⟩
  have H1 := Lib.hid h1
  have O1 := Lib.hid (O0.out.trans b1)
  have C1 := Lib.hid (C0.out.onl b1 NZ.out)
  clear h1 b1
  have E1 := Lib.hid e1
  clear e1
  cases q1 with
  | true =>
    have y0 := C1.out.at (i := 0) rfl
    have f0 := C1.out.free 0
    have y1 := C1.out.at (i := 1) rfl
    have f1 := C1.out.free 1
    have y2 := C1.out.at (i := 2) rfl
    have f2 := C1.out.free 2
    go_wp2
    have CF := ((C1.out.set 0 (.int .i64 0)).set 1 (.int .i64 0)).set 2 (.int .i64 0)
    have HF := ((H1.out.other (h := w.heap.size) (i := 0) (.int .i64 0) (Nat.ne_of_gt HG.out)).other (h := w.heap.size) (i := 1) (.int .i64 0) (Nat.ne_of_gt HG.out)).other (h := w.heap.size) (i := 2) (.int .i64 0) (Nat.ne_of_gt HG.out)
    have BF := below_at (below_at (below_at (O1.out.low HG.out) HG.out 0 (.int .i64 0)) HG.out 1 (.int .i64 0)) HG.out 2 (.int .i64 0)
    have r0 := CF.at (i := 0) rfl
    have r1 := CF.at (i := 1) rfl
    have r2 := CF.at (i := 2) rfl
    exact bodyPost_ret (v := .agg #[.int .i64 0, .int .i64 0, .int .i64 0]) (by simp [results, Tryz.results55, go_sem, r0, r1, r2]) rfl ⟨_, _, _, _, rfl, termR_sight E1.out.symm, HF, BF⟩
  | false =>
    rw [mk_miss E1.out] at H1
    go_wp2_with fail
    refine (take_c ⟨#[97, 116, 32, 117, 115, 97, 110, 99, 101]⟩ _ H1.out).mono ?_
    rintro r w2 ⟨q2, rfl, e2, h2, b2⟩
    have H2 := Lib.hid h2
    have O2 := Lib.hid (O1.out.trans b2)
    have C2 := Lib.hid (C1.out.onl b2 NZ.out)
    clear h2 b2
    have E2 := Lib.hid e2
    clear e2
    cases q2 with
    | true =>
      have y0 := C2.out.at (i := 0) rfl
      have f0 := C2.out.free 0
      have y1 := C2.out.at (i := 1) rfl
      have f1 := C2.out.free 1
      have y2 := C2.out.at (i := 2) rfl
      have f2 := C2.out.free 2
      go_wp2
      have CF := ((C2.out.set 0 (.int .i64 4)).set 1 (.int .i64 0)).set 2 (.int .i64 0)
      have HF := ((H2.out.other (h := w.heap.size) (i := 0) (.int .i64 4) (Nat.ne_of_gt HG.out)).other (h := w.heap.size) (i := 1) (.int .i64 0) (Nat.ne_of_gt HG.out)).other (h := w.heap.size) (i := 2) (.int .i64 0) (Nat.ne_of_gt HG.out)
      have BF := below_at (below_at (below_at (O2.out.low HG.out) HG.out 0 (.int .i64 4)) HG.out 1 (.int .i64 0)) HG.out 2 (.int .i64 0)
      have r0 := CF.at (i := 0) rfl
      have r1 := CF.at (i := 1) rfl
      have r2 := CF.at (i := 2) rfl
      exact bodyPost_ret (v := .agg #[.int .i64 4, .int .i64 0, .int .i64 0]) (by simp [results, Tryz.results55, go_sem, r0, r1, r2]) rfl ⟨_, _, _, _, rfl, termR_usance E2.out.symm, HF, BF⟩
    | false =>
      rw [mk_miss E2.out] at H2
      go_wp2_with fail
      refine (take_c ⟨#[111, 110, 32]⟩ _ H2.out).mono ?_
      rintro r w3 ⟨q3, rfl, e3, h3, b3⟩
      have H3 := Lib.hid h3
      have O3 := Lib.hid (O2.out.trans b3)
      have C3 := Lib.hid (C2.out.onl b3 NZ.out)
      clear h3 b3
      have E3 := Lib.hid e3
      clear e3
      cases q3 with
      | true =>
        go_wp2_with fail
        refine (rdDate_x w3 H3.out (HL.out _ (O3.out.low HG.out)) (fun w' ho => HL.out _ ((O3.out.trans ho).low HG.out))).mono ?_
        rintro r w4 ⟨v, t4, rfl, n4, h4, b4⟩
        have N4 := Lib.hid n4
        clear n4
        have H4 := Lib.hid h4
        have O4 := Lib.hid (O3.out.trans b4)
        have C4 := Lib.hid (C3.out.onl b4 NZ.out)
        clear h4 b4
        have y0 := C4.out.at (i := 0) rfl
        have f0 := C4.out.free 0
        have y1 := C4.out.at (i := 1) rfl
        have f1 := C4.out.free 1
        have y2 := C4.out.at (i := 2) rfl
        have f2 := C4.out.free 2
        go_wp2
        have CF := ((C4.out.set 0 (.int .i64 3)).set 1 (.int .i64 v)).set 2 (.int .i64 0)
        have HF := ((H4.out.other (h := w.heap.size) (i := 0) (.int .i64 3) (Nat.ne_of_gt HG.out)).other (h := w.heap.size) (i := 1) (.int .i64 v) (Nat.ne_of_gt HG.out)).other (h := w.heap.size) (i := 2) (.int .i64 0) (Nat.ne_of_gt HG.out)
        have BF := below_at (below_at (below_at (O4.out.low HG.out) HG.out 0 (.int .i64 3)) HG.out 1 (.int .i64 v)) HG.out 2 (.int .i64 0)
        have r0 := CF.at (i := 0) rfl
        have r1 := CF.at (i := 1) rfl
        have r2 := CF.at (i := 2) rfl
        exact bodyPost_ret (v := .agg #[.int .i64 3, .int .i64 v, .int .i64 0]) (by simp [results, Tryz.results55, go_sem, r0, r1, r2]) rfl ⟨_, _, _, t4, rfl, termR_fixed E3.out.symm N4.out, HF, BF⟩
      | false =>
        rw [mk_miss E3.out] at H3
        go_wp2_with fail
        refine (number_x w3 H3.out (HL.out _ (O3.out.low HG.out))).mono ?_
        rintro r w4 ⟨v, t4, rfl, p4, o4, n4, h4, b4⟩
        have N4 := Lib.hid n4
        clear n4
        have H4 := Lib.hid h4
        have O4 := Lib.hid (O3.out.trans b4)
        have C4 := Lib.hid (C3.out.onl b4 NZ.out)
        clear h4 b4
        have H5 := Lib.hid (H4.out.next (Below.new1 (.cells #[.int .i64 1, .int .i64 v, .int .i64 1] 33)))
        have C5 := Lib.hid (C4.out.onl (Onl.of (g := g) (Below.new1 (.cells #[.int .i64 1, .int .i64 v, .int .i64 1] 33))) NZ.out)
        have D5 := Lib.hid (CBx.new w4 [.int .i64 1, .int .i64 v, .int .i64 1])
        have O5 := Lib.hid (O4.out.trans (Onl.of (g := g) (Below.new1 (.cells #[.int .i64 1, .int .i64 v, .int .i64 1] 33))))
        have DZ : Hid (w4.heap.size ≠ g) := Nat.ne_of_gt H4.out.lt
        have DG : Hid (g < w4.heap.size) := H4.out.lt
        have DS : Hid (w.heap.size ≤ w4.heap.size) := Nat.le_of_lt C4.out.lt
        have DC : Hid (w4.heap.size ≠ w.heap.size) := Nat.ne_of_gt C4.out.lt
        go_wp2_with fail
        refine (take_c ⟨#[32, 100, 97, 121, 115]⟩ _ H5.out).mono ?_
        rintro r w6 ⟨q6, rfl, e6, h6, b6⟩
        have H6 := Lib.hid h6
        have O6 := Lib.hid (O5.out.trans b6)
        have C6 := Lib.hid (C5.out.onl b6 NZ.out)
        have D6 := Lib.hid (D5.out.onl b6 DZ.out)
        clear h6 b6
        have E6 := Lib.hid e6
        clear e6
        cases q6 with
        | true =>
          have y := D6.out.at (i := 2) rfl
          have f := D6.out.free 2
          have D7 := Lib.hid (D6.out.set 2 (.int .i64 0))
          have H7 := Lib.hid (H6.out.other (h := w4.heap.size) (i := 2) (.int .i64 0) (DZ.out))
          have C7 := Lib.hid (C6.out.other (i := 2) (.int .i64 0) DC.out)
          have O7 := Lib.hid (O6.out.at DS.out 2 (.int .i64 0))
          go_wp2_with fail
          clear y f
          refine (take_c ⟨#[32, 97, 102, 116, 101, 114, 32, 115, 105, 103, 104, 116]⟩ _ H7.out).mono ?_
          rintro r w8 ⟨q8, rfl, e8, h8, b8⟩
          have H8 := Lib.hid h8
          have O8 := Lib.hid (O7.out.trans b8)
          have C8 := Lib.hid (C7.out.onl b8 NZ.out)
          have D8 := Lib.hid (D7.out.onl b8 DZ.out)
          clear h8 b8
          have E8 := Lib.hid e8
          clear e8
          cases q8 with
          | true =>
            have y0 := C8.out.at (i := 0) rfl
            have f0 := C8.out.free 0
            have y1 := C8.out.at (i := 1) rfl
            have f1 := C8.out.free 1
            have y2 := C8.out.at (i := 2) rfl
            have f2 := C8.out.free 2
            have x0 := D8.out.at (i := 0) rfl
            have x1 := D8.out.at (i := 1) rfl
            have x2 := D8.out.at (i := 2) rfl
            go_wp2
            have CF := ((C8.out.set 0 (.int .i64 1)).set 1 (.int .i64 v)).set 2 (.int .i64 0)
            have HF := ((H8.out.other (h := w.heap.size) (i := 0) (.int .i64 1) (Nat.ne_of_gt HG.out)).other (h := w.heap.size) (i := 1) (.int .i64 v) (Nat.ne_of_gt HG.out)).other (h := w.heap.size) (i := 2) (.int .i64 0) (Nat.ne_of_gt HG.out)
            have BF := below_at (below_at (below_at (O8.out.low HG.out) HG.out 0 (.int .i64 1)) HG.out 1 (.int .i64 v)) HG.out 2 (.int .i64 0)
            have r0 := CF.at (i := 0) rfl
            have r1 := CF.at (i := 1) rfl
            have r2 := CF.at (i := 2) rfl
            exact bodyPost_ret (v := .agg #[.int .i64 1, .int .i64 v, .int .i64 0]) (by simp [results, Tryz.results55, go_sem, r0, r1, r2]) rfl ⟨_, _, _, _, rfl, termR_after E1.out.symm E2.out.symm E3.out.symm N4.out (ifp E6.out) (ifp E6.out) (ifp E8.out) (ifp E8.out), HF, BF⟩
          | false =>
            rw [mk_miss E8.out] at H8
            have y := D8.out.at (i := 0) rfl
            have f := D8.out.free 0
            have D9 := Lib.hid (D8.out.set 0 (.int .i64 2))
            have H9 := Lib.hid (H8.out.other (h := w4.heap.size) (i := 0) (.int .i64 2) (DZ.out))
            have C9 := Lib.hid (C8.out.other (i := 0) (.int .i64 2) DC.out)
            have O9 := Lib.hid (O8.out.at DS.out 0 (.int .i64 2))
            go_wp2_with fail
            clear y f
            refine (take_c ⟨#[32, 97, 102, 116, 101, 114, 32, 100, 97, 116, 101]⟩ _ H9.out).mono ?_
            rintro r w10 ⟨q10, rfl, e10, h10, b10⟩
            have H10 := Lib.hid h10
            have O10 := Lib.hid (O9.out.trans b10)
            have C10 := Lib.hid (C9.out.onl b10 NZ.out)
            have D10 := Lib.hid (D9.out.onl b10 DZ.out)
            clear h10 b10
            have E10 := Lib.hid e10
            clear e10
            have y0 := C10.out.at (i := 0) rfl
            have f0 := C10.out.free 0
            have y1 := C10.out.at (i := 1) rfl
            have f1 := C10.out.free 1
            have y2 := C10.out.at (i := 2) rfl
            have f2 := C10.out.free 2
            have x0 := D10.out.at (i := 0) rfl
            have x1 := D10.out.at (i := 1) rfl
            have x2 := D10.out.at (i := 2) rfl
            go_wp2
            have CF := ((C10.out.set 0 (.int .i64 2)).set 1 (.int .i64 v)).set 2 (.int .i64 0)
            have HF := ((H10.out.other (h := w.heap.size) (i := 0) (.int .i64 2) (Nat.ne_of_gt HG.out)).other (h := w.heap.size) (i := 1) (.int .i64 v) (Nat.ne_of_gt HG.out)).other (h := w.heap.size) (i := 2) (.int .i64 0) (Nat.ne_of_gt HG.out)
            have BF := below_at (below_at (below_at (O10.out.low HG.out) HG.out 0 (.int .i64 2)) HG.out 1 (.int .i64 v)) HG.out 2 (.int .i64 0)
            have r0 := CF.at (i := 0) rfl
            have r1 := CF.at (i := 1) rfl
            have r2 := CF.at (i := 2) rfl
            exact bodyPost_ret (v := .agg #[.int .i64 2, .int .i64 v, .int .i64 0]) (by simp [results, Tryz.results55, go_sem, r0, r1, r2]) rfl ⟨_, _, _, _, rfl, termR_after E1.out.symm E2.out.symm E3.out.symm N4.out (ifp E6.out) (ifp E6.out) (ifn E8.out) (ifn E8.out), HF, BF⟩
        | false =>
          rw [mk_miss E6.out] at H6
          go_wp2_with fail
          refine (take_c ⟨#[32, 109, 111, 110, 116, 104, 115]⟩ _ H6.out).mono ?_
          rintro r w7 ⟨q7, rfl, e7, h7, b7⟩
          have H7 := Lib.hid h7
          have O7 := Lib.hid (O6.out.trans b7)
          have C7 := Lib.hid (C6.out.onl b7 NZ.out)
          have D7 := Lib.hid (D6.out.onl b7 DZ.out)
          clear h7 b7
          have E7 := Lib.hid e7
          clear e7
          go_wp2_with fail
          refine (take_c ⟨#[32, 97, 102, 116, 101, 114, 32, 115, 105, 103, 104, 116]⟩ _ H7.out).mono ?_
          rintro r w8 ⟨q8, rfl, e8, h8, b8⟩
          have H8 := Lib.hid h8
          have O8 := Lib.hid (O7.out.trans b8)
          have C8 := Lib.hid (C7.out.onl b8 NZ.out)
          have D8 := Lib.hid (D7.out.onl b8 DZ.out)
          clear h8 b8
          have E8 := Lib.hid e8
          clear e8
          cases q8 with
          | true =>
            have y0 := C8.out.at (i := 0) rfl
            have f0 := C8.out.free 0
            have y1 := C8.out.at (i := 1) rfl
            have f1 := C8.out.free 1
            have y2 := C8.out.at (i := 2) rfl
            have f2 := C8.out.free 2
            have x0 := D8.out.at (i := 0) rfl
            have x1 := D8.out.at (i := 1) rfl
            have x2 := D8.out.at (i := 2) rfl
            go_wp2
            have CF := ((C8.out.set 0 (.int .i64 1)).set 1 (.int .i64 v)).set 2 (.int .i64 1)
            have HF := ((H8.out.other (h := w.heap.size) (i := 0) (.int .i64 1) (Nat.ne_of_gt HG.out)).other (h := w.heap.size) (i := 1) (.int .i64 v) (Nat.ne_of_gt HG.out)).other (h := w.heap.size) (i := 2) (.int .i64 1) (Nat.ne_of_gt HG.out)
            have BF := below_at (below_at (below_at (O8.out.low HG.out) HG.out 0 (.int .i64 1)) HG.out 1 (.int .i64 v)) HG.out 2 (.int .i64 1)
            have r0 := CF.at (i := 0) rfl
            have r1 := CF.at (i := 1) rfl
            have r2 := CF.at (i := 2) rfl
            exact bodyPost_ret (v := .agg #[.int .i64 1, .int .i64 v, .int .i64 1]) (by simp [results, Tryz.results55, go_sem, r0, r1, r2]) rfl ⟨_, _, _, _, rfl, termR_after E1.out.symm E2.out.symm E3.out.symm N4.out (ifn E6.out) (ifn E6.out) (ifp E8.out) (ifp E8.out), HF, BF⟩
          | false =>
            rw [mk_miss E8.out] at H8
            have y := D8.out.at (i := 0) rfl
            have f := D8.out.free 0
            have D9 := Lib.hid (D8.out.set 0 (.int .i64 2))
            have H9 := Lib.hid (H8.out.other (h := w4.heap.size) (i := 0) (.int .i64 2) (DZ.out))
            have C9 := Lib.hid (C8.out.other (i := 0) (.int .i64 2) DC.out)
            have O9 := Lib.hid (O8.out.at DS.out 0 (.int .i64 2))
            go_wp2_with fail
            clear y f
            refine (take_c ⟨#[32, 97, 102, 116, 101, 114, 32, 100, 97, 116, 101]⟩ _ H9.out).mono ?_
            rintro r w10 ⟨q10, rfl, e10, h10, b10⟩
            have H10 := Lib.hid h10
            have O10 := Lib.hid (O9.out.trans b10)
            have C10 := Lib.hid (C9.out.onl b10 NZ.out)
            have D10 := Lib.hid (D9.out.onl b10 DZ.out)
            clear h10 b10
            have E10 := Lib.hid e10
            clear e10
            have y0 := C10.out.at (i := 0) rfl
            have f0 := C10.out.free 0
            have y1 := C10.out.at (i := 1) rfl
            have f1 := C10.out.free 1
            have y2 := C10.out.at (i := 2) rfl
            have f2 := C10.out.free 2
            have x0 := D10.out.at (i := 0) rfl
            have x1 := D10.out.at (i := 1) rfl
            have x2 := D10.out.at (i := 2) rfl
            go_wp2
            have CF := ((C10.out.set 0 (.int .i64 2)).set 1 (.int .i64 v)).set 2 (.int .i64 1)
            have HF := ((H10.out.other (h := w.heap.size) (i := 0) (.int .i64 2) (Nat.ne_of_gt HG.out)).other (h := w.heap.size) (i := 1) (.int .i64 v) (Nat.ne_of_gt HG.out)).other (h := w.heap.size) (i := 2) (.int .i64 1) (Nat.ne_of_gt HG.out)
            have BF := below_at (below_at (below_at (O10.out.low HG.out) HG.out 0 (.int .i64 2)) HG.out 1 (.int .i64 v)) HG.out 2 (.int .i64 1)
            have r0 := CF.at (i := 0) rfl
            have r1 := CF.at (i := 1) rfl
            have r2 := CF.at (i := 2) rfl
            exact bodyPost_ret (v := .agg #[.int .i64 2, .int .i64 v, .int .i64 1]) (by simp [results, Tryz.results55, go_sem, r0, r1, r2]) rfl ⟨_, _, _, _, rfl, termR_after E1.out.symm E2.out.symm E3.out.symm N4.out (ifn E6.out) (ifn E6.out) (ifn E8.out) (ifn E8.out), HF, BF⟩
end Go.Proofs.YtcjakgpmompaiaaGreatDoor
