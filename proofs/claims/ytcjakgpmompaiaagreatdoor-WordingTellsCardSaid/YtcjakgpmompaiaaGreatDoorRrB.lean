/-
  The reference reads: dates and tenors.
-/
import Derived.Test.YtcjakgpmompaiaaGreatDoorRrA
import Derived.Test.YtcjakgpmompaiaaGreatDoorCaCal
import Derived.Test.YtcjakgpmompaiaaGreatDoorRdE
namespace Go.Proofs.YtcjakgpmompaiaaGreatDoor
open Go.RowKit Rl Wd

theorem Reat_r (s h : B) (w : World) (hs : s.size ≤ 100000) (hh : h.size ≤ 1000) :
    Calls Tryz.prog 22 #[.string s, .string h] w fun r w' => ∃ (t : B) (q : Bool), r = .returned (.tuple #[.string t, .bool q]) ∧ Hid (t.data.toList = tk s.data.toList h.data.toList) ∧ Hid (q = hp s.data.toList h.data.toList) ∧ t.size ≤ s.size ∧ w = w' := by
  refine (Reat_x s h w hs hh).mono ?_
  rintro r w' ⟨rfl, hw⟩
  exact ⟨_, _, rfl, rfl, rfl, eat_size s h, hw⟩
theorem num_size (l : L8) : (numP l).2.length ≤ l.length := by
  unfold numP
  split
  · exact Nat.le_refl _
  · show (l.drop _).length ≤ _
    rw [List.length_drop]
    omega
theorem num_range (l : L8) : -1 ≤ (numP l).1 ∧ (numP l).1 ≤ 10000000000000 := by
  unfold numP
  split
  · exact ⟨by show (-1 : Int) ≤ -1; decide, by show (-1 : Int) ≤ _; decide⟩
  · have h := val_lt (ndig l) 0 (fun c hc => List.all_eq_true.1 (List.all_takeWhile) c hc)
    have h2 : (ndig l).length ≤ 13 := Nat.le_trans (List.takeWhile_sublist _).length_le (by rw [List.length_take]; omega)
    have h3 : 10 ^ (ndig l).length ≤ 10 ^ 13 := Nat.pow_le_pow_right (by decide) h2
    show (-1 : Int) ≤ ((val 0 (ndig l) : Nat) : Int) ∧ ((val 0 (ndig l) : Nat) : Int) ≤ _
    omega
theorem RNumber_r (s : B) (w : World) (hs : s.size ≤ 100000) :
    Calls Tryz.prog 23 #[.string s] w fun r w' => ∃ (v : Int) (t : B), r = .returned (.tuple #[.int .i64 v, .string t]) ∧ Hid (NumR s.data.toList v t.data.toList) ∧ t.size ≤ s.size ∧ -1 ≤ v ∧ v ≤ 10000000000000 ∧ Below w.heap.size w w' := by
  refine (RNumber_x s w hs).mono ?_
  rintro r w' ⟨rfl, hw⟩
  exact ⟨_, _, rfl, numR_P _, by rw [mkB_size, size_list]; exact num_size _, (num_range _).1, (num_range _).2, hw⟩
theorem Rword_r (s : B) (w : World) (hs : s.size ≤ 100000) :
    Calls Tryz.prog 25 #[.string s] w fun r w' => ∃ (nm t : B), r = .returned (.tuple #[.string nm, .string t]) ∧ Hid (NameR s.data.toList nm.data.toList t.data.toList) ∧ nm.size ≤ s.size ∧ t.size ≤ s.size ∧ Below w.heap.size w w' := by
  refine (Rword_x s w hs).mono ?_
  rintro r w' ⟨rfl, hw⟩
  refine ⟨_, _, rfl, nameR_word _, ?_, ?_, hw⟩
  · rw [mkB_size, size_list]; exact (List.takeWhile_sublist _).length_le
  · rw [mkB_size, size_list]
    have := congrArg List.length (List.takeWhile_append_dropWhile (p := morB) (l := s.data.toList))
    rw [List.length_append] at this
    omega
theorem Rline_r (s : B) (w : World) (hs : s.size ≤ 100000) :
    Calls Tryz.prog 24 #[.string s] w fun r w' => ∃ (t : B), r = .returned (.string t) ∧ Hid (t.data.toList = lineP s.data.toList) ∧ t.size ≤ s.size ∧ Below w.heap.size w w' := by
  refine (Rline_x s w hs).mono ?_
  rintro r w' ⟨rfl, hw⟩
  refine ⟨_, rfl, rfl, ?_, hw⟩
  rw [mkB_size, size_list]
  unfold lineP
  have := congrArg List.length (List.takeWhile_append_dropWhile (p := fun c => c != 10) (l := s.data.toList))
  rw [List.length_append] at this
  rw [List.length_drop]
  omega

set_option maxHeartbeats 3200000 in
set_option maxRecDepth 100000 in
theorem RreadDate_x (s : B) (w : World) (hs : s.size ≤ 100000) :
    Calls Tryz.prog 27 #[.string s] w fun r w' => ∃ (v : Int) (t : B), r = .returned (.tuple #[.int .i64 v, .string t]) ∧ Hid (DateR s.data.toList v t.data.toList) ∧ t.size ≤ s.size ∧ Below w.heap.size w w' := by
  go_enter Tryz.func27, Tryz.ntmps27
  go_wp2_with fail
  refine (RNumber_r s _ (by omega)).mono ?_
  rintro r wx ⟨y, t1, rfl, Ny, zt1, ly, uy, cc⟩
  have B1 := Lib.hid (cc)
  clear cc
  go_wp2_with fail
  refine (Reat_r t1 ⟨#[45]⟩ _ (by omega) (by decide)).mono ?_
  rintro r wx ⟨t2, q2, rfl, Tt2, Qq2, zt2, rfl⟩
  go_wp2_with fail
  refine (RNumber_r t2 _ (by omega)).mono ?_
  rintro r wx ⟨m, t3, rfl, Nm, zt3, lm, um, cc⟩
  have B2 := Lib.hid (chain B1.out cc)
  clear cc
  go_wp2_with fail
  refine (Reat_r t3 ⟨#[45]⟩ _ (by omega) (by decide)).mono ?_
  rintro r wx ⟨t4, q4, rfl, Tt4, Qq4, zt4, rfl⟩
  go_wp2_with fail
  refine (RNumber_r t4 _ (by omega)).mono ?_
  rintro r wx ⟨d, t5, rfl, Nd, zt5, ld, ud, cc⟩
  have B3 := Lib.hid (chain B2.out cc)
  clear cc
  go_wp2_with fail
  refine (Ca.Day_x y m d _).mono ?_
  rintro r wx ⟨rfl, rfl⟩
  have hd : DateR s.data.toList (if (Ca.dayOf y m d).2 = 0 then (Ca.dayOf y m d).1 else -1) t5.data.toList := dateR_ref Ny.out (by have h := Nm.out; rw [Tt2.out] at h; exact h) (by have h := Nd.out; rw [Tt4.out] at h; exact h)
  obtain ⟨z, e, hz⟩ : ∃ z e : Int, Ca.dayOf y m d = (z, e) := ⟨_, _, rfl⟩
  rw [hz] at hd ⊢
  have HD := Lib.hid hd
  clear hd hz
  rw [show Ca.pv (z, e) = .tuple #[.int .i64 z, .int .i64 e] from rfl]
  by_cases he : e = 0
  · subst he
    go_wp2_with fail
    go_ret2
    exact ⟨_, _, rfl, HD.out, by omega, B3.out⟩
  · have hne : (e != 0) = true := bne_iff_ne.2 he
    have HE : Hid (DateR s.data.toList (-1) t5.data.toList) := by have h := HD.out; rw [if_neg he] at h; exact h
    clear he HD
    go_wp2_with fail
    go_ret2
    exact ⟨_, _, rfl, HE.out, by omega, B3.out⟩

theorem CBx.next {w w' : World} {h : Nat} {b : List Value} (e : CBx w h b) (hb : Below w.heap.size w w') : CBx w' h b := by
  have hl := e.lt
  unfold CBx at e ⊢
  rw [hb.block _ hl]
  exact e
theorem below_eq {w w' : World} (e : Below w.heap.size w w') (i : Nat) (v : Value) : Below w.heap.size w (w'.setCell ⟨w.heap.size, i, none⟩ v) := e.setCell (p := ⟨w.heap.size, i, none⟩) (Nat.le_refl _) _
set_option maxHeartbeats 3200000 in
set_option maxRecDepth 100000 in
theorem RreadTenor_x (s : B) (w : World) (hs : s.size ≤ 100000) :
    Calls Tryz.prog 28 #[.string s] w fun r w' => ∃ (k n u : Int), r = .returned (.agg #[.int .i64 k, .int .i64 n, .int .i64 u]) ∧ Hid (TenR s.data.toList k n u) ∧ Below w.heap.size w w' := by
  go_enter Tryz.func28, Tryz.ntmps28
  have C0 := Lib.hid (CBx.new w [.int .i64 0, .int .i64 0, .int .i64 0])
  have B0 := Lib.hid (Below.new1 (w := w) (.cells #[.int .i64 0, .int .i64 0, .int .i64 0] 33))
  go_wp2_with fail
  refine (Reat_r s ⟨#[112, 97, 121, 32, 97, 116, 32, 117, 115, 97, 110, 99, 101]⟩ _ (by omega) (by decide)).mono ?_
  rintro r wx ⟨t1, q1, rfl, Tt1, Qq1, zt1, rfl⟩
  cases q1
  case true =>
    have y0 := C0.out.at (i := 0) rfl
    have f0 := C0.out.free 0
    have y1 := C0.out.at (i := 1) rfl
    have f1 := C0.out.free 1
    have y2 := C0.out.at (i := 2) rfl
    have f2 := C0.out.free 2
    go_wp2
    have CF := ((C0.out.set 0 (.int .i64 4)).set 1 (.int .i64 0)).set 2 (.int .i64 0)
    have BF := below_eq (below_eq (below_eq B0.out 0 (.int .i64 4)) 1 (.int .i64 0)) 2 (.int .i64 0)
    have r0 := CF.at (i := 0) rfl
    have r1 := CF.at (i := 1) rfl
    have r2 := CF.at (i := 2) rfl
    exact bodyPost_ret (v := .agg #[.int .i64 4, .int .i64 0, .int .i64 0]) (by simp [results, Tryz.results28, go_sem]) rfl (by first | exact ⟨_, _, _, rfl, tenR_usance Qq1.out.symm, BF⟩ | exact ⟨_, _, _, rfl, tenR_usance Qq1.out.symm, Below.new1 _⟩)
  case false =>
    go_wp2_with fail
    refine (Reat_r s ⟨#[112, 97, 121, 32, 111, 110, 32]⟩ _ (by omega) (by decide)).mono ?_
    rintro r wx ⟨t2, q2, rfl, Tt2, Qq2, zt2, rfl⟩
    cases q2
    case true =>
      go_wp2_with fail
      refine (RreadDate_x t2 _ (by omega)).mono ?_
      rintro r w1 ⟨v, t2d, rfl, Nv, zt2d, cc⟩
      have B1 := Lib.hid (chain B0.out cc)
      have C1 := Lib.hid (C0.out.next cc)
      clear cc
      have y0 := C1.out.at (i := 0) rfl
      have f0 := C1.out.free 0
      have y1 := C1.out.at (i := 1) rfl
      have f1 := C1.out.free 1
      have y2 := C1.out.at (i := 2) rfl
      have f2 := C1.out.free 2
      go_wp2
      have CF := ((C1.out.set 0 (.int .i64 3)).set 1 (.int .i64 v)).set 2 (.int .i64 0)
      have BF := below_eq (below_eq (below_eq B1.out 0 (.int .i64 3)) 1 (.int .i64 v)) 2 (.int .i64 0)
      have r0 := CF.at (i := 0) rfl
      have r1 := CF.at (i := 1) rfl
      have r2 := CF.at (i := 2) rfl
      exact bodyPost_ret (v := .agg #[.int .i64 3, .int .i64 v, .int .i64 0]) (by simp [results, Tryz.results28, go_sem, r0, r1, r2]) rfl (by first | exact ⟨_, _, _, rfl, tenR_fixed Qq2.out.symm (by have h := Nv.out; rw [Tt2.out] at h; exact h), BF⟩ | exact ⟨_, _, _, rfl, tenR_fixed Qq2.out.symm (by have h := Nv.out; rw [Tt2.out] at h; exact h), Below.new1 _⟩)
    case false =>
      go_wp2_with fail
      refine (Reat_r s ⟨#[112, 97, 121, 32, 97, 116, 32, 115, 105, 103, 104, 116]⟩ _ (by omega) (by decide)).mono ?_
      rintro r wx ⟨t3, q3, rfl, Tt3, Qq3, zt3, rfl⟩
      cases q3
      case true =>
        have y0 := C0.out.at (i := 0) rfl
        have f0 := C0.out.free 0
        have y1 := C0.out.at (i := 1) rfl
        have f1 := C0.out.free 1
        have y2 := C0.out.at (i := 2) rfl
        have f2 := C0.out.free 2
        go_wp2
        have CF := ((C0.out.set 0 (.int .i64 0)).set 1 (.int .i64 0)).set 2 (.int .i64 0)
        have BF := below_eq (below_eq (below_eq B0.out 0 (.int .i64 0)) 1 (.int .i64 0)) 2 (.int .i64 0)
        have r0 := CF.at (i := 0) rfl
        have r1 := CF.at (i := 1) rfl
        have r2 := CF.at (i := 2) rfl
        exact bodyPost_ret (v := .agg #[.int .i64 0, .int .i64 0, .int .i64 0]) (by simp [results, Tryz.results28, go_sem]) rfl (by first | exact ⟨_, _, _, rfl, tenR_sight Qq3.out.symm, BF⟩ | exact ⟨_, _, _, rfl, tenR_sight Qq3.out.symm, Below.new1 _⟩)
      case false =>
        go_wp2_with fail
        refine (Reat_r s ⟨#[112, 97, 121, 32]⟩ _ (by omega) (by decide)).mono ?_
        rintro r wx ⟨t3b, q3b, rfl, Tt3b, Qq3b, zt3b, rfl⟩
        go_wp2_with fail
        refine (RNumber_r t3b _ (by omega)).mono ?_
        rintro r w1 ⟨v, t4, rfl, Nv, zt4, lv, uv, cc⟩
        have B1 := Lib.hid (chain B0.out cc)
        have C1 := Lib.hid (C0.out.next cc)
        clear cc
        go_wp2_with fail
        refine (Reat_r t4 ⟨#[32, 100, 97, 121, 115, 32, 97, 102, 116, 101, 114, 32]⟩ _ (by omega) (by decide)).mono ?_
        rintro r wx ⟨t5, q5, rfl, Tt5, Qq5, zt5, rfl⟩
        cases q5
        case true =>
          go_wp2_with fail
          refine (Reat_r t5 ⟨#[100, 97, 116, 101]⟩ _ (by omega) (by decide)).mono ?_
          rintro r wx ⟨t6, q6, rfl, Tt6, Qq6, zt6, rfl⟩
          cases q6
          case true =>
            have B20 := Lib.hid (chain B1.out (Below.new1 (.cells #[.int .i64 2, .int .i64 v, .int .i64 0] 33)))
            have C20 := Lib.hid (C1.out.next (Below.new1 (.cells #[.int .i64 2, .int .i64 v, .int .i64 0] 33)))
            have D20 := Lib.hid (CBx.new w1 [.int .i64 2, .int .i64 v, .int .i64 0])
            have y0 := C20.out.at (i := 0) rfl
            have f0 := C20.out.free 0
            have y1 := C20.out.at (i := 1) rfl
            have f1 := C20.out.free 1
            have y2 := C20.out.at (i := 2) rfl
            have f2 := C20.out.free 2
            have x0 := D20.out.at (i := 0) rfl
            have x1 := D20.out.at (i := 1) rfl
            have x2 := D20.out.at (i := 2) rfl
            go_wp2
            have CF := ((C20.out.set 0 (.int .i64 2)).set 1 (.int .i64 v)).set 2 (.int .i64 0)
            have BF := below_eq (below_eq (below_eq B20.out 0 (.int .i64 2)) 1 (.int .i64 v)) 2 (.int .i64 0)
            have r0 := CF.at (i := 0) rfl
            have r1 := CF.at (i := 1) rfl
            have r2 := CF.at (i := 2) rfl
            exact bodyPost_ret (v := .agg #[.int .i64 2, .int .i64 v, .int .i64 0]) (by simp [results, Tryz.results28, go_sem, r0, r1, r2]) rfl (by first | exact ⟨_, _, _, rfl, tenR_after Qq1.out.symm Qq2.out.symm Qq3.out.symm (by have h := Nv.out; rw [Tt3b.out] at h; exact h) (ifp Qq5.out) ((Tt5.out.trans (ifp Qq5.out))) (ifp Qq6.out), BF⟩ | exact ⟨_, _, _, rfl, tenR_after Qq1.out.symm Qq2.out.symm Qq3.out.symm (by have h := Nv.out; rw [Tt3b.out] at h; exact h) (ifp Qq5.out) ((Tt5.out.trans (ifp Qq5.out))) (ifp Qq6.out), Below.new1 _⟩)
          case false =>
            have B10 := Lib.hid (chain B1.out (Below.new1 (.cells #[.int .i64 1, .int .i64 v, .int .i64 0] 33)))
            have C10 := Lib.hid (C1.out.next (Below.new1 (.cells #[.int .i64 1, .int .i64 v, .int .i64 0] 33)))
            have D10 := Lib.hid (CBx.new w1 [.int .i64 1, .int .i64 v, .int .i64 0])
            have y0 := C10.out.at (i := 0) rfl
            have f0 := C10.out.free 0
            have y1 := C10.out.at (i := 1) rfl
            have f1 := C10.out.free 1
            have y2 := C10.out.at (i := 2) rfl
            have f2 := C10.out.free 2
            have x0 := D10.out.at (i := 0) rfl
            have x1 := D10.out.at (i := 1) rfl
            have x2 := D10.out.at (i := 2) rfl
            go_wp2
            have CF := ((C10.out.set 0 (.int .i64 1)).set 1 (.int .i64 v)).set 2 (.int .i64 0)
            have BF := below_eq (below_eq (below_eq B10.out 0 (.int .i64 1)) 1 (.int .i64 v)) 2 (.int .i64 0)
            have r0 := CF.at (i := 0) rfl
            have r1 := CF.at (i := 1) rfl
            have r2 := CF.at (i := 2) rfl
            exact bodyPost_ret (v := .agg #[.int .i64 1, .int .i64 v, .int .i64 0]) (by simp [results, Tryz.results28, go_sem, r0, r1, r2]) rfl (by first | exact ⟨_, _, _, rfl, tenR_after Qq1.out.symm Qq2.out.symm Qq3.out.symm (by have h := Nv.out; rw [Tt3b.out] at h; exact h) (ifp Qq5.out) ((Tt5.out.trans (ifp Qq5.out))) (ifn Qq6.out), BF⟩ | exact ⟨_, _, _, rfl, tenR_after Qq1.out.symm Qq2.out.symm Qq3.out.symm (by have h := Nv.out; rw [Tt3b.out] at h; exact h) (ifp Qq5.out) ((Tt5.out.trans (ifp Qq5.out))) (ifn Qq6.out), Below.new1 _⟩)
        case false =>
          go_wp2_with fail
          refine (Reat_r t5 ⟨#[32, 109, 111, 110, 116, 104, 115, 32, 97, 102, 116, 101, 114, 32]⟩ _ (by omega) (by decide)).mono ?_
          rintro r wx ⟨t5m, q5m, rfl, Tt5m, Qq5m, zt5m, rfl⟩
          go_wp2_with fail
          refine (Reat_r t5m ⟨#[100, 97, 116, 101]⟩ _ (by omega) (by decide)).mono ?_
          rintro r wx ⟨t6, q6, rfl, Tt6, Qq6, zt6, rfl⟩
          cases q6
          case true =>
            have B21 := Lib.hid (chain B1.out (Below.new1 (.cells #[.int .i64 2, .int .i64 v, .int .i64 1] 33)))
            have C21 := Lib.hid (C1.out.next (Below.new1 (.cells #[.int .i64 2, .int .i64 v, .int .i64 1] 33)))
            have D21 := Lib.hid (CBx.new w1 [.int .i64 2, .int .i64 v, .int .i64 1])
            have y0 := C21.out.at (i := 0) rfl
            have f0 := C21.out.free 0
            have y1 := C21.out.at (i := 1) rfl
            have f1 := C21.out.free 1
            have y2 := C21.out.at (i := 2) rfl
            have f2 := C21.out.free 2
            have x0 := D21.out.at (i := 0) rfl
            have x1 := D21.out.at (i := 1) rfl
            have x2 := D21.out.at (i := 2) rfl
            go_wp2
            have CF := ((C21.out.set 0 (.int .i64 2)).set 1 (.int .i64 v)).set 2 (.int .i64 1)
            have BF := below_eq (below_eq (below_eq B21.out 0 (.int .i64 2)) 1 (.int .i64 v)) 2 (.int .i64 1)
            have r0 := CF.at (i := 0) rfl
            have r1 := CF.at (i := 1) rfl
            have r2 := CF.at (i := 2) rfl
            exact bodyPost_ret (v := .agg #[.int .i64 2, .int .i64 v, .int .i64 1]) (by simp [results, Tryz.results28, go_sem, r0, r1, r2]) rfl (by first | exact ⟨_, _, _, rfl, tenR_after Qq1.out.symm Qq2.out.symm Qq3.out.symm (by have h := Nv.out; rw [Tt3b.out] at h; exact h) (ifn Qq5.out) ((Tt5m.out.trans (by rw [Tt5.out, show tk t4.data.toList tDaysA = t4.data.toList from tk_miss Qq5.out.symm]; exact ifn Qq5.out))) (ifp Qq6.out), BF⟩ | exact ⟨_, _, _, rfl, tenR_after Qq1.out.symm Qq2.out.symm Qq3.out.symm (by have h := Nv.out; rw [Tt3b.out] at h; exact h) (ifn Qq5.out) ((Tt5m.out.trans (by rw [Tt5.out, show tk t4.data.toList tDaysA = t4.data.toList from tk_miss Qq5.out.symm]; exact ifn Qq5.out))) (ifp Qq6.out), Below.new1 _⟩)
          case false =>
            have B11 := Lib.hid (chain B1.out (Below.new1 (.cells #[.int .i64 1, .int .i64 v, .int .i64 1] 33)))
            have C11 := Lib.hid (C1.out.next (Below.new1 (.cells #[.int .i64 1, .int .i64 v, .int .i64 1] 33)))
            have D11 := Lib.hid (CBx.new w1 [.int .i64 1, .int .i64 v, .int .i64 1])
            have y0 := C11.out.at (i := 0) rfl
            have f0 := C11.out.free 0
            have y1 := C11.out.at (i := 1) rfl
            have f1 := C11.out.free 1
            have y2 := C11.out.at (i := 2) rfl
            have f2 := C11.out.free 2
            have x0 := D11.out.at (i := 0) rfl
            have x1 := D11.out.at (i := 1) rfl
            have x2 := D11.out.at (i := 2) rfl
            go_wp2
            have CF := ((C11.out.set 0 (.int .i64 1)).set 1 (.int .i64 v)).set 2 (.int .i64 1)
            have BF := below_eq (below_eq (below_eq B11.out 0 (.int .i64 1)) 1 (.int .i64 v)) 2 (.int .i64 1)
            have r0 := CF.at (i := 0) rfl
            have r1 := CF.at (i := 1) rfl
            have r2 := CF.at (i := 2) rfl
            exact bodyPost_ret (v := .agg #[.int .i64 1, .int .i64 v, .int .i64 1]) (by simp [results, Tryz.results28, go_sem, r0, r1, r2]) rfl (by first | exact ⟨_, _, _, rfl, tenR_after Qq1.out.symm Qq2.out.symm Qq3.out.symm (by have h := Nv.out; rw [Tt3b.out] at h; exact h) (ifn Qq5.out) ((Tt5m.out.trans (by rw [Tt5.out, show tk t4.data.toList tDaysA = t4.data.toList from tk_miss Qq5.out.symm]; exact ifn Qq5.out))) (ifn Qq6.out), BF⟩ | exact ⟨_, _, _, rfl, tenR_after Qq1.out.symm Qq2.out.symm Qq3.out.symm (by have h := Nv.out; rw [Tt3b.out] at h; exact h) (ifn Qq5.out) ((Tt5m.out.trans (by rw [Tt5.out, show tk t4.data.toList tDaysA = t4.data.toList from tk_miss Qq5.out.symm]; exact ifn Qq5.out))) (ifn Qq6.out), Below.new1 _⟩)
end Go.Proofs.YtcjakgpmompaiaaGreatDoor
