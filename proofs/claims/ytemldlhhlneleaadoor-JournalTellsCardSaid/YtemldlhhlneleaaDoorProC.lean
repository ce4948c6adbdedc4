/-
  The program: filled, Arm, Cut, Start.
-/
import Derived.Test.YtemldlhhlneleaaDoorProB
namespace Go.Proofs.YtemldlhhlneleaaDoor
open Go.RowKit Dk

theorem rep_zb (n : Nat) : (⟨(Lib.repeatL (⟨#[0]⟩ : B).data.toList n).toArray⟩ : B) = zb n := by
  have h1 : (Lib.repeatL (⟨#[0]⟩ : B).data.toList n) = List.replicate n 0 := by
    have := Lib.repeatL_replicate 0 1 n
    rw [Nat.mul_one] at this
    exact this
  rw [h1]
  apply ByteArray.ext
  apply Array.toList_inj.1
  rw [zb_list]
theorem filled_x (s : B) (w : World) (hs : s.size ≤ 16) :
    Calls Tryd.prog 76 #[.string s] w fun r w' => r = .returned (.string (pad s)) ∧ Below w.heap.size w w' := by
  obtain ⟨m, hm⟩ : ∃ m : Nat, (16 : Int) - (s.size : Int) = (m : Int) := ⟨16 - s.size, by omega⟩
  have HM : Hid (16 - s.size = m) := show _ = _ by omega
  have mb : m ≤ 16 := by omega
  have HPAD : Hid (s ++ zb m = pad s) := by show _ = _; unfold pad; rw [HM.out]
  have zs : (zb m).size ≤ 16 := by rw [zb_size]; exact mb
  have HR := Lib.hid (Tryd.strings_Repeat ⟨#[0]⟩ m w (by omega) (by show 1 * m ≤ _; omega))
  rw [rep_zb] at HR
  go_enter Tryd.func76, Tryd.ntmps76
  go_wp2_with fail
  refine HR.out.mono ?_
  rintro r w1 ⟨rfl, b1⟩
  go_wp2_with fail
  go_ret
  exact ⟨by rw [HPAD.out]; rfl, b1⟩

/-- the box holds the disk in memory of its own -/
def Fre (d : D) (dl : Int) (dd : Bool) (w W : World) : Prop := ∃ g gc pa pc n', d.secs.length ≤ gc ∧ w.heap.size + 1 < g ∧ g < n' ∧ Bx (.slice (some ⟨g, 0, none⟩) d.secs.length gc) (.slice pa d.pend.length pc) dl dd w.heap.size W ∧
  Bx (.slice none 0 0) (.slice none 0 0) 0 false (w.heap.size + 1) W ∧ Row W g (strs d.secs) ∧ W.ownsRow n' 66 2 (.slice pa d.pend.length pc) d.pend.length (wC d.pend) ∧ Below w.heap.size w W
theorem DAt.mk2 {W : World} {g gc n m : Nat} {pa : Option Addr} {pc : Nat} {T : TypeId} {l : List B} {p : List (Int × B)} {k : Int} {b : Bool} (hr : Row W g (strs l)) (hc : l.length ≤ gc) (ho : W.ownsRow n T 2 (.slice pa m pc) m (wC p)) (hm : m = p.length) :
    DAt W (.agg #[.slice (some ⟨g, 0, none⟩) l.length gc, .slice pa m pc, .int .i64 k, .bool b]) ⟨l, p, k, b⟩ :=
  ⟨_, _, rfl, hr.at (by rw [strs_len]) hc, WAt.own ho hm⟩

set_option maxHeartbeats 6400000 in
set_option maxRecDepth 100000 in
theorem pArm_x (v : Value) (d : D) (n : Int) (w : World) (h : DAt w v d) (hf : Fit d) :
    Calls Tryd.prog 27 #[v, .int .i64 n] w fun r w' => ∃ x, r = .returned (.tuple #[x, .int .i64 (armV d n).2]) ∧ DAt w' x (armV d n).1 ∧ Below w.heap.size w w' := by
  obtain ⟨a, c, b, c2, rfl, -, -, HS, HP⟩ := h.form
  obtain ⟨dl, hdl⟩ : ∃ x, d.left = x := ⟨_, rfl⟩
  obtain ⟨dd, hdd⟩ : ∃ x, d.down = x := ⟨_, rfl⟩
  rw [hdl, hdd] at h
  have HD := Lib.hid h
  obtain ⟨X1, Y1, BW⟩ := two_new w (.slice a d.secs.length c) (.slice b d.pend.length c2) dl dd
  have HX := Lib.hid X1
  have HY := Lib.hid Y1
  have HBW := Lib.hid BW
  have HU := Lib.hid (pUp_x _ d _ (h.next BW) hf)
  rw [hdl, hdd]
  have HDL := Lib.hid hdl
  have HDN := Lib.hid hdd
  have HF := Lib.hid hf
  obtain ⟨ue, hue⟩ : ∃ x, upE d = x := ⟨_, rfl⟩
  have HUE := Lib.hid hue
  clear h hf hdl hdd hue X1 Y1 BW
  go_enter Tryd.func27, Tryd.ntmps27
  go_wp2_with fail
  refine HU.out.mono ?_
  rintro r w1 ⟨rfl, b1⟩
  have BX := Lib.hid (HX.out.next b1)
  have BY := Lib.hid (HY.out.next b1)
  have x0 := BX.out.c0
  have x1 := BX.out.c1
  have x2 := BX.out.c2
  have x3 := BX.out.c3
  have xl := BX.out.lt
  have xf := BX.out.fz
  have y0 := BY.out.c0
  have y1 := BY.out.c1
  have y2 := BY.out.c2
  have y3 := BY.out.c3
  have yl := BY.out.lt
  have yf := BY.out.fz
  have BE := Lib.hid (chain HBW.out b1)
  have DE := Lib.hid (HD.out.next (chain HBW.out b1))
  rw [HUE.out]
  clear b1 HU HX HY HBW
  by_cases u : ue = 0
  case neg =>
    have u0 : (ue != 0) = true := by simpa using u
    have hv : Hid (armV d n = (D0, ue)) := by show _ = _; unfold armV; rw [HUE.out, if_neg u]
    clear u
    go_wp2_with fail
    exact bodyPost_ret (v := .tuple #[.agg #[.slice none 0 0, .slice none 0 0, .int .i64 0, .bool false], .int .i64 ue]) (by simp [results, Tryd.results27, go_sem, y0, y1, y2, y3]) rfl ⟨_, by rw [hv.out]; try rfl, by rw [hv.out]; exact DAt.zero _, (by repeat (first | exact BE.out | refine Below.setCell ?_ (Nat.le_succ _) _ | refine Below.setCell ?_ (by simp) _))⟩
  case pos =>
    subst u
    have HCK := Lib.hid (upE_zero.1 HUE.out).1
    by_cases t1 : n < 0
    · have hv : Hid (armV d n = (D0, 1)) := by show _ = _; unfold armV; rw [HUE.out, if_pos rfl, if_neg (by omega)]
      go_wp2_with fail
      exact bodyPost_ret (v := .tuple #[.agg #[.slice none 0 0, .slice none 0 0, .int .i64 0, .bool false], .int .i64 1]) (by simp [results, Tryd.results27, go_sem, y0, y1, y2, y3]) rfl ⟨_, by rw [hv.out]; try rfl, by rw [hv.out]; exact DAt.zero _, (by repeat (first | exact BE.out | refine Below.setCell ?_ (Nat.le_succ _) _ | refine Below.setCell ?_ (by simp) _))⟩
    by_cases t2 : 512 < n
    · have hv : Hid (armV d n = (D0, 1)) := by show _ = _; unfold armV; rw [HUE.out, if_pos rfl, if_neg (by omega)]
      go_wp2_with fail
      exact bodyPost_ret (v := .tuple #[.agg #[.slice none 0 0, .slice none 0 0, .int .i64 0, .bool false], .int .i64 1]) (by simp [results, Tryd.results27, go_sem, y0, y1, y2, y3]) rfl ⟨_, by rw [hv.out]; try rfl, by rw [hv.out]; exact DAt.zero _, (by repeat (first | exact BE.out | refine Below.setCell ?_ (Nat.le_succ _) _ | refine Below.setCell ?_ (by simp) _))⟩
    have hv : Hid (armV d n = (⟨d.secs, d.pend, n, dd⟩, 0)) := by show _ = _; unfold armV; rw [HUE.out, if_pos rfl, if_pos ⟨by omega, by omega⟩, HDN.out]
    go_upto_region 6 with fail
    go_cut [] (fun wx => Fre d dl dd w wx)
    case first =>
      go_wp2_with fail
      refine (fresh_x _ d _ DE.out HCK.out).mono ?_
      rintro r w2 ⟨g, gc, pa, pc, n', hr, hgc, hg, hgn, hrow, hown, bb⟩
      rw [HDL.out, HDN.out] at hr
      subst hr
      have s1 := BX.out.lt
      have s2 := BY.out.lt
      have k1 : w.heap.size ≠ g := by omega
      have k3 : w.heap.size < n' := by omega
      have FR : Hid (Fre d dl dd w (put4 w2 w.heap.size (.slice (some ⟨g, 0, none⟩) d.secs.length gc) (.slice pa d.pend.length pc) dl dd)) :=
        ⟨g, gc, pa, pc, n', hgc, by omega, hgn, (BX.out.next bb).put _ _ _ _, (BY.out.next bb).putO (by omega) _ _ _ _,
          Row.other (Row.other (Row.other (Row.other hrow k1 _) k1 _) k1 _) k1 _, own_set (own_set (own_set (own_set hown k3 _) k3 _) k3 _) k3 _, below_put (chain BE.out bb) (Nat.le_refl _) _ _ _ _⟩
      have BX' := Lib.hid (BX.out.next bb)
      clear hrow hown bb x0 x1 x2 x3 xl xf y0 y1 y2 y3 yl yf BX BY BE DE
      have BX := BX'
      have x0 := BX.out.c0
      have x1 := BX.out.c1
      have x2 := BX.out.c2
      have x3 := BX.out.c3
      have xl := BX.out.lt
      have xf := BX.out.fz
      clear BX BX'
      go_wp2_with fail
      go_meet
      exact FR.out
    case rest =>
      clear x0 x1 x2 x3 xl xf y0 y1 y2 y3 yl yf BX BY BE DE
      obtain ⟨g, gc, pa, pc, n', hgc, hg, hgn, hbx, hby, hrow, hown, hbel⟩ := hcut
      have k1 : w.heap.size ≠ g := by omega
      have k2 : w.heap.size + 1 ≠ g := by omega
      have k3 : w.heap.size < n' := by omega
      have k4 : w.heap.size + 1 < n' := by omega
      have kg : w.heap.size ≤ g := by omega
      have RW := Lib.hid hrow
      have ON := Lib.hid hown
      have BX := Lib.hid hbx
      have BY := Lib.hid hby
      have BE := Lib.hid hbel
      clear hrow hown hbx hby hbel
      have x0 := BX.out.c0
      have x1 := BX.out.c1
      have x2 := BX.out.c2
      have x3 := BX.out.c3
      have xl := BX.out.lt
      have xf := BX.out.fz
      have y0 := BY.out.c0
      have y1 := BY.out.c1
      have y2 := BY.out.c2
      have y3 := BY.out.c3
      have yl := BY.out.lt
      have yf := BY.out.fz
      go_wp2_with fail
      exact bodyPost_ret (v := .tuple #[.agg #[.slice (some ⟨g, 0, none⟩) d.secs.length gc, .slice pa d.pend.length pc, .int .i64 n, .bool dd], .int .i64 0]) (by simp [results, Tryd.results27, go_sem, y0, y1, y2, y3]) rfl ⟨_, by rw [hv.out]; try rfl, by rw [hv.out]; exact DAt.mk2 (n := n') (T := 66) (by repeat (first | with_reducible exact RW.out | refine Row.other ?_ (by first | exact k1 | exact k2) _)) hgc (by repeat (first | with_reducible exact ON.out | refine own_set ?_ (by first | exact k3 | exact k4) _)) rfl, (by repeat (first | exact BE.out | refine Below.setCell ?_ (Nat.le_succ _) _ | refine Below.setCell ?_ (by simp) _))⟩

set_option maxHeartbeats 6400000 in
set_option maxRecDepth 100000 in
theorem pCut_x (v : Value) (d : D) (w : World) (h : DAt w v d) (hf : Fit d) :
    Calls Tryd.prog 29 #[v] w fun r w' => ∃ x, r = .returned (.tuple #[x, .int .i64 (cutV d).2]) ∧ DAt w' x (cutV d).1 ∧ Below w.heap.size w w' := by
  obtain ⟨a, c, b, c2, rfl, -, -, HS, HP⟩ := h.form
  obtain ⟨dl, hdl⟩ : ∃ x, d.left = x := ⟨_, rfl⟩
  obtain ⟨dd, hdd⟩ : ∃ x, d.down = x := ⟨_, rfl⟩
  rw [hdl, hdd] at h
  have HD := Lib.hid h
  obtain ⟨X1, Y1, BW⟩ := two_new w (.slice a d.secs.length c) (.slice b d.pend.length c2) dl dd
  have HX := Lib.hid X1
  have HY := Lib.hid Y1
  have HBW := Lib.hid BW
  have HU := Lib.hid (pUp_x _ d _ (h.next BW) hf)
  rw [hdl, hdd]
  have HDL := Lib.hid hdl
  have HDN := Lib.hid hdd
  have HF := Lib.hid hf
  obtain ⟨ue, hue⟩ : ∃ x, upE d = x := ⟨_, rfl⟩
  have HUE := Lib.hid hue
  clear h hf hdl hdd hue X1 Y1 BW
  go_enter Tryd.func29, Tryd.ntmps29
  go_wp2_with fail
  refine HU.out.mono ?_
  rintro r w1 ⟨rfl, b1⟩
  have BX := Lib.hid (HX.out.next b1)
  have BY := Lib.hid (HY.out.next b1)
  have x0 := BX.out.c0
  have x1 := BX.out.c1
  have x2 := BX.out.c2
  have x3 := BX.out.c3
  have xl := BX.out.lt
  have xf := BX.out.fz
  have y0 := BY.out.c0
  have y1 := BY.out.c1
  have y2 := BY.out.c2
  have y3 := BY.out.c3
  have yl := BY.out.lt
  have yf := BY.out.fz
  have BE := Lib.hid (chain HBW.out b1)
  have DE := Lib.hid (HD.out.next (chain HBW.out b1))
  rw [HUE.out]
  clear b1 HU HX HY HBW
  by_cases u : ue = 0
  case neg =>
    have u0 : (ue != 0) = true := by simpa using u
    have hv : Hid (cutV d = (D0, ue)) := by show _ = _; unfold cutV; rw [HUE.out, if_neg u]
    clear u
    go_wp2_with fail
    exact bodyPost_ret (v := .tuple #[.agg #[.slice none 0 0, .slice none 0 0, .int .i64 0, .bool false], .int .i64 ue]) (by simp [results, Tryd.results29, go_sem, y0, y1, y2, y3]) rfl ⟨_, by rw [hv.out]; try rfl, by rw [hv.out]; exact DAt.zero _, (by repeat (first | exact BE.out | refine Below.setCell ?_ (Nat.le_succ _) _ | refine Below.setCell ?_ (by simp) _))⟩
  case pos =>
    subst u
    have HCK := Lib.hid (upE_zero.1 HUE.out).1
    have hv : Hid (cutV d = (⟨d.secs, [], -1, true⟩, 0)) := by show _ = _; unfold cutV; rw [HUE.out, if_pos rfl]
    go_wp2_with fail
    refine (fresh_x _ d _ DE.out HCK.out).mono ?_
    rintro r w2 ⟨g, gc, pa, pc, n', hr, hgc, hg, hgn, hrow, hown, bb⟩
    rw [HDL.out, HDN.out] at hr
    subst hr
    have k1 : w.heap.size ≠ g := by have := BX.out.lt; omega
    have k2 : w.heap.size + 1 ≠ g := by have := BY.out.lt; omega
    have k3 : w.heap.size < n' := by have := BX.out.lt; omega
    have k4 : w.heap.size + 1 < n' := by have := BY.out.lt; omega
    have kg : w.heap.size ≤ g := by have := BX.out.lt; omega
    have RW := Lib.hid hrow
    have ON := Lib.hid hown
    clear hrow hown
    have BX' := Lib.hid (BX.out.next bb)
    have BY' := Lib.hid (BY.out.next bb)
    have BE' := Lib.hid (chain BE.out bb)
    have DE' := Lib.hid (DE.out.next bb)
    clear BX BY BE DE x0 x1 x2 x3 xl xf y0 y1 y2 y3 yl yf
    have BX := BX'
    have BY := BY'
    have BE := BE'
    have DE := DE'
    clear BX' BY' BE' DE' bb
    have x0 := BX.out.c0
    have x1 := BX.out.c1
    have x2 := BX.out.c2
    have x3 := BX.out.c3
    have xl := BX.out.lt
    have xf := BX.out.fz
    have y0 := BY.out.c0
    have y1 := BY.out.c1
    have y2 := BY.out.c2
    have y3 := BY.out.c3
    have yl := BY.out.lt
    have yf := BY.out.fz
    go_wp2_with fail
    refine (off_x _ _ _ _ _ _ _ _ _).mono ?_
    rintro r w3 ⟨rfl, b3⟩
    have BX' := Lib.hid (BX.out.next b3)
    have BY' := Lib.hid (BY.out.next b3)
    have BE' := Lib.hid (chain BE.out b3)
    have DE' := Lib.hid (DE.out.next b3)
    have RW' := Lib.hid (RW.out.next b3)
    clear RW
    have RW := RW'
    clear RW'
    clear BX BY BE DE x0 x1 x2 x3 xl xf y0 y1 y2 y3 yl yf
    have BX := BX'
    have BY := BY'
    have BE := BE'
    have DE := DE'
    clear BX' BY' BE' DE' b3
    have x0 := BX.out.c0
    have x1 := BX.out.c1
    have x2 := BX.out.c2
    have x3 := BX.out.c3
    have xl := BX.out.lt
    have xf := BX.out.fz
    have y0 := BY.out.c0
    have y1 := BY.out.c1
    have y2 := BY.out.c2
    have y3 := BY.out.c3
    have yl := BY.out.lt
    have yf := BY.out.fz
    go_wp2_with fail
    exact bodyPost_ret (v := .tuple #[.agg #[.slice (some ⟨g, 0, none⟩) d.secs.length gc, .slice none 0 0, .int .i64 (-1), .bool true], .int .i64 0]) (by simp [results, Tryd.results29, go_sem, y0, y1, y2, y3]) rfl ⟨_, by rw [hv.out]; try rfl, by rw [hv.out]; exact DAt.made (by repeat (first | with_reducible exact RW.out | refine Row.other ?_ (by first | exact k1 | exact k2) _)) rfl hgc, (by repeat (first | exact BE.out | refine Below.setCell ?_ (Nat.le_succ _) _ | refine Below.setCell ?_ (by simp) _))⟩

set_option maxHeartbeats 6400000 in
set_option maxRecDepth 100000 in
theorem pStart_x (v : Value) (d : D) (w : World) (h : DAt w v d) (hf : Fit d) :
    Calls Tryd.prog 28 #[v] w fun r w' => ∃ x, r = .returned (.tuple #[x, .int .i64 (stV d).2]) ∧ DAt w' x (stV d).1 ∧ Below w.heap.size w w' := by
  obtain ⟨a, c, b, c2, rfl, -, -, HS, HP⟩ := h.form
  obtain ⟨dl, hdl⟩ : ∃ x, d.left = x := ⟨_, rfl⟩
  obtain ⟨dd, hdd⟩ : ∃ x, d.down = x := ⟨_, rfl⟩
  rw [hdl, hdd] at h
  have HD := Lib.hid h
  obtain ⟨X1, Y1, BW⟩ := two_new w (.slice a d.secs.length c) (.slice b d.pend.length c2) dl dd
  have HX := Lib.hid X1
  have HY := Lib.hid Y1
  have HBW := Lib.hid BW
  have HU := Lib.hid (pCheck_x _ d _ (h.next BW) hf)
  rw [hdl, hdd]
  have HDL := Lib.hid hdl
  have HDN := Lib.hid hdd
  have HF := Lib.hid hf
  obtain ⟨ue, hue⟩ : ∃ x, chk d = x := ⟨_, rfl⟩
  have HUE := Lib.hid hue
  clear h hf hdl hdd hue X1 Y1 BW
  go_enter Tryd.func28, Tryd.ntmps28
  go_wp2_with fail
  refine HU.out.mono ?_
  rintro r w1 ⟨rfl, b1⟩
  have BX := Lib.hid (HX.out.next b1)
  have BY := Lib.hid (HY.out.next b1)
  have x0 := BX.out.c0
  have x1 := BX.out.c1
  have x2 := BX.out.c2
  have x3 := BX.out.c3
  have xl := BX.out.lt
  have xf := BX.out.fz
  have y0 := BY.out.c0
  have y1 := BY.out.c1
  have y2 := BY.out.c2
  have y3 := BY.out.c3
  have yl := BY.out.lt
  have yf := BY.out.fz
  have BE := Lib.hid (chain HBW.out b1)
  have DE := Lib.hid (HD.out.next (chain HBW.out b1))
  rw [HUE.out]
  clear b1 HU HX HY HBW
  obtain ⟨cb, hcb⟩ : ∃ x, checkB d = x := ⟨_, rfl⟩
  cases cb with
  | false =>
    have hv : Hid (stV d = (D0, 1)) := by show _ = _; unfold stV; rw [hcb]; rfl
    obtain rfl : ue = 1 := by rw [← HUE.out]; exact chk_no hcb
    clear hcb
    go_wp2_with fail
    exact bodyPost_ret (v := .tuple #[.agg #[.slice none 0 0, .slice none 0 0, .int .i64 0, .bool false], .int .i64 1]) (by simp [results, Tryd.results28, go_sem, y0, y1, y2, y3]) rfl ⟨_, by rw [hv.out]; try rfl, by rw [hv.out]; exact DAt.zero _, (by repeat (first | exact BE.out | refine Below.setCell ?_ (Nat.le_succ _) _ | refine Below.setCell ?_ (by simp) _))⟩
  | true =>
    obtain rfl : ue = 0 := by rw [← HUE.out]; exact chk_yes hcb
    have HCK := Lib.hid hcb
    clear hcb
    cases dd with
    | false =>
      have hv : Hid (stV d = (D0, 7)) := by show _ = _; unfold stV; rw [HCK.out, HDN.out]; rfl
      go_wp2_with fail
      exact bodyPost_ret (v := .tuple #[.agg #[.slice none 0 0, .slice none 0 0, .int .i64 0, .bool false], .int .i64 7]) (by simp [results, Tryd.results28, go_sem, y0, y1, y2, y3]) rfl ⟨_, by rw [hv.out]; try rfl, by rw [hv.out]; exact DAt.zero _, (by repeat (first | exact BE.out | refine Below.setCell ?_ (Nat.le_succ _) _ | refine Below.setCell ?_ (by simp) _))⟩
    | true =>
      have hv : Hid (stV d = (⟨d.secs, d.pend, dl, false⟩, 0)) := by show _ = _; unfold stV; rw [HCK.out, HDN.out, HDL.out]; rfl
      go_upto_region 6 with fail
      go_cut [] (fun wx => Fre d dl true w wx)
      case first =>
        go_wp2_with fail
        refine (fresh_x _ d _ DE.out HCK.out).mono ?_
        rintro r w2 ⟨g, gc, pa, pc, n', hr, hgc, hg, hgn, hrow, hown, bb⟩
        rw [HDL.out, HDN.out] at hr
        subst hr
        have s1 := BX.out.lt
        have s2 := BY.out.lt
        have k1 : w.heap.size ≠ g := by omega
        have k3 : w.heap.size < n' := by omega
        have FR : Hid (Fre d dl true w (put4 w2 w.heap.size (.slice (some ⟨g, 0, none⟩) d.secs.length gc) (.slice pa d.pend.length pc) dl true)) :=
          ⟨g, gc, pa, pc, n', hgc, by omega, hgn, (BX.out.next bb).put _ _ _ _, (BY.out.next bb).putO (by omega) _ _ _ _,
            Row.other (Row.other (Row.other (Row.other hrow k1 _) k1 _) k1 _) k1 _, own_set (own_set (own_set (own_set hown k3 _) k3 _) k3 _) k3 _, below_put (chain BE.out bb) (Nat.le_refl _) _ _ _ _⟩
        have BX' := Lib.hid (BX.out.next bb)
        clear hrow hown bb x0 x1 x2 x3 xl xf y0 y1 y2 y3 yl yf BX BY BE DE
        have BX := BX'
        have x0 := BX.out.c0
        have x1 := BX.out.c1
        have x2 := BX.out.c2
        have x3 := BX.out.c3
        have xl := BX.out.lt
        have xf := BX.out.fz
        clear BX BX'
        go_wp2_with fail
        go_meet
        exact FR.out
      case rest =>
        clear x0 x1 x2 x3 xl xf y0 y1 y2 y3 yl yf BX BY BE DE
        obtain ⟨g, gc, pa, pc, n', hgc, hg, hgn, hbx, hby, hrow, hown, hbel⟩ := hcut
        have k1 : w.heap.size ≠ g := by omega
        have k2 : w.heap.size + 1 ≠ g := by omega
        have k3 : w.heap.size < n' := by omega
        have k4 : w.heap.size + 1 < n' := by omega
        have kg : w.heap.size ≤ g := by omega
        have RW := Lib.hid hrow
        have ON := Lib.hid hown
        have BX := Lib.hid hbx
        have BY := Lib.hid hby
        have BE := Lib.hid hbel
        clear hrow hown hbx hby hbel
        have x0 := BX.out.c0
        have x1 := BX.out.c1
        have x2 := BX.out.c2
        have x3 := BX.out.c3
        have xl := BX.out.lt
        have xf := BX.out.fz
        have y0 := BY.out.c0
        have y1 := BY.out.c1
        have y2 := BY.out.c2
        have y3 := BY.out.c3
        have yl := BY.out.lt
        have yf := BY.out.fz
        go_wp2_with fail
        exact bodyPost_ret (v := .tuple #[.agg #[.slice (some ⟨g, 0, none⟩) d.secs.length gc, .slice pa d.pend.length pc, .int .i64 dl, .bool false], .int .i64 0]) (by simp [results, Tryd.results28, go_sem, y0, y1, y2, y3]) rfl ⟨_, by rw [hv.out]; try rfl, by rw [hv.out]; exact DAt.mk2 (n := n') (T := 66) (by repeat (first | with_reducible exact RW.out | refine Row.other ?_ (by first | exact k1 | exact k2) _)) hgc (by repeat (first | with_reducible exact ON.out | refine own_set ?_ (by first | exact k3 | exact k4) _)) rfl, (by repeat (first | exact BE.out | refine Below.setCell ?_ (Nat.le_succ _) _ | refine Below.setCell ?_ (by simp) _))⟩

end Go.Proofs.YtemldlhhlneleaaDoor
