/-
  The reference's Cut, Start, Arm, New.
-/
import Derived.Test.YtemldlhhlneleaaDoorRefC
namespace Go.Proofs.YtemldlhhlneleaaDoor
open Go.RowKit Dk

theorem DAt.cut {W : World} {sv pv : Value} {l : Int} {b : Bool} {d : D} (h : DAt W (.agg #[sv, pv, .int .i64 l, .bool b]) d) : DAt W (.agg #[sv, .slice none 0 0, .int .i64 (-1), .bool true]) ⟨d.secs, [], -1, true⟩ := by
  obtain ⟨sv', pv', e, h1, h2⟩ := h
  simp at e
  obtain ⟨rfl, rfl, -, -⟩ := e
  exact ⟨_, _, rfl, h1, WAt.nil W⟩
theorem DAt.start {W : World} {sv pv : Value} {l : Int} {b : Bool} {d : D} (h : DAt W (.agg #[sv, pv, .int .i64 l, .bool b]) d) : DAt W (.agg #[sv, pv, .int .i64 l, .bool false]) ⟨d.secs, d.pend, d.left, false⟩ := by
  obtain ⟨sv', pv', e, h1, h2⟩ := h
  simp at e
  obtain ⟨rfl, rfl, rfl, -⟩ := e
  exact ⟨_, _, rfl, h1, h2⟩
theorem DAt.arm {W : World} {sv pv : Value} {l : Int} {b : Bool} {d : D} (h : DAt W (.agg #[sv, pv, .int .i64 l, .bool b]) d) (n : Int) : DAt W (.agg #[sv, pv, .int .i64 n, .bool b]) ⟨d.secs, d.pend, n, d.down⟩ := by
  obtain ⟨sv', pv', e, h1, h2⟩ := h
  simp at e
  obtain ⟨rfl, rfl, -, rfl⟩ := e
  exact ⟨_, _, rfl, h1, h2⟩

set_option maxHeartbeats 6400000 in
set_option maxRecDepth 100000 in
theorem Cut_x (v : Value) (d : D) (w : World) (h : DAt w v d) (hf : Fit d) :
    Calls Tryd.prog 16 #[v] w fun r w' => ∃ x, r = .returned (.tuple #[x, .int .i64 (cutV d).2]) ∧ DAt w' x (cutV d).1 ∧ Below w.heap.size w w' := by
  obtain ⟨a, c, b, c2, rfl, -, -, HS, HP⟩ := h.form
  obtain ⟨dl, hdl⟩ : ∃ x, d.left = x := ⟨_, rfl⟩
  obtain ⟨dd, hdd⟩ : ∃ x, d.down = x := ⟨_, rfl⟩
  rw [hdl, hdd] at h
  have HD := Lib.hid h
  have BW : Hid (Below w.heap.size w ((w.alloc (.cells #[.slice a d.secs.length c, .slice b d.pend.length c2, .int .i64 dl, .bool dd] 27)).alloc (.cells #[.slice none 0 0, .slice none 0 0, .int .i64 0, .bool false] 27))) := chain (Below.new1 _) (Below.new1 _)
  have HU := Lib.hid (up_x _ d _ (h.next BW.out) hf)
  have X1 : Hid (Bx (.slice a d.secs.length c) (.slice b d.pend.length c2) dl dd w.heap.size ((w.alloc (.cells #[.slice a d.secs.length c, .slice b d.pend.length c2, .int .i64 dl, .bool dd] 27)).alloc (.cells #[.slice none 0 0, .slice none 0 0, .int .i64 0, .bool false] 27))) := (Bx.new _ _ _ _ _ _).next (Below.new1 _)
  have Y1 : Hid (Bx (.slice none 0 0) (.slice none 0 0) 0 false (w.heap.size + 1) ((w.alloc (.cells #[.slice a d.secs.length c, .slice b d.pend.length c2, .int .i64 dl, .bool dd] 27)).alloc (.cells #[.slice none 0 0, .slice none 0 0, .int .i64 0, .bool false] 27))) := by
    have hy := Bx.new (w.alloc (.cells #[.slice a d.secs.length c, .slice b d.pend.length c2, .int .i64 dl, .bool dd] 27)) (.slice none 0 0) (.slice none 0 0) 0 false 27
    rw [show (w.alloc (.cells #[.slice a d.secs.length c, .slice b d.pend.length c2, .int .i64 dl, .bool dd] 27)).heap.size = w.heap.size + 1 by simp] at hy
    exact hy
  rw [hdl, hdd]
  have HDL := Lib.hid hdl
  have HDN := Lib.hid hdd
  have HF := Lib.hid hf
  obtain ⟨ue, hue⟩ : ∃ x, upE d = x := ⟨_, rfl⟩
  have HUE := Lib.hid hue
  clear h hf hdl hdd hue
  go_enter Tryd.func16, Tryd.ntmps16
  go_wp2_with fail
  refine HU.out.mono ?_
  rintro r w1 ⟨rfl, b1⟩
  have BX := Lib.hid (X1.out.next b1)
  have BY := Lib.hid (Y1.out.next b1)
  have x0 := BX.out.c0
  have x1 := BX.out.c1
  have x2 := BX.out.c2
  have x3 := BX.out.c3
  have xl := BX.out.lt
  have xf := BX.out.fz
  have y0 := BY.out.c0
  have y1 := BY.out.c1
  have y2 := BY.out.c2
  have y3 := BY.out.c3
  have yl := BY.out.lt
  have yf := BY.out.fz
  have B1 := Lib.hid (chain BW.out b1)
  have D1 := Lib.hid (HD.out.next (chain BW.out b1))
  rw [HUE.out]
  clear b1 HU X1 Y1
  by_cases u : ue = 0
  case neg =>
    have u0 : (ue != 0) = true := by simpa using u
    have hv : Hid (cutV d = (D0, ue)) := by show _ = _; unfold cutV; rw [HUE.out, if_neg u]
    clear u
    go_wp2_with fail
    exact bodyPost_ret (v := .tuple #[.agg #[.slice none 0 0, .slice none 0 0, .int .i64 0, .bool false], .int .i64 ue]) (by simp [results, Tryd.results16, go_sem, y0, y1, y2, y3]) rfl ⟨_, by rw [hv.out]; try rfl, by rw [hv.out]; exact DAt.zero _, (by repeat (first | exact B1.out | refine Below.setCell ?_ (Nat.le_succ _) _ | refine Below.setCell ?_ (by simp) _))⟩
  case pos =>
    subst u
    have hv : Hid (cutV d = (⟨d.secs, [], -1, true⟩, 0)) := by show _ = _; unfold cutV; rw [HUE.out, if_pos rfl]
    go_wp2_with fail
    exact bodyPost_ret (v := .tuple #[.agg #[.slice a d.secs.length c, .slice none 0 0, .int .i64 (-1), .bool true], .int .i64 0]) (by simp [results, Tryd.results16, go_sem, y0, y1, y2, y3]) rfl ⟨_, by rw [hv.out]; try rfl, by rw [hv.out]; exact (HD.out.next (by repeat (first | exact B1.out | refine Below.setCell ?_ (Nat.le_succ _) _ | refine Below.setCell ?_ (by simp) _))).cut, (by repeat (first | exact B1.out | refine Below.setCell ?_ (Nat.le_succ _) _ | refine Below.setCell ?_ (by simp) _))⟩

set_option maxHeartbeats 6400000 in
set_option maxRecDepth 100000 in
theorem Start_x (v : Value) (d : D) (w : World) (h : DAt w v d) (hf : Fit d) :
    Calls Tryd.prog 17 #[v] w fun r w' => ∃ x, r = .returned (.tuple #[x, .int .i64 (stV d).2]) ∧ DAt w' x (stV d).1 ∧ Below w.heap.size w w' := by
  obtain ⟨a, c, b, c2, rfl, -, -, HS, HP⟩ := h.form
  obtain ⟨dl, hdl⟩ : ∃ x, d.left = x := ⟨_, rfl⟩
  obtain ⟨dd, hdd⟩ : ∃ x, d.down = x := ⟨_, rfl⟩
  rw [hdl, hdd] at h
  have HD := Lib.hid h
  have BW : Hid (Below w.heap.size w ((w.alloc (.cells #[.slice a d.secs.length c, .slice b d.pend.length c2, .int .i64 dl, .bool dd] 27)).alloc (.cells #[.slice none 0 0, .slice none 0 0, .int .i64 0, .bool false] 27))) := chain (Below.new1 _) (Below.new1 _)
  have HU := Lib.hid (Check_x _ d _ (h.next BW.out) hf)
  have X1 : Hid (Bx (.slice a d.secs.length c) (.slice b d.pend.length c2) dl dd w.heap.size ((w.alloc (.cells #[.slice a d.secs.length c, .slice b d.pend.length c2, .int .i64 dl, .bool dd] 27)).alloc (.cells #[.slice none 0 0, .slice none 0 0, .int .i64 0, .bool false] 27))) := (Bx.new _ _ _ _ _ _).next (Below.new1 _)
  have Y1 : Hid (Bx (.slice none 0 0) (.slice none 0 0) 0 false (w.heap.size + 1) ((w.alloc (.cells #[.slice a d.secs.length c, .slice b d.pend.length c2, .int .i64 dl, .bool dd] 27)).alloc (.cells #[.slice none 0 0, .slice none 0 0, .int .i64 0, .bool false] 27))) := by
    have hy := Bx.new (w.alloc (.cells #[.slice a d.secs.length c, .slice b d.pend.length c2, .int .i64 dl, .bool dd] 27)) (.slice none 0 0) (.slice none 0 0) 0 false 27
    rw [show (w.alloc (.cells #[.slice a d.secs.length c, .slice b d.pend.length c2, .int .i64 dl, .bool dd] 27)).heap.size = w.heap.size + 1 by simp] at hy
    exact hy
  rw [hdl, hdd]
  have HDL := Lib.hid hdl
  have HDN := Lib.hid hdd
  have HF := Lib.hid hf
  obtain ⟨ue, hue⟩ : ∃ x, chk d = x := ⟨_, rfl⟩
  have HUE := Lib.hid hue
  clear h hf hdl hdd hue
  go_enter Tryd.func17, Tryd.ntmps17
  go_wp2_with fail
  refine HU.out.mono ?_
  rintro r w1 ⟨rfl, b1⟩
  have BX := Lib.hid (X1.out.next b1)
  have BY := Lib.hid (Y1.out.next b1)
  have x0 := BX.out.c0
  have x1 := BX.out.c1
  have x2 := BX.out.c2
  have x3 := BX.out.c3
  have xl := BX.out.lt
  have xf := BX.out.fz
  have y0 := BY.out.c0
  have y1 := BY.out.c1
  have y2 := BY.out.c2
  have y3 := BY.out.c3
  have yl := BY.out.lt
  have yf := BY.out.fz
  have B1 := Lib.hid (chain BW.out b1)
  have D1 := Lib.hid (HD.out.next (chain BW.out b1))
  rw [HUE.out]
  clear b1 HU X1 Y1
  obtain ⟨cb, hcb⟩ : ∃ x, checkB d = x := ⟨_, rfl⟩
  cases cb with
  | false =>
    have hv : Hid (stV d = (D0, 1)) := by show _ = _; unfold stV; rw [hcb]; rfl
    obtain rfl : ue = 1 := by rw [← HUE.out]; exact chk_no hcb
    clear hcb
    go_wp2_with fail
    exact bodyPost_ret (v := .tuple #[.agg #[.slice none 0 0, .slice none 0 0, .int .i64 0, .bool false], .int .i64 1]) (by simp [results, Tryd.results17, go_sem, y0, y1, y2, y3]) rfl ⟨_, by rw [hv.out]; try rfl, by rw [hv.out]; exact DAt.zero _, (by repeat (first | exact B1.out | refine Below.setCell ?_ (Nat.le_succ _) _ | refine Below.setCell ?_ (by simp) _))⟩
  | true =>
    obtain rfl : ue = 0 := by rw [← HUE.out]; exact chk_yes hcb
    have HCB := Lib.hid hcb
    clear hcb
    cases dd with
    | false =>
      have hv : Hid (stV d = (D0, 7)) := by show _ = _; unfold stV; rw [HCB.out, HDN.out]; rfl
      go_wp2_with fail
      exact bodyPost_ret (v := .tuple #[.agg #[.slice none 0 0, .slice none 0 0, .int .i64 0, .bool false], .int .i64 7]) (by simp [results, Tryd.results17, go_sem, y0, y1, y2, y3]) rfl ⟨_, by rw [hv.out]; try rfl, by rw [hv.out]; exact DAt.zero _, (by repeat (first | exact B1.out | refine Below.setCell ?_ (Nat.le_succ _) _ | refine Below.setCell ?_ (by simp) _))⟩
    | true =>
      have hv : Hid (stV d = (⟨d.secs, d.pend, d.left, false⟩, 0)) := by show _ = _; unfold stV; rw [HCB.out, HDN.out]; rfl
      go_wp2_with fail
      exact bodyPost_ret (v := .tuple #[.agg #[.slice a d.secs.length c, .slice b d.pend.length c2, .int .i64 dl, .bool false], .int .i64 0]) (by simp [results, Tryd.results17, go_sem, y0, y1, y2, y3]) rfl ⟨_, by rw [hv.out]; try rfl, by rw [hv.out]; exact (HD.out.next (by repeat (first | exact B1.out | refine Below.setCell ?_ (Nat.le_succ _) _ | refine Below.setCell ?_ (by simp) _))).start, (by repeat (first | exact B1.out | refine Below.setCell ?_ (Nat.le_succ _) _ | refine Below.setCell ?_ (by simp) _))⟩

set_option maxHeartbeats 6400000 in
set_option maxRecDepth 100000 in
theorem Arm_x (v : Value) (d : D) (n : Int) (w : World) (h : DAt w v d) (hf : Fit d) :
    Calls Tryd.prog 15 #[v, .int .i64 n] w fun r w' => ∃ x, r = .returned (.tuple #[x, .int .i64 (armV d n).2]) ∧ DAt w' x (armV d n).1 ∧ Below w.heap.size w w' := by
  obtain ⟨a, c, b, c2, rfl, -, -, HS, HP⟩ := h.form
  obtain ⟨dl, hdl⟩ : ∃ x, d.left = x := ⟨_, rfl⟩
  obtain ⟨dd, hdd⟩ : ∃ x, d.down = x := ⟨_, rfl⟩
  rw [hdl, hdd] at h
  have HD := Lib.hid h
  have BW : Hid (Below w.heap.size w ((w.alloc (.cells #[.slice a d.secs.length c, .slice b d.pend.length c2, .int .i64 dl, .bool dd] 27)).alloc (.cells #[.slice none 0 0, .slice none 0 0, .int .i64 0, .bool false] 27))) := chain (Below.new1 _) (Below.new1 _)
  have HU := Lib.hid (up_x _ d _ (h.next BW.out) hf)
  have X1 : Hid (Bx (.slice a d.secs.length c) (.slice b d.pend.length c2) dl dd w.heap.size ((w.alloc (.cells #[.slice a d.secs.length c, .slice b d.pend.length c2, .int .i64 dl, .bool dd] 27)).alloc (.cells #[.slice none 0 0, .slice none 0 0, .int .i64 0, .bool false] 27))) := (Bx.new _ _ _ _ _ _).next (Below.new1 _)
  have Y1 : Hid (Bx (.slice none 0 0) (.slice none 0 0) 0 false (w.heap.size + 1) ((w.alloc (.cells #[.slice a d.secs.length c, .slice b d.pend.length c2, .int .i64 dl, .bool dd] 27)).alloc (.cells #[.slice none 0 0, .slice none 0 0, .int .i64 0, .bool false] 27))) := by
    have hy := Bx.new (w.alloc (.cells #[.slice a d.secs.length c, .slice b d.pend.length c2, .int .i64 dl, .bool dd] 27)) (.slice none 0 0) (.slice none 0 0) 0 false 27
    rw [show (w.alloc (.cells #[.slice a d.secs.length c, .slice b d.pend.length c2, .int .i64 dl, .bool dd] 27)).heap.size = w.heap.size + 1 by simp] at hy
    exact hy
  rw [hdl, hdd]
  have HDL := Lib.hid hdl
  have HDN := Lib.hid hdd
  have HF := Lib.hid hf
  obtain ⟨ue, hue⟩ : ∃ x, upE d = x := ⟨_, rfl⟩
  have HUE := Lib.hid hue
  clear h hf hdl hdd hue
  go_enter Tryd.func15, Tryd.ntmps15
  go_wp2_with fail
  refine HU.out.mono ?_
  rintro r w1 ⟨rfl, b1⟩
  have BX := Lib.hid (X1.out.next b1)
  have BY := Lib.hid (Y1.out.next b1)
  have x0 := BX.out.c0
  have x1 := BX.out.c1
  have x2 := BX.out.c2
  have x3 := BX.out.c3
  have xl := BX.out.lt
  have xf := BX.out.fz
  have y0 := BY.out.c0
  have y1 := BY.out.c1
  have y2 := BY.out.c2
  have y3 := BY.out.c3
  have yl := BY.out.lt
  have yf := BY.out.fz
  have B1 := Lib.hid (chain BW.out b1)
  have D1 := Lib.hid (HD.out.next (chain BW.out b1))
  rw [HUE.out]
  clear b1 HU X1 Y1
  by_cases u : ue = 0
  case neg =>
    have u0 : (ue != 0) = true := by simpa using u
    have hv : Hid (armV d n = (D0, ue)) := by show _ = _; unfold armV; rw [HUE.out, if_neg u]
    clear u
    go_wp2_with fail
    exact bodyPost_ret (v := .tuple #[.agg #[.slice none 0 0, .slice none 0 0, .int .i64 0, .bool false], .int .i64 ue]) (by simp [results, Tryd.results15, go_sem, y0, y1, y2, y3]) rfl ⟨_, by rw [hv.out]; try rfl, by rw [hv.out]; exact DAt.zero _, (by repeat (first | exact B1.out | refine Below.setCell ?_ (Nat.le_succ _) _ | refine Below.setCell ?_ (by simp) _))⟩
  case pos =>
    subst u
    by_cases t1 : n < 0
    · have hv : Hid (armV d n = (D0, 1)) := by show _ = _; unfold armV; rw [HUE.out, if_pos rfl, if_neg (by omega)]
      go_wp2_with fail
      exact bodyPost_ret (v := .tuple #[.agg #[.slice none 0 0, .slice none 0 0, .int .i64 0, .bool false], .int .i64 1]) (by simp [results, Tryd.results15, go_sem, y0, y1, y2, y3]) rfl ⟨_, by rw [hv.out]; try rfl, by rw [hv.out]; exact DAt.zero _, (by repeat (first | exact B1.out | refine Below.setCell ?_ (Nat.le_succ _) _ | refine Below.setCell ?_ (by simp) _))⟩
    by_cases t2 : 512 < n
    · have hv : Hid (armV d n = (D0, 1)) := by show _ = _; unfold armV; rw [HUE.out, if_pos rfl, if_neg (by omega)]
      go_wp2_with fail
      exact bodyPost_ret (v := .tuple #[.agg #[.slice none 0 0, .slice none 0 0, .int .i64 0, .bool false], .int .i64 1]) (by simp [results, Tryd.results15, go_sem, y0, y1, y2, y3]) rfl ⟨_, by rw [hv.out]; try rfl, by rw [hv.out]; exact DAt.zero _, (by repeat (first | exact B1.out | refine Below.setCell ?_ (Nat.le_succ _) _ | refine Below.setCell ?_ (by simp) _))⟩
    have hv : Hid (armV d n = (⟨d.secs, d.pend, n, d.down⟩, 0)) := by show _ = _; unfold armV; rw [HUE.out, if_pos rfl, if_pos ⟨by omega, by omega⟩]
    go_wp2_with fail
    exact bodyPost_ret (v := .tuple #[.agg #[.slice a d.secs.length c, .slice b d.pend.length c2, .int .i64 n, .bool dd], .int .i64 0]) (by simp [results, Tryd.results15, go_sem, y0, y1, y2, y3]) rfl ⟨_, by rw [hv.out]; try rfl, by rw [hv.out]; exact ((HD.out.next (by repeat (first | exact B1.out | refine Below.setCell ?_ (Nat.le_succ _) _ | refine Below.setCell ?_ (by simp) _))).arm n), (by repeat (first | exact B1.out | refine Below.setCell ?_ (Nat.le_succ _) _ | refine Below.setCell ?_ (by simp) _))⟩

end Go.Proofs.YtemldlhhlneleaaDoor
