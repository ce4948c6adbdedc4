/-
  The reference of journal: Format.
-/
import Derived.Test.YtemldlhhlneleaaDoorJrC
namespace Go.Proofs.YtemldlhhlneleaaDoor.Jn
open Go.RowKit Dk Wi

def fm1 (d : D) : D := ⟨d.secs, [(0, header 0)], d.left, false⟩
def fm2 (d : D) : D := ⟨d.secs, [(0, header 0), (1, header 0)], d.left, false⟩
def Fr (w : World) (n m : Nat) (dl : Int) (D1 : D) (x : Value) (W : World) : Prop := ∃ g a c b c2, x = .pointer (some ⟨g, 0, none⟩) ∧ Bx (.slice a n c) (.slice b m c2) dl false g W ∧ Bx (.slice none 0 0) (.slice none 0 0) 0 false (w.heap.size + 1) W ∧
  DAt W (.agg #[.slice a n c, .slice b m c2, .int .i64 dl, .bool false]) D1 ∧ Below w.heap.size w W ∧ w.heap.size + 1 < g
def fmV (d : D) : D × Int := if rdy d = 0 then (if d.secs.length < 3 then (D0, 6) else flV (fm2 d)) else (D0, rdy d)
theorem pad_16 {s : B} (h : s.size = 16) : pad s = s := by
  unfold pad
  rw [h]
  show s ++ (⟨#[]⟩ : ByteArray) = s
  exact ByteArray.append_empty
theorem fm_wr {d : D} (h : rdy d = 0) (h3 : ¬ d.secs.length < 3) : wrV d 0 (header 0) = (fm1 d, 0) ∧ wrV (fm1 d) 1 (header 0) = (fm2 d, 0) ∧ checkB (fm1 d) = true ∧ checkB (fm2 d) = true := by
  obtain ⟨h1, h2, hp⟩ := rdy_zero.1 h
  obtain ⟨⟨n1, n2, n3, n4, n5⟩, hs, -, -⟩ := check_iff.1 h1
  have hz := header_size 0
  have c1 : checkB (fm1 d) = true := check_iff.2 ⟨⟨n1, n2, by show 1 ≤ 512; decide, n4, n5⟩, hs, fun p hp => by
    rw [List.mem_singleton.1 hp]
    exact ⟨Int.le_refl _, by show (0 : Int) < (d.secs.length : Int); omega, hz⟩, fun e => by cases e⟩
  have c2 : checkB (fm2 d) = true := check_iff.2 ⟨⟨n1, n2, by show 2 ≤ 512; decide, n4, n5⟩, hs, fun p hp => by
    rcases List.mem_cons.1 hp with k | k
    · rw [k]; exact ⟨Int.le_refl _, by show (0 : Int) < (d.secs.length : Int); omega, hz⟩
    · rw [List.mem_singleton.1 k]; exact ⟨by decide, by show (1 : Int) < (d.secs.length : Int); omega, hz⟩, fun e => by cases e⟩
  refine ⟨?_, ?_, c1, c2⟩
  · unfold wrV
    rw [if_pos (upE_zero.2 ⟨h1, h2⟩), if_pos ⟨Int.le_refl _, by omega, by omega⟩, if_pos (by rw [hp]; decide), hp, pad_16 hz, h2]
    rfl
  · unfold wrV
    rw [if_pos (upE_zero.2 ⟨c1, rfl⟩), if_pos ⟨by decide, by show (1 : Int) < (d.secs.length : Int); omega, by omega⟩, if_pos (by show 1 < 512; decide), pad_16 hz]
    rfl
set_option maxHeartbeats 6400000 in
set_option maxRecDepth 100000 in
theorem Format_x (v : Value) (d : D) (w : World) (h : DAt w v d) (hf : Fit d) :
    Calls Tryd.prog 11 #[v] w fun r w' => ∃ x, r = .returned (.tuple #[x, .int .i64 (fmV d).2]) ∧ DAt w' x (fmV d).1 ∧ Below w.heap.size w w' := by
  obtain ⟨a, c, b, c2, rfl, -, -, -, -⟩ := h.form
  obtain ⟨dl, hdl⟩ : ∃ x, d.left = x := ⟨_, rfl⟩
  obtain ⟨dd, hdd⟩ : ∃ x, d.down = x := ⟨_, rfl⟩
  rw [hdl, hdd] at h
  have HD := Lib.hid h
  have HF := Lib.hid hf
  have hle := hf.secs
  rw [hdl, hdd]
  have HDL := Lib.hid hdl
  have HDD := Lib.hid hdd
  have BW : Hid (Below w.heap.size w ((w.alloc (.cells #[.slice a d.secs.length c, .slice b d.pend.length c2, .int .i64 dl, .bool dd] 27)).alloc (.cells #[.slice none 0 0, .slice none 0 0, .int .i64 0, .bool false] 27))) := chain (Below.new1 _) (Below.new1 _)
  have X1 : Hid (Bx (.slice a d.secs.length c) (.slice b d.pend.length c2) dl dd w.heap.size ((w.alloc (.cells #[.slice a d.secs.length c, .slice b d.pend.length c2, .int .i64 dl, .bool dd] 27)).alloc (.cells #[.slice none 0 0, .slice none 0 0, .int .i64 0, .bool false] 27))) := (Bx.new _ _ _ _ _ _).next (Below.new1 _)
  have Y1 : Hid (Bx (.slice none 0 0) (.slice none 0 0) 0 false (w.heap.size + 1) ((w.alloc (.cells #[.slice a d.secs.length c, .slice b d.pend.length c2, .int .i64 dl, .bool dd] 27)).alloc (.cells #[.slice none 0 0, .slice none 0 0, .int .i64 0, .bool false] 27))) := by
    have hy := Bx.new (w.alloc (.cells #[.slice a d.secs.length c, .slice b d.pend.length c2, .int .i64 dl, .bool dd] 27)) (.slice none 0 0) (.slice none 0 0) 0 false 27
    rw [show (w.alloc (.cells #[.slice a d.secs.length c, .slice b d.pend.length c2, .int .i64 dl, .bool dd] 27)).heap.size = w.heap.size + 1 by simp] at hy
    exact hy
  obtain ⟨e, he⟩ : ∃ e, rdy d = e := ⟨_, rfl⟩
  have HRE := Lib.hid he
  have HR : Hid (∀ W, Below w.heap.size w W → Calls Tryd.prog 35 #[.agg #[.slice a d.secs.length c, .slice b d.pend.length c2, .int .i64 dl, .bool dd]] W fun r w' => r = .returned (.int .i64 e) ∧ Below W.heap.size W w') := by
    show ∀ W, _
    intro W hW
    rw [← he]
    exact ready_x _ d W (HD.out.next hW) HF.out
  clear h hf hdl hdd he
  go_enter Tryd.func11, Tryd.ntmps11
  go_wp2_with fail
  refine (HR.out _ BW.out).mono ?_
  rintro r w1 ⟨rfl, b1⟩
  have BX := Lib.hid (X1.out.next b1)
  have BY := Lib.hid (Y1.out.next b1)
  have x0 := BX.out.c0
  have x1 := BX.out.c1
  have x2 := BX.out.c2
  have x3 := BX.out.c3
  have xl := BX.out.lt
  have y0 := BY.out.c0
  have y1 := BY.out.c1
  have y2 := BY.out.c2
  have y3 := BY.out.c3
  have yl := BY.out.lt
  have yf := BY.out.fz
  have B1 := Lib.hid (chain BW.out b1)
  clear b1 X1 Y1 HR
  by_cases e0 : e = 0
  case neg =>
    have u0 : (e != 0) = true := by simpa using e0
    have hv : Hid (fmV d = (D0, e)) := by show _ = _; unfold fmV; rw [HRE.out, if_neg e0]
    clear e0
    go_wp2_with fail
    exact bodyPost_ret (v := .tuple #[.agg #[.slice none 0 0, .slice none 0 0, .int .i64 0, .bool false], .int .i64 e]) (by simp [results, Tryd.results11, go_sem, y0, y1, y2, y3]) rfl ⟨_, by rw [hv.out]; try rfl, by rw [hv.out]; exact DAt.zero _, (by repeat (first | exact B1.out | refine Below.setCell ?_ (Nat.le_succ _) _ | refine Below.setCell ?_ (by simp) _))⟩
  case pos =>
  subst e0
  by_cases t3 : d.secs.length < 3
  · have f3 : (d.secs.length : Int) < 3 := by omega
    have hv : Hid (fmV d = (D0, 6)) := by show _ = _; unfold fmV; rw [HRE.out, if_pos rfl, if_pos t3]
    clear t3
    go_wp2_with fail
    exact bodyPost_ret (v := .tuple #[.agg #[.slice none 0 0, .slice none 0 0, .int .i64 0, .bool false], .int .i64 6]) (by simp [results, Tryd.results11, go_sem, y0, y1, y2, y3]) rfl ⟨_, by rw [hv.out]; try rfl, by rw [hv.out]; exact DAt.zero _, (by repeat (first | exact B1.out | refine Below.setCell ?_ (Nat.le_succ _) _ | refine Below.setCell ?_ (by simp) _))⟩
  have f3 : ¬ (d.secs.length : Int) < 3 := by omega
  obtain ⟨k1, k2, k3, k4⟩ := fm_wr HRE.out t3
  have HH : Hid (∀ W, Calls Tryd.prog 32 #[.int .i64 0] W fun r w' => r = .returned (.string (Jn.header 0)) ∧ W = w') := fun W => Header_x 0 W (by decide)
  have HW1 : Hid (∀ W, DAt W (.agg #[.slice a d.secs.length c, .slice b d.pend.length c2, .int .i64 dl, .bool dd]) d → Calls Tryd.prog 19 #[.agg #[.slice a d.secs.length c, .slice b d.pend.length c2, .int .i64 dl, .bool dd], .int .i64 0, .string (Jn.header 0)] W fun r w' => ∃ a c b c2, r = .returned (.tuple #[.agg #[.slice a d.secs.length c, .slice b 1 c2, .int .i64 d.left, .bool false], .int .i64 0]) ∧ DAt w' (.agg #[.slice a d.secs.length c, .slice b 1 c2, .int .i64 d.left, .bool false]) (fm1 d) ∧ Below W.heap.size W w') := by
    show ∀ W, _
    intro W hW
    exact conv_d (Write_x _ d 0 (Jn.header 0) W hW HF.out (by unfold I64; decide) (by rw [header_size]; decide)) k1
  have HW2 : Hid (∀ W v, DAt W v (fm1 d) → Calls Tryd.prog 19 #[v, .int .i64 1, .string (Jn.header 0)] W fun r w' => ∃ a c b c2, r = .returned (.tuple #[.agg #[.slice a d.secs.length c, .slice b 2 c2, .int .i64 d.left, .bool false], .int .i64 0]) ∧ DAt w' (.agg #[.slice a d.secs.length c, .slice b 2 c2, .int .i64 d.left, .bool false]) (fm2 d) ∧ Below W.heap.size W w') := by
    show ∀ W v, _
    intro W v hW
    exact conv_d (Write_x _ (fm1 d) 1 (Jn.header 0) W hW (fit_right k3) (by unfold I64; decide) (by rw [header_size]; decide)) k2
  obtain ⟨⟨fd, fe⟩, hfl⟩ : ∃ p, flV (fm2 d) = p := ⟨_, rfl⟩
  have HFL : Hid (∀ W v, DAt W v (fm2 d) → Calls Tryd.prog 36 #[v] W fun r w' => ∃ a c b c2, r = .returned (.tuple #[.agg #[.slice a fd.secs.length c, .slice b fd.pend.length c2, .int .i64 fd.left, .bool fd.down], .int .i64 fe]) ∧ DAt w' (.agg #[.slice a fd.secs.length c, .slice b fd.pend.length c2, .int .i64 fd.left, .bool fd.down]) fd ∧ Below W.heap.size W w') := by
    show ∀ W v, _
    intro W v hW
    exact conv_d (Flush_x _ (fm2 d) W hW (fit_right k4)) hfl
  have hv : Hid (fmV d = (fd, fe)) := by show _ = _; unfold fmV; rw [HRE.out, if_pos rfl, if_neg t3, hfl]
  clear k1 k2 k3 k4 hfl t3
  rw [HDL.out] at HW1 HW2
  go_upto_region 6 with fail
  clear x0 x1 x2 x3 xl y0 y1 y2 y3 yl yf
  have DS := Lib.hid (HD.out.next B1.out)
  go_cut [5] (fun x wx => Fr w d.secs.length 1 dl (fm1 d) x wx)
  case first =>
    have S1 := Lib.hid (BX.out.next (Below.refl _ _).drew)
    have Y1 := Lib.hid (BY.out.next (Below.refl _ _).drew)
    have B1' := Lib.hid (chain B1.out (Below.refl _ _).drew)
    have D1 := Lib.hid (DS.out.next (Below.refl _ _).drew)
    clear B1
    have B1 := Lib.hid B1'.out
    clear B1'
    have yl1 : w.heap.size + 1 < w1.heap.size := Y1.out.lt
    have sl1 : w.heap.size < w1.heap.size := S1.out.lt
    refine wp_region_held_drew (S := fun w' => w'.cell? ⟨w.heap.size, 0, none⟩ = some (.slice a d.secs.length c) ∧ w'.cell? ⟨w.heap.size, 1, none⟩ = some (.slice b d.pend.length c2) ∧ w'.cell? ⟨w.heap.size, 2, none⟩ = some (.int .i64 dl) ∧ w'.cell? ⟨w.heap.size, 3, none⟩ = some (.bool dd)) (by kernel_rfl) ?_ (fun hHeld => ?_)
    · exact ⟨S1.out.c0, S1.out.c1, S1.out.c2, S1.out.c3⟩
    refine takeN0 (v := ?_) (by kernel_rfl) (by kernel_rfl) (by kernel_rfl) (fun _ _ _ h => h) (by rfl) ?_ (by assumption) ?_
    rotate_left
    · intro wz hSw
      try dsimp only at hSw
      go_simp
      try with_reducible rfl
    try simp only [Act.put, List.setIfInBounds_toArray, List.set_cons_zero, List.set_cons_succ]
    refine wpAnyH_ready (rs := [1, 6]) (by kernel_rfl) (by simp) (AllReadyH.cons rfl (fun K hK => ?_) (AllReadyH.cons rfl (fun K hK => ?_) AllReadyH.nil))
    · rw [if_pos (by rfl)]
      go_simp
      (go_at_call 32; refine (HH.out _).mono ?_; rintro r w2 ⟨rfl, rfl⟩)
      try go_wp2_with fail
      refine hK.out _ _ ?_ (fun hHeld => ?_)
      · exact ⟨S1.out.c0, S1.out.c1, S1.out.c2, S1.out.c3⟩
      clear hK K
      try simp only [Act.put, List.setIfInBounds_toArray, List.set_cons_zero, List.set_cons_succ]
      refine wpAnyH_ready (rs := [2, 6]) (by kernel_rfl) (by simp) (AllReadyH.cons rfl (fun K hK => ?_) (AllReadyH.cons rfl (fun K hK => ?_) AllReadyH.nil))
      · rw [if_pos (by rfl)]
        go_simp
        (go_at_call 19; refine (HW1.out _ D1.out).mono ?_; rintro r w3 ⟨a3, c3, a4, c4, rfl, h3, b3⟩)
        try go_wp2_with fail
        have S3 := Lib.hid (S1.out.next b3)
        have Y3 := Lib.hid (Y1.out.next b3)
        have B3 := Lib.hid (chain B1.out b3)
        have H3 := Lib.hid h3
        clear h3 b3
        refine hK.out _ _ ?_ (fun hHeld => ?_)
        · exact ⟨S3.out.c0, S3.out.c1, S3.out.c2, S3.out.c3⟩
        clear hK K
        try simp only [Act.put, List.setIfInBounds_toArray, List.set_cons_zero, List.set_cons_succ]
        refine takeN3 (v := ?_) (by kernel_rfl) (by kernel_rfl) (by kernel_rfl) (fun _ _ _ h => h) (by rfl) ?_ (by assumption) ?_
        rotate_left
        · intro wz hSw
          try dsimp only at hSw
          go_simp
          try with_reducible rfl
        try simp only [Act.put, List.setIfInBounds_toArray, List.set_cons_zero, List.set_cons_succ]
        refine takeN4 (v := ?_) (by kernel_rfl) (by kernel_rfl) (by kernel_rfl) (fun _ _ _ h => h) (by rfl) ?_ (by assumption) ?_
        rotate_left
        · intro wz hSw
          try dsimp only at hSw
          go_simp
          try with_reducible rfl
        try simp only [Act.put, List.setIfInBounds_toArray, List.set_cons_zero, List.set_cons_succ]
        refine takeN5 (v := ?_) (by kernel_rfl) (by kernel_rfl) (by kernel_rfl) (fun _ _ _ h => h) (by rfl) ?_ (by assumption) ?_
        rotate_left
        · intro wz hSw
          try dsimp only at hSw
          go_simp
          try with_reducible rfl
        try simp only [Act.put, List.setIfInBounds_toArray, List.set_cons_zero, List.set_cons_succ]
        refine comeN6 (by kernel_rfl) (by rfl) (fun K hK => ?_)
        go_simp
        have S4 := Lib.hid (S3.out.next (Below.new1 (.cells #[.slice none 0 0, .slice none 0 0, .int .i64 0, .bool false] 27)))
        refine hK.out _ _ ?_ (fun hHeld => ?_)
        · exact ⟨S4.out.c0, S4.out.c1, S4.out.c2, S4.out.c3⟩
        clear hK K
        try simp only [Act.put, List.setIfInBounds_toArray, List.set_cons_zero, List.set_cons_succ]
        refine comeN7 (by kernel_rfl) (by rfl) (fun K hK => ?_)
        go_simp
        have S5 := Lib.hid (S3.out.next (Below.new1 (.cells #[.slice a3 d.secs.length c3, .slice a4 1 c4, .int .i64 dl, .bool false] 27)))
        have Y5 := Lib.hid (Y3.out.next (Below.new1 (.cells #[.slice a3 d.secs.length c3, .slice a4 1 c4, .int .i64 dl, .bool false] 27)))
        have P5 := Lib.hid (Bx.new w3 (.slice a3 d.secs.length c3) (.slice a4 1 c4) dl false 27)
        have H5 := Lib.hid (H3.out.next (Below.new1 (.cells #[.slice a3 d.secs.length c3, .slice a4 1 c4, .int .i64 dl, .bool false] 27)))
        have B5 := Lib.hid (chain B3.out (Below.new1 (.cells #[.slice a3 d.secs.length c3, .slice a4 1 c4, .int .i64 dl, .bool false] 27)))
        have yl3 : w.heap.size + 1 < w3.heap.size := Y3.out.lt
        refine hK.out _ _ ?_ (fun hHeld => ?_)
        · exact ⟨S5.out.c0, S5.out.c1, S5.out.c2, S5.out.c3⟩
        clear hK K
        try simp only [Act.put, List.setIfInBounds_toArray, List.set_cons_zero, List.set_cons_succ]
        refine takeN8 (v := ?_) (by kernel_rfl) (by kernel_rfl) (by kernel_rfl) (fun _ _ _ h => h) (by rfl) ?_ (by assumption) ?_
        rotate_left
        · intro wz hSw
          try dsimp only at hSw
          go_simp
          try with_reducible rfl
        try simp only [Act.put, List.setIfInBounds_toArray, List.set_cons_zero, List.set_cons_succ]
        refine wpAnyH_done (by kernel_rfl) ?_ _
        go_wp2_with fail
        go_meet
        exact ⟨w3.heap.size, a3, c3, a4, c4, rfl, P5.out, Y5.out, H5.out, B5.out, by omega⟩
      · rw [if_pos (by rfl)]
        go_simp
        have S2 := Lib.hid (S1.out.next (Below.new1 (.cells #[.slice none 0 0, .slice none 0 0, .int .i64 0, .bool false] 27)))
        have Y2 := Lib.hid (Y1.out.next (Below.new1 (.cells #[.slice none 0 0, .slice none 0 0, .int .i64 0, .bool false] 27)))
        have B2 := Lib.hid (chain B1.out (Below.new1 (.cells #[.slice none 0 0, .slice none 0 0, .int .i64 0, .bool false] 27)))
        have D2 := Lib.hid (D1.out.next (Below.new1 (.cells #[.slice none 0 0, .slice none 0 0, .int .i64 0, .bool false] 27)))
        have P2 : Hid (Bx (.slice none 0 0) (.slice none 0 0) 0 false w1.heap.size (w1.drew.alloc (.cells #[.slice none 0 0, .slice none 0 0, .int .i64 0, .bool false] 27))) := Bx.new w1.drew (.slice none 0 0) (.slice none 0 0) 0 false 27
        refine hK.out _ _ ?_ (fun hHeld => ?_)
        · exact ⟨S2.out.c0, S2.out.c1, S2.out.c2, S2.out.c3⟩
        clear hK K
        try simp only [Act.put, List.setIfInBounds_toArray, List.set_cons_zero, List.set_cons_succ]
        refine comeN2 (by kernel_rfl) (by rfl) (fun K hK => ?_)
        go_simp
        (go_at_call 19; refine (HW1.out _ D2.out).mono ?_; rintro r w3 ⟨a3, c3, a4, c4, rfl, h3, b3⟩)
        try go_wp2_with fail
        have S3 := Lib.hid (S2.out.next b3)
        have Y3 := Lib.hid (Y2.out.next b3)
        have B3 := Lib.hid (chain B2.out b3)
        have H3 := Lib.hid h3
        have P3 := Lib.hid (P2.out.next b3)
        clear h3 b3
        refine hK.out _ _ ?_ (fun hHeld => ?_)
        · exact ⟨S3.out.c0, S3.out.c1, S3.out.c2, S3.out.c3⟩
        clear hK K
        try simp only [Act.put, List.setIfInBounds_toArray, List.set_cons_zero, List.set_cons_succ]
        refine takeN3 (v := ?_) (by kernel_rfl) (by kernel_rfl) (by kernel_rfl) (fun _ _ _ h => h) (by rfl) ?_ (by assumption) ?_
        rotate_left
        · intro wz hSw
          try dsimp only at hSw
          go_simp
          try with_reducible rfl
        try simp only [Act.put, List.setIfInBounds_toArray, List.set_cons_zero, List.set_cons_succ]
        refine takeN4 (v := ?_) (by kernel_rfl) (by kernel_rfl) (by kernel_rfl) (fun _ _ _ h => h) (by rfl) ?_ (by assumption) ?_
        rotate_left
        · intro wz hSw
          try dsimp only at hSw
          go_simp
          try with_reducible rfl
        try simp only [Act.put, List.setIfInBounds_toArray, List.set_cons_zero, List.set_cons_succ]
        refine takeN5 (v := ?_) (by kernel_rfl) (by kernel_rfl) (by kernel_rfl) (fun _ _ _ h => h) (by rfl) ?_ (by assumption) ?_
        rotate_left
        · intro wz hSw
          try dsimp only at hSw
          go_simp
          try with_reducible rfl
        try simp only [Act.put, List.setIfInBounds_toArray, List.set_cons_zero, List.set_cons_succ]
        refine comeN7 (by kernel_rfl) (by rfl) (fun K hK => ?_)
        have p0 := P3.out.c0
        have p1 := P3.out.c1
        have p2 := P3.out.c2
        have p3 := P3.out.c3
        have pf := P3.out.fz
        have pl := P3.out.lt
        go_simp
        have S5 := Lib.hid (S3.out.putO (g := w1.heap.size) (by omega) (.slice a3 d.secs.length c3) (.slice a4 1 c4) dl false)
        have Y5 := Lib.hid (Y3.out.putO (g := w1.heap.size) (by omega) (.slice a3 d.secs.length c3) (.slice a4 1 c4) dl false)
        have P5 := Lib.hid (P3.out.put (.slice a3 d.secs.length c3) (.slice a4 1 c4) dl false)
        have H5 := Lib.hid (H3.out.put P3.out (fun s => by simp) (fun s => by simp) (.slice a3 d.secs.length c3) (.slice a4 1 c4) dl false)
        have B5 := Lib.hid (below_put B3.out (g := w1.heap.size) (by omega) (.slice a3 d.secs.length c3) (.slice a4 1 c4) dl false)
        clear p0 p1 p2 p3 pf pl
        refine hK.out _ _ ?_ (fun hHeld => ?_)
        · exact ⟨S5.out.c0, S5.out.c1, S5.out.c2, S5.out.c3⟩
        clear hK K
        try simp only [Act.put, List.setIfInBounds_toArray, List.set_cons_zero, List.set_cons_succ]
        refine takeN8 (v := ?_) (by kernel_rfl) (by kernel_rfl) (by kernel_rfl) (fun _ _ _ h => h) (by rfl) ?_ (by assumption) ?_
        rotate_left
        · intro wz hSw
          try dsimp only at hSw
          go_simp
          try with_reducible rfl
        try simp only [Act.put, List.setIfInBounds_toArray, List.set_cons_zero, List.set_cons_succ]
        refine wpAnyH_done (by kernel_rfl) ?_ _
        go_wp2_with fail
        go_meet
        exact ⟨w1.heap.size, a3, c3, a4, c4, rfl, P5.out, Y5.out, H5.out, B5.out, by omega⟩
    · rw [if_pos (by rfl)]
      go_simp
      have S2 := Lib.hid (S1.out.next (Below.new1 (.cells #[.slice none 0 0, .slice none 0 0, .int .i64 0, .bool false] 27)))
      have Y2 := Lib.hid (Y1.out.next (Below.new1 (.cells #[.slice none 0 0, .slice none 0 0, .int .i64 0, .bool false] 27)))
      have B2 := Lib.hid (chain B1.out (Below.new1 (.cells #[.slice none 0 0, .slice none 0 0, .int .i64 0, .bool false] 27)))
      have D2 := Lib.hid (D1.out.next (Below.new1 (.cells #[.slice none 0 0, .slice none 0 0, .int .i64 0, .bool false] 27)))
      have P2 : Hid (Bx (.slice none 0 0) (.slice none 0 0) 0 false w1.heap.size (w1.drew.alloc (.cells #[.slice none 0 0, .slice none 0 0, .int .i64 0, .bool false] 27))) := Bx.new w1.drew (.slice none 0 0) (.slice none 0 0) 0 false 27
      refine hK.out _ _ ?_ (fun hHeld => ?_)
      · exact ⟨S2.out.c0, S2.out.c1, S2.out.c2, S2.out.c3⟩
      clear hK K
      try simp only [Act.put, List.setIfInBounds_toArray, List.set_cons_zero, List.set_cons_succ]
      refine comeN1 (by kernel_rfl) (by rfl) (fun K hK => ?_)
      go_simp
      (go_at_call 32; refine (HH.out _).mono ?_; rintro r w2 ⟨rfl, rfl⟩)
      try go_wp2_with fail
      refine hK.out _ _ ?_ (fun hHeld => ?_)
      · exact ⟨S2.out.c0, S2.out.c1, S2.out.c2, S2.out.c3⟩
      clear hK K
      try simp only [Act.put, List.setIfInBounds_toArray, List.set_cons_zero, List.set_cons_succ]
      refine comeN2 (by kernel_rfl) (by rfl) (fun K hK => ?_)
      go_simp
      (go_at_call 19; refine (HW1.out _ D2.out).mono ?_; rintro r w3 ⟨a3, c3, a4, c4, rfl, h3, b3⟩)
      try go_wp2_with fail
      have S3 := Lib.hid (S2.out.next b3)
      have Y3 := Lib.hid (Y2.out.next b3)
      have B3 := Lib.hid (chain B2.out b3)
      have H3 := Lib.hid h3
      have P3 := Lib.hid (P2.out.next b3)
      clear h3 b3
      refine hK.out _ _ ?_ (fun hHeld => ?_)
      · exact ⟨S3.out.c0, S3.out.c1, S3.out.c2, S3.out.c3⟩
      clear hK K
      try simp only [Act.put, List.setIfInBounds_toArray, List.set_cons_zero, List.set_cons_succ]
      refine takeN3 (v := ?_) (by kernel_rfl) (by kernel_rfl) (by kernel_rfl) (fun _ _ _ h => h) (by rfl) ?_ (by assumption) ?_
      rotate_left
      · intro wz hSw
        try dsimp only at hSw
        go_simp
        try with_reducible rfl
      try simp only [Act.put, List.setIfInBounds_toArray, List.set_cons_zero, List.set_cons_succ]
      refine takeN4 (v := ?_) (by kernel_rfl) (by kernel_rfl) (by kernel_rfl) (fun _ _ _ h => h) (by rfl) ?_ (by assumption) ?_
      rotate_left
      · intro wz hSw
        try dsimp only at hSw
        go_simp
        try with_reducible rfl
      try simp only [Act.put, List.setIfInBounds_toArray, List.set_cons_zero, List.set_cons_succ]
      refine takeN5 (v := ?_) (by kernel_rfl) (by kernel_rfl) (by kernel_rfl) (fun _ _ _ h => h) (by rfl) ?_ (by assumption) ?_
      rotate_left
      · intro wz hSw
        try dsimp only at hSw
        go_simp
        try with_reducible rfl
      try simp only [Act.put, List.setIfInBounds_toArray, List.set_cons_zero, List.set_cons_succ]
      refine comeN7 (by kernel_rfl) (by rfl) (fun K hK => ?_)
      have p0 := P3.out.c0
      have p1 := P3.out.c1
      have p2 := P3.out.c2
      have p3 := P3.out.c3
      have pf := P3.out.fz
      have pl := P3.out.lt
      go_simp
      have S5 := Lib.hid (S3.out.putO (g := w1.heap.size) (by omega) (.slice a3 d.secs.length c3) (.slice a4 1 c4) dl false)
      have Y5 := Lib.hid (Y3.out.putO (g := w1.heap.size) (by omega) (.slice a3 d.secs.length c3) (.slice a4 1 c4) dl false)
      have P5 := Lib.hid (P3.out.put (.slice a3 d.secs.length c3) (.slice a4 1 c4) dl false)
      have H5 := Lib.hid (H3.out.put P3.out (fun s => by simp) (fun s => by simp) (.slice a3 d.secs.length c3) (.slice a4 1 c4) dl false)
      have B5 := Lib.hid (below_put B3.out (g := w1.heap.size) (by omega) (.slice a3 d.secs.length c3) (.slice a4 1 c4) dl false)
      clear p0 p1 p2 p3 pf pl
      refine hK.out _ _ ?_ (fun hHeld => ?_)
      · exact ⟨S5.out.c0, S5.out.c1, S5.out.c2, S5.out.c3⟩
      clear hK K
      try simp only [Act.put, List.setIfInBounds_toArray, List.set_cons_zero, List.set_cons_succ]
      refine takeN8 (v := ?_) (by kernel_rfl) (by kernel_rfl) (by kernel_rfl) (fun _ _ _ h => h) (by rfl) ?_ (by assumption) ?_
      rotate_left
      · intro wz hSw
        try dsimp only at hSw
        go_simp
        try with_reducible rfl
      try simp only [Act.put, List.setIfInBounds_toArray, List.set_cons_zero, List.set_cons_succ]
      refine wpAnyH_done (by kernel_rfl) ?_ _
      go_wp2_with fail
      go_meet
      exact ⟨w1.heap.size, a3, c3, a4, c4, rfl, P5.out, Y5.out, H5.out, B5.out, by omega⟩
  case rest =>
    clear BX BY B1 DS HW1 HD
    obtain ⟨g1, a1, c1, b1, e1, rfl, hP, hY, hH, hB, hg⟩ := hcut
    have BX := Lib.hid hP
    have BY := Lib.hid hY
    have DS := Lib.hid hH
    have B1 := Lib.hid hB
    clear hP hY hH hB
    go_upto_region 7 with fail
    go_cut [7] (fun x wx => Fr w d.secs.length 2 dl (fm2 d) x wx)
    case first =>
      have S1 := Lib.hid (BX.out.next (Below.refl _ _).drew)
      have Y1 := Lib.hid (BY.out.next (Below.refl _ _).drew)
      have B1' := Lib.hid (chain B1.out (Below.refl _ _).drew)
      have D1 := Lib.hid (DS.out.next (Below.refl _ _).drew)
      clear B1
      have B1 := Lib.hid B1'.out
      clear B1'
      have yl1 : w.heap.size + 1 < wc.heap.size := Y1.out.lt
      have sl1 : g1 < wc.heap.size := S1.out.lt
      refine wp_region_held_drew (S := fun w' => w'.cell? ⟨g1, 0, none⟩ = some (.slice a1 d.secs.length c1) ∧ w'.cell? ⟨g1, 1, none⟩ = some (.slice b1 1 e1) ∧ w'.cell? ⟨g1, 2, none⟩ = some (.int .i64 dl) ∧ w'.cell? ⟨g1, 3, none⟩ = some (.bool false)) (by kernel_rfl) ?_ (fun hHeld => ?_)
      · exact ⟨S1.out.c0, S1.out.c1, S1.out.c2, S1.out.c3⟩
      refine takeN0 (v := ?_) (by kernel_rfl) (by kernel_rfl) (by kernel_rfl) (fun _ _ _ h => h) (by rfl) ?_ (by assumption) ?_
      rotate_left
      · intro wz hSw
        try dsimp only at hSw
        go_simp
        try with_reducible rfl
      try simp only [Act.put, List.setIfInBounds_toArray, List.set_cons_zero, List.set_cons_succ]
      refine wpAnyH_ready (rs := [1, 6]) (by kernel_rfl) (by simp) (AllReadyH.cons rfl (fun K hK => ?_) (AllReadyH.cons rfl (fun K hK => ?_) AllReadyH.nil))
      · rw [if_pos (by rfl)]
        go_simp
        (go_at_call 32; refine (HH.out _).mono ?_; rintro r w2 ⟨rfl, rfl⟩)
        try go_wp2_with fail
        refine hK.out _ _ ?_ (fun hHeld => ?_)
        · exact ⟨S1.out.c0, S1.out.c1, S1.out.c2, S1.out.c3⟩
        clear hK K
        try simp only [Act.put, List.setIfInBounds_toArray, List.set_cons_zero, List.set_cons_succ]
        refine wpAnyH_ready (rs := [2, 6]) (by kernel_rfl) (by simp) (AllReadyH.cons rfl (fun K hK => ?_) (AllReadyH.cons rfl (fun K hK => ?_) AllReadyH.nil))
        · rw [if_pos (by rfl)]
          go_simp
          (go_at_call 19; refine (HW2.out _ _ D1.out).mono ?_; rintro r w3 ⟨a3, c3, a4, c4, rfl, h3, b3⟩)
          try go_wp2_with fail
          have S3 := Lib.hid (S1.out.next b3)
          have Y3 := Lib.hid (Y1.out.next b3)
          have B3 := Lib.hid (chain B1.out b3)
          have H3 := Lib.hid h3
          clear h3 b3
          refine hK.out _ _ ?_ (fun hHeld => ?_)
          · exact ⟨S3.out.c0, S3.out.c1, S3.out.c2, S3.out.c3⟩
          clear hK K
          try simp only [Act.put, List.setIfInBounds_toArray, List.set_cons_zero, List.set_cons_succ]
          refine takeN3 (v := ?_) (by kernel_rfl) (by kernel_rfl) (by kernel_rfl) (fun _ _ _ h => h) (by rfl) ?_ (by assumption) ?_
          rotate_left
          · intro wz hSw
            try dsimp only at hSw
            go_simp
            try with_reducible rfl
          try simp only [Act.put, List.setIfInBounds_toArray, List.set_cons_zero, List.set_cons_succ]
          refine takeN4 (v := ?_) (by kernel_rfl) (by kernel_rfl) (by kernel_rfl) (fun _ _ _ h => h) (by rfl) ?_ (by assumption) ?_
          rotate_left
          · intro wz hSw
            try dsimp only at hSw
            go_simp
            try with_reducible rfl
          try simp only [Act.put, List.setIfInBounds_toArray, List.set_cons_zero, List.set_cons_succ]
          refine takeN5 (v := ?_) (by kernel_rfl) (by kernel_rfl) (by kernel_rfl) (fun _ _ _ h => h) (by rfl) ?_ (by assumption) ?_
          rotate_left
          · intro wz hSw
            try dsimp only at hSw
            go_simp
            try with_reducible rfl
          try simp only [Act.put, List.setIfInBounds_toArray, List.set_cons_zero, List.set_cons_succ]
          refine comeN6 (by kernel_rfl) (by rfl) (fun K hK => ?_)
          go_simp
          have S4 := Lib.hid (S3.out.next (Below.new1 (.cells #[.slice none 0 0, .slice none 0 0, .int .i64 0, .bool false] 27)))
          refine hK.out _ _ ?_ (fun hHeld => ?_)
          · exact ⟨S4.out.c0, S4.out.c1, S4.out.c2, S4.out.c3⟩
          clear hK K
          try simp only [Act.put, List.setIfInBounds_toArray, List.set_cons_zero, List.set_cons_succ]
          refine comeN7 (by kernel_rfl) (by rfl) (fun K hK => ?_)
          go_simp
          have S5 := Lib.hid (S3.out.next (Below.new1 (.cells #[.slice a3 d.secs.length c3, .slice a4 2 c4, .int .i64 dl, .bool false] 27)))
          have Y5 := Lib.hid (Y3.out.next (Below.new1 (.cells #[.slice a3 d.secs.length c3, .slice a4 2 c4, .int .i64 dl, .bool false] 27)))
          have P5 := Lib.hid (Bx.new w3 (.slice a3 d.secs.length c3) (.slice a4 2 c4) dl false 27)
          have H5 := Lib.hid (H3.out.next (Below.new1 (.cells #[.slice a3 d.secs.length c3, .slice a4 2 c4, .int .i64 dl, .bool false] 27)))
          have B5 := Lib.hid (chain B3.out (Below.new1 (.cells #[.slice a3 d.secs.length c3, .slice a4 2 c4, .int .i64 dl, .bool false] 27)))
          have yl3 : w.heap.size + 1 < w3.heap.size := Y3.out.lt
          refine hK.out _ _ ?_ (fun hHeld => ?_)
          · exact ⟨S5.out.c0, S5.out.c1, S5.out.c2, S5.out.c3⟩
          clear hK K
          try simp only [Act.put, List.setIfInBounds_toArray, List.set_cons_zero, List.set_cons_succ]
          refine takeN8 (v := ?_) (by kernel_rfl) (by kernel_rfl) (by kernel_rfl) (fun _ _ _ h => h) (by rfl) ?_ (by assumption) ?_
          rotate_left
          · intro wz hSw
            try dsimp only at hSw
            go_simp
            try with_reducible rfl
          try simp only [Act.put, List.setIfInBounds_toArray, List.set_cons_zero, List.set_cons_succ]
          refine wpAnyH_done (by kernel_rfl) ?_ _
          go_wp2_with fail
          go_meet
          exact ⟨w3.heap.size, a3, c3, a4, c4, rfl, P5.out, Y5.out, H5.out, B5.out, by omega⟩
        · rw [if_pos (by rfl)]
          go_simp
          have S2 := Lib.hid (S1.out.next (Below.new1 (.cells #[.slice none 0 0, .slice none 0 0, .int .i64 0, .bool false] 27)))
          have Y2 := Lib.hid (Y1.out.next (Below.new1 (.cells #[.slice none 0 0, .slice none 0 0, .int .i64 0, .bool false] 27)))
          have B2 := Lib.hid (chain B1.out (Below.new1 (.cells #[.slice none 0 0, .slice none 0 0, .int .i64 0, .bool false] 27)))
          have D2 := Lib.hid (D1.out.next (Below.new1 (.cells #[.slice none 0 0, .slice none 0 0, .int .i64 0, .bool false] 27)))
          have P2 : Hid (Bx (.slice none 0 0) (.slice none 0 0) 0 false wc.heap.size (wc.drew.alloc (.cells #[.slice none 0 0, .slice none 0 0, .int .i64 0, .bool false] 27))) := Bx.new wc.drew (.slice none 0 0) (.slice none 0 0) 0 false 27
          refine hK.out _ _ ?_ (fun hHeld => ?_)
          · exact ⟨S2.out.c0, S2.out.c1, S2.out.c2, S2.out.c3⟩
          clear hK K
          try simp only [Act.put, List.setIfInBounds_toArray, List.set_cons_zero, List.set_cons_succ]
          refine comeN2 (by kernel_rfl) (by rfl) (fun K hK => ?_)
          go_simp
          (go_at_call 19; refine (HW2.out _ _ D2.out).mono ?_; rintro r w3 ⟨a3, c3, a4, c4, rfl, h3, b3⟩)
          try go_wp2_with fail
          have S3 := Lib.hid (S2.out.next b3)
          have Y3 := Lib.hid (Y2.out.next b3)
          have B3 := Lib.hid (chain B2.out b3)
          have H3 := Lib.hid h3
          have P3 := Lib.hid (P2.out.next b3)
          clear h3 b3
          refine hK.out _ _ ?_ (fun hHeld => ?_)
          · exact ⟨S3.out.c0, S3.out.c1, S3.out.c2, S3.out.c3⟩
          clear hK K
          try simp only [Act.put, List.setIfInBounds_toArray, List.set_cons_zero, List.set_cons_succ]
          refine takeN3 (v := ?_) (by kernel_rfl) (by kernel_rfl) (by kernel_rfl) (fun _ _ _ h => h) (by rfl) ?_ (by assumption) ?_
          rotate_left
          · intro wz hSw
            try dsimp only at hSw
            go_simp
            try with_reducible rfl
          try simp only [Act.put, List.setIfInBounds_toArray, List.set_cons_zero, List.set_cons_succ]
          refine takeN4 (v := ?_) (by kernel_rfl) (by kernel_rfl) (by kernel_rfl) (fun _ _ _ h => h) (by rfl) ?_ (by assumption) ?_
          rotate_left
          · intro wz hSw
            try dsimp only at hSw
            go_simp
            try with_reducible rfl
          try simp only [Act.put, List.setIfInBounds_toArray, List.set_cons_zero, List.set_cons_succ]
          refine takeN5 (v := ?_) (by kernel_rfl) (by kernel_rfl) (by kernel_rfl) (fun _ _ _ h => h) (by rfl) ?_ (by assumption) ?_
          rotate_left
          · intro wz hSw
            try dsimp only at hSw
            go_simp
            try with_reducible rfl
          try simp only [Act.put, List.setIfInBounds_toArray, List.set_cons_zero, List.set_cons_succ]
          refine comeN7 (by kernel_rfl) (by rfl) (fun K hK => ?_)
          have p0 := P3.out.c0
          have p1 := P3.out.c1
          have p2 := P3.out.c2
          have p3 := P3.out.c3
          have pf := P3.out.fz
          have pl := P3.out.lt
          go_simp
          have S5 := Lib.hid (S3.out.putO (g := wc.heap.size) (by omega) (.slice a3 d.secs.length c3) (.slice a4 2 c4) dl false)
          have Y5 := Lib.hid (Y3.out.putO (g := wc.heap.size) (by omega) (.slice a3 d.secs.length c3) (.slice a4 2 c4) dl false)
          have P5 := Lib.hid (P3.out.put (.slice a3 d.secs.length c3) (.slice a4 2 c4) dl false)
          have H5 := Lib.hid (H3.out.put P3.out (fun s => by simp) (fun s => by simp) (.slice a3 d.secs.length c3) (.slice a4 2 c4) dl false)
          have B5 := Lib.hid (below_put B3.out (g := wc.heap.size) (by omega) (.slice a3 d.secs.length c3) (.slice a4 2 c4) dl false)
          clear p0 p1 p2 p3 pf pl
          refine hK.out _ _ ?_ (fun hHeld => ?_)
          · exact ⟨S5.out.c0, S5.out.c1, S5.out.c2, S5.out.c3⟩
          clear hK K
          try simp only [Act.put, List.setIfInBounds_toArray, List.set_cons_zero, List.set_cons_succ]
          refine takeN8 (v := ?_) (by kernel_rfl) (by kernel_rfl) (by kernel_rfl) (fun _ _ _ h => h) (by rfl) ?_ (by assumption) ?_
          rotate_left
          · intro wz hSw
            try dsimp only at hSw
            go_simp
            try with_reducible rfl
          try simp only [Act.put, List.setIfInBounds_toArray, List.set_cons_zero, List.set_cons_succ]
          refine wpAnyH_done (by kernel_rfl) ?_ _
          go_wp2_with fail
          go_meet
          exact ⟨wc.heap.size, a3, c3, a4, c4, rfl, P5.out, Y5.out, H5.out, B5.out, by omega⟩
      · rw [if_pos (by rfl)]
        go_simp
        have S2 := Lib.hid (S1.out.next (Below.new1 (.cells #[.slice none 0 0, .slice none 0 0, .int .i64 0, .bool false] 27)))
        have Y2 := Lib.hid (Y1.out.next (Below.new1 (.cells #[.slice none 0 0, .slice none 0 0, .int .i64 0, .bool false] 27)))
        have B2 := Lib.hid (chain B1.out (Below.new1 (.cells #[.slice none 0 0, .slice none 0 0, .int .i64 0, .bool false] 27)))
        have D2 := Lib.hid (D1.out.next (Below.new1 (.cells #[.slice none 0 0, .slice none 0 0, .int .i64 0, .bool false] 27)))
        have P2 : Hid (Bx (.slice none 0 0) (.slice none 0 0) 0 false wc.heap.size (wc.drew.alloc (.cells #[.slice none 0 0, .slice none 0 0, .int .i64 0, .bool false] 27))) := Bx.new wc.drew (.slice none 0 0) (.slice none 0 0) 0 false 27
        refine hK.out _ _ ?_ (fun hHeld => ?_)
        · exact ⟨S2.out.c0, S2.out.c1, S2.out.c2, S2.out.c3⟩
        clear hK K
        try simp only [Act.put, List.setIfInBounds_toArray, List.set_cons_zero, List.set_cons_succ]
        refine comeN1 (by kernel_rfl) (by rfl) (fun K hK => ?_)
        go_simp
        (go_at_call 32; refine (HH.out _).mono ?_; rintro r w2 ⟨rfl, rfl⟩)
        try go_wp2_with fail
        refine hK.out _ _ ?_ (fun hHeld => ?_)
        · exact ⟨S2.out.c0, S2.out.c1, S2.out.c2, S2.out.c3⟩
        clear hK K
        try simp only [Act.put, List.setIfInBounds_toArray, List.set_cons_zero, List.set_cons_succ]
        refine comeN2 (by kernel_rfl) (by rfl) (fun K hK => ?_)
        go_simp
        (go_at_call 19; refine (HW2.out _ _ D2.out).mono ?_; rintro r w3 ⟨a3, c3, a4, c4, rfl, h3, b3⟩)
        try go_wp2_with fail
        have S3 := Lib.hid (S2.out.next b3)
        have Y3 := Lib.hid (Y2.out.next b3)
        have B3 := Lib.hid (chain B2.out b3)
        have H3 := Lib.hid h3
        have P3 := Lib.hid (P2.out.next b3)
        clear h3 b3
        refine hK.out _ _ ?_ (fun hHeld => ?_)
        · exact ⟨S3.out.c0, S3.out.c1, S3.out.c2, S3.out.c3⟩
        clear hK K
        try simp only [Act.put, List.setIfInBounds_toArray, List.set_cons_zero, List.set_cons_succ]
        refine takeN3 (v := ?_) (by kernel_rfl) (by kernel_rfl) (by kernel_rfl) (fun _ _ _ h => h) (by rfl) ?_ (by assumption) ?_
        rotate_left
        · intro wz hSw
          try dsimp only at hSw
          go_simp
          try with_reducible rfl
        try simp only [Act.put, List.setIfInBounds_toArray, List.set_cons_zero, List.set_cons_succ]
        refine takeN4 (v := ?_) (by kernel_rfl) (by kernel_rfl) (by kernel_rfl) (fun _ _ _ h => h) (by rfl) ?_ (by assumption) ?_
        rotate_left
        · intro wz hSw
          try dsimp only at hSw
          go_simp
          try with_reducible rfl
        try simp only [Act.put, List.setIfInBounds_toArray, List.set_cons_zero, List.set_cons_succ]
        refine takeN5 (v := ?_) (by kernel_rfl) (by kernel_rfl) (by kernel_rfl) (fun _ _ _ h => h) (by rfl) ?_ (by assumption) ?_
        rotate_left
        · intro wz hSw
          try dsimp only at hSw
          go_simp
          try with_reducible rfl
        try simp only [Act.put, List.setIfInBounds_toArray, List.set_cons_zero, List.set_cons_succ]
        refine comeN7 (by kernel_rfl) (by rfl) (fun K hK => ?_)
        have p0 := P3.out.c0
        have p1 := P3.out.c1
        have p2 := P3.out.c2
        have p3 := P3.out.c3
        have pf := P3.out.fz
        have pl := P3.out.lt
        go_simp
        have S5 := Lib.hid (S3.out.putO (g := wc.heap.size) (by omega) (.slice a3 d.secs.length c3) (.slice a4 2 c4) dl false)
        have Y5 := Lib.hid (Y3.out.putO (g := wc.heap.size) (by omega) (.slice a3 d.secs.length c3) (.slice a4 2 c4) dl false)
        have P5 := Lib.hid (P3.out.put (.slice a3 d.secs.length c3) (.slice a4 2 c4) dl false)
        have H5 := Lib.hid (H3.out.put P3.out (fun s => by simp) (fun s => by simp) (.slice a3 d.secs.length c3) (.slice a4 2 c4) dl false)
        have B5 := Lib.hid (below_put B3.out (g := wc.heap.size) (by omega) (.slice a3 d.secs.length c3) (.slice a4 2 c4) dl false)
        clear p0 p1 p2 p3 pf pl
        refine hK.out _ _ ?_ (fun hHeld => ?_)
        · exact ⟨S5.out.c0, S5.out.c1, S5.out.c2, S5.out.c3⟩
        clear hK K
        try simp only [Act.put, List.setIfInBounds_toArray, List.set_cons_zero, List.set_cons_succ]
        refine takeN8 (v := ?_) (by kernel_rfl) (by kernel_rfl) (by kernel_rfl) (fun _ _ _ h => h) (by rfl) ?_ (by assumption) ?_
        rotate_left
        · intro wz hSw
          try dsimp only at hSw
          go_simp
          try with_reducible rfl
        try simp only [Act.put, List.setIfInBounds_toArray, List.set_cons_zero, List.set_cons_succ]
        refine wpAnyH_done (by kernel_rfl) ?_ _
        go_wp2_with fail
        go_meet
        exact ⟨wc.heap.size, a3, c3, a4, c4, rfl, P5.out, Y5.out, H5.out, B5.out, by omega⟩
    case rest =>
      clear BX BY B1 DS HW2 HH
      obtain ⟨g2, a2, c2', b2, e2, rfl, hP, hY, hH, hB, hg2⟩ := hcut
      have y0 := hY.c0
      have y1 := hY.c1
      have y2 := hY.c2
      have y3 := hY.c3
      have p0 := hP.c0
      have p1 := hP.c1
      have p2 := hP.c2
      have p3 := hP.c3
      have pl := hP.lt
      have HY := Lib.hid hY
      have HC := Lib.hid (HFL.out _ _ hH)
      have B2 := Lib.hid hB
      clear hP hY hH hB HFL
      go_wp2_with fail
      refine HC.out.mono ?_
      rintro r w9 ⟨a9, c9, b9, e9, rfl, h9, k9⟩
      have B9 := Lib.hid (chain B2.out k9)
      have Y9 := HY.out.next k9
      have H9 := Lib.hid h9
      have HY9 := Lib.hid Y9
      clear y0 y1 y2 y3 p0 p1 p2 p3 pl HY HC k9 h9
      have y0 := Y9.c0
      have y1 := Y9.c1
      have y2 := Y9.c2
      have y3 := Y9.c3
      have yl := Y9.lt
      have yf := Y9.fz
      clear Y9
      have HX := Lib.hid (H9.out.put HY9.out (fun s => by simp) (fun s => by simp) (.slice a9 fd.secs.length c9) (.slice b9 fd.pend.length e9) fd.left fd.down)
      have BX := Lib.hid (below_put B9.out (g := w.heap.size + 1) (by omega) (.slice a9 fd.secs.length c9) (.slice b9 fd.pend.length e9) fd.left fd.down)
      go_wp2_with fail
      exact bodyPost_ret (v := .tuple #[.agg #[.slice a9 fd.secs.length c9, .slice b9 fd.pend.length e9, .int .i64 fd.left, .bool fd.down], .int .i64 fe]) (by simp [results, Tryd.results11, go_sem, y0, y1, y2, y3]) rfl ⟨_, by rw [hv.out]; try rfl, by rw [hv.out]; exact HX.out, BX.out⟩

end Go.Proofs.YtemldlhhlneleaaDoor.Jn
