/-
  The program's journal: Format.
-/
import Derived.Test.YtemldlhhlneleaaDoorJpD
namespace Go.Proofs.YtemldlhhlneleaaDoor.Jn
open Go.RowKit Dk Wi

def hdT (n : Nat) : S := hd 8 n ++ hd 8 n
theorem header_hdT (n : Nat) : Jn.header n = mkB (hdT n) := rfl
theorem hdT_len (n : Nat) : (hdT n).length = 16 := header_size n
theorem fm_st (secs : List B) (left : Int) : stD secs left 0 (hdT 0 ++ hdT 0) 2 = fm2 (dk secs left) := by
  unfold stD fm2
  rw [show cws 0 (hdT 0 ++ hdT 0) 2 = [(0, Jn.header 0), (1, Jn.header 0)] by kernel_rfl]

set_option maxHeartbeats 3200000 in
set_option maxRecDepth 100000 in
theorem pFormat_x (ok : DiskOk) (v : Value) (d : D) (w : World) (h : DAt w v d) (hf : Fit d) (ht : Tb w) :
    Calls Tryd.prog 18 #[v] w fun r w' => ∃ x, r = .returned (.tuple #[x, .int .i64 (fmV d).2]) ∧ DAt w' x (fmV d).1 ∧ Below w.heap.size w w' := by
  obtain ⟨a, c, b, c2, rfl, -, -, -, -⟩ := h.form
  obtain ⟨dl, hdl⟩ : ∃ x, d.left = x := ⟨_, rfl⟩
  obtain ⟨dd, hdd⟩ : ∃ x, d.down = x := ⟨_, rfl⟩
  rw [hdl, hdd] at h
  have HD := Lib.hid h
  have HF := Lib.hid hf
  have HT := Lib.hid ht
  have hle := hf.secs
  rw [hdl, hdd]
  have HDL := Lib.hid hdl
  have HDD := Lib.hid hdd
  have BW : Hid (Below w.heap.size w ((w.alloc (.cells #[.slice a d.secs.length c, .slice b d.pend.length c2, .int .i64 dl, .bool dd] 27)).alloc (.cells #[.slice none 0 0, .slice none 0 0, .int .i64 0, .bool false] 27))) := chain (Below.new1 _) (Below.new1 _)
  have X1 : Hid (Bx (.slice a d.secs.length c) (.slice b d.pend.length c2) dl dd w.heap.size ((w.alloc (.cells #[.slice a d.secs.length c, .slice b d.pend.length c2, .int .i64 dl, .bool dd] 27)).alloc (.cells #[.slice none 0 0, .slice none 0 0, .int .i64 0, .bool false] 27))) := (Bx.new _ _ _ _ _ _).next (Below.new1 _)
  have Y1 : Hid (Bx (.slice none 0 0) (.slice none 0 0) 0 false (w.heap.size + 1) ((w.alloc (.cells #[.slice a d.secs.length c, .slice b d.pend.length c2, .int .i64 dl, .bool dd] 27)).alloc (.cells #[.slice none 0 0, .slice none 0 0, .int .i64 0, .bool false] 27))) := by
    have hy := Bx.new (w.alloc (.cells #[.slice a d.secs.length c, .slice b d.pend.length c2, .int .i64 dl, .bool dd] 27)) (.slice none 0 0) (.slice none 0 0) 0 false 27
    rw [show (w.alloc (.cells #[.slice a d.secs.length c, .slice b d.pend.length c2, .int .i64 dl, .bool dd] 27)).heap.size = w.heap.size + 1 by simp] at hy
    exact hy
  obtain ⟨e, he⟩ : ∃ e, rdy d = e := ⟨_, rfl⟩
  have HRE := Lib.hid he
  have HR : Hid (∀ W, Below w.heap.size w W → Calls Tryd.prog 45 #[.agg #[.slice a d.secs.length c, .slice b d.pend.length c2, .int .i64 dl, .bool dd]] W fun r w' => r = .returned (.int .i64 e) ∧ Below W.heap.size W w') := by
    show ∀ W, _
    intro W hW
    rw [← he]
    exact checkReady_x ok _ d W (HD.out.next hW) HF.out
  clear h hf hdl hdd he ht
  go_enter Tryd.func18, Tryd.ntmps18
  go_wp2_with fail
  refine (HR.out _ BW.out).mono ?_
  rintro r w1 ⟨rfl, b1⟩
  have BX := Lib.hid (X1.out.next b1)
  have BY := Lib.hid (Y1.out.next b1)
  have x0 := BX.out.c0
  have x1 := BX.out.c1
  have x2 := BX.out.c2
  have x3 := BX.out.c3
  have xl := BX.out.lt
  have y0 := BY.out.c0
  have y1 := BY.out.c1
  have y2 := BY.out.c2
  have y3 := BY.out.c3
  have yl := BY.out.lt
  have yf := BY.out.fz
  have B1 := Lib.hid (chain BW.out b1)
  clear b1 X1 Y1 HR
  by_cases e0 : e = 0
  case neg =>
    have u0 : (e != 0) = true := by simpa using e0
    have hv : Hid (fmV d = (D0, e)) := by show _ = _; unfold fmV; rw [HRE.out, if_neg e0]
    clear e0
    go_wp2_with fail
    exact bodyPost_ret (v := .tuple #[.agg #[.slice none 0 0, .slice none 0 0, .int .i64 0, .bool false], .int .i64 e]) (by simp [results, Tryd.results18, go_sem, y0, y1, y2, y3]) rfl ⟨_, by rw [hv.out]; try rfl, by rw [hv.out]; exact DAt.zero _, (by repeat (first | exact B1.out | refine Below.setCell ?_ (Nat.le_succ _) _ | refine Below.setCell ?_ (by simp) _))⟩
  case pos =>
  subst e0
  by_cases t3 : d.secs.length < 3
  · have f3 : (d.secs.length : Int) < 3 := by omega
    have hv : Hid (fmV d = (D0, 6)) := by show _ = _; unfold fmV; rw [HRE.out, if_pos rfl, if_pos t3]
    clear t3
    go_wp2_with fail
    exact bodyPost_ret (v := .tuple #[.agg #[.slice none 0 0, .slice none 0 0, .int .i64 0, .bool false], .int .i64 6]) (by simp [results, Tryd.results18, go_sem, y0, y1, y2, y3]) rfl ⟨_, by rw [hv.out]; try rfl, by rw [hv.out]; exact DAt.zero _, (by repeat (first | exact B1.out | refine Below.setCell ?_ (Nat.le_succ _) _ | refine Below.setCell ?_ (by simp) _))⟩
  have f3 : ¬ (d.secs.length : Int) < 3 := by omega
  obtain ⟨hck, hdn, hpn⟩ := rdy_zero.1 HRE.out
  obtain ⟨secs, pend, left, down⟩ := d
  change pend = [] at hpn
  change down = false at hdn
  subst hpn
  subst hdn
  obtain rfl : dl = left := HDL.out.symm
  obtain rfl : dd = false := HDD.out.symm
  have HCK := Lib.hid hck
  obtain ⟨⟨fd, fe⟩, hfl⟩ : ∃ p, flV (fm2 (dk secs dl)) = p := ⟨_, rfl⟩
  have hv : Hid (fmV ⟨secs, [], dl, false⟩ = (fd, fe)) := by show _ = _; unfold fmV; rw [HRE.out, if_pos rfl, if_neg t3]; exact hfl
  have HH : Hid (∀ W, Below w.heap.size w W → Calls Tryd.prog 42 #[.int .i64 0] W fun r w' => r = .returned (.string (mkB (hdT 0))) ∧ Below W.heap.size W w') := fun W hW => header_x 0 W (by decide) (HT.out.next hW)
  have HRP : Hid (∀ W, Calls Tryd.prog 46 #[.string (mkB (hdT 0)), .int .i64 2] W fun r w' => r = .returned (.string (mkB (hdT 0 ++ hdT 0))) ∧ Below W.heap.size W w') := by
    show ∀ W, _
    intro W
    have := Tryd.strings_Repeat (mkB (hdT 0)) 2 W (by decide) (by show (hdT 0).length * 2 ≤ _; rw [hdT_len]; decide)
    rw [show (⟨(Lib.repeatL (mkB (hdT 0)).data.toList 2).toArray⟩ : ByteArray) = mkB (hdT 0 ++ hdT 0) by kernel_rfl] at this
    exact this
  have HS : Hid (∀ W, DAt W (.agg #[.slice a secs.length c, .slice b 0 c2, .int .i64 dl, .bool false]) (dk secs dl) → Calls Tryd.prog 41 #[.agg #[.slice a secs.length c, .slice b 0 c2, .int .i64 dl, .bool false], .int .i64 0, .string (mkB (hdT 0 ++ hdT 0))] W fun r w' => ∃ a c b c2, r = .returned (.tuple #[.agg #[.slice a fd.secs.length c, .slice b fd.pend.length c2, .int .i64 fd.left, .bool fd.down], .int .i64 fe]) ∧ DAt w' (.agg #[.slice a fd.secs.length c, .slice b fd.pend.length c2, .int .i64 fd.left, .bool fd.down]) fd ∧ Below W.heap.size W w') := by
    show ∀ W, _
    intro W hW
    have tl : (hdT 0 ++ hdT 0).length = 32 := by rw [List.length_append, hdT_len]
    have h1 : ¬ secs.length < 3 := t3
    have := store_x ok secs dl 0 (hdT 0 ++ hdT 0) a c b c2 W hW HCK.out (by rw [tl]; omega) (by rw [tl]; decide)
    rw [tl, show (32 + 15) / 16 = 2 by decide, fm_st] at this
    exact conv_d this hfl
  have DS := Lib.hid (HD.out.next B1.out)
  clear hfl t3 hck y0 y1 y2 y3 yl yf
  go_wp2_with fail
  have X2 := Lib.hid (BX.out.next (Below.refl _ _).drew)
  have Y2 := Lib.hid (BY.out.next (Below.refl _ _).drew)
  have D2 := Lib.hid (DS.out.next (Below.refl _ _).drew)
  have B2 := Lib.hid (chain B1.out (Below.refl _ _).drew)
  refine wp_region_held_drew (S := fun w' => w'.cell? ⟨w.heap.size, 0, none⟩ = some (.slice a secs.length c) ∧ w'.cell? ⟨w.heap.size, 1, none⟩ = some (.slice b 0 c2) ∧ w'.cell? ⟨w.heap.size, 2, none⟩ = some (.int .i64 dl) ∧ w'.cell? ⟨w.heap.size, 3, none⟩ = some (.bool false)) (by kernel_rfl) ?_ (fun hHeld => ?_)
  · exact ⟨X2.out.c0, X2.out.c1, X2.out.c2, X2.out.c3⟩
  refine takeN0 (v := ?_) (by kernel_rfl) (by kernel_rfl) (by kernel_rfl) (fun _ _ _ h => h) (by rfl) ?_ (by assumption) ?_
  rotate_left
  · intro wz hSw
    try dsimp only at hSw
    go_simp
    try with_reducible rfl
  try simp only [Act.put, List.setIfInBounds_toArray, List.set_cons_zero, List.set_cons_succ]
  refine comeN1 (by kernel_rfl) (by rfl) (fun K hK => ?_)
  go_simp
  (go_at_call 42; refine (HH.out _ B2.out).mono ?_; rintro r w3 ⟨rfl, b3⟩)
  try go_wp2_with fail
  have X3 := Lib.hid (X2.out.next b3)
  have Y3 := Lib.hid (Y2.out.next b3)
  have D3 := Lib.hid (D2.out.next b3)
  have B3 := Lib.hid (chain B2.out b3)
  clear b3
  refine hK.out _ _ ?_ (fun hHeld => ?_)
  · exact ⟨X3.out.c0, X3.out.c1, X3.out.c2, X3.out.c3⟩
  clear hK K
  try simp only [Act.put, List.setIfInBounds_toArray, List.set_cons_zero, List.set_cons_succ]
  refine comeN2 (by kernel_rfl) (by rfl) (fun K hK => ?_)
  go_simp
  (go_at_call 46; refine (HRP.out _).mono ?_; rintro r w4 ⟨rfl, b4⟩)
  try go_wp2_with fail
  have X4 := Lib.hid (X3.out.next b4)
  have Y4 := Lib.hid (Y3.out.next b4)
  have D4 := Lib.hid (D3.out.next b4)
  have B4 := Lib.hid (chain B3.out b4)
  clear b4
  refine hK.out _ _ ?_ (fun hHeld => ?_)
  · exact ⟨X4.out.c0, X4.out.c1, X4.out.c2, X4.out.c3⟩
  clear hK K
  try simp only [Act.put, List.setIfInBounds_toArray, List.set_cons_zero, List.set_cons_succ]
  refine comeN3 (by kernel_rfl) (by rfl) (fun K hK => ?_)
  go_simp
  (go_at_call 41; refine (HS.out _ D4.out).mono ?_; rintro r w5 ⟨a5, c5, b5', e5, rfl, h5, b5⟩)
  try go_wp2_with fail
  have X5 := Lib.hid (X4.out.next b5)
  have Y5 := Lib.hid (Y4.out.next b5)
  have D5 := Lib.hid (D4.out.next b5)
  have B5 := Lib.hid (chain B4.out b5)
  have H5 := Lib.hid h5
  clear b5 h5
  refine hK.out _ _ ?_ (fun hHeld => ?_)
  · exact ⟨X5.out.c0, X5.out.c1, X5.out.c2, X5.out.c3⟩
  clear hK K
  try simp only [Act.put, List.setIfInBounds_toArray, List.set_cons_zero, List.set_cons_succ]
  refine takeN4 (v := ?_) (by kernel_rfl) (by kernel_rfl) (by kernel_rfl) (fun _ _ _ h => h) (by rfl) ?_ (by assumption) ?_
  rotate_left
  · intro wz hSw
    try dsimp only at hSw
    go_simp
    try with_reducible rfl
  try simp only [Act.put, List.setIfInBounds_toArray, List.set_cons_zero, List.set_cons_succ]
  refine takeN5 (v := ?_) (by kernel_rfl) (by kernel_rfl) (by kernel_rfl) (fun _ _ _ h => h) (by rfl) ?_ (by assumption) ?_
  rotate_left
  · intro wz hSw
    try dsimp only at hSw
    go_simp
    try with_reducible rfl
  try simp only [Act.put, List.setIfInBounds_toArray, List.set_cons_zero, List.set_cons_succ]
  refine comeN6 (by kernel_rfl) (by rfl) (fun K hK => ?_)
  have y0 := Y5.out.c0
  have y1 := Y5.out.c1
  have y2 := Y5.out.c2
  have y3 := Y5.out.c3
  have yl := Y5.out.lt
  have yf := Y5.out.fz
  go_simp
  have X6 := Lib.hid (X5.out.putO (g := w.heap.size + 1) (by omega) (.slice a5 fd.secs.length c5) (.slice b5' fd.pend.length e5) fd.left fd.down)
  have H6 := Lib.hid (H5.out.put Y5.out (fun s => by simp) (fun s => by simp) (.slice a5 fd.secs.length c5) (.slice b5' fd.pend.length e5) fd.left fd.down)
  have B6 := Lib.hid (below_put B5.out (g := w.heap.size + 1) (Nat.le_succ _) (.slice a5 fd.secs.length c5) (.slice b5' fd.pend.length e5) fd.left fd.down)
  refine hK.out _ _ ?_ (fun hHeld => ?_)
  · exact ⟨X6.out.c0, X6.out.c1, X6.out.c2, X6.out.c3⟩
  clear hK K
  try simp only [Act.put, List.setIfInBounds_toArray, List.set_cons_zero, List.set_cons_succ]
  refine takeN7 (v := ?_) (by kernel_rfl) (by kernel_rfl) (by kernel_rfl) (fun _ _ _ h => h) (by rfl) ?_ (by assumption) ?_
  rotate_left
  · intro wz hSw
    try dsimp only at hSw
    go_simp
    try with_reducible rfl
  try simp only [Act.put, List.setIfInBounds_toArray, List.set_cons_zero, List.set_cons_succ]
  refine wpAnyH_done (by kernel_rfl) ?_ _
  clear x0 x1 x2 x3 xl
  go_wp2_with fail
  exact bodyPost_ret (v := .tuple #[.agg #[.slice a5 fd.secs.length c5, .slice b5' fd.pend.length e5, .int .i64 fd.left, .bool fd.down], .int .i64 fe]) (by simp [results, Tryd.results18, go_sem, y0, y1, y2, y3]) rfl ⟨_, by rw [hv.out], by rw [hv.out]; exact H6.out, B6.out⟩

end Go.Proofs.YtemldlhhlneleaaDoor.Jn
