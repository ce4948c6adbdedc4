/-
  The reference of journal: Append.
-/
import Derived.Test.YtemldlhhlneleaaDoorJrF
namespace Go.Proofs.YtemldlhhlneleaaDoor.Jn
open Go.RowKit Dk Wi

set_option maxHeartbeats 6400000 in
set_option maxRecDepth 100000 in
theorem Append_x (v : Value) (d : D) (s : B) (w : World) (h : DAt w v d) (hf : Fit d) (hs : s.size ≤ 9223372036854775807) :
    Calls Tryd.prog 12 #[v, .string s] w fun r w' => ∃ x, r = .returned (.tuple #[x, .int .i64 (appV d s.data.toList).2]) ∧ DAt w' x (appV d s.data.toList).1 ∧ Below w.heap.size w w' := by
  obtain ⟨⟨l, e⟩, hl⟩ : ∃ p, allV d = p := ⟨_, rfl⟩
  by_cases e0 : e = 0
  · subst e0
    obtain ⟨⟨-, hd, hp⟩, -⟩ := allV_ok.1 hl
    obtain ⟨secs, pend, left, down⟩ := d
    change down = false at hd
    change pend = [] at hp
    subst hd
    subst hp
    obtain ⟨a, c, b, c2, rfl, -, -, -, -⟩ := h.form
    exact AppOk_x secs left l s a c b c2 w h hl hs
  · have hv : Hid (appV d s.data.toList = (D0, e)) := by show _ = _; unfold appV; rw [hl]; exact if_neg e0
    have u0 : (e != 0) = true := by simpa using e0
    obtain ⟨a, c, b, c2, rfl, -, -, -, -⟩ := h.form
    obtain ⟨dl, hdl⟩ : ∃ x, d.left = x := ⟨_, rfl⟩
    obtain ⟨dd, hdd⟩ : ∃ x, d.down = x := ⟨_, rfl⟩
    rw [hdl, hdd] at h
    rw [hdl, hdd]
    have HD := Lib.hid h
    have BW : Hid (Below w.heap.size w ((w.alloc (.cells #[.slice a d.secs.length c, .slice b d.pend.length c2, .int .i64 dl, .bool dd] 27)).alloc (.cells #[.slice none 0 0, .slice none 0 0, .int .i64 0, .bool false] 27))) := chain (Below.new1 _) (Below.new1 _)
    have Y1 : Hid (Bx (.slice none 0 0) (.slice none 0 0) 0 false (w.heap.size + 1) ((w.alloc (.cells #[.slice a d.secs.length c, .slice b d.pend.length c2, .int .i64 dl, .bool dd] 27)).alloc (.cells #[.slice none 0 0, .slice none 0 0, .int .i64 0, .bool false] 27))) := by
      have hy := Bx.new (w.alloc (.cells #[.slice a d.secs.length c, .slice b d.pend.length c2, .int .i64 dl, .bool dd] 27)) (.slice none 0 0) (.slice none 0 0) 0 false 27
      rw [show (w.alloc (.cells #[.slice a d.secs.length c, .slice b d.pend.length c2, .int .i64 dl, .bool dd] 27)).heap.size = w.heap.size + 1 by simp] at hy
      exact hy
    have HA : Hid (∀ W, Below w.heap.size w W → Calls Tryd.prog 20 #[.agg #[.slice a d.secs.length c, .slice b d.pend.length c2, .int .i64 dl, .bool dd]] W fun r w' => ∃ x y, r = .returned (.tuple #[.slice x l.length y, .int .i64 e]) ∧ Below W.heap.size W w') := by
      show ∀ W, _
      intro W hW
      refine (All_x _ d W (HD.out.next hW) hf).mono ?_
      rintro r w' ⟨x, rfl, hx, hb⟩
      rw [hl] at hx ⊢
      obtain ⟨x1, x2, rfl, -, -⟩ := hx
      exact ⟨x1, x2, by rw [show (strs (l.map mkB)).length = l.length by simp], hb⟩
    clear h hf hdl hdd hl e0
    go_enter Tryd.func12, Tryd.ntmps12
    go_wp2_with fail
    refine (HA.out _ BW.out).mono ?_
    rintro r w1 ⟨la, lc, rfl, b1⟩
    have BY := Lib.hid (Y1.out.next b1)
    have BB := Lib.hid (chain BW.out b1)
    clear b1 Y1 HA
    have y0 := BY.out.c0
    have y1 := BY.out.c1
    have y2 := BY.out.c2
    have y3 := BY.out.c3
    have yl := BY.out.lt
    have yf := BY.out.fz
    go_wp2_with fail
    exact bodyPost_ret (v := .tuple #[.agg #[.slice none 0 0, .slice none 0 0, .int .i64 0, .bool false], .int .i64 e]) (by simp [results, Tryd.results12, go_sem, y0, y1, y2, y3]) rfl ⟨_, by rw [hv.out]; try rfl, by rw [hv.out]; exact DAt.zero _, (by repeat (first | exact BB.out | refine Below.setCell ?_ (Nat.le_succ _) _ | refine Below.setCell ?_ (by simp) _))⟩

end Go.Proofs.YtemldlhhlneleaaDoor.Jn
